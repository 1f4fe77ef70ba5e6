import Derived.Test.YtnhjpghkmbgeaabCg
namespace Go.Proofs.Ytnhjpghkmbgeaab
open Go.RowKit
set_option linter.unusedVariables false

theorem More_all (g lb : Nat) (st : RS) (w : World) (h : Rs w g lb st) :
    Calls Try.prog 20 #[.pointer (some ⟨g, 0, none⟩)] w fun e w' => e = .returned (.bool (moreS st)) ∧ w' = w := by
  cases st with
  | ok zs at_ => obtain ⟨la, lc, hr, _⟩ := h; exact More_ok g la lc zs at_ w hr
  | bad p c => exact More_bad g p c w h.1

set_option maxHeartbeats 1000000 in
theorem Read_any (xa : Option Addr) (xn xc : Nat) (ys : List Int) (w : World) (h : Sl w xa xn xc ys) :
    Calls Try.prog 17 #[.slice xa xn xc] w fun e w' => ∃ g lb, e = .returned (.pointer (some ⟨g, 0, none⟩)) ∧ w.heap.size ≤ g ∧ w.heap.size ≤ lb ∧ Rs w' g lb (.ok ys 0) ∧ Kept No w w' ∧ g < w'.heap.size ∧ (lb < w'.heap.size) := by
  have HS : Hid (Sl w xa xn xc ys) := h
  have hbd := h.bd
  clear h
  go_enter Try.func17, Try.ntmps17
  go_wp2_with fail
  refine (clone_any xa xn xc ys w HS.out.len HS.out.bytes (fun e => ⟨?_, HS.out.nil e⟩) (by omega)).mono ?_
  · have h1 := HS.out.nil e; have h2 := HS.out.le; omega
  rintro e w1 ⟨a1, c1, rfl, hO1, hK1, -⟩
  have HF : Hid (∃ lb, w.heap.size ≤ lb ∧ lb < (w1.alloc (Obj.cells #[.slice a1 xn c1, .int .i64 0, .int .i64 0, .int .i64 0] 66)).heap.size ∧ Rs (w1.alloc (Obj.cells #[.slice a1 xn c1, .int .i64 0, .int .i64 0, .int .i64 0] 66)) w1.heap.size lb (.ok ys 0)) := by
    have hs : Sl w1 a1 ys.length c1 ys := hO1.sl rfl HS.out.u8 (by rw [HS.out.len]; exact hbd)
    have hs' := hs.no ((Kept.refl No w1).alloc (Obj.cells #[.slice a1 xn c1, .int .i64 0, .int .i64 0, .int .i64 0] 66))
    have hR : Rd (w1.alloc (Obj.cells #[.slice a1 xn c1, .int .i64 0, .int .i64 0, .int .i64 0] 66)) w1.heap.size a1 c1 ys 0 :=
      ⟨by rw [HS.out.len]; exact heap_new _ _, hs', by rw [HS.out.len]; omega⟩
    have hz := hK1.size
    rcases hO1.cases with ⟨rfl, _, _⟩ | ⟨g, rfl, hb, hl, _⟩
    · exact ⟨w1.heap.size, by omega, by rw [World.heap_size_alloc1]; omega, none, c1, hR, fun k hk => absurd hk At.none⟩
    · exact ⟨g, hb, by rw [World.heap_size_alloc1]; omega, _, c1, hR, fun k hk => at_some hk⟩
  have HK : Hid (Kept No w w1) := hK1
  clear hO1 hK1
  go_wp2
  go_ret
  obtain ⟨lb, h1, h2, h3⟩ := HF.out
  exact ⟨w1.heap.size, lb, rfl, HK.out.size, h1, h3, HK.out.alloc _, by rw [World.heap_size_alloc1]; omega, h2⟩

end Go.Proofs.Ytnhjpghkmbgeaab
