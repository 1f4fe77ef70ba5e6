import Derived.Test.YtgdnofacgfjaeabGreatJt
namespace Go.Proofs.YtgdnofacgfjaeabGreat
open Go.RowKit
set_option linter.unusedVariables false

/-- Bytes stay where only the blocks of S have turned, and, if there are any, theirs is none of them. -/
theorem Bytes.kept2 {S : Nat → Prop} {w w' : World} {a : Option Addr} {zs : List Int} (h : Bytes w a zs) (hk : Kept S w w') (hS : 0 < zs.length → ∀ k, At a k → ¬ S k) : Bytes w' a zs := by
  intro i hi
  obtain ⟨b, off, rfl, hc⟩ := h i hi
  exact ⟨b, off, rfl, hk.cell hc (hS (by omega) b ⟨_, rfl, rfl⟩)⟩

theorem World.heap_size_alloc1 (w : World) (o : Obj) : (w.alloc o).heap.size = w.heap.size + 1 := by simp

theorem put_end {w w1 w2 w3 : World} {base g : Nat} {a a2 : Option Addr} {c c2 : Nat} {st ST : Option (List Int)} (hw : Ws w base g a c st) (h1 : Kept No w w1) (hs : w.heap.size + 1 < w1.heap.size)
    (hw2 : Ws w2 base g a2 c2 ST) (hk2 : Kept (WrAt g a) w1 w2) (hm2 : Moved w1 a a2) (hk3 : Kept (Only (w.heap.size + 1)) w2 w3) : ∃ a' c', Ws w3 base g a' c' ST ∧ Kept (WrAt g a) w w3 ∧ Moved w a a' := by
  refine ⟨a2, c2, hw2.kept hk3 (fun k hk e => ?_), ?_, (Moved.refl w a).trans hm2 h1.size⟩
  · have e' : k = w.heap.size + 1 := e
    rcases hk with rfl | hk
    · have := hw.lt (.inl rfl : WrAt k a k); omega
    · rcases hm2 k hk with h | h
      · have := hw.lt (.inr h : WrAt g a k); omega
      · omega
  · refine (h1.of_no.then hk2).trans hk3 (fun _ e => e) (fun i hi e => ?_)
    have e' : i = w.heap.size + 1 := e
    omega

end Go.Proofs.YtgdnofacgfjaeabGreat
