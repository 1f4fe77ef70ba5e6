import Derived.Test.YtpapbleabjpbfabE
import Derived.Test.YtpapbleabjpbfabSh
import Derived.Sort.OwnSortedInts
namespace Go.Proofs.Ytpapbleabjpbfab
open Go.RowKit Go.Sort
set_option linter.unusedVariables false

theorem owns_slice {w : World} {base : Nat} {t : TypeId} {c : Nat} {v : Value} {n : Nat} {vs : List Value} (h : w.ownsRow base t c v n vs) : ∃ a cap, v = .slice a n cap := by
  rcases h.2 with ⟨e, h0⟩ | ⟨g, cap', cur, e, _⟩
  · exact ⟨_, _, by rw [h0]; exact e⟩
  · exact ⟨_, _, e⟩

theorem clone_any (a : Option Addr) (cap : Nat) (zs : List Int) (w : World) (h1 : 1 ≤ zs.length) (hm : zs.length ≤ 64) (hb : Nums .i64 w a zs) :
    Calls Try.prog 34 #[.slice a zs.length cap] w fun e w' => ∃ g c, e = .returned (.slice (some ⟨g, 0, none⟩) zs.length c) ∧ Own 3 1 w' w.heap.size (some ⟨g, 0, none⟩) c zs.length (zs.map (Value.int .i64)) ∧ Kept No w w' := by
  obtain ⟨b, off, rfl, _⟩ := hb 0 (by omega)
  have h := Any.slices_Clone_int Try.laysClone b off zs.length cap zs w (Nat.le_refl _) (by omega) (fun j hj => by
    obtain ⟨b', off', e, hc⟩ := hb j hj
    cases e
    rw [hc]; rfl)
  refine Calls.mono h ?_
  rintro e w' ⟨v', rfl, ho, hn, hbel⟩
  obtain ⟨a', c', rfl⟩ := owns_slice ho
  rw [List.take_length] at ho
  have ho' : Own 3 1 w' w.heap.size a' c' zs.length (zs.map (Value.int .i64)) := ho
  rcases ho'.cases (by simp) with ⟨rfl, rfl, h0⟩ | ⟨g, rfl, _⟩
  · omega
  · exact ⟨g, c', rfl, ho', Kept.of_below hbel⟩

/-- The numbers rising. -/
def sortI (zs : List Int) : List Int := zs.mergeSort fun x y => decide (x ≤ y)
theorem sortI_len (zs : List Int) : (sortI zs).length = zs.length := by simp [sortI]

theorem sortInts_any (g cap : Nat) (zs : List Int) (base : Nat) (w : World) (hm : zs.length ≤ 64) (ho : Own 3 1 w base (some ⟨g, 0, none⟩) cap zs.length (zs.map (Value.int .i64))) :
    Calls Try.prog 37 #[.slice (some ⟨g, 0, none⟩) zs.length cap] w fun e w' => e = .returned (.tuple #[]) ∧ Own 3 1 w' base (some ⟨g, 0, none⟩) cap zs.length ((sortI zs).map (Value.int .i64)) ∧ Kept (Only g) w w' := by
  rcases ho.2 with ⟨e, h0⟩ | ⟨g', cap', cur, e, hbase, hheap, hle, hmax, hsz, htake⟩
  · cases e
  · simp only [Value.slice.injEq, Option.some.injEq, Addr.mk.injEq, and_true, true_and] at e
    obtain ⟨rfl, rfl⟩ := e
    rw [Nat.mul_one] at htake
    have hH := holds_of_blockI hheap htake
    refine Calls.mono (Any.slices_Sort_int Try.laysSort g 0 cap zs w hH (Array.getElem?_eq_some_iff.1 hheap).1 (by omega)) ?_
    rintro e w' ⟨rfl, n, os, rfl⟩
    exact ⟨rfl, ownsRow_sortedI (sortI_len zs) hbase hheap hle hmax hsz, (Kept.refl _ _).grown (grownBy_sortedI _) (fun k e _ => by cases e; rfl)⟩

end Go.Proofs.Ytpapbleabjpbfab
