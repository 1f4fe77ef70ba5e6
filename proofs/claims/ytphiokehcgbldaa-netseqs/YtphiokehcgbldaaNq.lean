import Derived.Test.YtphiokehcgbldaaNp
namespace Go.Proofs.Ytphiokehcgbldaa
open Go.RowKit Go.Shelf
set_option linter.unusedVariables false
set_option linter.unusedSimpArgs false

theorem sort_none (p : Option Addr) (rc : Nat) (fv : Value) (W : World) : Calls Try.prog 43 #[.slice p 0 rc, fv] W (fun e W' => e = .returned (.tuple #[]) ∧ W' = W) := by
  have h := AnyF.slices_SortFunc_none sortSt p rc fv W
  exact h
theorem sortP_any (L : List Pq) (P : Nm → Nat × Nat × Nat) (base : Nat) : SortP L P base := by
  intro W ra rc M h hl
  rcases h.2 with ⟨hv, h0⟩ | ⟨g, cap', cur, hv, hb, hg, h1, h2, h3, h4⟩
  · simp only [Value.slice.injEq] at hv
    obtain ⟨rfl, _, rfl⟩ := hv
    have hM : M = [] := List.eq_nil_of_length_eq_zero h0
    subst hM
    refine (sort_none none 0 _ W).mono ?_
    rintro e W' ⟨rfl, rfl⟩
    exact ⟨rfl, [], List.Perm.refl _, List.Pairwise.nil, h, Kept.refl _ _⟩
  · simp only [Value.slice.injEq] at hv
    obtain ⟨rfl, _, rfl⟩ := hv
    exact sort_some L P W base g rc M h hl
set_option maxRecDepth 100000 in
set_option maxHeartbeats 8000000 in
theorem row_0 {n : Nat} (w : World) (hB : Box w n 69 #[.map none, .map none, .map none, .int .i64 0]) :
    Calls Try.prog 38 #[.pointer (some ⟨n, 0, none⟩)] w (fun e w' => e = .returned (.slice none 0 0) ∧ Kept No w w') := by
  have hc2 : w.cell? ⟨n, 2, none⟩ = some (.map none) := hB.cell 2
  have hrg : (Instr.range 67 (.map none)).run Try.prog w = _ := run_range_nilMap w 67 79 81 und67
  have hnx : ∀ ty, (Instr.next (.pointer (some ⟨w.heap.size, 0, none⟩)) false ty).run Try.prog (w.alloc (.mapIter none 0 #[] 0)) = .ok (.tuple #[.bool false]) (w.alloc (.mapIter none 0 #[] 0)) := fun ty => run_next_nilMap w ty 0 0 #[]
  clear hB
  go_enter Try.func38, Try.ntmps38
  go_wp2
  refine wp_loop_rounds 1 ?_
  rw [rounds_succ]
  go_wp2_with (go_at_call 43; refine (sort_none none 0 _ _).mono ?_; rintro e w3 ⟨rfl, rfl⟩)
  go_ret
  exact ⟨rfl, (Kept.refl No w).alloc _⟩
theorem row_any {I : Nat → Prop} {n : Nat} {s : Ns} (w : World) (hN : NetM w n s I) (hfew : s.came < 1000000000000) :
    Calls Try.prog 38 #[.pointer (some ⟨n, 0, none⟩)] w (fun e w' => ∃ ra rc P, e = .returned (.slice ra s.L.length rc) ∧ Own 89 8 w' w.heap.size ra rc s.L.length (s.L.flatMap (stC s.L P)) ∧ Kept No w w') := by
  rcases hN with ⟨rfl, hB, hI⟩ | ⟨b1, b2, b3, P, hN⟩
  · refine (row_0 w hB).mono ?_
    rintro e w' ⟨rfl, hk⟩
    exact ⟨none, 0, fun _ => (0, 0, 0), rfl, Own.nil _ _ _ _, hk⟩
  · have hl := len_came hN.ok
    refine (row_B w hN (by omega) (sortP_any s.L P w.heap.size)).mono ?_
    rintro e w' ⟨ra, rc, rfl, hO, hk⟩
    exact ⟨ra, rc, P, rfl, hO, hk⟩
def UnOut (w : World) (s : Ns) (e : Ending) (w' : World) : Prop :=
  ∃ lb ra rc P, e = .returned (.func (.func 39) #[] #[.pointer (some ⟨lb, 0, none⟩)]) ∧ SeqN w' lb ra rc s.L P s.L ∧ w.heap.size ≤ lb ∧ (∀ k, At ra k → w.heap.size ≤ k) ∧ Kept No w w'
set_option maxRecDepth 100000 in
set_option maxHeartbeats 8000000 in
theorem under_any {I : Nat → Prop} {n : Nat} {s : Ns} (w : World) (hN : NetM w n s I) (hfew : s.came < 1000000000000) : Calls Try.prog 21 #[.pointer (some ⟨n, 0, none⟩)] w (UnOut w s) := by
  have HN : Hid (NetM w n s I) := hN
  clear hN
  go_enter Try.func21, Try.ntmps21
  go_wp2_with (go_at_call 38; refine (row_any w HN.out hfew).mono ?_; rintro e w1 ⟨ra, rc, P, rfl, hO, hk⟩; have H1 : Hid (Own 89 8 w1 w.heap.size ra rc s.L.length (s.L.flatMap (stC s.L P)) ∧ Kept No w w1) := ⟨hO, hk⟩; clear hO hk)
  go_ret
  refine ⟨_, ra, rc, P, rfl, ⟨Box.new _ _ _, Own.lower (H1.out.1.no ((Kept.refl No w1).alloc _)) (Nat.zero_le _), fun q hq => ?_⟩, H1.out.2.size, fun k e => H1.out.1.base e, H1.out.2.alloc _⟩
  rcases HN.out with ⟨rfl, _⟩ | ⟨b1, b2, b3, P', hN⟩
  · simp [ns0] at hq
  · exact Own.no (hN.dt q hq) (H1.out.2.alloc _)
end Go.Proofs.Ytphiokehcgbldaa
