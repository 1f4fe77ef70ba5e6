import Derived.Test.YtppkjebiiheljaaRw
namespace Go.Proofs.Ytppkjebiiheljaa
open Go.RowKit
set_option linter.unusedVariables false
set_option linter.unusedSimpArgs false

/-- What a small word of the reference's leaves. -/
def RoR (w : World) (r gs : Nat) (F : Nat → Prop) (x : DS) (e : Ending) (w' : World) : Prop := e = .returned (.tuple #[]) ∧ RD w' r gs F x ∧ Kept (Only r) w w'

set_option maxRecDepth 100000 in
theorem refStart_any (r gs : Nat) (F : Nat → Prop) (x : DS) (w : World) (h : RD w r gs F x) :
    Calls Try.prog 35 #[.pointer (some ⟨r, 0, none⟩)] w (RoR w r gs F (startD x)) := by
  obtain ⟨arm, lf, tn, vs, h⟩ := h
  obtain ⟨c0, c1, c2, c3, c4, c5, c6⟩ := h.cells
  have f1 := h.box.frozen 1
  have f2 := h.box.frozen 2
  have H1 := h.set 2 (.bool false) { x with fl := false, pw := if arm then some (lf, tn) else none } arm lf tn rfl rfl rfl (by intro _; cases arm; exact .inl ⟨rfl, rfl⟩; exact .inr ⟨rfl, rfl⟩)
  have g1 := H1.cells.2.1
  have k1 := H1.box.frozen 1
  have H2 : Hid _ := H1.set 1 (.bool false) (startD x) false lf tn rfl rfl rfl (fun _ => .inl ⟨rfl, rfl⟩)
  have HK : Hid (Kept (Only r) w _) := ((Kept.refl (Only r) w).setCell (p := ⟨r, 2, none⟩) (fun _ => onlySelf r) (.bool false)).setCell (p := ⟨r, 1, none⟩) (fun _ => onlySelf r) (.bool false)
  clear h H1 c0 c3 c4 c5 c6
  go_enter Try.func35, Try.ntmps35
  go_wp2
  all_goals first | go_end0 | refine bodyPost_ret (results_none rfl _ _ _) rfl ?_
  all_goals exact ⟨rfl, ⟨_, _, _, _, H2.out⟩, HK.out⟩

set_option maxRecDepth 100000 in
set_option maxHeartbeats 2000000 in
theorem refArm_any (r gs : Nat) (F : Nat → Prop) (x : DS) (n t : Int) (w : World) (h : RD w r gs F x) :
    Calls Try.prog 34 #[.pointer (some ⟨r, 0, none⟩), .int .i64 n, .int .i64 t] w (RoR w r gs F (armD x n t)) := by
  obtain ⟨arm, lf, tn, vs, h⟩ := h
  obtain ⟨c0, c1, c2, c3, c4, c5, c6⟩ := h.cells
  cases hf : x.fl
  · rw [hf] at c2
    have hA : armD x n t = { x with pw := some (max n 0, torn t) } := by unfold armD; simp [hf]
    rw [hA]
    have f1 := h.box.frozen 1
    have H1 := h.set 1 (.bool true) { x with pw := some (lf, tn) } true lf tn rfl rfl rfl (fun _ => .inr ⟨rfl, rfl⟩)
    have g3 := H1.cells.2.2.2.1
    have k3 := H1.box.frozen 3
    have H2 := H1.set 3 (.int .i64 n) { x with pw := some (n, tn) } true n tn rfl rfl rfl (fun _ => .inr ⟨rfl, rfl⟩)
    have i4 := H2.cells.2.2.2.2.1
    have j4 := H2.box.frozen 4
    have H3 := H2.set 4 (.int .i64 t) { x with pw := some (n, t) } true n t rfl rfl rfl (fun _ => .inr ⟨rfl, rfl⟩)
    have K1 := (Kept.refl (Only r) w).setCell (p := ⟨r, 1, none⟩) (fun _ => onlySelf r) (.bool true)
    have K2 := K1.setCell (p := ⟨r, 3, none⟩) (fun _ => onlySelf r) (.int .i64 n)
    have K3 := K2.setCell (p := ⟨r, 4, none⟩) (fun _ => onlySelf r) (.int .i64 t)
    obtain ⟨w3, hw3⟩ : ∃ w3, w3 = ((w.setCell ⟨r, 1, none⟩ (.bool true)).setCell ⟨r, 3, none⟩ (.int .i64 n)).setCell ⟨r, 4, none⟩ (.int .i64 t) := ⟨_, rfl⟩
    rw [← hw3] at H3 K3
    have l3 := H3.cells.2.2.2.1
    have m3 := H3.box.frozen 3
    have key : ∀ (l' : Int) (w4 : World), l' = max n 0 → Rdk w4 r gs F { x with pw := some (l', t) } true l' t vs → Kept (Only r) w w4 →
        (t < 0 → RoR w r gs F { x with pw := some (max n 0, torn t) } (.returned (.tuple #[])) (w4.setCell ⟨r, 4, none⟩ (.int .i64 0))) ∧
        (512 < t → RoR w r gs F { x with pw := some (max n 0, torn t) } (.returned (.tuple #[])) (w4.setCell ⟨r, 4, none⟩ (.int .i64 512))) ∧
        (¬ t < 0 → ¬ 512 < t → RoR w r gs F { x with pw := some (max n 0, torn t) } (.returned (.tuple #[])) w4) ∧
        (∃ u, w4.cell? ⟨r, 4, none⟩ = some u) ∧ w4.frozen? ⟨r, 4, none⟩ = false := by
      intro l' w4 hl H4 K4
      subst hl
      refine ⟨fun ht => ⟨rfl, ⟨_, _, _, _, H4.set 4 (.int .i64 0) { x with pw := some (max n 0, torn t) } true _ 0 rfl rfl rfl (fun _ => .inr ⟨?_, rfl⟩)⟩, K4.setCell (fun _ => onlySelf r) _⟩,
        fun ht => ⟨rfl, ⟨_, _, _, _, H4.set 4 (.int .i64 512) { x with pw := some (max n 0, torn t) } true _ 512 rfl rfl rfl (fun _ => .inr ⟨?_, rfl⟩)⟩, K4.setCell (fun _ => onlySelf r) _⟩,
        fun h1 h2 => ⟨rfl, ⟨true, max n 0, t, vs, ?_⟩, K4⟩, ⟨_, H4.cells.2.2.2.2.1⟩, H4.box.frozen 4⟩
      · show some (max n 0, torn t) = some (max n 0, 0)
        rw [show torn t = 0 by unfold torn; omega]
      · show some (max n 0, torn t) = some (max n 0, 512)
        rw [show torn t = 512 by unfold torn; omega]
      · rw [show torn t = t by unfold torn; omega]; exact H4
    by_cases hn : n < 0
    · have H4 := H3.set 3 (.int .i64 0) { x with pw := some (0, t) } true 0 t rfl rfl rfl (fun _ => .inr ⟨rfl, rfl⟩)
      have K4 := K3.setCell (p := ⟨r, 3, none⟩) (fun _ => onlySelf r) (.int .i64 0)
      obtain ⟨w4, hw4⟩ : ∃ w4, w4 = w3.setCell ⟨r, 3, none⟩ (.int .i64 0) := ⟨_, rfl⟩
      rw [← hw4] at H4 K4
      have key4 := key 0 w4 (by omega) H4 K4
      obtain ⟨q1, q2, q3, ⟨u, hu⟩, hfz⟩ := key4
      have HQ : Hid _ := And.intro q1 (And.intro q2 q3)
      clear h H1 H2 H3 H4 K1 K2 K3 K4 c0 c5 c6 key q1 q2 q3 hf hA
      by_cases ht : t < 0
      · have ht2 : ¬ (512 < t) := by omega
        go_enter Try.func34, Try.ntmps34
        go_wp2_with fail
        all_goals first | go_end0 | refine bodyPost_ret (results_none rfl _ _ _) rfl ?_
        all_goals (first | rw [← hw3, ← hw4] | skip)
        all_goals exact HQ.out.1 ht
      · by_cases ht2 : 512 < t
        · go_enter Try.func34, Try.ntmps34
          go_wp2_with fail
          all_goals first | go_end0 | refine bodyPost_ret (results_none rfl _ _ _) rfl ?_
          all_goals (first | rw [← hw3, ← hw4] | skip)
          all_goals exact HQ.out.2.1 ht2
        · go_enter Try.func34, Try.ntmps34
          go_wp2_with fail
          all_goals first | go_end0 | refine bodyPost_ret (results_none rfl _ _ _) rfl ?_
          all_goals (first | rw [← hw3, ← hw4] | skip)
          all_goals exact HQ.out.2.2 ht ht2
    · have key4 := key n w3 (by omega) H3 K3
      obtain ⟨q1, q2, q3, ⟨u, hu⟩, hfz⟩ := key4
      have HQ : Hid _ := And.intro q1 (And.intro q2 q3)
      clear h H1 H2 H3 K1 K2 K3 c0 c5 c6 key q1 q2 q3 hf hA
      by_cases ht : t < 0
      · have ht2 : ¬ (512 < t) := by omega
        go_enter Try.func34, Try.ntmps34
        go_wp2_with fail
        all_goals first | go_end0 | refine bodyPost_ret (results_none rfl _ _ _) rfl ?_
        all_goals (first | rw [← hw3] | skip)
        all_goals exact HQ.out.1 ht
      · by_cases ht2 : 512 < t
        · go_enter Try.func34, Try.ntmps34
          go_wp2_with fail
          all_goals first | go_end0 | refine bodyPost_ret (results_none rfl _ _ _) rfl ?_
          all_goals (first | rw [← hw3] | skip)
          all_goals exact HQ.out.2.1 ht2
        · go_enter Try.func34, Try.ntmps34
          go_wp2_with fail
          all_goals first | go_end0 | refine bodyPost_ret (results_none rfl _ _ _) rfl ?_
          all_goals (first | rw [← hw3] | skip)
          all_goals exact HQ.out.2.2 ht ht2
  · rw [hf] at c2
    have hA : armD x n t = x := by unfold armD; simp [hf]
    rw [hA]
    have HF : Hid (RoR w r gs F x (.returned (.tuple #[])) w) := ⟨rfl, ⟨_, _, _, _, h⟩, Kept.refl _ _⟩
    clear h c0 c1 c3 c4 c5 c6
    go_enter Try.func34, Try.ntmps34
    go_wp2
    all_goals first | go_end0 | refine bodyPost_ret (results_none rfl _ _ _) rfl ?_
    all_goals exact HF.out

end Go.Proofs.Ytppkjebiiheljaa
