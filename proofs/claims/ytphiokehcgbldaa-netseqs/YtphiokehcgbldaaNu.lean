import Derived.Test.YtphiokehcgbldaaNt
namespace Go.Proofs.Ytphiokehcgbldaa
open Go.RowKit Go.Shelf
set_option linter.unusedVariables false
set_option linter.unusedSimpArgs false

theorem pair3 (w : World) {I : Nat → Prop} {n : Nat} {s : Ns} (h : NetM w n s I) (x y : Ad) (a b : Bool) (c d : Int) (e1 : x = (a, c)) (e2 : y = (b, d)) :
    Calls Try.prog 12 #[.pointer (some ⟨n, 0, none⟩), .agg #[.bool a, .int .i64 c], .agg #[.bool b, .int .i64 d]] w (fun e w' => e = .returned (.int .i64 (cnP s.L (x, y) : Nat)) ∧ Kept No w w') := by
  subst e1 e2
  exact pair_any _ _ w h
theorem bytes1 (w : World) (v : Int) : Bytes (w.alloc (.cells #[.int .u8 v] 5)) (some ⟨w.heap.size, 0, none⟩) [v] := by
  intro i hi
  have hi : i = 0 := by simpa using hi
  subst hi
  exact ⟨_, _, rfl, (Box.new w 5 #[.int .u8 v]).cell 0⟩
def hdP (ra : Option Addr) (rc : Nat) : Pq := ⟨((false, 3), 1), (false, 0), ra, rc, [7], 1⟩
theorem head_s (ra : Option Addr) (rc : Nat) : addS (sentS ns0 (false, 3)) ⟨((false, 3), (ns0.sent (false, 3) + 1 : Nat)), (false, 0), ra, rc, [7], ns0.came + 1⟩ = ⟨(sentS ns0 (false, 3)).sent, [hdP ra rc], 1⟩ := by
  simp [addS, sentS, ns0, cnP, hdP]
theorem head_p (ra : Option Addr) (rc : Nat) : cnP [hdP ra rc] ((false, 3), (false, 0)) = 1 := by
  simp [cnP, isP, hdP]
set_option maxRecDepth 100000 in
set_option maxHeartbeats 8000000 in
theorem head_any (w : World) : Calls Try.prog 11 #[] w (fun e w' => e = .returned (.bool true) ∧ Kept No w w') := by
  go_enter Try.func11, Try.ntmps11
  go_wp2_with (first
    | (go_at_call 8; refine (new_net w).mono ?_; rintro e w1 ⟨rfl, hN, hk⟩; have H1 : Hid (NetM w1 w.heap.size ns0 (fun k => k = w.heap.size) ∧ Kept No w w1 ∧ w.heap.size < w1.heap.size) := ⟨hN, hk, by rcases hN with ⟨_, h, _⟩ | ⟨_, _, _, _, h⟩; exact h.lt; exact h.box.lt⟩; clear hN hk)
    | (go_at_call 13; refine (send_any (false, 3) (false, 0) 0 _ 1 1 [7] _ (H1.out.1.no ((Kept.refl No w1).alloc _)) rfl (by omega) (bytes1 w1 7) (fun _ k hk => by obtain ⟨ad, e, rfl⟩ := hk; cases e; have := H1.out.2.2; exact ⟨by show ¬ w1.heap.size = w.heap.size; omega, by simp⟩) (by simp [ns0]) (by simp [ns0])).mono ?_; rintro e w2 ⟨ra, rc, rfl, hk, hN⟩; replace hk := W5.kept hk; rw [head_s] at hN; have H2 : Hid (NetM w2 w.heap.size ⟨(sentS ns0 (false, 3)).sent, [hdP ra rc], 1⟩ (fun j => j = w.heap.size ∨ (w1.alloc (.cells #[.int .u8 7] 5)).heap.size ≤ j) ∧ Kept No w w2) := ⟨hN, (H1.out.2.1.alloc _).trans hk (fun _ e => e) (fun i hi e => by have e : i = w.heap.size := e; omega)⟩; clear hk hN)
    | (go_at_call 12; refine (pair3 w2 H2.out.1 (false, 3) (false, 0) false false 3 0 rfl rfl).mono ?_; rintro e w3 ⟨rfl, hk⟩; rw [head_p]; have H3 : Hid (Kept No w2 w3) := hk; clear hk)
    | (go_at_call 21; refine (under_any w3 (H2.out.1.no H3.out) (show (1 : Nat) < 1000000000000 by omega)).mono ?_; rintro e w4 ⟨lb, sa, sc, P, rfl, _, _, _, hk⟩; have H4 : Hid (Kept No w3 w4) := hk; have hne := neFn lb w4; clear hk))
  all_goals go_ret
  all_goals exact ⟨rfl, (H2.out.2.then H3.out).then H4.out⟩
end Go.Proofs.Ytphiokehcgbldaa
