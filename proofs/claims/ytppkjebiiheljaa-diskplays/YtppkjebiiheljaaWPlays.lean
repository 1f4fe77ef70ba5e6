import Derived.Test.YtppkjebiiheljaaPl
namespace Go.Proofs.Ytppkjebiiheljaa
open Go.RowKit
set_option linter.unusedVariables false
set_option linter.unusedSimpArgs false

set_option maxRecDepth 100000 in
set_option maxHeartbeats 4000000 in
theorem plays_any (a0 : Option Addr) (l0 c0 : Nat) (n : Int) (xs : List Stp) (w : World) (hs0 : Stps w a0 xs) (hl0 : xs.length = l0) (hm0 : l0 ≤ 140737488351232) (ho0 : ∀ x ∈ xs, StpOk w x ∧ x.c ≤ 140737488351232) :
    Calls Try.prog 4 #[.int .i64 n, .slice a0 l0 c0] w fun e w' => e = .returned (.bool true) ∧ Kept No w w' := by
  have HX : Hid (Stps w a0 xs ∧ (∀ x ∈ xs, StpOk w x ∧ x.c ≤ 140737488351232) ∧ xs.length = l0 ∧ l0 ≤ 140737488351232) := ⟨hs0, ho0, hl0, hm0⟩
  obtain ⟨q, hq⟩ : ∃ q, q = roundOf n 64 := ⟨_, rfl⟩
  have hq1 : q < 64 := by rw [hq]; exact roundOf_lt _ _ (by omega)
  have HRd : Hid (∀ w : World, Calls Try.prog 13 #[.int .i64 n, .int .i64 64] w fun e w' => e = .returned (.int .i64 q) ∧ w' = w) := by
    intro w; rw [hq]; exact round_any n 64 w (by omega) (by omega)
  have hqi : (q : Int) < 64 := by omega
  obtain ⟨N, hN⟩ : ∃ N, N = q + 1 := ⟨_, rfl⟩
  have hNi : (q : Int) + 1 = (N : Int) := by omega
  have HN : Hid (1 ≤ N ∧ N ≤ 65536) := ⟨by omega, by omega⟩
  clear hs0 hl0 hm0 ho0 hq hq1 hN
  go_enter Try.func4, Try.ntmps4
  go_wp2_with (first
    | (go_at_call 9
       refine Calls.mono (known_any w) ?_
       rintro e wK ⟨rfl, hkK⟩
       have HK : Hid (Kept No w wK) := hkK
       clear hkK)
    | (go_at_call 13
       refine Calls.mono (HRd.out wK) ?_
       rintro e w' ⟨rfl, hw'⟩
       rw [hw']
       clear hw' w')
    | (go_at_call 10
       try rw [hNi]
       obtain ⟨d, hd⟩ : ∃ d, d = wK.heap.size + 1 := ⟨_, rfl⟩
       obtain ⟨b, hb⟩ : ∃ b, b = wK.heap.size := ⟨_, rfl⟩
       have hNw := newYes_any N wK HN.out.1 HN.out.2
       rw [← hd, ← hb] at hNw
       refine Calls.mono hNw ?_
       rintro e w2 ⟨rfl, hd2, hk2⟩
       have HE2 : Hid (Dsk w2 d b (newD N) ∧ Kept No w w2 ∧ w.heap.size ≤ d ∧ w.heap.size ≤ b) := ⟨hd2, HK.out.then hk2, by have := HK.out.size; omega, by have := HK.out.size; omega⟩
       clear hd2 hk2 hNw hd hb HK)
    | (go_at_call 11
       try rw [hNi]
       refine Calls.mono (refNewYes_any N w2 HN.out.1 HN.out.2) ?_
       rintro e w3 ⟨r, gs, rfl, hr, hgs, hR, hk3⟩
       have HP : Hid (Pr w w3 d b r gs (newD N) (newD N)) := by
         have h1 := HE2.out.2.1.size
         exact ⟨HE2.out.1.no hk3, hR.mono (fun g _ e => by have e' : w2.heap.size ≤ g := e; omega), HE2.out.2.1.then hk3, ⟨HE2.out.2.2.1, HE2.out.2.2.2, by omega, by omega⟩⟩
       clear hr hgs hR hk3 HE2)
    | (go_at_call 24
       refine Calls.mono (play_any w d b r gs (newD N) a0 l0 c0 xs w3 HX.out.1 HX.out.2.2.1 HX.out.2.2.2 HX.out.2.1 HP.out ⟨Ok.new HN.out.1 HN.out.2, by show (0 : Int) ≤ _; omega, by show (0 : Int) ≤ _; omega⟩) ?_
       rintro e w4 ⟨v0, v1, rfl, hk4⟩
       have HK4 : Hid (Kept No w w4) := hk4
       clear hk4))
  all_goals go_ret
  all_goals exact ⟨rfl, HK4.out⟩

end Go.Proofs.Ytppkjebiiheljaa
