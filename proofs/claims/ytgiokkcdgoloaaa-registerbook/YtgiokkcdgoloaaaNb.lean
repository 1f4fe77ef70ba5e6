import Derived.Test.YtgiokkcdgoloaaaNa
namespace Go.Proofs.Ytgiokkcdgoloaaa
open Go.RowKit
set_option linter.unusedVariables false
set_option linter.unusedSimpArgs false

set_option maxRecDepth 100000 in
set_option maxHeartbeats 4000000 in
theorem rnewer_any (hn hc : Int) (ha : Option Addr) (hl hk : Nat) (sn sc : Int) (da : Option Addr) (dl dk : Nat) (w : World) :
    Calls Try.prog 15 #[.agg #[.int .i64 hn, .int .i64 hc, .slice ha hl hk], .agg #[.int .i64 sn, .int .i64 sc], .slice da dl dk] w
      (fun e w' => e = .returned (.tuple #[if lessB hn hc sn sc then .agg #[.int .i64 sn, .int .i64 sc, .slice da dl dk] else .agg #[.int .i64 hn, .int .i64 hc, .slice ha hl hk], .bool (lessB hn hc sn sc)]) ∧ Kept No w w') := by
  obtain ⟨w1, hw1⟩ : ∃ w1, w1 = ((w.alloc (.cells #[.int .i64 hn, .int .i64 hc, .slice ha hl hk] 57)).alloc (.cells #[.int .i64 sn, .int .i64 sc] 41)).alloc (.cells #[.int .i64 0, .int .i64 0, .slice none 0 0] 57) := ⟨_, rfl⟩
  obtain ⟨N, hN⟩ : ∃ N, N = w.heap.size := ⟨_, rfl⟩
  have HNN : Hid (N = w.heap.size) := hN
  have HK1 : Hid (Kept No w w1) := by rw [hw1]; exact (((Kept.refl No w).alloc _).alloc _).alloc _
  have e1 : (w.alloc (.cells #[.int .i64 hn, .int .i64 hc, .slice ha hl hk] 57)).heap.size = w.heap.size + 1 := by simp
  have e2 : ((w.alloc (.cells #[.int .i64 hn, .int .i64 hc, .slice ha hl hk] 57)).alloc (.cells #[.int .i64 sn, .int .i64 sc] 41)).heap.size = w.heap.size + 1 + 1 := by simp
  have HX0 : Hid (Box w1 N 57 #[.int .i64 hn, .int .i64 hc, .slice ha hl hk]) := by
    have hX := Box.new w 57 #[.int .i64 hn, .int .i64 hc, .slice ha hl hk]
    rw [hw1, hN]
    exact (hX.alloc _).alloc _
  have HX1 : Hid (Box w1 (N + 1) 41 #[.int .i64 sn, .int .i64 sc]) := by
    have hX := Box.new (w.alloc (.cells #[.int .i64 hn, .int .i64 hc, .slice ha hl hk] 57)) 41 #[.int .i64 sn, .int .i64 sc]
    rw [e1] at hX
    rw [hw1, hN]
    exact hX.alloc _
  have HX2 : Hid (Box w1 (N + 1 + 1) 57 #[.int .i64 0, .int .i64 0, .slice none 0 0]) := by
    have hX := Box.new ((w.alloc (.cells #[.int .i64 hn, .int .i64 hc, .slice ha hl hk] 57)).alloc (.cells #[.int .i64 sn, .int .i64 sc] 41)) 57 #[.int .i64 0, .int .i64 0, .slice none 0 0]
    rw [e2] at hX
    rw [hw1, hN]
    exact hX
  clear e1 e2
  cases hL : lessB hn hc sn sc
  all_goals (
    have HL : Hid (lessB hn hc sn sc = _) := hL
    clear hL
    go_enter Try.func15, Try.ntmps15
    go_wp2_with (first
      | (go_at_call 40
         rw [← hw1, ← hN]
         refine Calls.mono (rless_any hn hc sn sc w1) ?_
         rintro e w2 ⟨rfl, hk2⟩
         rw [HL.out]
         have HK2 : Hid (Kept No w1 w2) := hk2
         have HY0 : Hid (Box w2 N 57 #[.int .i64 hn, .int .i64 hc, .slice ha hl hk]) := HX0.out.kept hk2 (fun e => e)
         have HY1 : Hid (Box w2 (N + 1) 41 #[.int .i64 sn, .int .i64 sc]) := HX1.out.kept hk2 (fun e => e)
         have HY2 : Hid (Box w2 (N + 1 + 1) 57 #[.int .i64 0, .int .i64 0, .slice none 0 0]) := HX2.out.kept hk2 (fun e => e)
         have y0 := HY0.out.cell 0
         have y1 := HY0.out.cell 1
         have y2 := HY0.out.cell 2
         have z0 := HY1.out.cell 0
         have z1 := HY1.out.cell 1
         have b0 := HY2.out.cell 0
         have b1 := HY2.out.cell 1
         have b2 := HY2.out.cell 2
         have f0 := HY2.out.frozen 0
         have f1 := HY2.out.frozen 1
         have f2 := HY2.out.frozen 2
         simp only [List.getElem?_toArray, List.getElem?_cons_zero, List.getElem?_cons_succ] at b0 b1 b2 y0 y1 y2 z0 z1
         clear hk2 hw1 hN)))
  · obtain ⟨HF, HKs⟩ := set3 HY2.out (.int .i64 hn) (.int .i64 hc) (.slice ha hl hk)
    refine bodyPost_ret (results_row_tmp (by rfl) _ _ (N + 1 + 1) #[.int .i64 hn, .int .i64 hc, .slice ha hl hk] (by rfl) (load57_run HF rfl)) rfl ?_
    refine ⟨by simp, (HK1.out.then HK2.out).trans HKs (fun _ e => e) (fun i hi e => ?_)⟩
    have : i = N + 1 + 1 := e
    have := HNN.out
    omega
  · obtain ⟨HF, HKs⟩ := set3 HY2.out (.int .i64 sn) (.int .i64 sc) (.slice da dl dk)
    refine bodyPost_ret (results_row_tmp (by rfl) _ _ (N + 1 + 1) #[.int .i64 sn, .int .i64 sc, .slice da dl dk] (by rfl) (load57_run HF rfl)) rfl ?_
    refine ⟨by simp, (HK1.out.then HK2.out).trans HKs (fun _ e => e) (fun i hi e => ?_)⟩
    have : i = N + 1 + 1 := e
    have := HNN.out
    omega

end Go.Proofs.Ytgiokkcdgoloaaa
