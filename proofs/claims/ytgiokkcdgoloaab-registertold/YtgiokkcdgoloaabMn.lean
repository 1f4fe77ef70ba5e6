import Derived.Test.YtgiokkcdgoloaabMm
namespace Go.Proofs.Ytgiokkcdgoloaab
open Go.RowKit
set_option linter.unusedVariables false
set_option linter.unusedSimpArgs false

section
attribute [local go_sem ↓] storeR_eq
set_option maxRecDepth 100000 in
set_option maxHeartbeats 4000000 in
theorem settleR_any (sz gn gc : Int) (ga : Option Addr) (gl gk : Nat) (al : Bool) (w : World) :
    Calls Try.prog 98 #[.agg #[.int .i64 sz], .agg #[.int .i64 gn, .int .i64 gc, .slice ga gl gk], .bool al] w (SettleOut w gn gc ga gl gk 0 gn gc ga gl gk al) := by
  obtain ⟨w1, hw1⟩ : ∃ w1, w1 = (((w.alloc (.cells #[.int .i64 sz] 93)).alloc (.cells #[.int .i64 gn, .int .i64 gc, .slice ga gl gk] 31)).alloc (.cells #[.int .i64 0, .int .i64 0, .slice none 0 0] 31)).alloc (.cells (resC 0 0 0 none 0 0) 39) := ⟨_, rfl⟩
  obtain ⟨N, hN⟩ : ∃ N, N = w.heap.size := ⟨_, rfl⟩
  have HNN : Hid (N = w.heap.size) := hN
  have HK1 : Hid (Kept No w w1) := by rw [hw1]; exact ((((Kept.refl No w).alloc _).alloc _).alloc _).alloc _
  have e1 : (w.alloc (.cells #[.int .i64 sz] 93)).heap.size = w.heap.size + 1 := by simp
  have e2 : ((w.alloc (.cells #[.int .i64 sz] 93)).alloc (.cells #[.int .i64 gn, .int .i64 gc, .slice ga gl gk] 31)).heap.size = w.heap.size + 1 + 1 := by simp
  have e3 : (((w.alloc (.cells #[.int .i64 sz] 93)).alloc (.cells #[.int .i64 gn, .int .i64 gc, .slice ga gl gk] 31)).alloc (.cells #[.int .i64 0, .int .i64 0, .slice none 0 0] 31)).heap.size = w.heap.size + 1 + 1 + 1 := by simp
  have HX0 : Hid (Box w1 N 93 #[.int .i64 sz]) := by
    have h := Box.new w 93 #[.int .i64 sz]
    rw [hw1, hN]
    exact ((h.alloc _).alloc _).alloc _
  have HX1 : Hid (Box w1 (N + 1) 31 #[.int .i64 gn, .int .i64 gc, .slice ga gl gk]) := by
    have h := Box.new (w.alloc (.cells #[.int .i64 sz] 93)) 31 #[.int .i64 gn, .int .i64 gc, .slice ga gl gk]
    rw [e1] at h
    rw [hw1, hN]
    exact (h.alloc _).alloc _
  have HX2 : Hid (Box w1 (N + 1 + 1) 31 #[.int .i64 0, .int .i64 0, .slice none 0 0]) := by
    have h := Box.new ((w.alloc (.cells #[.int .i64 sz] 93)).alloc (.cells #[.int .i64 gn, .int .i64 gc, .slice ga gl gk] 31)) 31 #[.int .i64 0, .int .i64 0, .slice none 0 0]
    rw [e2] at h
    rw [hw1, hN]
    exact h.alloc _
  have HX3 : Hid (Box w1 (N + 1 + 1 + 1) 39 (resC 0 0 0 none 0 0)) := by
    have h := Box.new (((w.alloc (.cells #[.int .i64 sz] 93)).alloc (.cells #[.int .i64 gn, .int .i64 gc, .slice ga gl gk] 31)).alloc (.cells #[.int .i64 0, .int .i64 0, .slice none 0 0] 31)) 39 (resC 0 0 0 none 0 0)
    rw [e3] at h
    rw [hw1, hN]
    exact h
  clear e1 e2 e3
  go_enter Try.func98, Try.ntmps98
  go_upto_region 1 with fail
  have hRZ : resC 0 0 0 none 0 0 = #[.int .i64 0, .string ⟨#[]⟩, .int .i64 0, .int .i64 0, .int .i64 0, .slice none 0 0, .slice none 0 0, .int .i64 0, .int .i64 0, .int .i64 0, .int .i64 0] := rfl
  rw [← hRZ, ← hw1, ← hN]
  clear hw1 hN hRZ
  obtain ⟨x0, x1, x2⟩ : w1.cell? ⟨N + 1, 0, none⟩ = some (.int .i64 gn) ∧ w1.cell? ⟨N + 1, 1, none⟩ = some (.int .i64 gc) ∧ w1.cell? ⟨N + 1, 2, none⟩ = some (.slice ga gl gk) := ⟨HX1.out.cell 0, HX1.out.cell 1, HX1.out.cell 2⟩
  have a0 := HX2.out.cell 0
  have f0 := HX2.out.frozen 0
  have a1 := HX2.out.cell 1
  have f1 := HX2.out.frozen 1
  have a2 := HX2.out.cell 2
  have f2 := HX2.out.frozen 2
  simp only [List.getElem?_toArray, List.getElem?_cons_zero, List.getElem?_cons_succ] at a0 a1 a2
  have hdr : ∀ (w : World) (p : Addr), w.drew.cell? p = w.cell? p := fun _ _ => rfl
  have hcr := cell_setRow
  have hfr := frozen_setRow
  have n1 : N + 1 ≠ N + 1 + 1 := by omega
  have n2 : N + 1 + 1 ≠ N + 1 := by omega
  have n3 : N + 1 ≠ N + 1 + 1 + 1 := by omega
  have n4 : N + 1 + 1 + 1 ≠ N + 1 := by omega
  have n5 : N + 1 + 1 ≠ N + 1 + 1 + 1 := by omega
  have n6 : N + 1 + 1 + 1 ≠ N + 1 + 1 := by omega
  have bC : Box (((w1.setCell ⟨N + 1 + 1, 0, none⟩ (.int .i64 gn)).setCell ⟨N + 1 + 1, 1, none⟩ (.int .i64 gc)).setCell ⟨N + 1 + 1, 2, none⟩ (.slice ga gl gk)) (N + 1 + 1 + 1) 39 (resC 0 0 0 none 0 0) := HX3.out.kept (set3 HX2.out (.int .i64 gn) (.int .i64 gc) (.slice ga gl gk)).2 (fun e => by have : N + 1 + 1 + 1 = N + 1 + 1 := e; omega)
  have hsA : Sem.run Try.prog (storeR ⟨N + 1 + 1 + 1, 0, none⟩ (.agg #[.int .i64 0, .string ⟨#[]⟩, .int .i64 0, .int .i64 0, .int .i64 0, .slice none 0 0, .slice ga gl gk, .int .i64 0, .int .i64 gn, .int .i64 gc, .int .i64 0])) w1.drew = .ok () (w1.drew.setRow (N + 1 + 1 + 1) #[.int .i64 0, .string ⟨#[]⟩, .int .i64 0, .int .i64 0, .int .i64 0, .slice none 0 0, .slice ga gl gk, .int .i64 0, .int .i64 gn, .int .i64 gc, .int .i64 0]) := run_storeR _ _ _ HX3.out rfl (resC_one 0 gn gc ga gl gk)
  have hsB : Sem.run Try.prog (storeR ⟨N + 1 + 1 + 1, 0, none⟩ (.agg #[.int .i64 0, .string ⟨#[]⟩, .int .i64 0, .int .i64 0, .int .i64 0, .slice none 0 0, .slice ga gl gk, .int .i64 0, .int .i64 gn, .int .i64 gc, .int .i64 0])) (((w1.setCell ⟨N + 1 + 1, 0, none⟩ (.int .i64 gn)).setCell ⟨N + 1 + 1, 1, none⟩ (.int .i64 gc)).setCell ⟨N + 1 + 1, 2, none⟩ (.slice ga gl gk)).drew = .ok () ((((w1.setCell ⟨N + 1 + 1, 0, none⟩ (.int .i64 gn)).setCell ⟨N + 1 + 1, 1, none⟩ (.int .i64 gc)).setCell ⟨N + 1 + 1, 2, none⟩ (.slice ga gl gk)).drew.setRow (N + 1 + 1 + 1) #[.int .i64 0, .string ⟨#[]⟩, .int .i64 0, .int .i64 0, .int .i64 0, .slice none 0 0, .slice ga gl gk, .int .i64 0, .int .i64 gn, .int .i64 gc, .int .i64 0]) := run_storeR _ _ _ bC rfl (resC_one 0 gn gc ga gl gk)
  go_region_held3 (fun w' => w'.cell? ⟨N + 1, 0, none⟩ = some (.int .i64 gn) ∧ w'.cell? ⟨N + 1, 1, none⟩ = some (.int .i64 gc) ∧ w'.cell? ⟨N + 1, 2, none⟩ = some (.slice ga gl gk)) (go_keep) (fail)
  have HF2 : Hid (Box ((((w1.setCell ⟨N + 1 + 1, 0, none⟩ (.int .i64 gn)).setCell ⟨N + 1 + 1, 1, none⟩ (.int .i64 gc)).setCell ⟨N + 1 + 1, 2, none⟩ (.slice ga gl gk)).drew.setRow (N + 1 + 1 + 1) #[.int .i64 0, .string ⟨#[]⟩, .int .i64 0, .int .i64 0, .int .i64 0, .slice none 0 0, .slice ga gl gk, .int .i64 0, .int .i64 gn, .int .i64 gc, .int .i64 0]) (N + 1 + 1) 31 #[.int .i64 gn, .int .i64 gc, .slice ga gl gk]) := ((set3 HX2.out (.int .i64 gn) (.int .i64 gc) (.slice ga gl gk)).1.kept (Kept.refl No _).drew (fun e => e)).kept (Kept.setRow _ _ _) (fun e => by have : N + 1 + 1 = N + 1 + 1 + 1 := e; omega)
  have HF3 : Hid (Box ((((w1.setCell ⟨N + 1 + 1, 0, none⟩ (.int .i64 gn)).setCell ⟨N + 1 + 1, 1, none⟩ (.int .i64 gc)).setCell ⟨N + 1 + 1, 2, none⟩ (.slice ga gl gk)).drew.setRow (N + 1 + 1 + 1) #[.int .i64 0, .string ⟨#[]⟩, .int .i64 0, .int .i64 0, .int .i64 0, .slice none 0 0, .slice ga gl gk, .int .i64 0, .int .i64 gn, .int .i64 gc, .int .i64 0]) (N + 1 + 1 + 1) 39 #[.int .i64 0, .string ⟨#[]⟩, .int .i64 0, .int .i64 0, .int .i64 0, .slice none 0 0, .slice ga gl gk, .int .i64 0, .int .i64 gn, .int .i64 gc, .int .i64 0]) := Box.setRow (old := resC 0 0 0 none 0 0) bC _
  have HKf : Hid (Kept No w ((((w1.setCell ⟨N + 1 + 1, 0, none⟩ (.int .i64 gn)).setCell ⟨N + 1 + 1, 1, none⟩ (.int .i64 gc)).setCell ⟨N + 1 + 1, 2, none⟩ (.slice ga gl gk)).drew.setRow (N + 1 + 1 + 1) #[.int .i64 0, .string ⟨#[]⟩, .int .i64 0, .int .i64 0, .int .i64 0, .slice none 0 0, .slice ga gl gk, .int .i64 0, .int .i64 gn, .int .i64 gc, .int .i64 0])) := by
    refine ((HK1.out.trans (set3 HX2.out (.int .i64 gn) (.int .i64 gc) (.slice ga gl gk)).2 (fun _ e => e) (fun i hi e => ?_)).drew).trans (Kept.setRow _ _ _) (fun _ e => e) (fun i hi e => ?_)
    · have : i = N + 1 + 1 := e
      have := HNN.out
      omega
    · have : i = N + 1 + 1 + 1 := e
      have := HNN.out
      omega
  generalize (((w1.setCell ⟨N + 1 + 1, 0, none⟩ (.int .i64 gn)).setCell ⟨N + 1 + 1, 1, none⟩ (.int .i64 gc)).setCell ⟨N + 1 + 1, 2, none⟩ (.slice ga gl gk)).drew.setRow (N + 1 + 1 + 1) #[.int .i64 0, .string ⟨#[]⟩, .int .i64 0, .int .i64 0, .int .i64 0, .slice none 0 0, .slice ga gl gk, .int .i64 0, .int .i64 gn, .int .i64 gc, .int .i64 0] = wf at HF2 HF3 HKf ⊢
  go_wp2
  refine bodyPost_ret (results_row2_tmp (by rfl) _ _ (N + 1 + 1) (N + 1 + 1 + 1) #[.int .i64 gn, .int .i64 gc, .slice ga gl gk] #[.int .i64 0, .string ⟨#[]⟩, .int .i64 0, .int .i64 0, .int .i64 0, .slice none 0 0, .slice ga gl gk, .int .i64 0, .int .i64 gn, .int .i64 gc, .int .i64 0] (by rfl) (by rfl) (load57_run HF2.out rfl) (load90_run HF3.out rfl)) rfl ?_
  exact ⟨rfl, HKf.out⟩
end

section
attribute [local go_sem ↓] storeR_eq
set_option maxRecDepth 100000 in
set_option maxHeartbeats 4000000 in
theorem settleW_any (cl : Int) (da : Option Addr) (dl dc : Nat) (gn gc : Int) (ga : Option Addr) (gl gk : Nat) (al : Bool) (w : World) (hg : gn < 1099511627776) (hg0 : -9223372036854775808 ≤ gn) :
    Calls Try.prog 99 #[.agg #[.int .i64 cl, .slice da dl dc], .agg #[.int .i64 gn, .int .i64 gc, .slice ga gl gk], .bool al] w (SettleOut w (gn + 1) cl da dl dc 0 (gn + 1) cl none 0 0 false) := by
  obtain ⟨w1, hw1⟩ : ∃ w1, w1 = (((w.alloc (.cells #[.int .i64 cl, .slice da dl dc] 96)).alloc (.cells #[.int .i64 gn, .int .i64 gc, .slice ga gl gk] 31)).alloc (.cells #[.int .i64 0, .int .i64 0, .slice none 0 0] 31)).alloc (.cells (resC 0 0 0 none 0 0) 39) := ⟨_, rfl⟩
  obtain ⟨N, hN⟩ : ∃ N, N = w.heap.size := ⟨_, rfl⟩
  have HNN : Hid (N = w.heap.size) := hN
  have HK1 : Hid (Kept No w w1) := by rw [hw1]; exact ((((Kept.refl No w).alloc _).alloc _).alloc _).alloc _
  have e1 : (w.alloc (.cells #[.int .i64 cl, .slice da dl dc] 96)).heap.size = w.heap.size + 1 := by simp
  have e2 : ((w.alloc (.cells #[.int .i64 cl, .slice da dl dc] 96)).alloc (.cells #[.int .i64 gn, .int .i64 gc, .slice ga gl gk] 31)).heap.size = w.heap.size + 1 + 1 := by simp
  have e3 : (((w.alloc (.cells #[.int .i64 cl, .slice da dl dc] 96)).alloc (.cells #[.int .i64 gn, .int .i64 gc, .slice ga gl gk] 31)).alloc (.cells #[.int .i64 0, .int .i64 0, .slice none 0 0] 31)).heap.size = w.heap.size + 1 + 1 + 1 := by simp
  have HX0 : Hid (Box w1 N 96 #[.int .i64 cl, .slice da dl dc]) := by
    have h := Box.new w 96 #[.int .i64 cl, .slice da dl dc]
    rw [hw1, hN]
    exact ((h.alloc _).alloc _).alloc _
  have HX1 : Hid (Box w1 (N + 1) 31 #[.int .i64 gn, .int .i64 gc, .slice ga gl gk]) := by
    have h := Box.new (w.alloc (.cells #[.int .i64 cl, .slice da dl dc] 96)) 31 #[.int .i64 gn, .int .i64 gc, .slice ga gl gk]
    rw [e1] at h
    rw [hw1, hN]
    exact (h.alloc _).alloc _
  have HX2 : Hid (Box w1 (N + 1 + 1) 31 #[.int .i64 0, .int .i64 0, .slice none 0 0]) := by
    have h := Box.new ((w.alloc (.cells #[.int .i64 cl, .slice da dl dc] 96)).alloc (.cells #[.int .i64 gn, .int .i64 gc, .slice ga gl gk] 31)) 31 #[.int .i64 0, .int .i64 0, .slice none 0 0]
    rw [e2] at h
    rw [hw1, hN]
    exact h.alloc _
  have HX3 : Hid (Box w1 (N + 1 + 1 + 1) 39 (resC 0 0 0 none 0 0)) := by
    have h := Box.new (((w.alloc (.cells #[.int .i64 cl, .slice da dl dc] 96)).alloc (.cells #[.int .i64 gn, .int .i64 gc, .slice ga gl gk] 31)).alloc (.cells #[.int .i64 0, .int .i64 0, .slice none 0 0] 31)) 39 (resC 0 0 0 none 0 0)
    rw [e3] at h
    rw [hw1, hN]
    exact h
  clear e1 e2 e3
  have hge : ¬ (1099511627776 ≤ gn) := by omega
  have hge2 : ¬ (gn ≥ 1099511627776) := by omega
  have hRZ : resC 0 0 0 none 0 0 = #[.int .i64 0, .string ⟨#[]⟩, .int .i64 0, .int .i64 0, .int .i64 0, .slice none 0 0, .slice none 0 0, .int .i64 0, .int .i64 0, .int .i64 0, .int .i64 0] := rfl
  obtain ⟨w2, hw2⟩ : ∃ w2, w2 = w1.alloc (.cells #[.int .i64 (gn + 1), .int .i64 cl] 29) := ⟨_, rfl⟩
  have HK2 : Hid (Kept No w w2) := by rw [hw2]; exact HK1.out.alloc _
  have HY0 : Hid (Box w2 N 96 #[.int .i64 cl, .slice da dl dc]) := by rw [hw2]; exact HX0.out.alloc _
  have HY2 : Hid (Box w2 (N + 1 + 1) 31 #[.int .i64 0, .int .i64 0, .slice none 0 0]) := by rw [hw2]; exact HX2.out.alloc _
  have HY3 : Hid (Box w2 (N + 1 + 1 + 1) 39 (resC 0 0 0 none 0 0)) := by rw [hw2]; exact HX3.out.alloc _
  have HY4 : Hid (Box w2 (N + 1 + 1 + 1 + 1) 29 #[.int .i64 (gn + 1), .int .i64 cl]) := by
    have h := Box.new w1 29 #[.int .i64 (gn + 1), .int .i64 cl]
    have e : w1.heap.size = N + 1 + 1 + 1 + 1 := by rw [hw1, hN]; simp
    rw [e] at h
    rw [hw2]
    exact h
  go_enter Try.func99, Try.ntmps99
  go_upto_region 4 with fail
  rw [← hRZ, ← hw1, ← hw2, ← hN]
  clear hw1 hw2 hN hRZ
  have x0 : w2.cell? ⟨N, 1, none⟩ = some (.slice da dl dc) := HY0.out.cell 1
  have x1 : w2.cell? ⟨N + 1 + 1 + 1 + 1, 0, none⟩ = some (.int .i64 (gn + 1)) := HY4.out.cell 0
  have x2 : w2.cell? ⟨N + 1 + 1 + 1 + 1, 1, none⟩ = some (.int .i64 cl) := HY4.out.cell 1
  have a0 := HY2.out.cell 0
  have f0 := HY2.out.frozen 0
  have a1 := HY2.out.cell 1
  have f1 := HY2.out.frozen 1
  have a2 := HY2.out.cell 2
  have f2 := HY2.out.frozen 2
  simp only [List.getElem?_toArray, List.getElem?_cons_zero, List.getElem?_cons_succ] at a0 a1 a2
  have hdr : ∀ (w : World) (p : Addr), w.drew.cell? p = w.cell? p := fun _ _ => rfl
  have hcr := cell_setRow
  have n1 : N ≠ N + 1 + 1 := by omega
  have n2 : N + 1 + 1 ≠ N := by omega
  have n3 : N ≠ N + 1 + 1 + 1 := by omega
  have n4 : N + 1 + 1 + 1 ≠ N := by omega
  have n5 : N + 1 + 1 + 1 + 1 ≠ N + 1 + 1 := by omega
  have n6 : N + 1 + 1 ≠ N + 1 + 1 + 1 + 1 := by omega
  have n7 : N + 1 + 1 + 1 + 1 ≠ N + 1 + 1 + 1 := by omega
  have n8 : N + 1 + 1 + 1 ≠ N + 1 + 1 + 1 + 1 := by omega
  have bC : Box (((w2.setCell ⟨N + 1 + 1, 0, none⟩ (.int .i64 (gn + 1))).setCell ⟨N + 1 + 1, 1, none⟩ (.int .i64 cl)).setCell ⟨N + 1 + 1, 2, none⟩ (.slice da dl dc)) (N + 1 + 1 + 1) 39 (resC 0 0 0 none 0 0) := HY3.out.kept (set3 HY2.out (.int .i64 (gn + 1)) (.int .i64 cl) (.slice da dl dc)).2 (fun e => by have : N + 1 + 1 + 1 = N + 1 + 1 := e; omega)
  have hsB : Sem.run Try.prog (storeR ⟨N + 1 + 1 + 1, 0, none⟩ (.agg #[.int .i64 0, .string ⟨#[]⟩, .int .i64 0, .int .i64 0, .int .i64 0, .slice none 0 0, .slice none 0 0, .int .i64 0, .int .i64 (gn + 1), .int .i64 cl, .int .i64 0])) (((w2.setCell ⟨N + 1 + 1, 0, none⟩ (.int .i64 (gn + 1))).setCell ⟨N + 1 + 1, 1, none⟩ (.int .i64 cl)).setCell ⟨N + 1 + 1, 2, none⟩ (.slice da dl dc)).drew = .ok () ((((w2.setCell ⟨N + 1 + 1, 0, none⟩ (.int .i64 (gn + 1))).setCell ⟨N + 1 + 1, 1, none⟩ (.int .i64 cl)).setCell ⟨N + 1 + 1, 2, none⟩ (.slice da dl dc)).drew.setRow (N + 1 + 1 + 1) #[.int .i64 0, .string ⟨#[]⟩, .int .i64 0, .int .i64 0, .int .i64 0, .slice none 0 0, .slice none 0 0, .int .i64 0, .int .i64 (gn + 1), .int .i64 cl, .int .i64 0]) := run_storeR _ _ _ bC rfl (resC_one 0 (gn + 1) cl none 0 0)
  go_region_held3 (fun w' => w'.cell? ⟨N, 1, none⟩ = some (.slice da dl dc) ∧ w'.cell? ⟨N + 1 + 1 + 1 + 1, 0, none⟩ = some (.int .i64 (gn + 1)) ∧ w'.cell? ⟨N + 1 + 1 + 1 + 1, 1, none⟩ = some (.int .i64 cl)) (go_keep) (fail)
  have HF2 : Hid (Box ((((w2.setCell ⟨N + 1 + 1, 0, none⟩ (.int .i64 (gn + 1))).setCell ⟨N + 1 + 1, 1, none⟩ (.int .i64 cl)).setCell ⟨N + 1 + 1, 2, none⟩ (.slice da dl dc)).drew.setRow (N + 1 + 1 + 1) #[.int .i64 0, .string ⟨#[]⟩, .int .i64 0, .int .i64 0, .int .i64 0, .slice none 0 0, .slice none 0 0, .int .i64 0, .int .i64 (gn + 1), .int .i64 cl, .int .i64 0]) (N + 1 + 1) 31 #[.int .i64 (gn + 1), .int .i64 cl, .slice da dl dc]) := ((set3 HY2.out (.int .i64 (gn + 1)) (.int .i64 cl) (.slice da dl dc)).1.kept (Kept.refl No _).drew (fun e => e)).kept (Kept.setRow _ _ _) (fun e => by have : N + 1 + 1 = N + 1 + 1 + 1 := e; omega)
  have HF3 : Hid (Box ((((w2.setCell ⟨N + 1 + 1, 0, none⟩ (.int .i64 (gn + 1))).setCell ⟨N + 1 + 1, 1, none⟩ (.int .i64 cl)).setCell ⟨N + 1 + 1, 2, none⟩ (.slice da dl dc)).drew.setRow (N + 1 + 1 + 1) #[.int .i64 0, .string ⟨#[]⟩, .int .i64 0, .int .i64 0, .int .i64 0, .slice none 0 0, .slice none 0 0, .int .i64 0, .int .i64 (gn + 1), .int .i64 cl, .int .i64 0]) (N + 1 + 1 + 1) 39 #[.int .i64 0, .string ⟨#[]⟩, .int .i64 0, .int .i64 0, .int .i64 0, .slice none 0 0, .slice none 0 0, .int .i64 0, .int .i64 (gn + 1), .int .i64 cl, .int .i64 0]) := Box.setRow (old := resC 0 0 0 none 0 0) bC _
  have HKf : Hid (Kept No w ((((w2.setCell ⟨N + 1 + 1, 0, none⟩ (.int .i64 (gn + 1))).setCell ⟨N + 1 + 1, 1, none⟩ (.int .i64 cl)).setCell ⟨N + 1 + 1, 2, none⟩ (.slice da dl dc)).drew.setRow (N + 1 + 1 + 1) #[.int .i64 0, .string ⟨#[]⟩, .int .i64 0, .int .i64 0, .int .i64 0, .slice none 0 0, .slice none 0 0, .int .i64 0, .int .i64 (gn + 1), .int .i64 cl, .int .i64 0])) := by
    refine ((HK2.out.trans (set3 HY2.out (.int .i64 (gn + 1)) (.int .i64 cl) (.slice da dl dc)).2 (fun _ e => e) (fun i hi e => ?_)).drew).trans (Kept.setRow _ _ _) (fun _ e => e) (fun i hi e => ?_)
    · have : i = N + 1 + 1 := e
      have := HNN.out
      omega
    · have : i = N + 1 + 1 + 1 := e
      have := HNN.out
      omega
  generalize (((w2.setCell ⟨N + 1 + 1, 0, none⟩ (.int .i64 (gn + 1))).setCell ⟨N + 1 + 1, 1, none⟩ (.int .i64 cl)).setCell ⟨N + 1 + 1, 2, none⟩ (.slice da dl dc)).drew.setRow (N + 1 + 1 + 1) #[.int .i64 0, .string ⟨#[]⟩, .int .i64 0, .int .i64 0, .int .i64 0, .slice none 0 0, .slice none 0 0, .int .i64 0, .int .i64 (gn + 1), .int .i64 cl, .int .i64 0] = wf at HF2 HF3 HKf ⊢
  go_wp2
  refine bodyPost_ret (results_row2_tmp (by rfl) _ _ (N + 1 + 1) (N + 1 + 1 + 1) #[.int .i64 (gn + 1), .int .i64 cl, .slice da dl dc] #[.int .i64 0, .string ⟨#[]⟩, .int .i64 0, .int .i64 0, .int .i64 0, .slice none 0 0, .slice none 0 0, .int .i64 0, .int .i64 (gn + 1), .int .i64 cl, .int .i64 0] (by rfl) (by rfl) (load57_run HF2.out rfl) (load90_run HF3.out rfl)) rfl ?_
  exact ⟨rfl, HKf.out⟩

end

set_option maxRecDepth 100000 in
set_option maxHeartbeats 4000000 in
theorem settleX_any (cl : Int) (da : Option Addr) (dl dc : Nat) (gn gc : Int) (ga : Option Addr) (gl gk : Nat) (al : Bool) (w : World) (hg : 1099511627776 ≤ gn) :
    Calls Try.prog 99 #[.agg #[.int .i64 cl, .slice da dl dc], .agg #[.int .i64 gn, .int .i64 gc, .slice ga gl gk], .bool al] w (SettleOut w 0 0 none 0 0 4 0 0 none 0 0 true) := by
  obtain ⟨w1, hw1⟩ : ∃ w1, w1 = (((w.alloc (.cells #[.int .i64 cl, .slice da dl dc] 96)).alloc (.cells #[.int .i64 gn, .int .i64 gc, .slice ga gl gk] 31)).alloc (.cells #[.int .i64 0, .int .i64 0, .slice none 0 0] 31)).alloc (.cells (resC 0 0 0 none 0 0) 39) := ⟨_, rfl⟩
  obtain ⟨N, hN⟩ : ∃ N, N = w.heap.size := ⟨_, rfl⟩
  have HNN : Hid (N = w.heap.size) := hN
  have HK1 : Hid (Kept No w w1) := by rw [hw1]; exact ((((Kept.refl No w).alloc _).alloc _).alloc _).alloc _
  have e1 : (w.alloc (.cells #[.int .i64 cl, .slice da dl dc] 96)).heap.size = w.heap.size + 1 := by simp
  have e2 : ((w.alloc (.cells #[.int .i64 cl, .slice da dl dc] 96)).alloc (.cells #[.int .i64 gn, .int .i64 gc, .slice ga gl gk] 31)).heap.size = w.heap.size + 1 + 1 := by simp
  have e3 : (((w.alloc (.cells #[.int .i64 cl, .slice da dl dc] 96)).alloc (.cells #[.int .i64 gn, .int .i64 gc, .slice ga gl gk] 31)).alloc (.cells #[.int .i64 0, .int .i64 0, .slice none 0 0] 31)).heap.size = w.heap.size + 1 + 1 + 1 := by simp
  have HX0 : Hid (Box w1 N 96 #[.int .i64 cl, .slice da dl dc]) := by
    have h := Box.new w 96 #[.int .i64 cl, .slice da dl dc]
    rw [hw1, hN]
    exact ((h.alloc _).alloc _).alloc _
  have HX1 : Hid (Box w1 (N + 1) 31 #[.int .i64 gn, .int .i64 gc, .slice ga gl gk]) := by
    have h := Box.new (w.alloc (.cells #[.int .i64 cl, .slice da dl dc] 96)) 31 #[.int .i64 gn, .int .i64 gc, .slice ga gl gk]
    rw [e1] at h
    rw [hw1, hN]
    exact (h.alloc _).alloc _
  have HX2 : Hid (Box w1 (N + 1 + 1) 31 #[.int .i64 0, .int .i64 0, .slice none 0 0]) := by
    have h := Box.new ((w.alloc (.cells #[.int .i64 cl, .slice da dl dc] 96)).alloc (.cells #[.int .i64 gn, .int .i64 gc, .slice ga gl gk] 31)) 31 #[.int .i64 0, .int .i64 0, .slice none 0 0]
    rw [e2] at h
    rw [hw1, hN]
    exact h.alloc _
  have HX3 : Hid (Box w1 (N + 1 + 1 + 1) 39 (resC 0 0 0 none 0 0)) := by
    have h := Box.new (((w.alloc (.cells #[.int .i64 cl, .slice da dl dc] 96)).alloc (.cells #[.int .i64 gn, .int .i64 gc, .slice ga gl gk] 31)).alloc (.cells #[.int .i64 0, .int .i64 0, .slice none 0 0] 31)) 39 (resC 0 0 0 none 0 0)
    rw [e3] at h
    rw [hw1, hN]
    exact h
  clear e1 e2 e3
  have hge2 : gn ≥ 1099511627776 := by omega
  have hRZ : resC 0 0 0 none 0 0 = #[.int .i64 0, .string ⟨#[]⟩, .int .i64 0, .int .i64 0, .int .i64 0, .slice none 0 0, .slice none 0 0, .int .i64 0, .int .i64 0, .int .i64 0, .int .i64 0] := rfl
  clear HX0 HX1 HX2 HX3 HK1 hw1 HNN
  clear hN hRZ
  have H2 : Hid (Box ((((w.alloc (.cells #[.int .i64 cl, .slice da dl dc] 96)).alloc (.cells #[.int .i64 gn, .int .i64 gc, .slice ga gl gk] 31)).alloc (.cells #[.int .i64 0, .int .i64 0, .slice none 0 0] 31)).alloc (.cells (resC 4 0 0 none 0 0) 39)) (w.heap.size + 1 + 1) 31 #[.int .i64 0, .int .i64 0, .slice none 0 0]) := by
    have h := Box.new ((w.alloc (.cells #[.int .i64 cl, .slice da dl dc] 96)).alloc (.cells #[.int .i64 gn, .int .i64 gc, .slice ga gl gk] 31)) 31 #[.int .i64 0, .int .i64 0, .slice none 0 0]
    have e : ((w.alloc (.cells #[.int .i64 cl, .slice da dl dc] 96)).alloc (.cells #[.int .i64 gn, .int .i64 gc, .slice ga gl gk] 31)).heap.size = w.heap.size + 1 + 1 := by simp
    rw [e] at h
    exact h.alloc _
  have H3 : Hid (Box ((((w.alloc (.cells #[.int .i64 cl, .slice da dl dc] 96)).alloc (.cells #[.int .i64 gn, .int .i64 gc, .slice ga gl gk] 31)).alloc (.cells #[.int .i64 0, .int .i64 0, .slice none 0 0] 31)).alloc (.cells (resC 4 0 0 none 0 0) 39)) (w.heap.size + 1 + 1 + 1) 39 (resC 4 0 0 none 0 0)) := by
    have h := Box.new (((w.alloc (.cells #[.int .i64 cl, .slice da dl dc] 96)).alloc (.cells #[.int .i64 gn, .int .i64 gc, .slice ga gl gk] 31)).alloc (.cells #[.int .i64 0, .int .i64 0, .slice none 0 0] 31)) 39 (resC 4 0 0 none 0 0)
    have e : (((w.alloc (.cells #[.int .i64 cl, .slice da dl dc] 96)).alloc (.cells #[.int .i64 gn, .int .i64 gc, .slice ga gl gk] 31)).alloc (.cells #[.int .i64 0, .int .i64 0, .slice none 0 0] 31)).heap.size = w.heap.size + 1 + 1 + 1 := by simp
    rw [e] at h
    exact h
  go_enter Try.func99, Try.ntmps99
  go_wp2
  refine bodyPost_ret (results_row2_tmp (by rfl) _ _ (w.heap.size + 1 + 1) (w.heap.size + 1 + 1 + 1) #[.int .i64 0, .int .i64 0, .slice none 0 0] (resC 4 0 0 none 0 0) (by rfl) (by rfl) (load57_run H2.out rfl) (load90_run H3.out rfl)) rfl ?_
  exact ⟨rfl, ((((Kept.refl No w).alloc _).alloc _).alloc _).alloc _⟩

end Go.Proofs.Ytgiokkcdgoloaab
