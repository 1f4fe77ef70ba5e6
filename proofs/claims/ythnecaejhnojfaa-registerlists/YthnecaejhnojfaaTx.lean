import Derived.Test.YthnecaejhnojfaaMm
namespace Go.Proofs.Ythnecaejhnojfaa
open Go.RowKit
set_option linter.unusedVariables false
set_option linter.unusedSimpArgs false

section
attribute [local go_sem ↓] storeR_eq
set_option maxRecDepth 100000 in
set_option maxHeartbeats 4000000 in
theorem settleR_any (sz gn gc : Int) (ga : Option Addr) (gl gk : Nat) (al : Bool) (w : World) :
    Calls Try.prog 97 #[.agg #[.int .i64 sz], .agg #[.int .i64 gn, .int .i64 gc, .slice ga gl gk], .bool al] w (SettleOut w gn gc ga gl gk 0 gn gc ga gl gk al) := by
  obtain ⟨w1, hw1⟩ : ∃ w1, w1 = (((w.alloc (.cells #[.int .i64 sz] 89)).alloc (.cells #[.int .i64 gn, .int .i64 gc, .slice ga gl gk] 144)).alloc (.cells #[.int .i64 0, .int .i64 0, .slice none 0 0] 144)).alloc (.cells (resC 0 0 0 none 0 0) 72) := ⟨_, rfl⟩
  obtain ⟨N, hN⟩ : ∃ N, N = w.heap.size := ⟨_, rfl⟩
  have HNN : Hid (N = w.heap.size) := hN
  have HK1 : Hid (Kept No w w1) := by rw [hw1]; exact ((((Kept.refl No w).alloc _).alloc _).alloc _).alloc _
  have e1 : (w.alloc (.cells #[.int .i64 sz] 89)).heap.size = w.heap.size + 1 := by simp
  have e2 : ((w.alloc (.cells #[.int .i64 sz] 89)).alloc (.cells #[.int .i64 gn, .int .i64 gc, .slice ga gl gk] 144)).heap.size = w.heap.size + 1 + 1 := by simp
  have e3 : (((w.alloc (.cells #[.int .i64 sz] 89)).alloc (.cells #[.int .i64 gn, .int .i64 gc, .slice ga gl gk] 144)).alloc (.cells #[.int .i64 0, .int .i64 0, .slice none 0 0] 144)).heap.size = w.heap.size + 1 + 1 + 1 := by simp
  have HX0 : Hid (Box w1 N 89 #[.int .i64 sz]) := by
    have h := Box.new w 89 #[.int .i64 sz]
    rw [hw1, hN]
    exact ((h.alloc _).alloc _).alloc _
  have HX1 : Hid (Box w1 (N + 1) 144 #[.int .i64 gn, .int .i64 gc, .slice ga gl gk]) := by
    have h := Box.new (w.alloc (.cells #[.int .i64 sz] 89)) 144 #[.int .i64 gn, .int .i64 gc, .slice ga gl gk]
    rw [e1] at h
    rw [hw1, hN]
    exact (h.alloc _).alloc _
  have HX2 : Hid (Box w1 (N + 1 + 1) 144 #[.int .i64 0, .int .i64 0, .slice none 0 0]) := by
    have h := Box.new ((w.alloc (.cells #[.int .i64 sz] 89)).alloc (.cells #[.int .i64 gn, .int .i64 gc, .slice ga gl gk] 144)) 144 #[.int .i64 0, .int .i64 0, .slice none 0 0]
    rw [e2] at h
    rw [hw1, hN]
    exact h.alloc _
  have HX3 : Hid (Box w1 (N + 1 + 1 + 1) 72 (resC 0 0 0 none 0 0)) := by
    have h := Box.new (((w.alloc (.cells #[.int .i64 sz] 89)).alloc (.cells #[.int .i64 gn, .int .i64 gc, .slice ga gl gk] 144)).alloc (.cells #[.int .i64 0, .int .i64 0, .slice none 0 0] 144)) 72 (resC 0 0 0 none 0 0)
    rw [e3] at h
    rw [hw1, hN]
    exact h
  clear e1 e2 e3
  go_enter Try.func97, Try.ntmps97
  go_upto_region 1 with fail
  have hRZ : resC 0 0 0 none 0 0 = #[.int .i64 0, .string ⟨#[]⟩, .int .i64 0, .int .i64 0, .int .i64 0, .slice none 0 0, .slice none 0 0, .int .i64 0, .int .i64 0, .int .i64 0, .int .i64 0] := rfl
  rw [← hRZ, ← hw1, ← hN]
  clear hw1 hN hRZ
  obtain ⟨x0, x1, x2⟩ : w1.cell? ⟨N + 1, 0, none⟩ = some (.int .i64 gn) ∧ w1.cell? ⟨N + 1, 1, none⟩ = some (.int .i64 gc) ∧ w1.cell? ⟨N + 1, 2, none⟩ = some (.slice ga gl gk) := ⟨HX1.out.cell 0, HX1.out.cell 1, HX1.out.cell 2⟩
  have a0 := HX2.out.cell 0
  have f0 := HX2.out.frozen 0
  have a1 := HX2.out.cell 1
  have f1 := HX2.out.frozen 1
  have a2 := HX2.out.cell 2
  have f2 := HX2.out.frozen 2
  simp only [List.getElem?_toArray, List.getElem?_cons_zero, List.getElem?_cons_succ] at a0 a1 a2
  have hdr : ∀ (w : World) (p : Addr), w.drew.cell? p = w.cell? p := fun _ _ => rfl
  have hcr := cell_setRow
  have hfr := frozen_setRow
  have n1 : N + 1 ≠ N + 1 + 1 := by omega
  have n2 : N + 1 + 1 ≠ N + 1 := by omega
  have n3 : N + 1 ≠ N + 1 + 1 + 1 := by omega
  have n4 : N + 1 + 1 + 1 ≠ N + 1 := by omega
  have n5 : N + 1 + 1 ≠ N + 1 + 1 + 1 := by omega
  have n6 : N + 1 + 1 + 1 ≠ N + 1 + 1 := by omega
  have bC : Box (((w1.setCell ⟨N + 1 + 1, 0, none⟩ (.int .i64 gn)).setCell ⟨N + 1 + 1, 1, none⟩ (.int .i64 gc)).setCell ⟨N + 1 + 1, 2, none⟩ (.slice ga gl gk)) (N + 1 + 1 + 1) 72 (resC 0 0 0 none 0 0) := HX3.out.kept (set3 HX2.out (.int .i64 gn) (.int .i64 gc) (.slice ga gl gk)).2 (fun e => by have : N + 1 + 1 + 1 = N + 1 + 1 := e; omega)
  have hsA : Sem.run Try.prog (storeR ⟨N + 1 + 1 + 1, 0, none⟩ (.agg #[.int .i64 0, .string ⟨#[]⟩, .int .i64 0, .int .i64 0, .int .i64 0, .slice none 0 0, .slice ga gl gk, .int .i64 0, .int .i64 gn, .int .i64 gc, .int .i64 0])) w1.drew = .ok () (w1.drew.setRow (N + 1 + 1 + 1) #[.int .i64 0, .string ⟨#[]⟩, .int .i64 0, .int .i64 0, .int .i64 0, .slice none 0 0, .slice ga gl gk, .int .i64 0, .int .i64 gn, .int .i64 gc, .int .i64 0]) := run_storeR _ _ _ HX3.out rfl (resC_one 0 gn gc ga gl gk)
  have hsB : Sem.run Try.prog (storeR ⟨N + 1 + 1 + 1, 0, none⟩ (.agg #[.int .i64 0, .string ⟨#[]⟩, .int .i64 0, .int .i64 0, .int .i64 0, .slice none 0 0, .slice ga gl gk, .int .i64 0, .int .i64 gn, .int .i64 gc, .int .i64 0])) (((w1.setCell ⟨N + 1 + 1, 0, none⟩ (.int .i64 gn)).setCell ⟨N + 1 + 1, 1, none⟩ (.int .i64 gc)).setCell ⟨N + 1 + 1, 2, none⟩ (.slice ga gl gk)).drew = .ok () ((((w1.setCell ⟨N + 1 + 1, 0, none⟩ (.int .i64 gn)).setCell ⟨N + 1 + 1, 1, none⟩ (.int .i64 gc)).setCell ⟨N + 1 + 1, 2, none⟩ (.slice ga gl gk)).drew.setRow (N + 1 + 1 + 1) #[.int .i64 0, .string ⟨#[]⟩, .int .i64 0, .int .i64 0, .int .i64 0, .slice none 0 0, .slice ga gl gk, .int .i64 0, .int .i64 gn, .int .i64 gc, .int .i64 0]) := run_storeR _ _ _ bC rfl (resC_one 0 gn gc ga gl gk)
  go_region_held3 (fun w' => w'.cell? ⟨N + 1, 0, none⟩ = some (.int .i64 gn) ∧ w'.cell? ⟨N + 1, 1, none⟩ = some (.int .i64 gc) ∧ w'.cell? ⟨N + 1, 2, none⟩ = some (.slice ga gl gk)) (go_keep) (fail)
  have HF2 : Hid (Box ((((w1.setCell ⟨N + 1 + 1, 0, none⟩ (.int .i64 gn)).setCell ⟨N + 1 + 1, 1, none⟩ (.int .i64 gc)).setCell ⟨N + 1 + 1, 2, none⟩ (.slice ga gl gk)).drew.setRow (N + 1 + 1 + 1) #[.int .i64 0, .string ⟨#[]⟩, .int .i64 0, .int .i64 0, .int .i64 0, .slice none 0 0, .slice ga gl gk, .int .i64 0, .int .i64 gn, .int .i64 gc, .int .i64 0]) (N + 1 + 1) 144 #[.int .i64 gn, .int .i64 gc, .slice ga gl gk]) := ((set3 HX2.out (.int .i64 gn) (.int .i64 gc) (.slice ga gl gk)).1.kept (Kept.refl No _).drew (fun e => e)).kept (Kept.setRow _ _ _) (fun e => by have : N + 1 + 1 = N + 1 + 1 + 1 := e; omega)
  have HF3 : Hid (Box ((((w1.setCell ⟨N + 1 + 1, 0, none⟩ (.int .i64 gn)).setCell ⟨N + 1 + 1, 1, none⟩ (.int .i64 gc)).setCell ⟨N + 1 + 1, 2, none⟩ (.slice ga gl gk)).drew.setRow (N + 1 + 1 + 1) #[.int .i64 0, .string ⟨#[]⟩, .int .i64 0, .int .i64 0, .int .i64 0, .slice none 0 0, .slice ga gl gk, .int .i64 0, .int .i64 gn, .int .i64 gc, .int .i64 0]) (N + 1 + 1 + 1) 72 #[.int .i64 0, .string ⟨#[]⟩, .int .i64 0, .int .i64 0, .int .i64 0, .slice none 0 0, .slice ga gl gk, .int .i64 0, .int .i64 gn, .int .i64 gc, .int .i64 0]) := Box.setRow (old := resC 0 0 0 none 0 0) bC _
  have HKf : Hid (Kept No w ((((w1.setCell ⟨N + 1 + 1, 0, none⟩ (.int .i64 gn)).setCell ⟨N + 1 + 1, 1, none⟩ (.int .i64 gc)).setCell ⟨N + 1 + 1, 2, none⟩ (.slice ga gl gk)).drew.setRow (N + 1 + 1 + 1) #[.int .i64 0, .string ⟨#[]⟩, .int .i64 0, .int .i64 0, .int .i64 0, .slice none 0 0, .slice ga gl gk, .int .i64 0, .int .i64 gn, .int .i64 gc, .int .i64 0])) := by
    refine ((HK1.out.trans (set3 HX2.out (.int .i64 gn) (.int .i64 gc) (.slice ga gl gk)).2 (fun _ e => e) (fun i hi e => ?_)).drew).trans (Kept.setRow _ _ _) (fun _ e => e) (fun i hi e => ?_)
    · have : i = N + 1 + 1 := e
      have := HNN.out
      omega
    · have : i = N + 1 + 1 + 1 := e
      have := HNN.out
      omega
  generalize (((w1.setCell ⟨N + 1 + 1, 0, none⟩ (.int .i64 gn)).setCell ⟨N + 1 + 1, 1, none⟩ (.int .i64 gc)).setCell ⟨N + 1 + 1, 2, none⟩ (.slice ga gl gk)).drew.setRow (N + 1 + 1 + 1) #[.int .i64 0, .string ⟨#[]⟩, .int .i64 0, .int .i64 0, .int .i64 0, .slice none 0 0, .slice ga gl gk, .int .i64 0, .int .i64 gn, .int .i64 gc, .int .i64 0] = wf at HF2 HF3 HKf ⊢
  go_wp2
  refine bodyPost_ret (results_row2_tmp (by rfl) _ _ (N + 1 + 1) (N + 1 + 1 + 1) #[.int .i64 gn, .int .i64 gc, .slice ga gl gk] #[.int .i64 0, .string ⟨#[]⟩, .int .i64 0, .int .i64 0, .int .i64 0, .slice none 0 0, .slice ga gl gk, .int .i64 0, .int .i64 gn, .int .i64 gc, .int .i64 0] (by rfl) (by rfl) (load57_run HF2.out rfl) (load90_run HF3.out rfl)) rfl ?_
  exact ⟨rfl, HKf.out⟩
end

section
attribute [local go_sem ↓] storeR_eq
set_option maxRecDepth 100000 in
set_option maxHeartbeats 4000000 in
theorem settleW_any (cl : Int) (da : Option Addr) (dl dc : Nat) (gn gc : Int) (ga : Option Addr) (gl gk : Nat) (al : Bool) (w : World) (hg : gn < 1099511627776) (hg0 : -9223372036854775808 ≤ gn) :
    Calls Try.prog 96 #[.agg #[.int .i64 cl, .slice da dl dc], .agg #[.int .i64 gn, .int .i64 gc, .slice ga gl gk], .bool al] w (SettleOut w (gn + 1) cl da dl dc 0 (gn + 1) cl none 0 0 false) := by
  obtain ⟨w1, hw1⟩ : ∃ w1, w1 = (((w.alloc (.cells #[.int .i64 cl, .slice da dl dc] 87)).alloc (.cells #[.int .i64 gn, .int .i64 gc, .slice ga gl gk] 144)).alloc (.cells #[.int .i64 0, .int .i64 0, .slice none 0 0] 144)).alloc (.cells (resC 0 0 0 none 0 0) 72) := ⟨_, rfl⟩
  obtain ⟨N, hN⟩ : ∃ N, N = w.heap.size := ⟨_, rfl⟩
  have HNN : Hid (N = w.heap.size) := hN
  have HK1 : Hid (Kept No w w1) := by rw [hw1]; exact ((((Kept.refl No w).alloc _).alloc _).alloc _).alloc _
  have e1 : (w.alloc (.cells #[.int .i64 cl, .slice da dl dc] 87)).heap.size = w.heap.size + 1 := by simp
  have e2 : ((w.alloc (.cells #[.int .i64 cl, .slice da dl dc] 87)).alloc (.cells #[.int .i64 gn, .int .i64 gc, .slice ga gl gk] 144)).heap.size = w.heap.size + 1 + 1 := by simp
  have e3 : (((w.alloc (.cells #[.int .i64 cl, .slice da dl dc] 87)).alloc (.cells #[.int .i64 gn, .int .i64 gc, .slice ga gl gk] 144)).alloc (.cells #[.int .i64 0, .int .i64 0, .slice none 0 0] 144)).heap.size = w.heap.size + 1 + 1 + 1 := by simp
  have HX0 : Hid (Box w1 N 87 #[.int .i64 cl, .slice da dl dc]) := by
    have h := Box.new w 87 #[.int .i64 cl, .slice da dl dc]
    rw [hw1, hN]
    exact ((h.alloc _).alloc _).alloc _
  have HX1 : Hid (Box w1 (N + 1) 144 #[.int .i64 gn, .int .i64 gc, .slice ga gl gk]) := by
    have h := Box.new (w.alloc (.cells #[.int .i64 cl, .slice da dl dc] 87)) 144 #[.int .i64 gn, .int .i64 gc, .slice ga gl gk]
    rw [e1] at h
    rw [hw1, hN]
    exact (h.alloc _).alloc _
  have HX2 : Hid (Box w1 (N + 1 + 1) 144 #[.int .i64 0, .int .i64 0, .slice none 0 0]) := by
    have h := Box.new ((w.alloc (.cells #[.int .i64 cl, .slice da dl dc] 87)).alloc (.cells #[.int .i64 gn, .int .i64 gc, .slice ga gl gk] 144)) 144 #[.int .i64 0, .int .i64 0, .slice none 0 0]
    rw [e2] at h
    rw [hw1, hN]
    exact h.alloc _
  have HX3 : Hid (Box w1 (N + 1 + 1 + 1) 72 (resC 0 0 0 none 0 0)) := by
    have h := Box.new (((w.alloc (.cells #[.int .i64 cl, .slice da dl dc] 87)).alloc (.cells #[.int .i64 gn, .int .i64 gc, .slice ga gl gk] 144)).alloc (.cells #[.int .i64 0, .int .i64 0, .slice none 0 0] 144)) 72 (resC 0 0 0 none 0 0)
    rw [e3] at h
    rw [hw1, hN]
    exact h
  clear e1 e2 e3
  have hge : ¬ (1099511627776 ≤ gn) := by omega
  have hge2 : ¬ (gn ≥ 1099511627776) := by omega
  have hRZ : resC 0 0 0 none 0 0 = #[.int .i64 0, .string ⟨#[]⟩, .int .i64 0, .int .i64 0, .int .i64 0, .slice none 0 0, .slice none 0 0, .int .i64 0, .int .i64 0, .int .i64 0, .int .i64 0] := rfl
  obtain ⟨w2, hw2⟩ : ∃ w2, w2 = w1.alloc (.cells #[.int .i64 (gn + 1), .int .i64 cl] 41) := ⟨_, rfl⟩
  have HK2 : Hid (Kept No w w2) := by rw [hw2]; exact HK1.out.alloc _
  have HY0 : Hid (Box w2 N 87 #[.int .i64 cl, .slice da dl dc]) := by rw [hw2]; exact HX0.out.alloc _
  have HY2 : Hid (Box w2 (N + 1 + 1) 144 #[.int .i64 0, .int .i64 0, .slice none 0 0]) := by rw [hw2]; exact HX2.out.alloc _
  have HY3 : Hid (Box w2 (N + 1 + 1 + 1) 72 (resC 0 0 0 none 0 0)) := by rw [hw2]; exact HX3.out.alloc _
  have HY4 : Hid (Box w2 (N + 1 + 1 + 1 + 1) 41 #[.int .i64 (gn + 1), .int .i64 cl]) := by
    have h := Box.new w1 41 #[.int .i64 (gn + 1), .int .i64 cl]
    have e : w1.heap.size = N + 1 + 1 + 1 + 1 := by rw [hw1, hN]; simp
    rw [e] at h
    rw [hw2]
    exact h
  go_enter Try.func96, Try.ntmps96
  go_upto_region 4 with fail
  rw [← hRZ, ← hw1, ← hw2, ← hN]
  clear hw1 hw2 hN hRZ
  have x0 : w2.cell? ⟨N, 1, none⟩ = some (.slice da dl dc) := HY0.out.cell 1
  have x1 : w2.cell? ⟨N + 1 + 1 + 1 + 1, 0, none⟩ = some (.int .i64 (gn + 1)) := HY4.out.cell 0
  have x2 : w2.cell? ⟨N + 1 + 1 + 1 + 1, 1, none⟩ = some (.int .i64 cl) := HY4.out.cell 1
  have a0 := HY2.out.cell 0
  have f0 := HY2.out.frozen 0
  have a1 := HY2.out.cell 1
  have f1 := HY2.out.frozen 1
  have a2 := HY2.out.cell 2
  have f2 := HY2.out.frozen 2
  simp only [List.getElem?_toArray, List.getElem?_cons_zero, List.getElem?_cons_succ] at a0 a1 a2
  have hdr : ∀ (w : World) (p : Addr), w.drew.cell? p = w.cell? p := fun _ _ => rfl
  have hcr := cell_setRow
  have n1 : N ≠ N + 1 + 1 := by omega
  have n2 : N + 1 + 1 ≠ N := by omega
  have n3 : N ≠ N + 1 + 1 + 1 := by omega
  have n4 : N + 1 + 1 + 1 ≠ N := by omega
  have n5 : N + 1 + 1 + 1 + 1 ≠ N + 1 + 1 := by omega
  have n6 : N + 1 + 1 ≠ N + 1 + 1 + 1 + 1 := by omega
  have n7 : N + 1 + 1 + 1 + 1 ≠ N + 1 + 1 + 1 := by omega
  have n8 : N + 1 + 1 + 1 ≠ N + 1 + 1 + 1 + 1 := by omega
  have bC : Box (((w2.setCell ⟨N + 1 + 1, 0, none⟩ (.int .i64 (gn + 1))).setCell ⟨N + 1 + 1, 1, none⟩ (.int .i64 cl)).setCell ⟨N + 1 + 1, 2, none⟩ (.slice da dl dc)) (N + 1 + 1 + 1) 72 (resC 0 0 0 none 0 0) := HY3.out.kept (set3 HY2.out (.int .i64 (gn + 1)) (.int .i64 cl) (.slice da dl dc)).2 (fun e => by have : N + 1 + 1 + 1 = N + 1 + 1 := e; omega)
  have hsB : Sem.run Try.prog (storeR ⟨N + 1 + 1 + 1, 0, none⟩ (.agg #[.int .i64 0, .string ⟨#[]⟩, .int .i64 0, .int .i64 0, .int .i64 0, .slice none 0 0, .slice none 0 0, .int .i64 0, .int .i64 (gn + 1), .int .i64 cl, .int .i64 0])) (((w2.setCell ⟨N + 1 + 1, 0, none⟩ (.int .i64 (gn + 1))).setCell ⟨N + 1 + 1, 1, none⟩ (.int .i64 cl)).setCell ⟨N + 1 + 1, 2, none⟩ (.slice da dl dc)).drew = .ok () ((((w2.setCell ⟨N + 1 + 1, 0, none⟩ (.int .i64 (gn + 1))).setCell ⟨N + 1 + 1, 1, none⟩ (.int .i64 cl)).setCell ⟨N + 1 + 1, 2, none⟩ (.slice da dl dc)).drew.setRow (N + 1 + 1 + 1) #[.int .i64 0, .string ⟨#[]⟩, .int .i64 0, .int .i64 0, .int .i64 0, .slice none 0 0, .slice none 0 0, .int .i64 0, .int .i64 (gn + 1), .int .i64 cl, .int .i64 0]) := run_storeR _ _ _ bC rfl (resC_one 0 (gn + 1) cl none 0 0)
  go_region_held3 (fun w' => w'.cell? ⟨N, 1, none⟩ = some (.slice da dl dc) ∧ w'.cell? ⟨N + 1 + 1 + 1 + 1, 0, none⟩ = some (.int .i64 (gn + 1)) ∧ w'.cell? ⟨N + 1 + 1 + 1 + 1, 1, none⟩ = some (.int .i64 cl)) (go_keep) (fail)
  have HF2 : Hid (Box ((((w2.setCell ⟨N + 1 + 1, 0, none⟩ (.int .i64 (gn + 1))).setCell ⟨N + 1 + 1, 1, none⟩ (.int .i64 cl)).setCell ⟨N + 1 + 1, 2, none⟩ (.slice da dl dc)).drew.setRow (N + 1 + 1 + 1) #[.int .i64 0, .string ⟨#[]⟩, .int .i64 0, .int .i64 0, .int .i64 0, .slice none 0 0, .slice none 0 0, .int .i64 0, .int .i64 (gn + 1), .int .i64 cl, .int .i64 0]) (N + 1 + 1) 144 #[.int .i64 (gn + 1), .int .i64 cl, .slice da dl dc]) := ((set3 HY2.out (.int .i64 (gn + 1)) (.int .i64 cl) (.slice da dl dc)).1.kept (Kept.refl No _).drew (fun e => e)).kept (Kept.setRow _ _ _) (fun e => by have : N + 1 + 1 = N + 1 + 1 + 1 := e; omega)
  have HF3 : Hid (Box ((((w2.setCell ⟨N + 1 + 1, 0, none⟩ (.int .i64 (gn + 1))).setCell ⟨N + 1 + 1, 1, none⟩ (.int .i64 cl)).setCell ⟨N + 1 + 1, 2, none⟩ (.slice da dl dc)).drew.setRow (N + 1 + 1 + 1) #[.int .i64 0, .string ⟨#[]⟩, .int .i64 0, .int .i64 0, .int .i64 0, .slice none 0 0, .slice none 0 0, .int .i64 0, .int .i64 (gn + 1), .int .i64 cl, .int .i64 0]) (N + 1 + 1 + 1) 72 #[.int .i64 0, .string ⟨#[]⟩, .int .i64 0, .int .i64 0, .int .i64 0, .slice none 0 0, .slice none 0 0, .int .i64 0, .int .i64 (gn + 1), .int .i64 cl, .int .i64 0]) := Box.setRow (old := resC 0 0 0 none 0 0) bC _
  have HKf : Hid (Kept No w ((((w2.setCell ⟨N + 1 + 1, 0, none⟩ (.int .i64 (gn + 1))).setCell ⟨N + 1 + 1, 1, none⟩ (.int .i64 cl)).setCell ⟨N + 1 + 1, 2, none⟩ (.slice da dl dc)).drew.setRow (N + 1 + 1 + 1) #[.int .i64 0, .string ⟨#[]⟩, .int .i64 0, .int .i64 0, .int .i64 0, .slice none 0 0, .slice none 0 0, .int .i64 0, .int .i64 (gn + 1), .int .i64 cl, .int .i64 0])) := by
    refine ((HK2.out.trans (set3 HY2.out (.int .i64 (gn + 1)) (.int .i64 cl) (.slice da dl dc)).2 (fun _ e => e) (fun i hi e => ?_)).drew).trans (Kept.setRow _ _ _) (fun _ e => e) (fun i hi e => ?_)
    · have : i = N + 1 + 1 := e
      have := HNN.out
      omega
    · have : i = N + 1 + 1 + 1 := e
      have := HNN.out
      omega
  generalize (((w2.setCell ⟨N + 1 + 1, 0, none⟩ (.int .i64 (gn + 1))).setCell ⟨N + 1 + 1, 1, none⟩ (.int .i64 cl)).setCell ⟨N + 1 + 1, 2, none⟩ (.slice da dl dc)).drew.setRow (N + 1 + 1 + 1) #[.int .i64 0, .string ⟨#[]⟩, .int .i64 0, .int .i64 0, .int .i64 0, .slice none 0 0, .slice none 0 0, .int .i64 0, .int .i64 (gn + 1), .int .i64 cl, .int .i64 0] = wf at HF2 HF3 HKf ⊢
  go_wp2
  refine bodyPost_ret (results_row2_tmp (by rfl) _ _ (N + 1 + 1) (N + 1 + 1 + 1) #[.int .i64 (gn + 1), .int .i64 cl, .slice da dl dc] #[.int .i64 0, .string ⟨#[]⟩, .int .i64 0, .int .i64 0, .int .i64 0, .slice none 0 0, .slice none 0 0, .int .i64 0, .int .i64 (gn + 1), .int .i64 cl, .int .i64 0] (by rfl) (by rfl) (load57_run HF2.out rfl) (load90_run HF3.out rfl)) rfl ?_
  exact ⟨rfl, HKf.out⟩

end

set_option maxRecDepth 100000 in
set_option maxHeartbeats 4000000 in
theorem settleX_any (cl : Int) (da : Option Addr) (dl dc : Nat) (gn gc : Int) (ga : Option Addr) (gl gk : Nat) (al : Bool) (w : World) (hg : 1099511627776 ≤ gn) :
    Calls Try.prog 96 #[.agg #[.int .i64 cl, .slice da dl dc], .agg #[.int .i64 gn, .int .i64 gc, .slice ga gl gk], .bool al] w (SettleOut w 0 0 none 0 0 4 0 0 none 0 0 true) := by
  obtain ⟨w1, hw1⟩ : ∃ w1, w1 = (((w.alloc (.cells #[.int .i64 cl, .slice da dl dc] 87)).alloc (.cells #[.int .i64 gn, .int .i64 gc, .slice ga gl gk] 144)).alloc (.cells #[.int .i64 0, .int .i64 0, .slice none 0 0] 144)).alloc (.cells (resC 0 0 0 none 0 0) 72) := ⟨_, rfl⟩
  obtain ⟨N, hN⟩ : ∃ N, N = w.heap.size := ⟨_, rfl⟩
  have HNN : Hid (N = w.heap.size) := hN
  have HK1 : Hid (Kept No w w1) := by rw [hw1]; exact ((((Kept.refl No w).alloc _).alloc _).alloc _).alloc _
  have e1 : (w.alloc (.cells #[.int .i64 cl, .slice da dl dc] 87)).heap.size = w.heap.size + 1 := by simp
  have e2 : ((w.alloc (.cells #[.int .i64 cl, .slice da dl dc] 87)).alloc (.cells #[.int .i64 gn, .int .i64 gc, .slice ga gl gk] 144)).heap.size = w.heap.size + 1 + 1 := by simp
  have e3 : (((w.alloc (.cells #[.int .i64 cl, .slice da dl dc] 87)).alloc (.cells #[.int .i64 gn, .int .i64 gc, .slice ga gl gk] 144)).alloc (.cells #[.int .i64 0, .int .i64 0, .slice none 0 0] 144)).heap.size = w.heap.size + 1 + 1 + 1 := by simp
  have HX0 : Hid (Box w1 N 87 #[.int .i64 cl, .slice da dl dc]) := by
    have h := Box.new w 87 #[.int .i64 cl, .slice da dl dc]
    rw [hw1, hN]
    exact ((h.alloc _).alloc _).alloc _
  have HX1 : Hid (Box w1 (N + 1) 144 #[.int .i64 gn, .int .i64 gc, .slice ga gl gk]) := by
    have h := Box.new (w.alloc (.cells #[.int .i64 cl, .slice da dl dc] 87)) 144 #[.int .i64 gn, .int .i64 gc, .slice ga gl gk]
    rw [e1] at h
    rw [hw1, hN]
    exact (h.alloc _).alloc _
  have HX2 : Hid (Box w1 (N + 1 + 1) 144 #[.int .i64 0, .int .i64 0, .slice none 0 0]) := by
    have h := Box.new ((w.alloc (.cells #[.int .i64 cl, .slice da dl dc] 87)).alloc (.cells #[.int .i64 gn, .int .i64 gc, .slice ga gl gk] 144)) 144 #[.int .i64 0, .int .i64 0, .slice none 0 0]
    rw [e2] at h
    rw [hw1, hN]
    exact h.alloc _
  have HX3 : Hid (Box w1 (N + 1 + 1 + 1) 72 (resC 0 0 0 none 0 0)) := by
    have h := Box.new (((w.alloc (.cells #[.int .i64 cl, .slice da dl dc] 87)).alloc (.cells #[.int .i64 gn, .int .i64 gc, .slice ga gl gk] 144)).alloc (.cells #[.int .i64 0, .int .i64 0, .slice none 0 0] 144)) 72 (resC 0 0 0 none 0 0)
    rw [e3] at h
    rw [hw1, hN]
    exact h
  clear e1 e2 e3
  have hge2 : gn ≥ 1099511627776 := by omega
  have hRZ : resC 0 0 0 none 0 0 = #[.int .i64 0, .string ⟨#[]⟩, .int .i64 0, .int .i64 0, .int .i64 0, .slice none 0 0, .slice none 0 0, .int .i64 0, .int .i64 0, .int .i64 0, .int .i64 0] := rfl
  clear HX0 HX1 HX2 HX3 HK1 hw1 HNN
  clear hN hRZ
  have H2 : Hid (Box ((((w.alloc (.cells #[.int .i64 cl, .slice da dl dc] 87)).alloc (.cells #[.int .i64 gn, .int .i64 gc, .slice ga gl gk] 144)).alloc (.cells #[.int .i64 0, .int .i64 0, .slice none 0 0] 144)).alloc (.cells (resC 4 0 0 none 0 0) 72)) (w.heap.size + 1 + 1) 144 #[.int .i64 0, .int .i64 0, .slice none 0 0]) := by
    have h := Box.new ((w.alloc (.cells #[.int .i64 cl, .slice da dl dc] 87)).alloc (.cells #[.int .i64 gn, .int .i64 gc, .slice ga gl gk] 144)) 144 #[.int .i64 0, .int .i64 0, .slice none 0 0]
    have e : ((w.alloc (.cells #[.int .i64 cl, .slice da dl dc] 87)).alloc (.cells #[.int .i64 gn, .int .i64 gc, .slice ga gl gk] 144)).heap.size = w.heap.size + 1 + 1 := by simp
    rw [e] at h
    exact h.alloc _
  have H3 : Hid (Box ((((w.alloc (.cells #[.int .i64 cl, .slice da dl dc] 87)).alloc (.cells #[.int .i64 gn, .int .i64 gc, .slice ga gl gk] 144)).alloc (.cells #[.int .i64 0, .int .i64 0, .slice none 0 0] 144)).alloc (.cells (resC 4 0 0 none 0 0) 72)) (w.heap.size + 1 + 1 + 1) 72 (resC 4 0 0 none 0 0)) := by
    have h := Box.new (((w.alloc (.cells #[.int .i64 cl, .slice da dl dc] 87)).alloc (.cells #[.int .i64 gn, .int .i64 gc, .slice ga gl gk] 144)).alloc (.cells #[.int .i64 0, .int .i64 0, .slice none 0 0] 144)) 72 (resC 4 0 0 none 0 0)
    have e : (((w.alloc (.cells #[.int .i64 cl, .slice da dl dc] 87)).alloc (.cells #[.int .i64 gn, .int .i64 gc, .slice ga gl gk] 144)).alloc (.cells #[.int .i64 0, .int .i64 0, .slice none 0 0] 144)).heap.size = w.heap.size + 1 + 1 + 1 := by simp
    rw [e] at h
    exact h
  go_enter Try.func96, Try.ntmps96
  go_wp2
  refine bodyPost_ret (results_row2_tmp (by rfl) _ _ (w.heap.size + 1 + 1) (w.heap.size + 1 + 1 + 1) #[.int .i64 0, .int .i64 0, .slice none 0 0] (resC 4 0 0 none 0 0) (by rfl) (by rfl) (load57_run H2.out rfl) (load90_run H3.out rfl)) rfl ?_
  exact ⟨rfl, ((((Kept.refl No w).alloc _).alloc _).alloc _).alloc _⟩

end Go.Proofs.Ythnecaejhnojfaa
namespace Go.Proofs.Ythnecaejhnojfaa
open Go.RowKit
set_option linter.unusedVariables false
set_option linter.unusedSimpArgs false

theorem Try.und204 : Try.prog.underlying 170 = some (.slice 172) := by kernel_rfl
theorem Try.info206 : (Try.prog.info? 172).map (fun i => (i.zero, i.size, i.bytes)) = some (some (.agg #[.int .i64 0, .int .i64 0, .int .i64 0, .slice none 0 0]), 4, 48) := by kernel_rfl
/-- Pairs as cells. -/
def prs : List (Int × Bk) → List Value
  | [] => []
  | p :: l => .int .i64 p.1 :: .int .i64 p.2.n :: .int .i64 p.2.c :: .slice p.2.a p.2.l p.2.k :: prs l
theorem prs_app (a b : List (Int × Bk)) : prs (a ++ b) = prs a ++ prs b := by
  induction a with
  | nil => rfl
  | cons p l ih => simp [prs, ih]
theorem prs_len (a : List (Int × Bk)) : (prs a).length = a.length * 4 := by
  induction a with
  | nil => rfl
  | cons p l ih => simp [prs, ih]; omega
instance : Inhabited Bk := ⟨⟨0, 0, none, 0, 0⟩⟩
theorem prs_at : ∀ (a : List (Int × Bk)) (i : Nat) (p : Int × Bk), a[i]? = some p → (prs a)[i * 4]? = some (.int .i64 p.1) ∧ (prs a)[i * 4 + 1]? = some (.int .i64 p.2.n) ∧ (prs a)[i * 4 + 2]? = some (.int .i64 p.2.c) ∧ (prs a)[i * 4 + 3]? = some (.slice p.2.a p.2.l p.2.k)
  | q :: l, 0, p, h => by simp at h; subst h; exact ⟨rfl, rfl, rfl, rfl⟩
  | q :: l, i + 1, p, h => by
    have := prs_at l i p (by simpa using h)
    have e : (i + 1) * 4 = i * 4 + 1 + 1 + 1 + 1 := by omega
    rw [e]
    simpa [prs] using this

def GotOut (w : World) (l : List (Int × Bk)) (e : Ending) (w' : World) : Prop :=
  ∃ a cap, e = .returned (.func (.func 92) #[] #[.pointer (some ⟨w.heap.size, 0, none⟩)]) ∧ Box w' w.heap.size 170 #[.slice a l.length cap] ∧ Own 172 4 w' w.heap.size a cap l.length (prs l) ∧ Kept No w w'

set_option maxRecDepth 100000 in
set_option maxHeartbeats 2000000 in
theorem gotten_anyB (t b cap : Nat) (a : Option Addr) (x : TS Bk) (w : World) (h : Tal 149 ansB w t b a cap x) (hc : cnt x ≤ 2000000000000) :
    Calls Try.prog 86 #[.pointer (some ⟨t, 0, none⟩)] w (GotOut w (gotL x)) := by
  have HT : Hid (Tal 149 ansB w t b a cap x) := h
  have HC : Hid (cnt x ≤ 2000000000000) := hc
  have hlen := h.len
  obtain ⟨w0, hw0⟩ : ∃ w0, w0 = w.alloc (.cells #[.slice none 0 0] 170) := ⟨_, rfl⟩
  have HB0 : Hid (Box w0 w.heap.size 170 #[.slice none 0 0]) := by rw [hw0]; exact Box.new _ _ _
  have HK0 : Hid (Kept No w w0) := by rw [hw0]; exact (Kept.refl No w).alloc _
  have c0 := (h.no HK0.out).cells.1
  clear h hc
  obtain ⟨n, hn⟩ : ∃ n, n = x.g.length := ⟨_, rfl⟩
  have HN : Hid (x.g.length = n) := hn.symm
  rw [← hn] at c0 hlen
  clear hn
  rw [hw0] at c0
  go_enter Try.func86, Try.ntmps86
  go_wp2
  rw [← hw0]
  clear hw0 c0
  go_loopw [12] (fun vi wr => ∃ (k : Nat), vi = .int .i64 k ∧ k ≤ n ∧ Hid (∃ (a' : Option Addr) (cap' : Nat), Box wr w.heap.size 170 #[.slice a' (gotK x k).length cap'] ∧ Own 172 4 wr w.heap.size a' cap' (gotK x k).length (prs (gotK x k))) ∧ Hid (Kept No w wr)) (fun i _ => n - (intOf i).toNat)
  case atStart => exact ⟨0, by go_num, by omega, ⟨none, 0, by simpa [gotK] using HB0.out, by simpa [gotK, prs] using Own.nil _ _ _ _⟩, HK0⟩
  case round =>
    obtain ⟨k, rfl, hk, HI, HK⟩ := hrel
    clear HB0 HK0
    obtain ⟨a', cap', hB, hO⟩ := HI.out
    have HB : Hid (Box wr w.heap.size 170 #[.slice a' (gotK x k).length cap']) := hB
    have HO : Hid (Own 172 4 wr w.heap.size a' cap' (gotK x k).length (prs (gotK x k))) := hO
    clear hB hO HI
    by_cases hlt : k < n
    · have hlt' : (k : Int) < (n : Int) := by omega
      have HT1 : Hid (Tal 149 ansB wr t b a cap x) := HT.out.no HK.out
      have d3 := HT1.out.cells.2.2.2
      have HJL : Hid (k < x.g.length) := by show _ < _; rw [HN.out]; exact hlt
      obtain ⟨bb, off, rfl, hcell⟩ := HT1.out.nums k HJL.out
      have HTk : Hid (x.g.take (k + 1) = x.g.take k ++ [x.g[k]?.getD 0]) := take_snoc HJL.out
      have HMem : Hid (x.g[k]?.getD 0 ∈ x.g) := mem_at HJL.out
      generalize x.g[k]?.getD 0 = z at hcell HTk HMem
      cases hv : x.v z with
      | none =>
        have HL : Hid _ := look1_noneB HMem.out hv
        have HU : Hid (gotK x (k + 1) = gotK x k) := gotK_none HTk.out hv
        clear hv HTk
        go_wp2_with (refine wp_lookupV rfl _ _ 147 151 false rfl b z rfl rfl HT1.out.map Try.und183 (Try.zero187 _) _ HL.out ?_)
        go_roundw
        case rel => exact ⟨k + 1, by go_num, by omega, ⟨a', cap', by rw [HU.out]; exact HB.out.alloc _, by rw [HU.out]; exact HO.out.no ((Kept.refl No wr).alloc _)⟩, HK.out.alloc _⟩
        case measure => simp [intOf]; omega
      | some u =>
        have HL : Hid _ := look1_someB HMem.out hv
        have HU : Hid (gotK x (k + 1) = gotK x k ++ [(z, u)]) := gotK_some HTk.out hv
        have HLn : Hid ((gotK x k).length + 1 ≤ 2000000000000) := by
          have h1 := gotK_len x (k + 1)
          have h2 := HC.out
          rw [HU.out] at h1
          simp at h1
          show _ ≤ _
          omega
        obtain ⟨w1, hw1⟩ : ∃ w1, w1 = wr.alloc (.cells #[.bool true, .int .i64 u.n, .int .i64 u.c, .slice u.a u.l u.k] 151) := ⟨_, rfl⟩
        have HK1 : Hid (Kept No w w1) := by rw [hw1]; exact HK.out.alloc _
        have HB1 : Hid (Box w1 w.heap.size 170 #[.slice a' (gotK x k).length cap']) := by rw [hw1]; exact HB.out.alloc _
        have HO1 : Hid (Own 172 4 w1 w.heap.size a' cap' (gotK x k).length (prs (gotK x k))) := by rw [hw1]; exact HO.out.no ((Kept.refl No wr).alloc _)
        have hsz : Hid (w.heap.size < w1.heap.size) := HB1.out.lt
        have HSZ : Hid (wr.heap.size + 1 = w1.heap.size) := by rw [hw1]; show _ = _; simp
        have e0 := HB1.out.cell 0
        simp only [List.getElem?_toArray, List.getElem?_cons_zero] at e0
        rw [hw1] at e0
        clear hv HTk
        go_wp2_with (first
          | (refine wp_lookupV rfl _ _ 147 151 false rfl b z rfl rfl HT1.out.map Try.und183 (Try.zero187 _) _ HL.out ?_)
          | (at_builtin
             rw [← hw1]
             refine wp_appV rfl _ _ 170 172 4 48 (.agg #[.int .i64 0, .int .i64 0, .int .i64 0, .slice none 0 0]) Try.und204 Try.info206 rfl (by omega) rfl w.heap.size _ cap' a' _ rfl (HO1.out.no ((Kept.refl No w1).alloc _)) ⟨wr.heap.size + 1, 0, none⟩ 1 1 [.int .i64 z, .int .i64 u.n, .int .i64 u.c, .slice u.a u.l u.k] rfl rfl (by rw [HSZ.out]; exact cell_newL _ _ _) (by simp [Value.oneCell']) (by have := HLn.out; omega) (by have := HLn.out; omega) (by omega) (by have := hsz.out; simp; omega) (gotK x (k + 1)).length (by rw [HU.out]; simp) ?_
             intro g' cap'' w4 HO4 HK4
             have HOff : Hid (∀ q, At a' q → q ≠ w.heap.size) := by
               intro q hq e
               rcases HO1.out.cases (prs_len _) with ⟨rfl, _⟩ | ⟨g, rfl, _, _, sp, hgb, _⟩
               · exact absurd hq At.none
               · obtain ⟨ad, e1, rfl⟩ := hq
                 cases e1
                 have e : g = w.heap.size := e
                 have hb4 := HB1.out
                 unfold Box at hb4
                 rw [e, hb4] at hgb
                 simp at hgb
             have HKw : Hid (Kept No w w4) := (HK1.out.alloc _).trans HK4.out (fun _ e => e) (fun i hi e => by have := HO.out.base e; omega)
             have HB4 : Hid (Box w4 w.heap.size 170 #[.slice a' (gotK x k).length cap']) := (HB1.out.alloc _).kept HK4.out (fun e => HOff.out _ e rfl)
             have HO5 : Hid (Own 172 4 w4 w.heap.size (some ⟨g', 0, none⟩) cap'' (gotK x (k + 1)).length (prs (gotK x (k + 1)))) := by
               have := HO4.out
               show Own _ _ _ _ _ _ _ _
               rw [HU.out, prs_app] at *
               exact this
             have HGT : Hid (g' ≠ w.heap.size) := by
               intro e
               rcases HO5.out.cases (prs_len _) with ⟨e, _⟩ | ⟨g, e1, _, _, sp, hgb, _⟩
               · cases e
               · cases e1
                 have hb4 := HB4.out
                 unfold Box at hb4
                 rw [e, hb4] at hgb
                 simp at hgb
             have f0 := HB4.out.frozen 0
             have e0' := HB4.out.cell 0
             simp only [List.getElem?_toArray, List.getElem?_cons_zero] at e0'
             clear HO4 HK4 e0 hw1))
        go_roundw
        case rel =>
          refine ⟨k + 1, by go_num, by omega, ⟨some ⟨g', 0, none⟩, cap'', HB4.out.set 0 _, HO5.out.kept ((Kept.refl (Only w.heap.size) w4).setCell (p := ⟨w.heap.size, 0, none⟩) (fun _ => rfl) _) (fun q hq e => ?_)⟩, HKw.out.setCell (p := ⟨w.heap.size, 0, none⟩) (fun h => by have : w.heap.size < w.heap.size := h; omega) _⟩
          obtain ⟨ad, e1, rfl⟩ := hq
          cases e1
          exact HGT.out e
        case measure => simp [intOf]; omega
    · have hlt' : ¬ (k : Int) < (n : Int) := by omega
      obtain rfl : k = n := by omega
      have HA : Hid (gotK x k = gotL x) := by show _ = _; rw [← HN.out]; exact gotK_all x
      go_wp2
      go_ret
      rw [HA.out] at HO HB
      exact ⟨a', cap', rfl, HB.out, HO.out, HK.out⟩

end Go.Proofs.Ythnecaejhnojfaa
