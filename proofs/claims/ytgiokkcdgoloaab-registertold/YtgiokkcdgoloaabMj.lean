import Derived.Test.YtgiokkcdgoloaabMi
namespace Go.Proofs.Ytgiokkcdgoloaab
open Go.RowKit
set_option linter.unusedVariables false
set_option linter.unusedSimpArgs false

theorem two_qs {qs : List Qm} (h : qs.map Qm.sv = [5, 6]) : ∃ q0 q1, qs = [q0, q1] ∧ q1.sv = 6 := by
  rcases qs with _ | ⟨q0, _ | ⟨q1, _ | ⟨q2, l⟩⟩⟩
  · simp at h
  · simp at h
  · simp at h; exact ⟨q0, q1, rfl, h.2⟩
  · simp at h

theorem row_cell {t : TypeId} {c : Nat} {w : World} {base : Nat} {a : Option Addr} {cap n : Nat} {vs : List Value} (h : Own t c w base a cap n vs) (hl : vs.length = n * c) (hn : 0 < n) : ∃ g, a = some ⟨g, 0, none⟩ ∧ ∀ i, i < vs.length → w.cell? ⟨g, i, none⟩ = vs[i]? := by
  rcases h.cases hl with ⟨_, _, h0⟩ | ⟨g, rfl, _, _, sp, hg, _⟩
  · omega
  · refine ⟨g, rfl, fun i hi => ?_⟩
    rw [cell_of_row w g i _ t (0, 0) hg]
    simp [List.getElem?_append_left, hi]

set_option maxRecDepth 100000 in
set_option maxHeartbeats 4000000 in
theorem head_any (w : World) : Calls Try.prog 9 #[] w (fun e w' => e = .returned (.bool true) ∧ Kept No w w') := by
  have qe : ∀ (w : World) (p : Option Addr), (binOp .eql 26 (.iface 90 (.pointer p)) .nilIface).run Try.prog w = .ok (.bool false) w := fun w p => by kernel_rfl
  have m1 := meth_Begin
  have m2 := meth_Done
  have m3 := meth_Round
  obtain ⟨w1, hw1⟩ : ∃ w1, w1 = (w.alloc (.cells #[.int .i64 5, .int .i64 6] 3)).alloc (.cells #[.int .u8 7] 5) := ⟨_, rfl⟩
  have HK1 : Hid (Kept No w w1) := by rw [hw1]; exact ((Kept.refl No w).alloc _).alloc _
  have HB1 : Hid (Nums .i64 w1 (some ⟨w.heap.size, 0, none⟩) [5, 6]) := by
    rw [hw1]
    exact ((Box.new w 3 (([5, 6] : List Int).map (Value.int .i64)).toArray).alloc _).nums 2
  have HB2 : Hid (Bytes w1 (some ⟨w.heap.size + 1, 0, none⟩) [7]) := by
    have e : (w.alloc (.cells #[.int .i64 5, .int .i64 6] 3)).heap.size = w.heap.size + 1 := by simp
    have := (Box.new (w.alloc (.cells #[.int .i64 5, .int .i64 6] 3)) 5 (([7] : List Int).map (Value.int .u8)).toArray).nums 1
    rw [e] at this
    rw [hw1]
    exact this
  go_enter Try.func9, Try.ntmps9
  go_wp2_with (first
    | (go_at_call 23
       rw [← hw1]
       refine Calls.mono (write_any 3 1 1 3 1 0 9 _ 2 2 [5, 6] _ 1 1 [7] w1 rfl (by omega) HB1.out rfl (by omega) HB2.out) ?_
       rintro e w2 ⟨m, a, cap, da, dc, rfl, hM, hO, hf, _, hk⟩
       have HM2 : Hid (Mach w2 m a cap ⟨3, 1, 1, 3, 1, 0, [5, 6], 9⟩ 109 (.agg #[.iface 96 (.agg #[.int .i64 3, .slice da ([7] : List Int).length dc])])) := hM
       have HF2 : Hid (w.heap.size ≤ m) := Nat.le_trans HK1.out.size (hf m (.inl rfl))
       have HK2 : Hid (Kept No w w2) := HK1.out.then hk
       clear hM hO hf hk hw1)
    | (go_at_call 61
       refine Calls.mono (begin_any m a cap _ _ _ w2 HM2.out (by decide) (by decide) (by decide)) ?_
       rintro e w3 ⟨a3, c3, qs, tb, bb, at', ct, rfl, hq, hQ, hM3, hT3, hf3, hk3⟩
       obtain ⟨q0, q1, rfl, h6⟩ := two_qs hq
       have HM3 : Hid _ := hM3
       have HK3 : Hid (Kept No w w3) := HK2.out.trans hk3 (fun _ e => e) (fun i hi e => by have : i = m := e; have := HF2.out; omega)
       have HR3 : Hid (∃ g, a3 = some ⟨g, 0, none⟩ ∧ ∀ wr, Kept No w3 wr → wr.cell? ⟨g, 34, none⟩ = some (.int .i64 6) ∧ wr.cell? ⟨g, 36, none⟩ = some (.int .i64 9)) := by
         obtain ⟨g, hg, hc⟩ := row_cell hQ.row (msgsC_len _ _ _) (by simp)
         refine ⟨g, hg, fun wr hk => ⟨?_, ?_⟩⟩
         · refine hk.cell ?_ (fun e => e)
           rw [hc 34 (by rw [msgsC_len]; simp)]
           show some (Value.int .i64 q1.sv) = _
           rw [h6]
         · refine hk.cell ?_ (fun e => e)
           rw [hc 36 (by rw [msgsC_len]; simp)]
           rfl
       obtain ⟨g, rfl, hcl⟩ := HR3.out
       have HCl : Hid _ := hcl
       simp only [List.length_cons, List.length_nil]
       clear hq hQ hM3 hT3 hf3 hk3 h6 HR3 hcl)
    | (go_at_call 62
       refine Calls.mono (doneA_any m a cap _ _ _ w3 HM3.out) ?_
       rintro e w4 ⟨da4, dc4, rfl, _, hk4⟩
       have HM4 : Hid _ := HM3.out.no hk4
       have HK4 : Hid (Kept No w w4) := HK3.out.then hk4
       obtain ⟨i34, i36⟩ := HCl.out (w4.alloc (.cells (resC 0 0 0 da4 0 dc4) 39)) (hk4.alloc _)
       have HM5 : Hid _ := HM4.out.no ((Kept.refl No w4).alloc (.cells (resC 0 0 0 da4 0 dc4) 39))
       have HK5 : Hid (Kept No w (w4.alloc (.cells (resC 0 0 0 da4 0 dc4) 39))) := HK4.out.alloc _
       simp only [resC, List.length_nil] at i34 i36 HM5 HK5 ⊢
       clear hk4)
    | (go_at_call 63
       refine Calls.mono (round_any m a cap _ _ _ _ HM5.out) ?_
       rintro e w6 ⟨rfl, rfl⟩))
  go_ret
  exact ⟨rfl, HK5.out⟩

end Go.Proofs.Ytgiokkcdgoloaab
