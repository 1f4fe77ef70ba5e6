import Derived.Test.YtcgnbpaaalmkoabBa
namespace Go.Proofs.Ytcgnbpaaalmkoab
open Go.RowKit
set_option linter.unusedVariables false
set_option linter.unusedSimpArgs false

def LbOut (w : World) (s : Sl) (bs : List Int) (e : Ending) (w' : World) : Prop := ∃ g : Nat, e = .returned (lent s g).v ∧ w.heap.size ≤ g ∧ Box w' g 5 (u8L (tab (s.l + 67) (lntB s.l bs))).toArray ∧ Kept No w w'
set_option maxRecDepth 100000 in
set_option maxHeartbeats 4000000 in
theorem lendB_any (s : Sl) (bs : List Int) (w : World) (hb : RdB w s bs) (hn : s.l ≤ 140737488351232) : Calls Try.prog 18 #[s.v] w (LbOut w s bs) := by
  obtain ⟨C, hC⟩ : ∃ C : Ending → World → Prop, C = (LbOut w s bs) := ⟨_, rfl⟩
  have HC : Hid (C = (LbOut w s bs)) := hC
  rw [← hC]
  clear hC
  have HB : Hid (RdB w s bs) := hb
  clear hb
  have HF : Hid (Fr No w w []) := Fr.start _ _
  go_enter Try.func18, Try.ntmps18
  go_upto_region 0 with fail
  refine WL.start ?_
  refine tK (.slice none 0 0) ?_
  try simp only [pS]
  refine WL.nil ?_
  try simp only [pS]
  go_upto_region 1 with fail
  refine WL.start ?_
  refine tK (s.v) ?_
  refine tK (.int .i64 ((s.l : Nat) : Int)) ?_
  refine tW (.int .i64 (((s.l + 67) : Nat) : Int)) (eB .add 3 _ _ _ rfl (.int .i64 ((s.l : Nat) : Int)) (.int .i64 67) _ (b_addw _ _ _ (by rw [IntKind.wrap_i64]; omega) _)) ?_
  try simp only [pS]
  refine wp_runW (.slice (some ⟨w.heap.size, 0, none⟩) (s.l + 67) (s.l + 67)) (w.alloc (.cells ((u8L (List.replicate (s.l + 67) 0)).toArray) 5)) (exec_make 24 _ _ rfl _ _ (by kernel_rfl) (by kernel_rfl) (make_by _ (s.l + 67) (by omega))) (by kernel_rfl) ?_
  try simp only [pS]
  have HF : Hid (Fr No w _ [(w.heap.size, 5, (u8L (List.replicate (s.l + 67) 0)).toArray)]) := HF.out.alloc _ _
  generalize w.alloc (.cells ((u8L (List.replicate (s.l + 67) 0)).toArray) 5) = wk2 at HF ⊢
  generalize w.heap.size = gk1 at HF ⊢
  refine tK (.slice (some ⟨gk1, 0, none⟩) (s.l + 67) (s.l + 67)) ?_
  try simp only [pS]
  refine WL.nil ?_
  try simp only [pS]
  go_upto_region 2 with fail
  refine WL.start ?_
  refine tK (.slice (some ⟨gk1, 0, none⟩) (s.l + 67) (s.l + 67)) ?_
  refine tK (s.v) ?_
  try simp only [pS]
  refine wp_runW (goInt s.l) (wk2.setRow gk1 ((u8L (tab (s.l + 67) (upt (lntB s.l bs) 0 s.l))).toArray)) (exec_copy _ _ 24 24 rfl _ _ (by kernel_rfl) (by kernel_rfl) (cpy_B _ (HF.out.box 0 _ _ _ rfl) (HB.out.no HF.out.kept))) (by kernel_rfl) ?_
  try simp only [pS]
  have HF : Hid (Fr No w _ [(gk1, 5, (u8L (tab (s.l + 67) (upt (lntB s.l bs) 0 s.l))).toArray)]) := HF.out.set 0 rfl _
  generalize wk2.setRow gk1 ((u8L (tab (s.l + 67) (upt (lntB s.l bs) 0 s.l))).toArray) = wk3 at HF ⊢
  refine WL.nil ?_
  try simp only [pS]
  go_upto_region 3 with fail
  refine WL.start ?_
  refine tK (s.v) ?_
  refine tK (.int .i64 ((s.l : Nat) : Int)) ?_
  refine tK (.int .i64 ((s.l : Nat) : Int)) ?_
  try simp only [pS]
  refine WL.nil ?_
  try simp only [pS]
  go_wp2
  go_loopw [4] (fun v4 wr => ∃ i : Nat, v4 = .int .i64 ((i : Nat) : Int) ∧ s.l ≤ i ∧ i ≤ s.l + 67 ∧ Hid (Fr No w wr [(gk1, 5, (u8L (tab (s.l + 67) (upt (lntB s.l bs) 0 i))).toArray)])) (fun i _ => s.l + 67 - (intOf i).toNat)
  case atStart => exact ⟨s.l, rfl, by omega, by omega, HF⟩
  case round =>
    clear HF
    obtain ⟨i, rfl, hi0, hi, HF⟩ := hrel
    by_cases hlt : i < s.l + 67
    · skip
      go_upto_region 4 with fail
      refine WL.start ?_
      refine tK (.int .i64 ((i : Nat) : Int)) ?_
      refine tK (.slice (some ⟨gk1, 0, none⟩) (s.l + 67) (s.l + 67)) ?_
      refine tK (.int .i64 (((s.l + 67) : Nat) : Int)) ?_
      refine tW (.bool true) (eB .lss 3 _ _ _ rfl (.int .i64 ((i : Nat) : Int)) (.int .i64 (((s.l + 67) : Nat) : Int)) _ (by rw [b_lss, decide_eq_true (by omega)])) ?_
      try simp only [pS]
      refine WL.nil ?_
      try simp only [pS]
      go_upto_region 6 with fail
      refine WL.start ?_
      refine tK (.slice (some ⟨gk1, 0, none⟩) (s.l + 67) (s.l + 67)) ?_
      refine tK (.int .i64 ((i : Nat) : Int)) ?_
      refine tW (.pointer (some ⟨gk1, 0 + i * 1, none⟩)) (exec_ixA 24 1 Try.und26e Try.size26e _ _ rfl gk1 0 (s.l + 67) (s.l + 67) i (by kernel_rfl) (by kernel_rfl) (by omega)) ?_
      try simp only [pS]
      refine wp_storeW 5 _ _ rfl ⟨gk1, 0 + i * 1, none⟩ (.int .u8 201) (by kernel_rfl) (by kernel_rfl) (wr.setRow gk1 ((u8L (tab (s.l + 67) (upt (lntB s.l bs) 0 (i + 1)))).toArray)) (lay_B 201 (HF.out.box 0 _ _ _ rfl) (by omega) (lnt_ge (by omega))) (by kernel_rfl) ?_
      try simp only [pS]
      have HF : Hid (Fr No w _ [(gk1, 5, (u8L (tab (s.l + 67) (upt (lntB s.l bs) 0 (i + 1)))).toArray)]) := HF.out.set 0 rfl _
      generalize wr.setRow gk1 ((u8L (tab (s.l + 67) (upt (lntB s.l bs) 0 (i + 1)))).toArray) = wk4 at HF ⊢
      refine WL.nil ?_
      try simp only [pS]
      go_upto_region 5 with fail
      refine WL.start ?_
      refine tK (.int .i64 ((i : Nat) : Int)) ?_
      refine tW (.int .i64 (((i + 1) : Nat) : Int)) (eB .add 3 _ _ _ rfl (.int .i64 ((i : Nat) : Int)) (.int .i64 1) _ (b_addw _ _ _ (by rw [IntKind.wrap_i64]; omega) _)) ?_
      refine tK (.int .i64 (((i + 1) : Nat) : Int)) ?_
      try simp only [pS]
      refine WL.nil ?_
      try simp only [pS]
      go_wp2
      go_roundw
      case rel => exact ⟨i + 1, by go_num, by omega, by omega, HF⟩
      case measure => simp [intOf]; omega
    · skip
      have he : i = s.l + 67 := by omega
      subst he
      go_upto_region 4 with fail
      refine WL.start ?_
      refine tK (.int .i64 (((s.l + 67) : Nat) : Int)) ?_
      refine tK (.slice (some ⟨gk1, 0, none⟩) (s.l + 67) (s.l + 67)) ?_
      refine tK (.int .i64 (((s.l + 67) : Nat) : Int)) ?_
      refine tW (.bool false) (eB .lss 3 _ _ _ rfl (.int .i64 (((s.l + 67) : Nat) : Int)) (.int .i64 (((s.l + 67) : Nat) : Int)) _ (by rw [b_lss, decide_eq_false (by omega)])) ?_
      try simp only [pS]
      refine WL.nil ?_
      try simp only [pS]
      go_upto_region 7 with fail
      refine WL.start ?_
      refine tK (.slice (some ⟨gk1, 0, none⟩) (s.l + 67) (s.l + 67)) ?_
      refine tK (s.v) ?_
      refine tK (.int .i64 ((s.l : Nat) : Int)) ?_
      refine tW (.slice (some ⟨gk1, 0, none⟩) s.l (s.l + 67)) ((exec_slH 24 _ _ rfl 1 Try.und26e Try.size26e (some ⟨gk1, 0, none⟩) (s.l + 67) (s.l + 67) s.l (by kernel_rfl) (by kernel_rfl) (by omega)).trans (by rw [sliced0 _ _ _ _ (by omega)])) ?_
      refine tK (.slice (some ⟨gk1, 0, none⟩) s.l (s.l + 67)) ?_
      try simp only [pS]
      refine WL.nil ?_
      try simp only [pS]
      go_wp2
      rw [HC.out]
      exact ⟨gk1, rfl, HF.out.low 0 _ _ _ rfl, by have h := HF.out.box 0 _ _ _ rfl; rw [upt_all] at h; exact h, HF.out.kept⟩

end Go.Proofs.Ytcgnbpaaalmkoab
