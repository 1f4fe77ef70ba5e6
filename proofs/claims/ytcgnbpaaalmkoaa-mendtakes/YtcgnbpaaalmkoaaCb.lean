import Derived.Test.YtcgnbpaaalmkoaaCa
namespace Go.Proofs.Ytcgnbpaaalmkoaa
open Go.RowKit
set_option linter.unusedVariables false
set_option linter.unusedSimpArgs false

set_option maxRecDepth 100000 in
set_option maxHeartbeats 4000000 in
theorem backM_any (m : Mg) (gb ge gl gc base : Nat) (bs : List Int) (es : List En) (ls : List La) (cs : List Cm) (w : World) (hh : MgAt w m bs es ls cs) (ht : LmAt w base m bs es ls cs gb ge gl gc) : Calls Try.prog 18 #[.agg (Mg.cells (lentM m gb ge gl gc)), .agg (Mg.cells m)] w (fun e w' => e = .returned (.bool true) ∧ Kept No w w') := by
  obtain ⟨C, hC⟩ : ∃ C : Ending → World → Prop, C = (fun e w' => e = .returned (.bool true) ∧ Kept No w w') := ⟨_, rfl⟩
  have HC : Hid (C = (fun e w' => e = .returned (.bool true) ∧ Kept No w w')) := hC
  rw [← hC]
  clear hC
  have HH : Hid (MgAt w m bs es ls cs) := hh
  have HT : Hid (LmAt w base m bs es ls cs gb ge gl gc) := ht
  have hnb := hh.nb
  have hne := hh.ne
  have hnl := hh.nl
  have hnc := hh.nc
  clear hh ht
  have HF : Hid (Fr No w w []) := Fr.start _ _
  go_enter Try.func18, Try.ntmps18
  go_upto_region 0 with fail
  refine WL.start ?_
  refine wp_runW (.pointer (some ⟨w.heap.size, 0, none⟩)) (w.alloc (.cells (Mg.cells (lentM m gb ge gl gc)) 50)) (exec_box 50 _ rfl (Mg.cells (lentM m gb ge gl gc)) (by kernel_rfl)) (by kernel_rfl) ?_
  try simp only [pA, pB, p1, p2, p3]
  have HF : Hid (Fr No w (w.alloc (.cells (Mg.cells (lentM m gb ge gl gc)) 50)) [(w.heap.size, 50, Mg.cells (lentM m gb ge gl gc))]) := HF.out.alloc _ _
  generalize w.alloc (.cells (Mg.cells (lentM m gb ge gl gc)) 50) = wk2 at HF ⊢
  generalize w.heap.size = gk1 at HF ⊢
  refine wp_runW (.pointer (some ⟨wk2.heap.size, 0, none⟩)) (wk2.alloc (.cells (Mg.cells m) 50)) (exec_box 50 _ rfl (Mg.cells m) (by kernel_rfl)) (by kernel_rfl) ?_
  try simp only [pA, pB, p1, p2, p3]
  have HF : Hid (Fr No w (wk2.alloc (.cells (Mg.cells m) 50)) [(gk1, 50, Mg.cells (lentM m gb ge gl gc)), (wk2.heap.size, 50, Mg.cells m)]) := HF.out.alloc _ _
  generalize wk2.alloc (.cells (Mg.cells m) 50) = wk4 at HF ⊢
  generalize wk2.heap.size = gk3 at HF ⊢
  refine tK (.bool false) ?_
  try simp only [pA, pB, p1, p2, p3]
  refine WL.nil ?_
  try simp only [pA, pB, p1, p2, p3]
  go_upto_region 1 with fail
  refine WL.start ?_
  refine tW (.agg (Mg.cells (lentM m gb ge gl gc))) (exec_load 50 _ rfl ⟨gk1, 0, none⟩ (by kernel_rfl) (.agg (Mg.cells (lentM m gb ge gl gc))) (run_load_part (cs := Mg.cs (lentM m gb ge gl gc)) (sub := Mg.cs (lentM m gb ge gl gc)) (HF.out.box 0 _ _ _ rfl) (Part.all _) Try.und50 rfl Try.size50)) ?_
  try simp only [pA, pB, p1, p2, p3]
  refine tW (.agg (Mg.cells m)) (exec_load 50 _ rfl ⟨gk3, 0, none⟩ (by kernel_rfl) (.agg (Mg.cells m)) (run_load_part (cs := Mg.cs m) (sub := Mg.cs m) (HF.out.box 1 _ _ _ rfl) (Part.all _) Try.und50 rfl Try.size50)) ?_
  try simp only [pA, pB, p1, p2, p3]
  refine wp_callW 14 #[.agg (Mg.cells (lentM m gb ge gl gc)), .agg (Mg.cells m)] (by kernel_rfl) _ (sameM_any (lentM m gb ge gl gc) m.bl m.bk.e.a m.bk.e.k m.bk.l.a m.bk.l.k m.cm.a m.cm.k bs es ls cs _ ((rd_B (s := m.bl) HH.out.b.len HT.out.b).no HF.out.kept) (HH.out.b.no HF.out.kept) ((rd_E (s := m.bk.e) HH.out.e.len HT.out.e).no HF.out.kept) (HH.out.e.no HF.out.kept) ((rd_L (s := m.bk.l) HH.out.l.len HT.out.l).no HF.out.kept) (HH.out.l.no HF.out.kept) ((rd_C (s := m.cm) HH.out.c.len HT.out.c).no HF.out.kept) (HH.out.c.no HF.out.kept) (by show m.bk.e.l ≤ _; omega) (by show m.bk.l.l ≤ _; omega) (by show m.cm.l ≤ _; omega)) (by kernel_rfl) ?_
  rintro e wk5 ⟨rfl, hk⟩
  have HF : Hid (Fr No w (wk5) [(gk1, 50, Mg.cells (lentM m gb ge gl gc)), (gk3, 50, Mg.cells m)]) := HF.out.no hk
  clear hk
  refine ⟨.bool true, rfl, ?_⟩
  try simp only [pA, pB, p1, p2, p3]
  refine tK (.bool false) ?_
  try simp only [pA, pB, p1, p2, p3]
  refine tK (.bool false) ?_
  try simp only [pA, pB, p1, p2, p3]
  refine tK (.pointer (some ⟨gk1, 15, none⟩)) ?_
  try simp only [pA, pB, p1, p2, p3]
  refine tW (.slice (some ⟨gb, 0, none⟩) m.bl.l (m.bl.l + 67)) (exec_load 26 _ rfl ⟨gk1, 15, none⟩ (by kernel_rfl) (.slice (some ⟨gb, 0, none⟩) m.bl.l (m.bl.l + 67)) (load_one ((HF.out.box 0 _ _ _ rfl).cell 15 |>.trans (by kernel_rfl)) Try.und26 rfl)) ?_
  try simp only [pA, pB, p1, p2, p3]
  refine tK (.pointer (some ⟨gk3, 15, none⟩)) ?_
  try simp only [pA, pB, p1, p2, p3]
  refine tW (m.bl.v) (exec_load 26 _ rfl ⟨gk3, 15, none⟩ (by kernel_rfl) (m.bl.v) (load_one ((HF.out.box 1 _ _ _ rfl).cell 15 |>.trans (by kernel_rfl)) Try.und26 rfl)) ?_
  try simp only [pA, pB, p1, p2, p3]
  refine wp_callW 37 #[.slice (some ⟨gb, 0, none⟩) m.bl.l (m.bl.l + 67), m.bl.v] (by kernel_rfl) _ (backB_any m.bl gb bs _ (HH.out.b.no HF.out.kept) (HT.out.b.no HF.out.kept) hnb) (by kernel_rfl) ?_
  rintro e wk6 ⟨rfl, hk⟩
  have HF : Hid (Fr No w (wk6) [(gk1, 50, Mg.cells (lentM m gb ge gl gc)), (gk3, 50, Mg.cells m)]) := HF.out.no hk
  clear hk
  refine ⟨.bool true, rfl, ?_⟩
  try simp only [pA, pB, p1, p2, p3]
  refine tK (.bool false) ?_
  try simp only [pA, pB, p1, p2, p3]
  refine tK (.bool false) ?_
  try simp only [pA, pB, p1, p2, p3]
  refine tK (.bool false) ?_
  try simp only [pA, pB, p1, p2, p3]
  refine tK (.pointer (some ⟨gk1, 25, none⟩)) ?_
  try simp only [pA, pB, p1, p2, p3]
  refine tW (.agg (Bv.cells ⟨m.bk.up, ⟨(some ⟨ge, 0, none⟩), m.bk.e.l, (m.bk.e.l + 67)⟩, ⟨(some ⟨gl, 0, none⟩), m.bk.l.l, (m.bk.l.l + 67)⟩⟩)) (exec_load 32 _ rfl ⟨gk1, 25, none⟩ (by kernel_rfl) (.agg (Bv.cells ⟨m.bk.up, ⟨(some ⟨ge, 0, none⟩), m.bk.e.l, (m.bk.e.l + 67)⟩, ⟨(some ⟨gl, 0, none⟩), m.bk.l.l, (m.bk.l.l + 67)⟩⟩)) (run_load_part (cs := Mg.cs (lentM m gb ge gl gc)) (sub := Bv.cs ⟨m.bk.up, ⟨(some ⟨ge, 0, none⟩), m.bk.e.l, (m.bk.e.l + 67)⟩, ⟨(some ⟨gl, 0, none⟩), m.bk.l.l, (m.bk.l.l + 67)⟩⟩) (HF.out.box 0 _ _ _ rfl) (part_of (by kernel_rfl)) Try.und32 rfl Try.size32)) ?_
  try simp only [pA, pB, p1, p2, p3]
  refine tK (.pointer (some ⟨gk3, 25, none⟩)) ?_
  try simp only [pA, pB, p1, p2, p3]
  refine tW (.agg (Bv.cells m.bk)) (exec_load 32 _ rfl ⟨gk3, 25, none⟩ (by kernel_rfl) (.agg (Bv.cells m.bk)) (run_load_part (cs := Mg.cs m) (sub := Bv.cs m.bk) (HF.out.box 1 _ _ _ rfl) (part_of (by kernel_rfl)) Try.und32 rfl Try.size32)) ?_
  try simp only [pA, pB, p1, p2, p3]
  refine wp_callW 38 #[.agg (Bv.cells ⟨m.bk.up, ⟨(some ⟨ge, 0, none⟩), m.bk.e.l, (m.bk.e.l + 67)⟩, ⟨(some ⟨gl, 0, none⟩), m.bk.l.l, (m.bk.l.l + 67)⟩⟩), .agg (Bv.cells m.bk)] (by kernel_rfl) _ (backK_any m.bk ge gl es ls _ (HH.out.e.no HF.out.kept) (HH.out.l.no HF.out.kept) (HT.out.e.no HF.out.kept) (HT.out.l.no HF.out.kept) hne hnl) (by kernel_rfl) ?_
  rintro e wk7 ⟨rfl, hk⟩
  have HF : Hid (Fr No w (wk7) [(gk1, 50, Mg.cells (lentM m gb ge gl gc)), (gk3, 50, Mg.cells m)]) := HF.out.no hk
  clear hk
  refine ⟨.bool true, rfl, ?_⟩
  try simp only [pA, pB, p1, p2, p3]
  refine tK (.bool false) ?_
  try simp only [pA, pB, p1, p2, p3]
  refine tK (.bool false) ?_
  try simp only [pA, pB, p1, p2, p3]
  refine WL.nil ?_
  try simp only [pA, pB, p1, p2, p3]
  go_upto_region 3 with fail
  refine WL.start ?_
  refine tK (.pointer (some ⟨gk1, 28, none⟩)) ?_
  try simp only [pA, pB, p1, p2, p3]
  refine tW (.slice (some ⟨gc, 0, none⟩) m.cm.l (m.cm.l + 67)) (exec_load 48 _ rfl ⟨gk1, 28, none⟩ (by kernel_rfl) (.slice (some ⟨gc, 0, none⟩) m.cm.l (m.cm.l + 67)) (load_one ((HF.out.box 0 _ _ _ rfl).cell 28 |>.trans (by kernel_rfl)) Try.und48 rfl)) ?_
  try simp only [pA, pB, p1, p2, p3]
  refine tK (.pointer (some ⟨gk3, 28, none⟩)) ?_
  try simp only [pA, pB, p1, p2, p3]
  refine tW (m.cm.v) (exec_load 48 _ rfl ⟨gk3, 28, none⟩ (by kernel_rfl) (m.cm.v) (load_one ((HF.out.box 1 _ _ _ rfl).cell 28 |>.trans (by kernel_rfl)) Try.und48 rfl)) ?_
  try simp only [pA, pB, p1, p2, p3]
  refine tK (.int .i64 ((m.cm.l : Nat) : Int)) ?_
  try simp only [pA, pB, p1, p2, p3]
  refine tW (.int .i64 (((m.cm.l + 67) : Nat) : Int)) (exec_bin .add 3 _ _ _ rfl (.int .i64 ((m.cm.l : Nat) : Int)) (.int .i64 67) (.int .i64 (((m.cm.l + 67) : Nat) : Int)) (by kernel_rfl) (by kernel_rfl) (by kernel_rfl) (b_addw _ _ _ (by rw [IntKind.wrap_i64]; omega) _)) ?_
  try simp only [pA, pB, p1, p2, p3]
  refine tW (.slice (some ⟨gc, 0, none⟩) (m.cm.l + 67) (m.cm.l + 67)) ((exec_slH 48 _ _ rfl 9 Try.und48e Try.size48e (some ⟨gc, 0, none⟩) m.cm.l (m.cm.l + 67) (m.cm.l + 67) (by kernel_rfl) (by kernel_rfl) (by omega)).trans (by rw [sliced0 _ _ _ _ (by omega)])) ?_
  try simp only [pA, pB, p1, p2, p3]
  refine tK (.slice (some ⟨gc, 0, none⟩) (m.cm.l + 67) (m.cm.l + 67)) ?_
  try simp only [pA, pB, p1, p2, p3]
  refine WL.nil ?_
  try simp only [pA, pB, p1, p2, p3]
  go_upto_region 4 with fail
  refine WL.start ?_
  refine tK (.pointer (some ⟨gk3, 28, none⟩)) ?_
  try simp only [pA, pB, p1, p2, p3]
  refine tW (m.cm.v) (exec_load 48 _ rfl ⟨gk3, 28, none⟩ (by kernel_rfl) (m.cm.v) (load_one ((HF.out.box 1 _ _ _ rfl).cell 28 |>.trans (by kernel_rfl)) Try.und48 rfl)) ?_
  try simp only [pA, pB, p1, p2, p3]
  refine tK (.int .i64 ((m.cm.l : Nat) : Int)) ?_
  try simp only [pA, pB, p1, p2, p3]
  refine tK (.int .i64 ((m.cm.l : Nat) : Int)) ?_
  try simp only [pA, pB, p1, p2, p3]
  refine WL.nil ?_
  try simp only [pA, pB, p1, p2, p3]
  go_wp2
  go_loopw [6] (fun v5 wr => ∃ i : Nat, v5 = .int .i64 ((i : Nat) : Int) ∧ m.cm.l ≤ i ∧ i ≤ m.cm.l + 67 ∧ Hid (Fr No w wr [(gk1, 50, Mg.cells (lentM m gb ge gl gc)), (gk3, 50, Mg.cells m)])) (fun i _ => m.cm.l + 67 - (intOf i).toNat)
  case atStart => exact ⟨m.cm.l, rfl, by omega, by omega, HF⟩
  case round =>
    clear HF
    obtain ⟨i, rfl, hi0, hi, HF⟩ := hrel
    by_cases hlt : i < m.cm.l + 67
    · skip
      go_upto_region 5 with fail
      refine WL.start ?_
      refine tK (.int .i64 ((i : Nat) : Int)) ?_
      try simp only [pA, pB, p1, p2, p3]
      refine tK (.slice (some ⟨gc, 0, none⟩) (m.cm.l + 67) (m.cm.l + 67)) ?_
      try simp only [pA, pB, p1, p2, p3]
      refine tK (.int .i64 (((m.cm.l + 67) : Nat) : Int)) ?_
      try simp only [pA, pB, p1, p2, p3]
      refine tW (.bool true) (exec_bin .lss 3 _ _ _ rfl (.int .i64 ((i : Nat) : Int)) (.int .i64 (((m.cm.l + 67) : Nat) : Int)) (.bool true) (by kernel_rfl) (by kernel_rfl) (by kernel_rfl) (by rw [b_lss, decide_eq_true (by omega)])) ?_
      try simp only [pA, pB, p1, p2, p3]
      refine WL.nil ?_
      try simp only [pA, pB, p1, p2, p3]
      go_upto_region 7 with fail
      refine WL.start ?_
      refine tK (.slice (some ⟨gc, 0, none⟩) (m.cm.l + 67) (m.cm.l + 67)) ?_
      try simp only [pA, pB, p1, p2, p3]
      refine tK (.int .i64 ((i : Nat) : Int)) ?_
      try simp only [pA, pB, p1, p2, p3]
      refine tW (.pointer (some ⟨gc, 0 + i * 9, none⟩)) (exec_ixA 48 9 Try.und48e Try.size48e _ _ rfl gc 0 (m.cm.l + 67) (m.cm.l + 67) i (by kernel_rfl) (by kernel_rfl) (by omega)) ?_
      try simp only [pA, pB, p1, p2, p3]
      refine tW (.agg (Cm.cells ⟨0, 0, (-((i : Nat) : Int)), ⟨#[109, 97, 114, 107]⟩, 0, 0, 0, 0, 0⟩)) (exec_load 47 _ rfl ⟨gc, 0 + i * 9, none⟩ (by kernel_rfl) (.agg (Cm.cells ⟨0, 0, (-((i : Nat) : Int)), ⟨#[109, 97, 114, 107]⟩, 0, 0, 0, 0, 0⟩)) (load_Ca (row_C (HT.out.c.no HF.out.kept) ((tab_get hlt).trans (congrArg some (lnt_ge hi0)))))) ?_
      try simp only [pA, pB, p1, p2, p3]
      refine tK (.int .i64 ((i : Nat) : Int)) ?_
      try simp only [pA, pB, p1, p2, p3]
      refine tW (.int .i64 (-((i : Nat) : Int))) (exec_bin .sub 3 _ _ _ rfl (.int .i64 0) (.int .i64 ((i : Nat) : Int)) (.int .i64 (-((i : Nat) : Int))) (by kernel_rfl) (by kernel_rfl) (by kernel_rfl) (b_subw _ _ _ (by rw [IntKind.wrap_i64]; omega) _)) ?_
      try simp only [pA, pB, p1, p2, p3]
      refine tW (.agg (Cm.cells ⟨0, 0, (-((i : Nat) : Int)), ⟨#[109, 97, 114, 107]⟩, 0, 0, 0, 0, 0⟩)) (exec_build 47 _ rfl (Cm.cells ⟨0, 0, (-((i : Nat) : Int)), ⟨#[109, 97, 114, 107]⟩, 0, 0, 0, 0, 0⟩) (by kernel_rfl)) ?_
      try simp only [pA, pB, p1, p2, p3]
      refine tW (.bool false) (exec_bin .neq 47 _ _ _ rfl (.agg (Cm.cells ⟨0, 0, (-((i : Nat) : Int)), ⟨#[109, 97, 114, 107]⟩, 0, 0, 0, 0, 0⟩)) (.agg (Cm.cells ⟨0, 0, (-((i : Nat) : Int)), ⟨#[109, 97, 114, 107]⟩, 0, 0, 0, 0, 0⟩)) (.bool false) (by kernel_rfl) (by kernel_rfl) (by kernel_rfl) (by rw [eqC_neq, eqC_refl]; rfl)) ?_
      try simp only [pA, pB, p1, p2, p3]
      refine WL.nil ?_
      try simp only [pA, pB, p1, p2, p3]
      go_upto_region 6 with fail
      refine WL.start ?_
      refine tK (.int .i64 ((i : Nat) : Int)) ?_
      try simp only [pA, pB, p1, p2, p3]
      refine tW (.int .i64 (((i + 1) : Nat) : Int)) (exec_bin .add 3 _ _ _ rfl (.int .i64 ((i : Nat) : Int)) (.int .i64 1) (.int .i64 (((i + 1) : Nat) : Int)) (by kernel_rfl) (by kernel_rfl) (by kernel_rfl) (b_addw _ _ _ (by rw [IntKind.wrap_i64]; omega) _)) ?_
      try simp only [pA, pB, p1, p2, p3]
      refine tK (.int .i64 (((i + 1) : Nat) : Int)) ?_
      try simp only [pA, pB, p1, p2, p3]
      refine WL.nil ?_
      try simp only [pA, pB, p1, p2, p3]
      go_wp2
      go_roundw
      case rel => exact ⟨i + 1, by go_num, by omega, by omega, HF⟩
      case measure => simp [intOf]; omega
    · skip
      go_upto_region 5 with fail
      refine WL.start ?_
      refine tK (.int .i64 ((i : Nat) : Int)) ?_
      try simp only [pA, pB, p1, p2, p3]
      refine tK (.slice (some ⟨gc, 0, none⟩) (m.cm.l + 67) (m.cm.l + 67)) ?_
      try simp only [pA, pB, p1, p2, p3]
      refine tK (.int .i64 (((m.cm.l + 67) : Nat) : Int)) ?_
      try simp only [pA, pB, p1, p2, p3]
      refine tW (.bool false) (exec_bin .lss 3 _ _ _ rfl (.int .i64 ((i : Nat) : Int)) (.int .i64 (((m.cm.l + 67) : Nat) : Int)) (.bool false) (by kernel_rfl) (by kernel_rfl) (by kernel_rfl) (by rw [b_lss, decide_eq_false (by omega)])) ?_
      try simp only [pA, pB, p1, p2, p3]
      refine WL.nil ?_
      try simp only [pA, pB, p1, p2, p3]
      go_upto_region 9 with fail
      refine WL.start ?_
      refine tK (.bool true) ?_
      try simp only [pA, pB, p1, p2, p3]
      refine WL.nil ?_
      try simp only [pA, pB, p1, p2, p3]
      go_wp2
      rw [HC.out]
      exact ⟨rfl, HF.out.kept⟩
set_option maxRecDepth 100000 in
set_option maxHeartbeats 4000000 in
theorem spoil_any (m : Mg) (gb ge gl gc base : Nat) (bs : List Int) (es : List En) (ls : List La) (cs : List Cm) (w : World) (hl : LmAt w base m bs es ls cs gb ge gl gc) (hnb : m.bl.l ≤ 140737488351232) (hne : m.bk.e.l ≤ 3518437208780) (hnl : m.bk.l.l ≤ 2513169434843) (hnc : m.cm.l ≤ 1759218604390) : Calls Try.prog 19 #[.agg (Mg.cells (lentM m gb ge gl gc))] w (fun e w' => e = .returned (.tuple #[]) ∧ Kept (fun k => k = gb ∨ k = ge ∨ k = gl ∨ k = gc) w w') := by
  obtain ⟨C, hC⟩ : ∃ C : Ending → World → Prop, C = (fun e w' => e = .returned (.tuple #[]) ∧ Kept (fun k => k = gb ∨ k = ge ∨ k = gl ∨ k = gc) w w') := ⟨_, rfl⟩
  have HC : Hid (C = (fun e w' => e = .returned (.tuple #[]) ∧ Kept (fun k => k = gb ∨ k = ge ∨ k = gl ∨ k = gc) w w')) := hC
  rw [← hC]
  clear hC
  have tb : gb < w.heap.size := hl.b.lt
  have te : ge < w.heap.size := hl.e.lt
  have tl : gl < w.heap.size := hl.l.lt
  have tc : gc < w.heap.size := hl.c.lt
  have nbc : gb ≠ gc := hl.b.ne hl.c (by decide)
  have nec : ge ≠ gc := hl.e.ne hl.c (by decide)
  have nlc : gl ≠ gc := hl.l.ne hl.c (by decide)
  have neb : ge ≠ gb := hl.e.ne hl.b (by decide)
  have nlb : gl ≠ gb := hl.l.ne hl.b (by decide)
  have HB : Hid (Box w gb 5 (u8L (tab (m.bl.l + 67) (lntB m.bl.l bs))).toArray) := hl.b
  have HE : Hid (Box w ge 110 (enL (tab (m.bk.e.l + 67) (lntE m.bk.e.l es))).toArray) := hl.e
  have HL : Hid (Box w gl 113 (laL (tab (m.bk.l.l + 67) (lntL m.bk.l.l ls))).toArray) := hl.l
  have HP : Hid (Box w gc 47 (cmL (tab (m.cm.l + 67) (lntC m.cm.l cs))).toArray) := hl.c
  clear hl
  have HF : Hid (Fr (fun k => k = gb ∨ k = ge ∨ k = gl ∨ k = gc) w w []) := Fr.start _ _
  go_enter Try.func19, Try.ntmps19
  go_upto_region 0 with fail
  refine WL.start ?_
  refine wp_runW (.pointer (some ⟨w.heap.size, 0, none⟩)) (w.alloc (.cells (Mg.cells (lentM m gb ge gl gc)) 50)) (exec_box 50 _ rfl (Mg.cells (lentM m gb ge gl gc)) (by kernel_rfl)) (by kernel_rfl) ?_
  try simp only [pA, pB, p1, p2, p3]
  have HB : Hid (Box (w.alloc (.cells (Mg.cells (lentM m gb ge gl gc)) 50)) gb 5 (u8L (tab (m.bl.l + 67) (lntB m.bl.l bs))).toArray) := HB.out.no ((Kept.refl No _).alloc _)
  have HE : Hid (Box (w.alloc (.cells (Mg.cells (lentM m gb ge gl gc)) 50)) ge 110 (enL (tab (m.bk.e.l + 67) (lntE m.bk.e.l es))).toArray) := HE.out.no ((Kept.refl No _).alloc _)
  have HL : Hid (Box (w.alloc (.cells (Mg.cells (lentM m gb ge gl gc)) 50)) gl 113 (laL (tab (m.bk.l.l + 67) (lntL m.bk.l.l ls))).toArray) := HL.out.no ((Kept.refl No _).alloc _)
  have HP : Hid (Box (w.alloc (.cells (Mg.cells (lentM m gb ge gl gc)) 50)) gc 47 (cmL (tab (m.cm.l + 67) (lntC m.cm.l cs))).toArray) := HP.out.no ((Kept.refl No _).alloc _)
  have HF : Hid (Fr (fun k => k = gb ∨ k = ge ∨ k = gl ∨ k = gc) w (w.alloc (.cells (Mg.cells (lentM m gb ge gl gc)) 50)) [(w.heap.size, 50, Mg.cells (lentM m gb ge gl gc))]) := HF.out.alloc _ _
  generalize w.alloc (.cells (Mg.cells (lentM m gb ge gl gc)) 50) = wk2 at HF HB HE HL HP ⊢
  generalize w.heap.size = gk1 at HF ⊢
  refine WL.nil ?_
  try simp only [pA, pB, p1, p2, p3]
  go_upto_region 1 with fail
  refine WL.start ?_
  refine tK (.int .i64 0) ?_
  try simp only [pA, pB, p1, p2, p3]
  refine WL.nil ?_
  try simp only [pA, pB, p1, p2, p3]
  go_wp2
  go_loopw [2] (fun v5 wr => ∃ (i : Nat) (cur : List Int), v5 = .int .i64 ((i : Nat) : Int) ∧ i ≤ m.bl.l ∧ m.bl.l ≤ cur.length ∧ Hid (Box wr gb 5 (u8L cur).toArray) ∧ Hid (Box wr ge 110 (enL (tab (m.bk.e.l + 67) (lntE m.bk.e.l es))).toArray) ∧ Hid (Box wr gl 113 (laL (tab (m.bk.l.l + 67) (lntL m.bk.l.l ls))).toArray) ∧ Hid (Box wr gc 47 (cmL (tab (m.cm.l + 67) (lntC m.cm.l cs))).toArray) ∧ Hid (Fr (fun k => k = gb ∨ k = ge ∨ k = gl ∨ k = gc) w wr [(gk1, 50, Mg.cells (lentM m gb ge gl gc))])) (fun i _ => m.bl.l - (intOf i).toNat)
  case atStart => exact ⟨0, _, by go_num, by omega, by rw [tab_len]; omega, HB, HE, HL, HP, HF⟩
  case round =>
    clear HF HB HE HL HP
    obtain ⟨i, cur, rfl, hi, hcl, HB, HE, HL, HP, HF⟩ := hrel
    by_cases hlt : i < m.bl.l
    · skip
      obtain ⟨z, hz⟩ : ∃ z, cur[i]? = some z := ⟨cur[i], List.getElem?_eq_getElem (by omega)⟩
      go_upto_region 2 with fail
      refine WL.start ?_
      refine tK (.int .i64 ((i : Nat) : Int)) ?_
      try simp only [pA, pB, p1, p2, p3]
      refine tK (.pointer (some ⟨gk1, 15, none⟩)) ?_
      try simp only [pA, pB, p1, p2, p3]
      refine tW (.slice (some ⟨gb, 0, none⟩) m.bl.l (m.bl.l + 67)) (exec_load 26 _ rfl ⟨gk1, 15, none⟩ (by kernel_rfl) (.slice (some ⟨gb, 0, none⟩) m.bl.l (m.bl.l + 67)) (load_one ((HF.out.box 0 _ _ _ rfl).cell 15 |>.trans (by kernel_rfl)) Try.und26 rfl)) ?_
      try simp only [pA, pB, p1, p2, p3]
      refine tK (.int .i64 ((m.bl.l : Nat) : Int)) ?_
      try simp only [pA, pB, p1, p2, p3]
      refine tW (.bool true) (exec_bin .lss 3 _ _ _ rfl (.int .i64 ((i : Nat) : Int)) (.int .i64 ((m.bl.l : Nat) : Int)) (.bool true) (by kernel_rfl) (by kernel_rfl) (by kernel_rfl) (by rw [b_lss, decide_eq_true (by omega)])) ?_
      try simp only [pA, pB, p1, p2, p3]
      refine WL.nil ?_
      try simp only [pA, pB, p1, p2, p3]
      go_upto_region 4 with fail
      refine wp_region_held_drew (S := fun w' => Fr (fun k => k = gb ∨ k = ge ∨ k = gl ∨ k = gc) w w' [(gk1, 50, Mg.cells (lentM m gb ge gl gc))]) rfl (HF.out.drew) (fun hH => ?_)
      have HE : Hid (Box (wr.drew) ge 110 (enL (tab (m.bk.e.l + 67) (lntE m.bk.e.l es))).toArray) := HE.out.no (Kept.refl No _).drew
      have HL : Hid (Box (wr.drew) gl 113 (laL (tab (m.bk.l.l + 67) (lntL m.bk.l.l ls))).toArray) := HL.out.no (Kept.refl No _).drew
      have HP : Hid (Box (wr.drew) gc 47 (cmL (tab (m.cm.l + 67) (lntC m.cm.l cs))).toArray) := HP.out.no (Kept.refl No _).drew
      have HB : Hid (Box (wr.drew) gb 5 (u8L cur).toArray) := HB.out.no (Kept.refl No _).drew
      have HF : Hid (Fr (fun k => k = gb ∨ k = ge ∨ k = gl ∨ k = gc) w (wr.drew) [(gk1, 50, Mg.cells (lentM m gb ge gl gc))]) := HF.out.drew
      generalize wr.drew = wk3 at HF HE HL HP HB hH ⊢
      refine aT (i := 0) (oi := { dst := some 11, op := Op.fieldAddr 50 (Operand.tmp 1) 8, type := 0, pos := "same.go:145", after := #[], guard := none }) (v := .pointer (some ⟨gk1, 15, none⟩)) (fun _ _ => by kernel_rfl) hH ?_
      try simp only [pA, pB, p1, p2, p3]
      refine aT (i := 1) (oi := { dst := some 12, op := Op.load 26 (Operand.tmp 11), type := 26, pos := "same.go:145", after := #[{ on := 0, ground := Ground.data }], guard := none }) (v := .slice (some ⟨gb, 0, none⟩) m.bl.l (m.bl.l + 67)) (fun w' hw => exec_load 26 _ rfl ⟨gk1, 15, none⟩ (by kernel_rfl) (.slice (some ⟨gb, 0, none⟩) m.bl.l (m.bl.l + 67)) (load_one ((hw.box 0 _ _ _ rfl).cell 15 |>.trans (by kernel_rfl)) Try.und26 rfl)) hH ?_
      try simp only [pA, pB, p1, p2, p3]
      refine aT (i := 2) (oi := { dst := some 13, op := Op.move (Operand.tmp 2), type := 3, pos := "same.go:145", after := #[], guard := none }) (v := .int .i64 ((i : Nat) : Int)) (fun _ _ => by kernel_rfl) hH ?_
      try simp only [pA, pB, p1, p2, p3]
      refine aT (i := 3) (oi := { dst := some 14, op := Op.fieldAddr 50 (Operand.tmp 1) 8, type := 0, pos := "same.go:145", after := #[], guard := none }) (v := .pointer (some ⟨gk1, 15, none⟩)) (fun _ _ => by kernel_rfl) hH ?_
      try simp only [pA, pB, p1, p2, p3]
      refine aT (i := 4) (oi := { dst := some 15, op := Op.load 26 (Operand.tmp 14), type := 26, pos := "same.go:145", after := #[{ on := 3, ground := Ground.data }], guard := none }) (v := .slice (some ⟨gb, 0, none⟩) m.bl.l (m.bl.l + 67)) (fun w' hw => exec_load 26 _ rfl ⟨gk1, 15, none⟩ (by kernel_rfl) (.slice (some ⟨gb, 0, none⟩) m.bl.l (m.bl.l + 67)) (load_one ((hw.box 0 _ _ _ rfl).cell 15 |>.trans (by kernel_rfl)) Try.und26 rfl)) hH ?_
      try simp only [pA, pB, p1, p2, p3]
      refine aT (i := 5) (oi := { dst := some 16, op := Op.move (Operand.tmp 2), type := 3, pos := "same.go:145", after := #[], guard := none }) (v := .int .i64 ((i : Nat) : Int)) (fun _ _ => by kernel_rfl) hH ?_
      try simp only [pA, pB, p1, p2, p3]
      refine aT (i := 6) (oi := { dst := some 17, op := Op.indexAddr 26 (Operand.tmp 15) (Operand.tmp 16), type := 0, pos := "same.go:145", after := #[{ on := 4, ground := Ground.data }, { on := 5, ground := Ground.data }], guard := none }) (v := .pointer (some ⟨gb, 0 + i * 1, none⟩)) (fun w' hw => exec_ixA 26 1 Try.und26e Try.size26e _ _ rfl gb 0 m.bl.l (m.bl.l + 67) i (by kernel_rfl) (by kernel_rfl) (by omega)) hH ?_
      try simp only [pA, pB, p1, p2, p3]
      refine any_step (i := 7) (o := { dst := some 18, op := Op.load 5 (Operand.tmp 17), type := 5, pos := "same.go:145", after := #[{ on := 6, ground := Ground.data }], guard := none }) (w' := wk3) rfl (by kernel_rfl) (by kernel_rfl) (exec_load 5 _ rfl ⟨gb, 0 + i * 1, none⟩ (by kernel_rfl) (.int .u8 z) (load_one (row_B HB.out hz) Try.und5 rfl)) hH (fun hH => ?_)
      try simp only [pA, pB, p1, p2, p3]
      refine aT (i := 8) (oi := { dst := some 19, op := Op.binOp BinOp.add 5 (Operand.tmp 18) (Operand.const (Value.int IntKind.u8 1)) 5, type := 5, pos := "same.go:145", after := #[{ on := 7, ground := Ground.data }], guard := none }) (v := .int .u8 (IntKind.u8.wrap (z + 1))) (fun w' hw => exec_bin .add 5 _ _ _ rfl (.int .u8 z) (.int .u8 1) (.int .u8 (IntKind.u8.wrap (z + 1))) (by kernel_rfl) (by kernel_rfl) (by kernel_rfl) (b_add8 _ _)) hH ?_
      try simp only [pA, pB, p1, p2, p3]
      refine aT (i := 9) (oi := { dst := some 20, op := Op.indexAddr 26 (Operand.tmp 12) (Operand.tmp 13), type := 0, pos := "same.go:145", after := #[{ on := 1, ground := Ground.data }, { on := 2, ground := Ground.data }, { on := 0, ground := Ground.phase }, { on := 1, ground := Ground.phase }, { on := 2, ground := Ground.phase }, { on := 3, ground := Ground.phase }, { on := 4, ground := Ground.phase }, { on := 5, ground := Ground.phase }, { on := 6, ground := Ground.phase }, { on := 7, ground := Ground.phase }, { on := 8, ground := Ground.phase }], guard := none }) (v := .pointer (some ⟨gb, 0 + i * 1, none⟩)) (fun w' hw => exec_ixA 26 1 Try.und26e Try.size26e _ _ rfl gb 0 m.bl.l (m.bl.l + 67) i (by kernel_rfl) (by kernel_rfl) (by omega)) hH ?_
      try simp only [pA, pB, p1, p2, p3]
      refine any_store (i := 10) (o := { dst := none, op := Op.store 5 (Operand.tmp 20) (Operand.tmp 19), type := 0, pos := "same.go:145", after := #[{ on := 9, ground := Ground.data }, { on := 8, ground := Ground.data }, { on := 0, ground := Ground.phase }, { on := 1, ground := Ground.phase }, { on := 2, ground := Ground.phase }, { on := 3, ground := Ground.phase }, { on := 4, ground := Ground.phase }, { on := 5, ground := Ground.phase }, { on := 6, ground := Ground.phase }, { on := 7, ground := Ground.phase }, { on := 8, ground := Ground.phase }], guard := none }) (w' := wk3.setRow gb (u8L (cur.set i (IntKind.u8.wrap (z + 1)))).toArray) rfl (by kernel_rfl) (by kernel_rfl) 5 _ _ rfl ⟨gb, 0 + i * 1, none⟩ (.int .u8 (IntKind.u8.wrap (z + 1))) (by kernel_rfl) (by kernel_rfl) (st_B _ HB.out (by omega)) (hH.via (Kept.setRow _ _ _) (fun k e => ⟨by have e : k = gb := e; omega, by have e : k = gb := e; subst e; simp⟩)) (fun hH => ?_)
      try simp only [pA, pB, p1, p2, p3]
      have HE : Hid (Box (wk3.setRow gb (u8L (cur.set i (IntKind.u8.wrap (z + 1)))).toArray) ge 110 (enL (tab (m.bk.e.l + 67) (lntE m.bk.e.l es))).toArray) := HE.out.rowNe neb _
      have HL : Hid (Box (wk3.setRow gb (u8L (cur.set i (IntKind.u8.wrap (z + 1)))).toArray) gl 113 (laL (tab (m.bk.l.l + 67) (lntL m.bk.l.l ls))).toArray) := HL.out.rowNe nlb _
      have HP : Hid (Box (wk3.setRow gb (u8L (cur.set i (IntKind.u8.wrap (z + 1)))).toArray) gc 47 (cmL (tab (m.cm.l + 67) (lntC m.cm.l cs))).toArray) := HP.out.rowNe nbc.symm _
      have HB : Hid (Box (wk3.setRow gb (u8L (cur.set i (IntKind.u8.wrap (z + 1)))).toArray) gb 5 (u8L (cur.set i (IntKind.u8.wrap (z + 1)))).toArray) := Box.setRow HB.out _
      have HF : Hid (Fr (fun k => k = gb ∨ k = ge ∨ k = gl ∨ k = gc) w (wk3.setRow gb (u8L (cur.set i (IntKind.u8.wrap (z + 1)))).toArray) [(gk1, 50, Mg.cells (lentM m gb ge gl gc))]) := HF.out.via (Kept.setRow _ _ _) (fun k e => ⟨by have e : k = gb := e; omega, by have e : k = gb := e; subst e; simp⟩)
      generalize wk3.setRow gb (u8L (cur.set i (IntKind.u8.wrap (z + 1)))).toArray = wk4 at HF HE HL HP HB hH ⊢
      refine wpAnyH_done (by kernel_rfl) ?_ _
      try simp only [pA, pB, p1, p2, p3]
      clear hH
      go_upto_region 3 with fail
      refine WL.start ?_
      refine tK (.int .i64 ((i : Nat) : Int)) ?_
      try simp only [pA, pB, p1, p2, p3]
      refine tW (.int .i64 (((i + 1) : Nat) : Int)) (exec_bin .add 3 _ _ _ rfl (.int .i64 ((i : Nat) : Int)) (.int .i64 1) (.int .i64 (((i + 1) : Nat) : Int)) (by kernel_rfl) (by kernel_rfl) (by kernel_rfl) (b_addw _ _ _ (by rw [IntKind.wrap_i64]; omega) _)) ?_
      try simp only [pA, pB, p1, p2, p3]
      refine tK (.int .i64 (((i + 1) : Nat) : Int)) ?_
      try simp only [pA, pB, p1, p2, p3]
      refine WL.nil ?_
      try simp only [pA, pB, p1, p2, p3]
      go_wp2
      go_roundw
      case rel => exact ⟨i + 1, _, by go_num, by omega, by rw [List.length_set]; exact hcl, HB, HE, HL, HP, HF⟩
      case measure => simp [intOf]; omega
    · skip
      go_upto_region 2 with fail
      refine WL.start ?_
      refine tK (.int .i64 ((i : Nat) : Int)) ?_
      try simp only [pA, pB, p1, p2, p3]
      refine tK (.pointer (some ⟨gk1, 15, none⟩)) ?_
      try simp only [pA, pB, p1, p2, p3]
      refine tW (.slice (some ⟨gb, 0, none⟩) m.bl.l (m.bl.l + 67)) (exec_load 26 _ rfl ⟨gk1, 15, none⟩ (by kernel_rfl) (.slice (some ⟨gb, 0, none⟩) m.bl.l (m.bl.l + 67)) (load_one ((HF.out.box 0 _ _ _ rfl).cell 15 |>.trans (by kernel_rfl)) Try.und26 rfl)) ?_
      try simp only [pA, pB, p1, p2, p3]
      refine tK (.int .i64 ((m.bl.l : Nat) : Int)) ?_
      try simp only [pA, pB, p1, p2, p3]
      refine tW (.bool false) (exec_bin .lss 3 _ _ _ rfl (.int .i64 ((i : Nat) : Int)) (.int .i64 ((m.bl.l : Nat) : Int)) (.bool false) (by kernel_rfl) (by kernel_rfl) (by kernel_rfl) (by rw [b_lss, decide_eq_false (by omega)])) ?_
      try simp only [pA, pB, p1, p2, p3]
      refine WL.nil ?_
      try simp only [pA, pB, p1, p2, p3]
      go_upto_region 5 with fail
      refine WL.start ?_
      refine tK (.int .i64 0) ?_
      try simp only [pA, pB, p1, p2, p3]
      refine WL.nil ?_
      try simp only [pA, pB, p1, p2, p3]
      go_wp2
      go_loopw [3] (fun v5 wr => ∃ (i : Nat) (cur : List Cm), v5 = .int .i64 ((i : Nat) : Int) ∧ i ≤ m.cm.l ∧ m.cm.l ≤ cur.length ∧ Hid (Box wr gc 47 (cmL cur).toArray) ∧ Hid (Box wr ge 110 (enL (tab (m.bk.e.l + 67) (lntE m.bk.e.l es))).toArray) ∧ Hid (Box wr gl 113 (laL (tab (m.bk.l.l + 67) (lntL m.bk.l.l ls))).toArray) ∧ Hid (Fr (fun k => k = gb ∨ k = ge ∨ k = gl ∨ k = gc) w wr [(gk1, 50, Mg.cells (lentM m gb ge gl gc))])) (fun i _ => m.cm.l - (intOf i).toNat)
      case atStart => exact ⟨0, _, by go_num, by omega, by rw [tab_len]; omega, HP, HE, HL, HF⟩
      case round =>
        clear HF HB HE HL HP
        obtain ⟨i, cur, rfl, hi, hcl, HP, HE, HL, HF⟩ := hrel
        by_cases hlt : i < m.cm.l
        · skip
          go_upto_region 6 with fail
          refine WL.start ?_
          refine tK (.int .i64 ((i : Nat) : Int)) ?_
          try simp only [pA, pB, p1, p2, p3]
          refine tK (.pointer (some ⟨gk1, 28, none⟩)) ?_
          try simp only [pA, pB, p1, p2, p3]
          refine tW (.slice (some ⟨gc, 0, none⟩) m.cm.l (m.cm.l + 67)) (exec_load 48 _ rfl ⟨gk1, 28, none⟩ (by kernel_rfl) (.slice (some ⟨gc, 0, none⟩) m.cm.l (m.cm.l + 67)) (load_one ((HF.out.box 0 _ _ _ rfl).cell 28 |>.trans (by kernel_rfl)) Try.und48 rfl)) ?_
          try simp only [pA, pB, p1, p2, p3]
          refine tK (.int .i64 ((m.cm.l : Nat) : Int)) ?_
          try simp only [pA, pB, p1, p2, p3]
          refine tW (.bool true) (exec_bin .lss 3 _ _ _ rfl (.int .i64 ((i : Nat) : Int)) (.int .i64 ((m.cm.l : Nat) : Int)) (.bool true) (by kernel_rfl) (by kernel_rfl) (by kernel_rfl) (by rw [b_lss, decide_eq_true (by omega)])) ?_
          try simp only [pA, pB, p1, p2, p3]
          refine WL.nil ?_
          try simp only [pA, pB, p1, p2, p3]
          go_upto_region 8 with fail
          refine WL.start ?_
          refine tK (.pointer (some ⟨gk1, 28, none⟩)) ?_
          try simp only [pA, pB, p1, p2, p3]
          refine tW (.slice (some ⟨gc, 0, none⟩) m.cm.l (m.cm.l + 67)) (exec_load 48 _ rfl ⟨gk1, 28, none⟩ (by kernel_rfl) (.slice (some ⟨gc, 0, none⟩) m.cm.l (m.cm.l + 67)) (load_one ((HF.out.box 0 _ _ _ rfl).cell 28 |>.trans (by kernel_rfl)) Try.und48 rfl)) ?_
          try simp only [pA, pB, p1, p2, p3]
          refine tK (.int .i64 ((i : Nat) : Int)) ?_
          try simp only [pA, pB, p1, p2, p3]
          refine tW (.agg (Cm.cells ⟨0, 0, 0, ⟨#[115, 112, 111, 105, 108, 116]⟩, 0, 0, 0, 0, 0⟩)) (exec_build 47 _ rfl (Cm.cells ⟨0, 0, 0, ⟨#[115, 112, 111, 105, 108, 116]⟩, 0, 0, 0, 0, 0⟩) (by kernel_rfl)) ?_
          try simp only [pA, pB, p1, p2, p3]
          refine tW (.pointer (some ⟨gc, 0 + i * 9, none⟩)) (exec_ixA 48 9 Try.und48e Try.size48e _ _ rfl gc 0 m.cm.l (m.cm.l + 67) i (by kernel_rfl) (by kernel_rfl) (by omega)) ?_
          try simp only [pA, pB, p1, p2, p3]
          refine wp_storeW 47 _ _ rfl ⟨gc, 0 + i * 9, none⟩ (.agg (Cm.cells ⟨0, 0, 0, ⟨#[115, 112, 111, 105, 108, 116]⟩, 0, 0, 0, 0, 0⟩)) (by kernel_rfl) (by kernel_rfl) (wr.setRow gc (cmL (cur.set i ⟨0, 0, 0, ⟨#[115, 112, 111, 105, 108, 116]⟩, 0, 0, 0, 0, 0⟩)).toArray) (st_C _ HP.out (by omega)) (by kernel_rfl) ?_
          try simp only [pA, pB, p1, p2, p3]
          have HE : Hid (Box (wr.setRow gc (cmL (cur.set i ⟨0, 0, 0, ⟨#[115, 112, 111, 105, 108, 116]⟩, 0, 0, 0, 0, 0⟩)).toArray) ge 110 (enL (tab (m.bk.e.l + 67) (lntE m.bk.e.l es))).toArray) := HE.out.rowNe nec _
          have HL : Hid (Box (wr.setRow gc (cmL (cur.set i ⟨0, 0, 0, ⟨#[115, 112, 111, 105, 108, 116]⟩, 0, 0, 0, 0, 0⟩)).toArray) gl 113 (laL (tab (m.bk.l.l + 67) (lntL m.bk.l.l ls))).toArray) := HL.out.rowNe nlc _
          have HP : Hid (Box (wr.setRow gc (cmL (cur.set i ⟨0, 0, 0, ⟨#[115, 112, 111, 105, 108, 116]⟩, 0, 0, 0, 0, 0⟩)).toArray) gc 47 (cmL (cur.set i ⟨0, 0, 0, ⟨#[115, 112, 111, 105, 108, 116]⟩, 0, 0, 0, 0, 0⟩)).toArray) := Box.setRow HP.out _
          have HF : Hid (Fr (fun k => k = gb ∨ k = ge ∨ k = gl ∨ k = gc) w (wr.setRow gc (cmL (cur.set i ⟨0, 0, 0, ⟨#[115, 112, 111, 105, 108, 116]⟩, 0, 0, 0, 0, 0⟩)).toArray) [(gk1, 50, Mg.cells (lentM m gb ge gl gc))]) := HF.out.via (Kept.setRow _ _ _) (fun k e => ⟨by have e : k = gc := e; omega, by have e : k = gc := e; subst e; simp⟩)
          generalize wr.setRow gc (cmL (cur.set i ⟨0, 0, 0, ⟨#[115, 112, 111, 105, 108, 116]⟩, 0, 0, 0, 0, 0⟩)).toArray = wk5 at HF HE HL HP ⊢
          refine WL.nil ?_
          try simp only [pA, pB, p1, p2, p3]
          go_upto_region 7 with fail
          refine WL.start ?_
          refine tK (.int .i64 ((i : Nat) : Int)) ?_
          try simp only [pA, pB, p1, p2, p3]
          refine tW (.int .i64 (((i + 1) : Nat) : Int)) (exec_bin .add 3 _ _ _ rfl (.int .i64 ((i : Nat) : Int)) (.int .i64 1) (.int .i64 (((i + 1) : Nat) : Int)) (by kernel_rfl) (by kernel_rfl) (by kernel_rfl) (b_addw _ _ _ (by rw [IntKind.wrap_i64]; omega) _)) ?_
          try simp only [pA, pB, p1, p2, p3]
          refine tK (.int .i64 (((i + 1) : Nat) : Int)) ?_
          try simp only [pA, pB, p1, p2, p3]
          refine WL.nil ?_
          try simp only [pA, pB, p1, p2, p3]
          go_wp2
          go_roundw
          case rel => exact ⟨i + 1, _, by go_num, by omega, by rw [List.length_set]; exact hcl, HP, HE, HL, HF⟩
          case measure => simp [intOf]; omega
        · skip
          go_upto_region 6 with fail
          refine WL.start ?_
          refine tK (.int .i64 ((i : Nat) : Int)) ?_
          try simp only [pA, pB, p1, p2, p3]
          refine tK (.pointer (some ⟨gk1, 28, none⟩)) ?_
          try simp only [pA, pB, p1, p2, p3]
          refine tW (.slice (some ⟨gc, 0, none⟩) m.cm.l (m.cm.l + 67)) (exec_load 48 _ rfl ⟨gk1, 28, none⟩ (by kernel_rfl) (.slice (some ⟨gc, 0, none⟩) m.cm.l (m.cm.l + 67)) (load_one ((HF.out.box 0 _ _ _ rfl).cell 28 |>.trans (by kernel_rfl)) Try.und48 rfl)) ?_
          try simp only [pA, pB, p1, p2, p3]
          refine tK (.int .i64 ((m.cm.l : Nat) : Int)) ?_
          try simp only [pA, pB, p1, p2, p3]
          refine tW (.bool false) (exec_bin .lss 3 _ _ _ rfl (.int .i64 ((i : Nat) : Int)) (.int .i64 ((m.cm.l : Nat) : Int)) (.bool false) (by kernel_rfl) (by kernel_rfl) (by kernel_rfl) (by rw [b_lss, decide_eq_false (by omega)])) ?_
          try simp only [pA, pB, p1, p2, p3]
          refine WL.nil ?_
          try simp only [pA, pB, p1, p2, p3]
          go_upto_region 9 with fail
          refine WL.start ?_
          refine tK (.pointer (some ⟨gk1, 25, none⟩)) ?_
          try simp only [pA, pB, p1, p2, p3]
          refine tW (.agg (Bv.cells ⟨m.bk.up, ⟨(some ⟨ge, 0, none⟩), m.bk.e.l, (m.bk.e.l + 67)⟩, ⟨(some ⟨gl, 0, none⟩), m.bk.l.l, (m.bk.l.l + 67)⟩⟩)) (exec_load 32 _ rfl ⟨gk1, 25, none⟩ (by kernel_rfl) (.agg (Bv.cells ⟨m.bk.up, ⟨(some ⟨ge, 0, none⟩), m.bk.e.l, (m.bk.e.l + 67)⟩, ⟨(some ⟨gl, 0, none⟩), m.bk.l.l, (m.bk.l.l + 67)⟩⟩)) (run_load_part (cs := Mg.cs (lentM m gb ge gl gc)) (sub := Bv.cs ⟨m.bk.up, ⟨(some ⟨ge, 0, none⟩), m.bk.e.l, (m.bk.e.l + 67)⟩, ⟨(some ⟨gl, 0, none⟩), m.bk.l.l, (m.bk.l.l + 67)⟩⟩) (HF.out.box 0 _ _ _ rfl) (part_of (by kernel_rfl)) Try.und32 rfl Try.size32)) ?_
          try simp only [pA, pB, p1, p2, p3]
          refine wp_callW 39 #[.agg (Bv.cells ⟨m.bk.up, ⟨(some ⟨ge, 0, none⟩), m.bk.e.l, (m.bk.e.l + 67)⟩, ⟨(some ⟨gl, 0, none⟩), m.bk.l.l, (m.bk.l.l + 67)⟩⟩)] (by kernel_rfl) _ (spoilK_any m.bk.up ge gl m.bk.e.l m.bk.l.l (m.bk.e.l + 67) (m.bk.l.l + 67) _ _ _ HE.out HL.out (by rw [tab_len]; omega) (by rw [tab_len]; omega) (by omega) (by omega)) (by kernel_rfl) ?_
          rintro e wk6 ⟨rfl, hk⟩
          have HF : Hid (Fr (fun k => k = gb ∨ k = ge ∨ k = gl ∨ k = gc) w (wk6) [(gk1, 50, Mg.cells (lentM m gb ge gl gc))]) := HF.out.via hk (fun k e => by rcases e with e | e <;> subst e; exact ⟨te, .inr (.inl rfl)⟩; exact ⟨tl, .inr (.inr (.inl rfl))⟩)
          clear hk
          refine ⟨.tuple #[], rfl, ?_⟩
          try simp only [pA, pB, p1, p2, p3]
          refine WL.nil ?_
          try simp only [pA, pB, p1, p2, p3]
          go_wp2
          rw [HC.out]
          refine bodyPost_end (v := .tuple #[]) (by kernel_rfl) rfl ⟨rfl, HF.out.kept⟩

end Go.Proofs.Ytcgnbpaaalmkoaa
