import Derived.Test.YtcgnbpaaalmkoabBb
namespace Go.Proofs.Ytcgnbpaaalmkoab
open Go.RowKit
set_option linter.unusedVariables false
set_option linter.unusedSimpArgs false

def LkOut (w : World) (b : Bv) (es : List En) (ls : List La) (e : Ending) (w' : World) : Prop := ∃ ge gl : Nat, e = .returned (.agg (Bv.cells ⟨b.up, lent b.e ge, lent b.l gl⟩)) ∧ w.heap.size ≤ ge ∧ w.heap.size ≤ gl ∧ Box w' ge 91 (enL (tab (b.e.l + 67) (lntE b.e.l es))).toArray ∧ Box w' gl 94 (laL (tab (b.l.l + 67) (lntL b.l.l ls))).toArray ∧ Kept No w w'
set_option maxRecDepth 100000 in
set_option maxHeartbeats 4000000 in
theorem lendK_any (b : Bv) (es : List En) (ls : List La) (w : World) (he : RdE w b.e es) (hl : RdL w b.l ls) (h1 : b.e.l ≤ 3518437208780) (h2 : b.l.l ≤ 2513169434843) : Calls Try.prog 19 #[.agg (Bv.cells b)] w (LkOut w b es ls) := by
  obtain ⟨C, hC⟩ : ∃ C : Ending → World → Prop, C = (LkOut w b es ls) := ⟨_, rfl⟩
  have HC : Hid (C = (LkOut w b es ls)) := hC
  rw [← hC]
  clear hC
  have HE : Hid (RdE w b.e es) := he
  have HL : Hid (RdL w b.l ls) := hl
  clear he hl
  have HF : Hid (Fr No w w []) := Fr.start _ _
  go_enter Try.func19, Try.ntmps19
  go_upto_region 0 with fail
  refine WL.start ?_
  refine wp_runW (.pointer (some ⟨w.heap.size, 0, none⟩)) (w.alloc (.cells (Bv.cells b) 30)) (exec_box 30 _ rfl (Bv.cells b) (by kernel_rfl)) (by kernel_rfl) ?_
  try simp only [pS]
  have HF : Hid (Fr No w _ [(w.heap.size, 30, Bv.cells b)]) := HF.out.alloc _ _
  generalize w.alloc (.cells (Bv.cells b) 30) = wk2 at HF ⊢
  generalize w.heap.size = gk1 at HF ⊢
  refine wp_runW (.pointer (some ⟨wk2.heap.size, 0, none⟩)) (wk2.alloc (.cells (Bv.cells bvZ) 30)) (exec_alloc 30 rfl (Bv.cells bvZ) zero32) (by kernel_rfl) ?_
  try simp only [pS]
  have HF : Hid (Fr No w _ [(gk1, 30, Bv.cells b), (wk2.heap.size, 30, Bv.cells bvZ)]) := HF.out.alloc _ _
  generalize wk2.alloc (.cells (Bv.cells bvZ) 30) = wk4 at HF ⊢
  generalize wk2.heap.size = gk3 at HF ⊢
  refine WL.nil ?_
  try simp only [pS]
  go_upto_region 1 with fail
  refine WL.start ?_
  refine tK (.pointer (some ⟨gk1, 1, none⟩)) ?_
  refine tW (b.e.v) (eL 27 _ rfl ⟨gk1, 1, none⟩ (load_one ((HF.out.box 0 _ _ _ rfl).cell 1 |>.trans (by kernel_rfl)) Try.und29 rfl)) ?_
  refine tK (.int .i64 ((b.e.l : Nat) : Int)) ?_
  refine tW (.int .i64 (((b.e.l + 67) : Nat) : Int)) (eB .add 3 _ _ _ rfl (.int .i64 ((b.e.l : Nat) : Int)) (.int .i64 67) _ (b_addw _ _ _ (by rw [IntKind.wrap_i64]; omega) _)) ?_
  try simp only [pS]
  refine wp_runW (.slice (some ⟨wk4.heap.size, 0, none⟩) (b.e.l + 67) (b.e.l + 67)) (wk4.alloc (.cells ((enL (List.replicate (b.e.l + 67) enZ)).toArray) 91)) (exec_make 27 _ _ rfl _ _ (by kernel_rfl) (by kernel_rfl) (make_en _ (b.e.l + 67) (by omega))) (by kernel_rfl) ?_
  try simp only [pS]
  have HF : Hid (Fr No w _ [(gk1, 30, Bv.cells b), (gk3, 30, Bv.cells bvZ), (wk4.heap.size, 91, (enL (List.replicate (b.e.l + 67) enZ)).toArray)]) := HF.out.alloc _ _
  generalize wk4.alloc (.cells ((enL (List.replicate (b.e.l + 67) enZ)).toArray) 91) = wk6 at HF ⊢
  generalize wk4.heap.size = gk5 at HF ⊢
  refine tK (.slice (some ⟨gk5, 0, none⟩) (b.e.l + 67) (b.e.l + 67)) ?_
  try simp only [pS]
  refine WL.nil ?_
  try simp only [pS]
  go_upto_region 2 with fail
  refine WL.start ?_
  refine tK (.slice (some ⟨gk5, 0, none⟩) (b.e.l + 67) (b.e.l + 67)) ?_
  refine tK (.pointer (some ⟨gk1, 1, none⟩)) ?_
  refine tW (b.e.v) (eL 27 _ rfl ⟨gk1, 1, none⟩ (load_one ((HF.out.box 0 _ _ _ rfl).cell 1 |>.trans (by kernel_rfl)) Try.und29 rfl)) ?_
  try simp only [pS]
  refine wp_runW (goInt b.e.l) (wk6.setRow gk5 ((enL (tab (b.e.l + 67) (upt (lntE b.e.l es) enZ b.e.l))).toArray)) (exec_copy _ _ 27 27 rfl _ _ (by kernel_rfl) (by kernel_rfl) (cpy_E _ (HF.out.box 2 _ _ _ rfl) (HE.out.no HF.out.kept))) (by kernel_rfl) ?_
  try simp only [pS]
  have HF : Hid (Fr No w _ [(gk1, 30, Bv.cells b), (gk3, 30, Bv.cells bvZ), (gk5, 91, (enL (tab (b.e.l + 67) (upt (lntE b.e.l es) enZ b.e.l))).toArray)]) := HF.out.set 2 rfl _
  generalize wk6.setRow gk5 ((enL (tab (b.e.l + 67) (upt (lntE b.e.l es) enZ b.e.l))).toArray) = wk7 at HF ⊢
  refine WL.nil ?_
  try simp only [pS]
  go_upto_region 3 with fail
  refine WL.start ?_
  refine tK (.pointer (some ⟨gk1, 1, none⟩)) ?_
  refine tW (b.e.v) (eL 27 _ rfl ⟨gk1, 1, none⟩ (load_one ((HF.out.box 0 _ _ _ rfl).cell 1 |>.trans (by kernel_rfl)) Try.und29 rfl)) ?_
  refine tK (.int .i64 ((b.e.l : Nat) : Int)) ?_
  refine tK (.int .i64 ((b.e.l : Nat) : Int)) ?_
  try simp only [pS]
  refine WL.nil ?_
  try simp only [pS]
  go_wp2
  go_loopw [4] (fun v4 wr => ∃ i : Nat, v4 = .int .i64 ((i : Nat) : Int) ∧ b.e.l ≤ i ∧ i ≤ b.e.l + 67 ∧ Hid (Fr No w wr [(gk1, 30, Bv.cells b), (gk3, 30, Bv.cells bvZ), (gk5, 91, (enL (tab (b.e.l + 67) (upt (lntE b.e.l es) enZ i))).toArray)])) (fun i _ => b.e.l + 67 - (intOf i).toNat)
  case atStart => exact ⟨b.e.l, rfl, by omega, by omega, HF⟩
  case round =>
    clear HF
    obtain ⟨i, rfl, hi0, hi, HF⟩ := hrel
    by_cases hlt : i < b.e.l + 67
    · skip
      go_upto_region 4 with fail
      refine WL.start ?_
      refine tK (.int .i64 ((i : Nat) : Int)) ?_
      refine tK (.slice (some ⟨gk5, 0, none⟩) (b.e.l + 67) (b.e.l + 67)) ?_
      refine tK (.int .i64 (((b.e.l + 67) : Nat) : Int)) ?_
      refine tW (.bool true) (eB .lss 3 _ _ _ rfl (.int .i64 ((i : Nat) : Int)) (.int .i64 (((b.e.l + 67) : Nat) : Int)) _ (by rw [b_lss, decide_eq_true (by omega)])) ?_
      try simp only [pS]
      refine WL.nil ?_
      try simp only [pS]
      go_upto_region 6 with fail
      refine WL.start ?_
      refine tK (.slice (some ⟨gk5, 0, none⟩) (b.e.l + 67) (b.e.l + 67)) ?_
      refine tK (.int .i64 ((i : Nat) : Int)) ?_
      refine tK (.int .i64 ((i : Nat) : Int)) ?_
      refine tW (.int .i64 (-((i : Nat) : Int))) (eB .sub 3 _ _ _ rfl (.int .i64 0) (.int .i64 ((i : Nat) : Int)) _ (b_subw _ _ _ (by rw [IntKind.wrap_i64]; omega) _)) ?_
      refine tW (.agg (En.cells ⟨⟨#[109, 97, 114, 107]⟩, 0, 0, (-((i : Nat) : Int))⟩)) (exec_build 91 _ rfl (En.cells ⟨⟨#[109, 97, 114, 107]⟩, 0, 0, (-((i : Nat) : Int))⟩) (by kernel_rfl)) ?_
      refine tW (.pointer (some ⟨gk5, 0 + i * 4, none⟩)) (exec_ixA 27 4 Try.und29e Try.size29e _ _ rfl gk5 0 (b.e.l + 67) (b.e.l + 67) i (by kernel_rfl) (by kernel_rfl) (by omega)) ?_
      try simp only [pS]
      refine wp_storeW 91 _ _ rfl ⟨gk5, 0 + i * 4, none⟩ (.agg (En.cells ⟨⟨#[109, 97, 114, 107]⟩, 0, 0, (-((i : Nat) : Int))⟩)) (by kernel_rfl) (by kernel_rfl) (wr.setRow gk5 ((enL (tab (b.e.l + 67) (upt (lntE b.e.l es) enZ (i + 1)))).toArray)) (lay_E _ (HF.out.box 2 _ _ _ rfl) (by omega) (lnt_ge (by omega))) (by kernel_rfl) ?_
      try simp only [pS]
      have HF : Hid (Fr No w _ [(gk1, 30, Bv.cells b), (gk3, 30, Bv.cells bvZ), (gk5, 91, (enL (tab (b.e.l + 67) (upt (lntE b.e.l es) enZ (i + 1)))).toArray)]) := HF.out.set 2 rfl _
      generalize wr.setRow gk5 ((enL (tab (b.e.l + 67) (upt (lntE b.e.l es) enZ (i + 1)))).toArray) = wk8 at HF ⊢
      refine WL.nil ?_
      try simp only [pS]
      go_upto_region 5 with fail
      refine WL.start ?_
      refine tK (.int .i64 ((i : Nat) : Int)) ?_
      refine tW (.int .i64 (((i + 1) : Nat) : Int)) (eB .add 3 _ _ _ rfl (.int .i64 ((i : Nat) : Int)) (.int .i64 1) _ (b_addw _ _ _ (by rw [IntKind.wrap_i64]; omega) _)) ?_
      refine tK (.int .i64 (((i + 1) : Nat) : Int)) ?_
      try simp only [pS]
      refine WL.nil ?_
      try simp only [pS]
      go_wp2
      go_roundw
      case rel => exact ⟨i + 1, by go_num, by omega, by omega, HF⟩
      case measure => simp [intOf]; omega
    · skip
      have he : i = b.e.l + 67 := by omega
      subst he
      go_upto_region 4 with fail
      refine WL.start ?_
      refine tK (.int .i64 (((b.e.l + 67) : Nat) : Int)) ?_
      refine tK (.slice (some ⟨gk5, 0, none⟩) (b.e.l + 67) (b.e.l + 67)) ?_
      refine tK (.int .i64 (((b.e.l + 67) : Nat) : Int)) ?_
      refine tW (.bool false) (eB .lss 3 _ _ _ rfl (.int .i64 (((b.e.l + 67) : Nat) : Int)) (.int .i64 (((b.e.l + 67) : Nat) : Int)) _ (by rw [b_lss, decide_eq_false (by omega)])) ?_
      try simp only [pS]
      refine WL.nil ?_
      try simp only [pS]
      go_upto_region 7 with fail
      refine WL.start ?_
      refine tK (.pointer (some ⟨gk1, 2, none⟩)) ?_
      refine tW (b.l.v) (eL 28 _ rfl ⟨gk1, 2, none⟩ (load_one ((HF.out.box 0 _ _ _ rfl).cell 2 |>.trans (by kernel_rfl)) Try.und30 rfl)) ?_
      refine tK (.int .i64 ((b.l.l : Nat) : Int)) ?_
      refine tW (.int .i64 (((b.l.l + 67) : Nat) : Int)) (eB .add 3 _ _ _ rfl (.int .i64 ((b.l.l : Nat) : Int)) (.int .i64 67) _ (b_addw _ _ _ (by rw [IntKind.wrap_i64]; omega) _)) ?_
      try simp only [pS]
      refine wp_runW (.slice (some ⟨wr.heap.size, 0, none⟩) (b.l.l + 67) (b.l.l + 67)) (wr.alloc (.cells ((laL (List.replicate (b.l.l + 67) laZ)).toArray) 94)) (exec_make 28 _ _ rfl _ _ (by kernel_rfl) (by kernel_rfl) (make_la _ (b.l.l + 67) (by omega))) (by kernel_rfl) ?_
      try simp only [pS]
      have HF : Hid (Fr No w _ [(gk1, 30, Bv.cells b), (gk3, 30, Bv.cells bvZ), (gk5, 91, (enL (tab (b.e.l + 67) (upt (lntE b.e.l es) enZ (b.e.l + 67)))).toArray), (wr.heap.size, 94, (laL (List.replicate (b.l.l + 67) laZ)).toArray)]) := HF.out.alloc _ _
      generalize wr.alloc (.cells ((laL (List.replicate (b.l.l + 67) laZ)).toArray) 94) = wk10 at HF ⊢
      generalize wr.heap.size = gk9 at HF ⊢
      refine tK (.slice (some ⟨gk9, 0, none⟩) (b.l.l + 67) (b.l.l + 67)) ?_
      try simp only [pS]
      refine WL.nil ?_
      try simp only [pS]
      go_upto_region 8 with fail
      refine WL.start ?_
      refine tK (.slice (some ⟨gk9, 0, none⟩) (b.l.l + 67) (b.l.l + 67)) ?_
      refine tK (.pointer (some ⟨gk1, 2, none⟩)) ?_
      refine tW (b.l.v) (eL 28 _ rfl ⟨gk1, 2, none⟩ (load_one ((HF.out.box 0 _ _ _ rfl).cell 2 |>.trans (by kernel_rfl)) Try.und30 rfl)) ?_
      try simp only [pS]
      refine wp_runW (goInt b.l.l) (wk10.setRow gk9 ((laL (tab (b.l.l + 67) (upt (lntL b.l.l ls) laZ b.l.l))).toArray)) (exec_copy _ _ 28 28 rfl _ _ (by kernel_rfl) (by kernel_rfl) (cpy_L _ (HF.out.box 3 _ _ _ rfl) (HL.out.no HF.out.kept))) (by kernel_rfl) ?_
      try simp only [pS]
      have HF : Hid (Fr No w _ [(gk1, 30, Bv.cells b), (gk3, 30, Bv.cells bvZ), (gk5, 91, (enL (tab (b.e.l + 67) (upt (lntE b.e.l es) enZ (b.e.l + 67)))).toArray), (gk9, 94, (laL (tab (b.l.l + 67) (upt (lntL b.l.l ls) laZ b.l.l))).toArray)]) := HF.out.set 3 rfl _
      generalize wk10.setRow gk9 ((laL (tab (b.l.l + 67) (upt (lntL b.l.l ls) laZ b.l.l))).toArray) = wk11 at HF ⊢
      refine WL.nil ?_
      try simp only [pS]
      go_upto_region 9 with fail
      refine WL.start ?_
      refine tK (.pointer (some ⟨gk1, 2, none⟩)) ?_
      refine tW (b.l.v) (eL 28 _ rfl ⟨gk1, 2, none⟩ (load_one ((HF.out.box 0 _ _ _ rfl).cell 2 |>.trans (by kernel_rfl)) Try.und30 rfl)) ?_
      refine tK (.int .i64 ((b.l.l : Nat) : Int)) ?_
      refine tK (.int .i64 ((b.l.l : Nat) : Int)) ?_
      try simp only [pS]
      refine WL.nil ?_
      try simp only [pS]
      go_wp2
      go_loopw [6] (fun v4 wr => ∃ i : Nat, v4 = .int .i64 ((i : Nat) : Int) ∧ b.l.l ≤ i ∧ i ≤ b.l.l + 67 ∧ Hid (Fr No w wr [(gk1, 30, Bv.cells b), (gk3, 30, Bv.cells bvZ), (gk5, 91, (enL (tab (b.e.l + 67) (upt (lntE b.e.l es) enZ (b.e.l + 67)))).toArray), (gk9, 94, (laL (tab (b.l.l + 67) (upt (lntL b.l.l ls) laZ i))).toArray)])) (fun i _ => b.l.l + 67 - (intOf i).toNat)
      case atStart => exact ⟨b.l.l, rfl, by omega, by omega, HF⟩
      case round =>
        clear HF
        obtain ⟨i, rfl, hi0, hi, HF⟩ := hrel
        by_cases hlt : i < b.l.l + 67
        · skip
          go_upto_region 10 with fail
          refine WL.start ?_
          refine tK (.int .i64 ((i : Nat) : Int)) ?_
          refine tK (.slice (some ⟨gk9, 0, none⟩) (b.l.l + 67) (b.l.l + 67)) ?_
          refine tK (.int .i64 (((b.l.l + 67) : Nat) : Int)) ?_
          refine tW (.bool true) (eB .lss 3 _ _ _ rfl (.int .i64 ((i : Nat) : Int)) (.int .i64 (((b.l.l + 67) : Nat) : Int)) _ (by rw [b_lss, decide_eq_true (by omega)])) ?_
          try simp only [pS]
          refine WL.nil ?_
          try simp only [pS]
          go_upto_region 12 with fail
          refine WL.start ?_
          refine tK (.slice (some ⟨gk9, 0, none⟩) (b.l.l + 67) (b.l.l + 67)) ?_
          refine tK (.int .i64 ((i : Nat) : Int)) ?_
          refine tK (.int .i64 ((i : Nat) : Int)) ?_
          refine tW (.int .i64 (-((i : Nat) : Int))) (eB .sub 3 _ _ _ rfl (.int .i64 0) (.int .i64 ((i : Nat) : Int)) _ (b_subw _ _ _ (by rw [IntKind.wrap_i64]; omega) _)) ?_
          refine tW (.agg (La.cells ⟨(-((i : Nat) : Int)), (-7), 0, 0, 0, 0, 0⟩)) (exec_build 94 _ rfl (La.cells ⟨(-((i : Nat) : Int)), (-7), 0, 0, 0, 0, 0⟩) (by kernel_rfl)) ?_
          refine tW (.pointer (some ⟨gk9, 0 + i * 7, none⟩)) (exec_ixA 28 7 Try.und30e Try.size30e _ _ rfl gk9 0 (b.l.l + 67) (b.l.l + 67) i (by kernel_rfl) (by kernel_rfl) (by omega)) ?_
          try simp only [pS]
          refine wp_storeW 94 _ _ rfl ⟨gk9, 0 + i * 7, none⟩ (.agg (La.cells ⟨(-((i : Nat) : Int)), (-7), 0, 0, 0, 0, 0⟩)) (by kernel_rfl) (by kernel_rfl) (wr.setRow gk9 ((laL (tab (b.l.l + 67) (upt (lntL b.l.l ls) laZ (i + 1)))).toArray)) (lay_L _ (HF.out.box 3 _ _ _ rfl) (by omega) (lnt_ge (by omega))) (by kernel_rfl) ?_
          try simp only [pS]
          have HF : Hid (Fr No w _ [(gk1, 30, Bv.cells b), (gk3, 30, Bv.cells bvZ), (gk5, 91, (enL (tab (b.e.l + 67) (upt (lntE b.e.l es) enZ (b.e.l + 67)))).toArray), (gk9, 94, (laL (tab (b.l.l + 67) (upt (lntL b.l.l ls) laZ (i + 1)))).toArray)]) := HF.out.set 3 rfl _
          generalize wr.setRow gk9 ((laL (tab (b.l.l + 67) (upt (lntL b.l.l ls) laZ (i + 1)))).toArray) = wk12 at HF ⊢
          refine WL.nil ?_
          try simp only [pS]
          go_upto_region 11 with fail
          refine WL.start ?_
          refine tK (.int .i64 ((i : Nat) : Int)) ?_
          refine tW (.int .i64 (((i + 1) : Nat) : Int)) (eB .add 3 _ _ _ rfl (.int .i64 ((i : Nat) : Int)) (.int .i64 1) _ (b_addw _ _ _ (by rw [IntKind.wrap_i64]; omega) _)) ?_
          refine tK (.int .i64 (((i + 1) : Nat) : Int)) ?_
          try simp only [pS]
          refine WL.nil ?_
          try simp only [pS]
          go_wp2
          go_roundw
          case rel => exact ⟨i + 1, by go_num, by omega, by omega, HF⟩
          case measure => simp [intOf]; omega
        · skip
          have he : i = b.l.l + 67 := by omega
          subst he
          go_upto_region 10 with fail
          refine WL.start ?_
          refine tK (.int .i64 (((b.l.l + 67) : Nat) : Int)) ?_
          refine tK (.slice (some ⟨gk9, 0, none⟩) (b.l.l + 67) (b.l.l + 67)) ?_
          refine tK (.int .i64 (((b.l.l + 67) : Nat) : Int)) ?_
          refine tW (.bool false) (eB .lss 3 _ _ _ rfl (.int .i64 (((b.l.l + 67) : Nat) : Int)) (.int .i64 (((b.l.l + 67) : Nat) : Int)) _ (by rw [b_lss, decide_eq_false (by omega)])) ?_
          try simp only [pS]
          refine WL.nil ?_
          try simp only [pS]
          go_upto_region 13 with fail
          refine wp_region_held_drew (S := fun w' => Box w' gk1 30 (Bv.cells b)) rfl (HF.out.box 0 _ _ _ rfl) (fun hH => ?_)
          have HF : Hid (Fr No w (wr.drew) [(gk1, 30, Bv.cells b), (gk3, 30, Bv.cells bvZ), (gk5, 91, (enL (tab (b.e.l + 67) (upt (lntE b.e.l es) enZ (b.e.l + 67)))).toArray), (gk9, 94, (laL (tab (b.l.l + 67) (upt (lntL b.l.l ls) laZ (b.l.l + 67)))).toArray)]) := HF.out.drew
          generalize wr.drew = wk13 at HF hH ⊢
          refine aT (i := 0) (oi := { dst := some 55, op := Op.fieldAddr 30 (Operand.tmp 1) 0, type := 0, pos := "same.go:67", after := #[], guard := none }) (v := .pointer (some ⟨gk1, 0, none⟩)) (fun _ _ => by kernel_rfl) hH ?_
          try simp only [pS]
          refine aT (i := 1) (oi := { dst := some 56, op := Op.load 3 (Operand.tmp 55), type := 3, pos := "same.go:67", after := #[{ on := 0, ground := Ground.data }], guard := none }) (v := .int .i64 b.up) (fun w' hw => eL 3 _ rfl ⟨gk1, 0, none⟩ (load_one ((hw).cell 0 |>.trans (by kernel_rfl)) Try.und3 rfl)) hH ?_
          try simp only [pS]
          refine aT (i := 2) (oi := { dst := some 57, op := Op.move (Operand.tmp 3), type := 27, pos := "same.go:67", after := #[], guard := none }) (v := .slice (some ⟨gk5, 0, none⟩) (b.e.l + 67) (b.e.l + 67)) (fun _ _ => by kernel_rfl) hH ?_
          try simp only [pS]
          refine aT (i := 3) (oi := { dst := some 58, op := Op.fieldAddr 30 (Operand.tmp 1) 1, type := 0, pos := "same.go:67", after := #[], guard := none }) (v := .pointer (some ⟨gk1, 1, none⟩)) (fun _ _ => by kernel_rfl) hH ?_
          try simp only [pS]
          refine aT (i := 4) (oi := { dst := some 59, op := Op.load 27 (Operand.tmp 58), type := 27, pos := "same.go:67", after := #[{ on := 3, ground := Ground.data }], guard := none }) (v := b.e.v) (fun w' hw => eL 27 _ rfl ⟨gk1, 1, none⟩ (load_one ((hw).cell 1 |>.trans (by kernel_rfl)) Try.und29 rfl)) hH ?_
          try simp only [pS]
          refine aT (i := 5) (oi := { dst := some 60, op := Op.call { callee := Callee.builtin Builtin.len, args := #[Operand.tmp 59], argTypes := #[27] }, type := 3, pos := "same.go:67", after := #[{ on := 4, ground := Ground.data }], guard := none }) (v := .int .i64 ((b.e.l : Nat) : Int)) (fun _ _ => by kernel_rfl) hH ?_
          try simp only [pS]
          refine aT (i := 6) (oi := { dst := some 61, op := Op.slice 27 (Operand.tmp 57) none (some (Operand.tmp 60)) none, type := 27, pos := "same.go:67", after := #[{ on := 2, ground := Ground.data }, { on := 5, ground := Ground.data }], guard := none }) (v := .slice (some ⟨gk5, 0, none⟩) b.e.l (b.e.l + 67)) (fun w' hw => (exec_slH 27 _ _ rfl 4 Try.und29e Try.size29e (some ⟨gk5, 0, none⟩) (b.e.l + 67) (b.e.l + 67) b.e.l (by kernel_rfl) (by kernel_rfl) (by omega)).trans (by rw [sliced0 _ _ _ _ (by omega)])) hH ?_
          try simp only [pS]
          refine aT (i := 7) (oi := { dst := some 62, op := Op.move (Operand.tmp 5), type := 28, pos := "same.go:67", after := #[], guard := none }) (v := .slice (some ⟨gk9, 0, none⟩) (b.l.l + 67) (b.l.l + 67)) (fun _ _ => by kernel_rfl) hH ?_
          try simp only [pS]
          refine aT (i := 8) (oi := { dst := some 63, op := Op.fieldAddr 30 (Operand.tmp 1) 2, type := 0, pos := "same.go:67", after := #[], guard := none }) (v := .pointer (some ⟨gk1, 2, none⟩)) (fun _ _ => by kernel_rfl) hH ?_
          try simp only [pS]
          refine aT (i := 9) (oi := { dst := some 64, op := Op.load 28 (Operand.tmp 63), type := 28, pos := "same.go:67", after := #[{ on := 8, ground := Ground.data }], guard := none }) (v := b.l.v) (fun w' hw => eL 28 _ rfl ⟨gk1, 2, none⟩ (load_one ((hw).cell 2 |>.trans (by kernel_rfl)) Try.und30 rfl)) hH ?_
          try simp only [pS]
          refine aT (i := 10) (oi := { dst := some 65, op := Op.call { callee := Callee.builtin Builtin.len, args := #[Operand.tmp 64], argTypes := #[28] }, type := 3, pos := "same.go:67", after := #[{ on := 9, ground := Ground.data }], guard := none }) (v := .int .i64 ((b.l.l : Nat) : Int)) (fun _ _ => by kernel_rfl) hH ?_
          try simp only [pS]
          refine aT (i := 11) (oi := { dst := some 66, op := Op.slice 28 (Operand.tmp 62) none (some (Operand.tmp 65)) none, type := 28, pos := "same.go:67", after := #[{ on := 7, ground := Ground.data }, { on := 10, ground := Ground.data }], guard := none }) (v := .slice (some ⟨gk9, 0, none⟩) b.l.l (b.l.l + 67)) (fun w' hw => (exec_slH 28 _ _ rfl 7 Try.und30e Try.size30e (some ⟨gk9, 0, none⟩) (b.l.l + 67) (b.l.l + 67) b.l.l (by kernel_rfl) (by kernel_rfl) (by omega)).trans (by rw [sliced0 _ _ _ _ (by omega)])) hH ?_
          try simp only [pS]
          refine aT (i := 12) (oi := { dst := some 67, op := Op.build 30 #[(0, Operand.tmp 56), (1, Operand.tmp 61), (2, Operand.tmp 66)], type := 30, pos := "same.go:67", after := #[{ on := 1, ground := Ground.data }, { on := 6, ground := Ground.data }, { on := 11, ground := Ground.data }], guard := none }) (v := .agg (Bv.cells ⟨b.up, ⟨(some ⟨gk5, 0, none⟩), b.e.l, (b.e.l + 67)⟩, ⟨(some ⟨gk9, 0, none⟩), b.l.l, (b.l.l + 67)⟩⟩)) (fun w' hw => exec_build 30 _ rfl (Bv.cells ⟨b.up, ⟨(some ⟨gk5, 0, none⟩), b.e.l, (b.e.l + 67)⟩, ⟨(some ⟨gk9, 0, none⟩), b.l.l, (b.l.l + 67)⟩⟩) (by kernel_rfl)) hH ?_
          try simp only [pS]
          refine any_store (i := 13) (o := { dst := none, op := Op.store 30 (Operand.tmp 2) (Operand.tmp 67), type := 0, pos := "same.go:67", after := #[{ on := 12, ground := Ground.data }, { on := 0, ground := Ground.phase }, { on := 1, ground := Ground.phase }, { on := 2, ground := Ground.phase }, { on := 3, ground := Ground.phase }, { on := 4, ground := Ground.phase }, { on := 5, ground := Ground.phase }, { on := 6, ground := Ground.phase }, { on := 7, ground := Ground.phase }, { on := 8, ground := Ground.phase }, { on := 9, ground := Ground.phase }, { on := 10, ground := Ground.phase }, { on := 11, ground := Ground.phase }, { on := 12, ground := Ground.phase }], guard := none }) (w' := wk13.setRow gk3 (Bv.cells ⟨b.up, ⟨(some ⟨gk5, 0, none⟩), b.e.l, (b.e.l + 67)⟩, ⟨(some ⟨gk9, 0, none⟩), b.l.l, (b.l.l + 67)⟩⟩)) rfl (by kernel_rfl) (by kernel_rfl) 30 _ _ rfl ⟨gk3, 0, none⟩ (.agg (Bv.cells ⟨b.up, ⟨(some ⟨gk5, 0, none⟩), b.e.l, (b.e.l + 67)⟩, ⟨(some ⟨gk9, 0, none⟩), b.l.l, (b.l.l + 67)⟩⟩)) (by kernel_rfl) (by kernel_rfl) (run_store_to (cur := Bv.cs bvZ) (vs := Bv.cs ⟨b.up, ⟨(some ⟨gk5, 0, none⟩), b.e.l, (b.e.l + 67)⟩, ⟨(some ⟨gk9, 0, none⟩), b.l.l, (b.l.l + 67)⟩⟩) (new := Bv.cs ⟨b.up, ⟨(some ⟨gk5, 0, none⟩), b.e.l, (b.e.l + 67)⟩, ⟨(some ⟨gk9, 0, none⟩), b.l.l, (b.l.l + 67)⟩⟩) (HF.out.box 1 _ _ _ rfl) (by kernel_rfl) Try.size32 (Nat.le_of_ble_eq_true (by kernel_rfl)) (Bv.oneL _) (by kernel_rfl)) ((hH.rowNe (HF.out.ne 0 1 rfl rfl (by simp)) _)) (fun hH => ?_)
          try simp only [pS]
          have HF : Hid (Fr No w _ [(gk1, 30, Bv.cells b), (gk3, 30, Bv.cells ⟨b.up, ⟨(some ⟨gk5, 0, none⟩), b.e.l, (b.e.l + 67)⟩, ⟨(some ⟨gk9, 0, none⟩), b.l.l, (b.l.l + 67)⟩⟩), (gk5, 91, (enL (tab (b.e.l + 67) (upt (lntE b.e.l es) enZ (b.e.l + 67)))).toArray), (gk9, 94, (laL (tab (b.l.l + 67) (upt (lntL b.l.l ls) laZ (b.l.l + 67)))).toArray)]) := HF.out.set 1 rfl _
          generalize wk13.setRow gk3 (Bv.cells ⟨b.up, ⟨(some ⟨gk5, 0, none⟩), b.e.l, (b.e.l + 67)⟩, ⟨(some ⟨gk9, 0, none⟩), b.l.l, (b.l.l + 67)⟩⟩) = wk14 at HF hH ⊢
          refine wpAnyH_done (by kernel_rfl) ?_ _
          try simp only [pS]
          clear hH
          go_wp2
          rw [HC.out]
          refine bodyPost_ret (results_row1 (by rfl) _ _ gk3 (Bv.cells ⟨b.up, ⟨(some ⟨gk5, 0, none⟩), b.e.l, (b.e.l + 67)⟩, ⟨(some ⟨gk9, 0, none⟩), b.l.l, (b.l.l + 67)⟩⟩) (by rfl) (run_load_part (cs := Bv.cs ⟨b.up, ⟨(some ⟨gk5, 0, none⟩), b.e.l, (b.e.l + 67)⟩, ⟨(some ⟨gk9, 0, none⟩), b.l.l, (b.l.l + 67)⟩⟩) (sub := Bv.cs ⟨b.up, ⟨(some ⟨gk5, 0, none⟩), b.e.l, (b.e.l + 67)⟩, ⟨(some ⟨gk9, 0, none⟩), b.l.l, (b.l.l + 67)⟩⟩) (HF.out.box 1 _ _ _ rfl) (Part.all _) Try.und32 rfl Try.size32)) rfl ?_
          exact ⟨gk5, gk9, rfl, HF.out.low 2 _ _ _ rfl, HF.out.low 3 _ _ _ rfl, by have h := HF.out.box 2 _ _ _ rfl; rw [upt_all] at h; exact h, by have h := HF.out.box 3 _ _ _ rfl; rw [upt_all] at h; exact h, HF.out.kept⟩

end Go.Proofs.Ytcgnbpaaalmkoab
