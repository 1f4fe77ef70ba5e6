import Derived.Test.YtcgnbpaaalmkoabBf
namespace Go.Proofs.Ytcgnbpaaalmkoab
open Go.RowKit
set_option linter.unusedVariables false
set_option linter.unusedSimpArgs false

theorem Box.ne {w : World} {g g' : Nat} {t t' : TypeId} {cs cs' : Array Value} (h : Box w g t cs) (h' : Box w g' t' cs') (ht : t ≠ t') : g ≠ g' := by
  intro e
  subst e
  unfold Box at h h'
  rw [h] at h'
  exact ht (by injection (Option.some.inj h'))
set_option maxRecDepth 100000 in
set_option maxHeartbeats 4000000 in
theorem backK_any (b : Bv) (ge gl : Nat) (es : List En) (ls : List La) (w : World) (he : RdE w b.e es) (hl : RdL w b.l ls) (hbe : Box w ge 91 (enL (tab (b.e.l + 67) (lntE b.e.l es))).toArray) (hbl : Box w gl 94 (laL (tab (b.l.l + 67) (lntL b.l.l ls))).toArray) (h1 : b.e.l ≤ 3518437208780) (h2 : b.l.l ≤ 2513169434843) : Calls Try.prog 28 #[.agg (Bv.cells ⟨b.up, ⟨some ⟨ge, 0, none⟩, b.e.l, b.e.l + 67⟩, ⟨some ⟨gl, 0, none⟩, b.l.l, b.l.l + 67⟩⟩), .agg (Bv.cells b)] w (fun e w' => e = .returned (.bool true) ∧ Kept No w w') := by
  obtain ⟨C, hC⟩ : ∃ C : Ending → World → Prop, C = (fun e w' => e = .returned (.bool true) ∧ Kept No w w') := ⟨_, rfl⟩
  have HC : Hid (C = (fun e w' => e = .returned (.bool true) ∧ Kept No w w')) := hC
  rw [← hC]
  clear hC
  have HE : Hid (RdE w b.e es) := he
  have HL : Hid (RdL w b.l ls) := hl
  have HGE : Hid (Box w ge 91 (enL (tab (b.e.l + 67) (lntE b.e.l es))).toArray) := hbe
  have HGL : Hid (Box w gl 94 (laL (tab (b.l.l + 67) (lntL b.l.l ls))).toArray) := hbl
  clear he hl hbe hbl
  have HF : Hid (Fr No w w []) := Fr.start _ _
  go_enter Try.func28, Try.ntmps28
  go_upto_region 0 with fail
  refine WL.start ?_
  refine wp_runW (.pointer (some ⟨w.heap.size, 0, none⟩)) (w.alloc (.cells (Bv.cells ⟨b.up, ⟨some ⟨ge, 0, none⟩, b.e.l, b.e.l + 67⟩, ⟨some ⟨gl, 0, none⟩, b.l.l, b.l.l + 67⟩⟩) 30)) (exec_box 30 _ rfl (Bv.cells ⟨b.up, ⟨some ⟨ge, 0, none⟩, b.e.l, b.e.l + 67⟩, ⟨some ⟨gl, 0, none⟩, b.l.l, b.l.l + 67⟩⟩) (by kernel_rfl)) (by kernel_rfl) ?_
  try simp only [pS]
  have HF : Hid (Fr No w _ [(w.heap.size, 30, Bv.cells ⟨b.up, ⟨some ⟨ge, 0, none⟩, b.e.l, b.e.l + 67⟩, ⟨some ⟨gl, 0, none⟩, b.l.l, b.l.l + 67⟩⟩)]) := HF.out.alloc _ _
  generalize w.alloc (.cells (Bv.cells ⟨b.up, ⟨some ⟨ge, 0, none⟩, b.e.l, b.e.l + 67⟩, ⟨some ⟨gl, 0, none⟩, b.l.l, b.l.l + 67⟩⟩) 30) = wk2 at HF ⊢
  generalize w.heap.size = gk1 at HF ⊢
  refine wp_runW (.pointer (some ⟨wk2.heap.size, 0, none⟩)) (wk2.alloc (.cells (Bv.cells b) 30)) (exec_box 30 _ rfl (Bv.cells b) (by kernel_rfl)) (by kernel_rfl) ?_
  try simp only [pS]
  have HF : Hid (Fr No w _ [(gk1, 30, Bv.cells ⟨b.up, ⟨some ⟨ge, 0, none⟩, b.e.l, b.e.l + 67⟩, ⟨some ⟨gl, 0, none⟩, b.l.l, b.l.l + 67⟩⟩), (wk2.heap.size, 30, Bv.cells b)]) := HF.out.alloc _ _
  generalize wk2.alloc (.cells (Bv.cells b) 30) = wk4 at HF ⊢
  generalize wk2.heap.size = gk3 at HF ⊢
  refine tK (.bool false) ?_
  try simp only [pS]
  refine WL.nil ?_
  try simp only [pS]
  go_upto_region 1 with fail
  refine WL.start ?_
  refine tW (.agg (Bv.cells ⟨b.up, ⟨some ⟨ge, 0, none⟩, b.e.l, b.e.l + 67⟩, ⟨some ⟨gl, 0, none⟩, b.l.l, b.l.l + 67⟩⟩)) (eL 30 _ rfl ⟨gk1, 0, none⟩ (run_load_part (cs := Bv.cs ⟨b.up, ⟨some ⟨ge, 0, none⟩, b.e.l, b.e.l + 67⟩, ⟨some ⟨gl, 0, none⟩, b.l.l, b.l.l + 67⟩⟩) (sub := Bv.cs ⟨b.up, ⟨some ⟨ge, 0, none⟩, b.e.l, b.e.l + 67⟩, ⟨some ⟨gl, 0, none⟩, b.l.l, b.l.l + 67⟩⟩) (HF.out.box 0 _ _ _ rfl) (Part.all _) Try.und32 rfl Try.size32)) ?_
  refine tW (.agg (Bv.cells b)) (eL 30 _ rfl ⟨gk3, 0, none⟩ (run_load_part (cs := Bv.cs b) (sub := Bv.cs b) (HF.out.box 1 _ _ _ rfl) (Part.all _) Try.und32 rfl Try.size32)) ?_
  try simp only [pS]
  refine wp_callW 26 #[.agg (Bv.cells ⟨b.up, ⟨some ⟨ge, 0, none⟩, b.e.l, b.e.l + 67⟩, ⟨some ⟨gl, 0, none⟩, b.l.l, b.l.l + 67⟩⟩), .agg (Bv.cells b)] (by kernel_rfl) _ (sameK_any b.up (some ⟨ge, 0, none⟩) b.e.a (some ⟨gl, 0, none⟩) b.l.a b.e.l b.l.l (b.e.l + 67) b.e.k (b.l.l + 67) b.l.k es ls _ ((rd_E HE.out.len HGE.out).no HF.out.kept) (HE.out.no HF.out.kept) ((rd_L HL.out.len HGL.out).no HF.out.kept) (HL.out.no HF.out.kept) (by omega) (by omega)) (by kernel_rfl) ?_
  rintro e wk5 ⟨rfl, hk⟩
  have HF : Hid (Fr No w (wk5) [(gk1, 30, Bv.cells ⟨b.up, ⟨some ⟨ge, 0, none⟩, b.e.l, b.e.l + 67⟩, ⟨some ⟨gl, 0, none⟩, b.l.l, b.l.l + 67⟩⟩), (gk3, 30, Bv.cells b)]) := HF.out.no hk
  clear hk
  refine ⟨.bool true, rfl, ?_⟩
  try simp only [pS]
  refine tK (.bool false) ?_
  try simp only [pS]
  refine WL.nil ?_
  try simp only [pS]
  go_upto_region 3 with fail
  refine WL.start ?_
  refine tK (.pointer (some ⟨gk1, 1, none⟩)) ?_
  refine tW (.slice (some ⟨ge, 0, none⟩) b.e.l (b.e.l + 67)) (eL 27 _ rfl ⟨gk1, 1, none⟩ (load_one ((HF.out.box 0 _ _ _ rfl).cell 1 |>.trans (by kernel_rfl)) Try.und29 rfl)) ?_
  refine tK (.pointer (some ⟨gk3, 1, none⟩)) ?_
  refine tW (b.e.v) (eL 27 _ rfl ⟨gk3, 1, none⟩ (load_one ((HF.out.box 1 _ _ _ rfl).cell 1 |>.trans (by kernel_rfl)) Try.und29 rfl)) ?_
  refine tK (.int .i64 ((b.e.l : Nat) : Int)) ?_
  refine tW (.int .i64 (((b.e.l + 67) : Nat) : Int)) (eB .add 3 _ _ _ rfl (.int .i64 ((b.e.l : Nat) : Int)) (.int .i64 67) _ (b_addw _ _ _ (by rw [IntKind.wrap_i64]; omega) _)) ?_
  refine tW (.slice (some ⟨ge, 0, none⟩) (b.e.l + 67) (b.e.l + 67)) ((exec_slH 27 _ _ rfl 4 Try.und29e Try.size29e (some ⟨ge, 0, none⟩) b.e.l (b.e.l + 67) (b.e.l + 67) (by kernel_rfl) (by kernel_rfl) (by omega)).trans (by rw [sliced0 _ _ _ _ (by omega)])) ?_
  refine tK (.slice (some ⟨ge, 0, none⟩) (b.e.l + 67) (b.e.l + 67)) ?_
  try simp only [pS]
  refine WL.nil ?_
  try simp only [pS]
  go_upto_region 4 with fail
  refine WL.start ?_
  refine tK (.pointer (some ⟨gk3, 1, none⟩)) ?_
  refine tW (b.e.v) (eL 27 _ rfl ⟨gk3, 1, none⟩ (load_one ((HF.out.box 1 _ _ _ rfl).cell 1 |>.trans (by kernel_rfl)) Try.und29 rfl)) ?_
  refine tK (.int .i64 ((b.e.l : Nat) : Int)) ?_
  refine tK (.int .i64 ((b.e.l : Nat) : Int)) ?_
  try simp only [pS]
  refine WL.nil ?_
  try simp only [pS]
  go_wp2
  go_loopw [6] (fun v5 wr => ∃ i : Nat, v5 = .int .i64 ((i : Nat) : Int) ∧ b.e.l ≤ i ∧ i ≤ b.e.l + 67 ∧ Hid (Fr No w wr [(gk1, 30, Bv.cells ⟨b.up, ⟨some ⟨ge, 0, none⟩, b.e.l, b.e.l + 67⟩, ⟨some ⟨gl, 0, none⟩, b.l.l, b.l.l + 67⟩⟩), (gk3, 30, Bv.cells b)])) (fun i _ => b.e.l + 67 - (intOf i).toNat)
  case atStart => exact ⟨b.e.l, rfl, by omega, by omega, HF⟩
  case round =>
    clear HF
    obtain ⟨i, rfl, hi0, hi, HF⟩ := hrel
    by_cases hlt : i < b.e.l + 67
    · skip
      go_upto_region 5 with fail
      refine WL.start ?_
      refine tK (.int .i64 ((i : Nat) : Int)) ?_
      refine tK (.slice (some ⟨ge, 0, none⟩) (b.e.l + 67) (b.e.l + 67)) ?_
      refine tK (.int .i64 (((b.e.l + 67) : Nat) : Int)) ?_
      refine tW (.bool true) (eB .lss 3 _ _ _ rfl (.int .i64 ((i : Nat) : Int)) (.int .i64 (((b.e.l + 67) : Nat) : Int)) _ (by rw [b_lss, decide_eq_true (by omega)])) ?_
      try simp only [pS]
      refine WL.nil ?_
      try simp only [pS]
      go_upto_region 7 with fail
      refine WL.start ?_
      refine tK (.slice (some ⟨ge, 0, none⟩) (b.e.l + 67) (b.e.l + 67)) ?_
      refine tK (.int .i64 ((i : Nat) : Int)) ?_
      refine tW (.pointer (some ⟨ge, 0 + i * 4, none⟩)) (exec_ixA 27 4 Try.und29e Try.size29e _ _ rfl ge 0 (b.e.l + 67) (b.e.l + 67) i (by kernel_rfl) (by kernel_rfl) (by omega)) ?_
      refine tW (.agg (En.cells ⟨⟨#[109, 97, 114, 107]⟩, 0, 0, (-((i : Nat) : Int))⟩)) (eL 91 _ rfl ⟨ge, 0 + i * 4, none⟩ (load_E (row_E (HGE.out.no HF.out.kept) ((tab_get hlt).trans (congrArg some (lnt_ge hi0)))))) ?_
      refine tK (.int .i64 ((i : Nat) : Int)) ?_
      refine tW (.int .i64 (-((i : Nat) : Int))) (eB .sub 3 _ _ _ rfl (.int .i64 0) (.int .i64 ((i : Nat) : Int)) _ (b_subw _ _ _ (by rw [IntKind.wrap_i64]; omega) _)) ?_
      refine tW (.agg (En.cells ⟨⟨#[109, 97, 114, 107]⟩, 0, 0, (-((i : Nat) : Int))⟩)) (exec_build 91 _ rfl (En.cells ⟨⟨#[109, 97, 114, 107]⟩, 0, 0, (-((i : Nat) : Int))⟩) (by kernel_rfl)) ?_
      refine tW (.bool false) (eB .neq 91 _ _ _ rfl (.agg (En.cells ⟨⟨#[109, 97, 114, 107]⟩, 0, 0, (-((i : Nat) : Int))⟩)) (.agg (En.cells ⟨⟨#[109, 97, 114, 107]⟩, 0, 0, (-((i : Nat) : Int))⟩)) _ (by rw [eqE_neq, eqE_refl]; rfl)) ?_
      try simp only [pS]
      refine WL.nil ?_
      try simp only [pS]
      go_upto_region 6 with fail
      refine WL.start ?_
      refine tK (.int .i64 ((i : Nat) : Int)) ?_
      refine tW (.int .i64 (((i + 1) : Nat) : Int)) (eB .add 3 _ _ _ rfl (.int .i64 ((i : Nat) : Int)) (.int .i64 1) _ (b_addw _ _ _ (by rw [IntKind.wrap_i64]; omega) _)) ?_
      refine tK (.int .i64 (((i + 1) : Nat) : Int)) ?_
      try simp only [pS]
      refine WL.nil ?_
      try simp only [pS]
      go_wp2
      go_roundw
      case rel => exact ⟨i + 1, by go_num, by omega, by omega, HF⟩
      case measure => simp [intOf]; omega
    · skip
      go_upto_region 5 with fail
      refine WL.start ?_
      refine tK (.int .i64 ((i : Nat) : Int)) ?_
      refine tK (.slice (some ⟨ge, 0, none⟩) (b.e.l + 67) (b.e.l + 67)) ?_
      refine tK (.int .i64 (((b.e.l + 67) : Nat) : Int)) ?_
      refine tW (.bool false) (eB .lss 3 _ _ _ rfl (.int .i64 ((i : Nat) : Int)) (.int .i64 (((b.e.l + 67) : Nat) : Int)) _ (by rw [b_lss, decide_eq_false (by omega)])) ?_
      try simp only [pS]
      refine WL.nil ?_
      try simp only [pS]
      go_upto_region 9 with fail
      refine WL.start ?_
      refine tK (.pointer (some ⟨gk1, 2, none⟩)) ?_
      refine tW (.slice (some ⟨gl, 0, none⟩) b.l.l (b.l.l + 67)) (eL 28 _ rfl ⟨gk1, 2, none⟩ (load_one ((HF.out.box 0 _ _ _ rfl).cell 2 |>.trans (by kernel_rfl)) Try.und30 rfl)) ?_
      refine tK (.pointer (some ⟨gk3, 2, none⟩)) ?_
      refine tW (b.l.v) (eL 28 _ rfl ⟨gk3, 2, none⟩ (load_one ((HF.out.box 1 _ _ _ rfl).cell 2 |>.trans (by kernel_rfl)) Try.und30 rfl)) ?_
      refine tK (.int .i64 ((b.l.l : Nat) : Int)) ?_
      refine tW (.int .i64 (((b.l.l + 67) : Nat) : Int)) (eB .add 3 _ _ _ rfl (.int .i64 ((b.l.l : Nat) : Int)) (.int .i64 67) _ (b_addw _ _ _ (by rw [IntKind.wrap_i64]; omega) _)) ?_
      refine tW (.slice (some ⟨gl, 0, none⟩) (b.l.l + 67) (b.l.l + 67)) ((exec_slH 28 _ _ rfl 7 Try.und30e Try.size30e (some ⟨gl, 0, none⟩) b.l.l (b.l.l + 67) (b.l.l + 67) (by kernel_rfl) (by kernel_rfl) (by omega)).trans (by rw [sliced0 _ _ _ _ (by omega)])) ?_
      refine tK (.slice (some ⟨gl, 0, none⟩) (b.l.l + 67) (b.l.l + 67)) ?_
      try simp only [pS]
      refine WL.nil ?_
      try simp only [pS]
      go_upto_region 10 with fail
      refine WL.start ?_
      refine tK (.pointer (some ⟨gk3, 2, none⟩)) ?_
      refine tW (b.l.v) (eL 28 _ rfl ⟨gk3, 2, none⟩ (load_one ((HF.out.box 1 _ _ _ rfl).cell 2 |>.trans (by kernel_rfl)) Try.und30 rfl)) ?_
      refine tK (.int .i64 ((b.l.l : Nat) : Int)) ?_
      refine tK (.int .i64 ((b.l.l : Nat) : Int)) ?_
      try simp only [pS]
      refine WL.nil ?_
      try simp only [pS]
      go_wp2
      go_loopw [8] (fun v5 wr => ∃ i : Nat, v5 = .int .i64 ((i : Nat) : Int) ∧ b.l.l ≤ i ∧ i ≤ b.l.l + 67 ∧ Hid (Fr No w wr [(gk1, 30, Bv.cells ⟨b.up, ⟨some ⟨ge, 0, none⟩, b.e.l, b.e.l + 67⟩, ⟨some ⟨gl, 0, none⟩, b.l.l, b.l.l + 67⟩⟩), (gk3, 30, Bv.cells b)])) (fun i _ => b.l.l + 67 - (intOf i).toNat)
      case atStart => exact ⟨b.l.l, rfl, by omega, by omega, HF⟩
      case round =>
        clear HF
        obtain ⟨i, rfl, hi0, hi, HF⟩ := hrel
        by_cases hlt : i < b.l.l + 67
        · skip
          go_upto_region 11 with fail
          refine WL.start ?_
          refine tK (.int .i64 ((i : Nat) : Int)) ?_
          refine tK (.slice (some ⟨gl, 0, none⟩) (b.l.l + 67) (b.l.l + 67)) ?_
          refine tK (.int .i64 (((b.l.l + 67) : Nat) : Int)) ?_
          refine tW (.bool true) (eB .lss 3 _ _ _ rfl (.int .i64 ((i : Nat) : Int)) (.int .i64 (((b.l.l + 67) : Nat) : Int)) _ (by rw [b_lss, decide_eq_true (by omega)])) ?_
          try simp only [pS]
          refine WL.nil ?_
          try simp only [pS]
          go_upto_region 13 with fail
          refine WL.start ?_
          refine tK (.slice (some ⟨gl, 0, none⟩) (b.l.l + 67) (b.l.l + 67)) ?_
          refine tK (.int .i64 ((i : Nat) : Int)) ?_
          refine tW (.pointer (some ⟨gl, 0 + i * 7, none⟩)) (exec_ixA 28 7 Try.und30e Try.size30e _ _ rfl gl 0 (b.l.l + 67) (b.l.l + 67) i (by kernel_rfl) (by kernel_rfl) (by omega)) ?_
          refine tW (.agg (La.cells ⟨(-((i : Nat) : Int)), (-7), 0, 0, 0, 0, 0⟩)) (eL 94 _ rfl ⟨gl, 0 + i * 7, none⟩ (load_L (row_L (HGL.out.no HF.out.kept) ((tab_get hlt).trans (congrArg some (lnt_ge hi0)))))) ?_
          refine tK (.int .i64 ((i : Nat) : Int)) ?_
          refine tW (.int .i64 (-((i : Nat) : Int))) (eB .sub 3 _ _ _ rfl (.int .i64 0) (.int .i64 ((i : Nat) : Int)) _ (b_subw _ _ _ (by rw [IntKind.wrap_i64]; omega) _)) ?_
          refine tW (.agg (La.cells ⟨(-((i : Nat) : Int)), (-7), 0, 0, 0, 0, 0⟩)) (exec_build 94 _ rfl (La.cells ⟨(-((i : Nat) : Int)), (-7), 0, 0, 0, 0, 0⟩) (by kernel_rfl)) ?_
          refine tW (.bool false) (eB .neq 94 _ _ _ rfl (.agg (La.cells ⟨(-((i : Nat) : Int)), (-7), 0, 0, 0, 0, 0⟩)) (.agg (La.cells ⟨(-((i : Nat) : Int)), (-7), 0, 0, 0, 0, 0⟩)) _ (by rw [eqL_neq, eqL_refl]; rfl)) ?_
          try simp only [pS]
          refine WL.nil ?_
          try simp only [pS]
          go_upto_region 12 with fail
          refine WL.start ?_
          refine tK (.int .i64 ((i : Nat) : Int)) ?_
          refine tW (.int .i64 (((i + 1) : Nat) : Int)) (eB .add 3 _ _ _ rfl (.int .i64 ((i : Nat) : Int)) (.int .i64 1) _ (b_addw _ _ _ (by rw [IntKind.wrap_i64]; omega) _)) ?_
          refine tK (.int .i64 (((i + 1) : Nat) : Int)) ?_
          try simp only [pS]
          refine WL.nil ?_
          try simp only [pS]
          go_wp2
          go_roundw
          case rel => exact ⟨i + 1, by go_num, by omega, by omega, HF⟩
          case measure => simp [intOf]; omega
        · skip
          go_upto_region 11 with fail
          refine WL.start ?_
          refine tK (.int .i64 ((i : Nat) : Int)) ?_
          refine tK (.slice (some ⟨gl, 0, none⟩) (b.l.l + 67) (b.l.l + 67)) ?_
          refine tK (.int .i64 (((b.l.l + 67) : Nat) : Int)) ?_
          refine tW (.bool false) (eB .lss 3 _ _ _ rfl (.int .i64 ((i : Nat) : Int)) (.int .i64 (((b.l.l + 67) : Nat) : Int)) _ (by rw [b_lss, decide_eq_false (by omega)])) ?_
          try simp only [pS]
          refine WL.nil ?_
          try simp only [pS]
          go_upto_region 15 with fail
          refine WL.start ?_
          refine tK (.bool true) ?_
          try simp only [pS]
          refine WL.nil ?_
          try simp only [pS]
          go_wp2
          rw [HC.out]
          exact ⟨rfl, HF.out.kept⟩
set_option maxRecDepth 100000 in
set_option maxHeartbeats 4000000 in
theorem spoilK_any (u : Int) (ge gl n m xk yk : Nat) (es : List En) (ls : List La) (w : World) (hbe : Box w ge 91 (enL es).toArray) (hbl : Box w gl 94 (laL ls).toArray) (hn : n ≤ es.length) (hm : m ≤ ls.length) (hn2 : n ≤ 4000000000000) (hm2 : m ≤ 4000000000000) : Calls Try.prog 15 #[.agg (Bv.cells ⟨u, ⟨some ⟨ge, 0, none⟩, n, xk⟩, ⟨some ⟨gl, 0, none⟩, m, yk⟩⟩)] w (fun e w' => e = .returned (.tuple #[]) ∧ Kept (fun k => k = ge ∨ k = gl) w w') := by
  obtain ⟨C, hC⟩ : ∃ C : Ending → World → Prop, C = (fun e w' => e = .returned (.tuple #[]) ∧ Kept (fun k => k = ge ∨ k = gl) w w') := ⟨_, rfl⟩
  have HC : Hid (C = (fun e w' => e = .returned (.tuple #[]) ∧ Kept (fun k => k = ge ∨ k = gl) w w')) := hC
  rw [← hC]
  clear hC
  have hne : ge ≠ gl := hbe.ne hbl (by decide)
  have hte : ge < w.heap.size := hbe.lt
  have htl : gl < w.heap.size := hbl.lt
  have HE : Hid (Box w ge 91 (enL es).toArray) := hbe
  have HL : Hid (Box w gl 94 (laL ls).toArray) := hbl
  clear hbe hbl
  have HF : Hid (Fr (fun k => k = ge ∨ k = gl) w w []) := Fr.start _ _
  go_enter Try.func15, Try.ntmps15
  go_upto_region 0 with fail
  refine WL.start ?_
  refine wp_runW (.pointer (some ⟨w.heap.size, 0, none⟩)) (w.alloc (.cells (Bv.cells ⟨u, ⟨some ⟨ge, 0, none⟩, n, xk⟩, ⟨some ⟨gl, 0, none⟩, m, yk⟩⟩) 30)) (exec_box 30 _ rfl (Bv.cells ⟨u, ⟨some ⟨ge, 0, none⟩, n, xk⟩, ⟨some ⟨gl, 0, none⟩, m, yk⟩⟩) (by kernel_rfl)) (by kernel_rfl) ?_
  try simp only [pS]
  have HE : Hid (Box (w.alloc (.cells (Bv.cells ⟨u, ⟨some ⟨ge, 0, none⟩, n, xk⟩, ⟨some ⟨gl, 0, none⟩, m, yk⟩⟩) 30)) ge 91 (enL es).toArray) := HE.out.no ((Kept.refl No _).alloc _)
  have HL : Hid (Box (w.alloc (.cells (Bv.cells ⟨u, ⟨some ⟨ge, 0, none⟩, n, xk⟩, ⟨some ⟨gl, 0, none⟩, m, yk⟩⟩) 30)) gl 94 (laL ls).toArray) := HL.out.no ((Kept.refl No _).alloc _)
  have HF : Hid (Fr (fun k => k = ge ∨ k = gl) w _ [(w.heap.size, 30, Bv.cells ⟨u, ⟨some ⟨ge, 0, none⟩, n, xk⟩, ⟨some ⟨gl, 0, none⟩, m, yk⟩⟩)]) := HF.out.alloc _ _
  generalize w.alloc (.cells (Bv.cells ⟨u, ⟨some ⟨ge, 0, none⟩, n, xk⟩, ⟨some ⟨gl, 0, none⟩, m, yk⟩⟩) 30) = wk2 at HF HE HL ⊢
  generalize w.heap.size = gk1 at HF ⊢
  refine WL.nil ?_
  try simp only [pS]
  go_upto_region 1 with fail
  refine WL.start ?_
  refine tK (.int .i64 0) ?_
  try simp only [pS]
  refine WL.nil ?_
  try simp only [pS]
  go_wp2
  go_loopw [2] (fun v5 wr => ∃ (i : Nat) (cur : List En), v5 = .int .i64 ((i : Nat) : Int) ∧ i ≤ n ∧ n ≤ cur.length ∧ Hid (Box wr ge 91 (enL cur).toArray) ∧ Hid (Box wr gl 94 (laL ls).toArray) ∧ Hid (Fr (fun k => k = ge ∨ k = gl) w wr [(gk1, 30, Bv.cells ⟨u, ⟨some ⟨ge, 0, none⟩, n, xk⟩, ⟨some ⟨gl, 0, none⟩, m, yk⟩⟩)])) (fun i _ => n - (intOf i).toNat)
  case atStart => exact ⟨0, es, by go_num, by omega, hn, HE, HL, HF⟩
  case round =>
    clear HF HE HL
    obtain ⟨i, cur, rfl, hi, hcl, HE, HL, HF⟩ := hrel
    by_cases hlt : i < n
    · skip
      go_upto_region 2 with fail
      refine WL.start ?_
      refine tK (.int .i64 ((i : Nat) : Int)) ?_
      refine tK (.pointer (some ⟨gk1, 1, none⟩)) ?_
      refine tW (.slice (some ⟨ge, 0, none⟩) n xk) (eL 27 _ rfl ⟨gk1, 1, none⟩ (load_one ((HF.out.box 0 _ _ _ rfl).cell 1 |>.trans (by kernel_rfl)) Try.und29 rfl)) ?_
      refine tK (.int .i64 ((n : Nat) : Int)) ?_
      refine tW (.bool true) (eB .lss 3 _ _ _ rfl (.int .i64 ((i : Nat) : Int)) (.int .i64 ((n : Nat) : Int)) _ (by rw [b_lss, decide_eq_true (by omega)])) ?_
      try simp only [pS]
      refine WL.nil ?_
      try simp only [pS]
      go_upto_region 4 with fail
      refine WL.start ?_
      refine tK (.pointer (some ⟨gk1, 1, none⟩)) ?_
      refine tW (.slice (some ⟨ge, 0, none⟩) n xk) (eL 27 _ rfl ⟨gk1, 1, none⟩ (load_one ((HF.out.box 0 _ _ _ rfl).cell 1 |>.trans (by kernel_rfl)) Try.und29 rfl)) ?_
      refine tK (.int .i64 ((i : Nat) : Int)) ?_
      refine tW (.agg (En.cells ⟨⟨#[115, 112, 111, 105, 108, 116]⟩, 0, 0, 0⟩)) (exec_build 91 _ rfl (En.cells ⟨⟨#[115, 112, 111, 105, 108, 116]⟩, 0, 0, 0⟩) (by kernel_rfl)) ?_
      refine tW (.pointer (some ⟨ge, 0 + i * 4, none⟩)) (exec_ixA 27 4 Try.und29e Try.size29e _ _ rfl ge 0 n xk i (by kernel_rfl) (by kernel_rfl) (by omega)) ?_
      try simp only [pS]
      refine wp_storeW 91 _ _ rfl ⟨ge, 0 + i * 4, none⟩ (.agg (En.cells ⟨⟨#[115, 112, 111, 105, 108, 116]⟩, 0, 0, 0⟩)) (by kernel_rfl) (by kernel_rfl) (wr.setRow ge (enL (cur.set i ⟨⟨#[115, 112, 111, 105, 108, 116]⟩, 0, 0, 0⟩)).toArray) (st_E _ HE.out (by omega)) (by kernel_rfl) ?_
      try simp only [pS]
      have HL : Hid (Box (wr.setRow ge (enL (cur.set i ⟨⟨#[115, 112, 111, 105, 108, 116]⟩, 0, 0, 0⟩)).toArray) gl 94 (laL ls).toArray) := HL.out.rowNe (hne.symm) _
      have HE : Hid (Box (wr.setRow ge (enL (cur.set i ⟨⟨#[115, 112, 111, 105, 108, 116]⟩, 0, 0, 0⟩)).toArray) ge 91 (enL (cur.set i ⟨⟨#[115, 112, 111, 105, 108, 116]⟩, 0, 0, 0⟩)).toArray) := Box.setRow HE.out _
      have HF : Hid (Fr (fun k => k = ge ∨ k = gl) w (wr.setRow ge (enL (cur.set i ⟨⟨#[115, 112, 111, 105, 108, 116]⟩, 0, 0, 0⟩)).toArray) [(gk1, 30, Bv.cells ⟨u, ⟨some ⟨ge, 0, none⟩, n, xk⟩, ⟨some ⟨gl, 0, none⟩, m, yk⟩⟩)]) := HF.out.via (Kept.setRow _ _ _) (fun k e => ⟨by have e : k = ge := e; omega, .inl e⟩)
      generalize wr.setRow ge (enL (cur.set i ⟨⟨#[115, 112, 111, 105, 108, 116]⟩, 0, 0, 0⟩)).toArray = wk3 at HF HE HL ⊢
      refine WL.nil ?_
      try simp only [pS]
      go_upto_region 3 with fail
      refine WL.start ?_
      refine tK (.int .i64 ((i : Nat) : Int)) ?_
      refine tW (.int .i64 (((i + 1) : Nat) : Int)) (eB .add 3 _ _ _ rfl (.int .i64 ((i : Nat) : Int)) (.int .i64 1) _ (b_addw _ _ _ (by rw [IntKind.wrap_i64]; omega) _)) ?_
      refine tK (.int .i64 (((i + 1) : Nat) : Int)) ?_
      try simp only [pS]
      refine WL.nil ?_
      try simp only [pS]
      go_wp2
      go_roundw
      case rel => exact ⟨i + 1, _, by go_num, by omega, by rw [List.length_set]; exact hcl, HE, HL, HF⟩
      case measure => simp [intOf]; omega
    · skip
      clear hcl
      go_upto_region 2 with fail
      refine WL.start ?_
      refine tK (.int .i64 ((i : Nat) : Int)) ?_
      refine tK (.pointer (some ⟨gk1, 1, none⟩)) ?_
      refine tW (.slice (some ⟨ge, 0, none⟩) n xk) (eL 27 _ rfl ⟨gk1, 1, none⟩ (load_one ((HF.out.box 0 _ _ _ rfl).cell 1 |>.trans (by kernel_rfl)) Try.und29 rfl)) ?_
      refine tK (.int .i64 ((n : Nat) : Int)) ?_
      refine tW (.bool false) (eB .lss 3 _ _ _ rfl (.int .i64 ((i : Nat) : Int)) (.int .i64 ((n : Nat) : Int)) _ (by rw [b_lss, decide_eq_false (by omega)])) ?_
      try simp only [pS]
      refine WL.nil ?_
      try simp only [pS]
      obtain ⟨es2, hes2⟩ : ∃ l : List En, l = cur := ⟨_, rfl⟩
      rw [← hes2] at HE
      clear hes2
      go_upto_region 5 with fail
      refine WL.start ?_
      refine tK (.int .i64 0) ?_
      try simp only [pS]
      refine WL.nil ?_
      try simp only [pS]
      go_wp2
      go_loopw [3] (fun v5 wr => ∃ (i : Nat) (cur : List La), v5 = .int .i64 ((i : Nat) : Int) ∧ i ≤ m ∧ m ≤ cur.length ∧ Hid (Box wr gl 94 (laL cur).toArray) ∧ Hid (Box wr ge 91 (enL es2).toArray) ∧ Hid (Fr (fun k => k = ge ∨ k = gl) w wr [(gk1, 30, Bv.cells ⟨u, ⟨some ⟨ge, 0, none⟩, n, xk⟩, ⟨some ⟨gl, 0, none⟩, m, yk⟩⟩)])) (fun i _ => m - (intOf i).toNat)
      case atStart => exact ⟨0, ls, by go_num, by omega, hm, HL, HE, HF⟩
      case round =>
        clear HF HE HL
        obtain ⟨i, cur, rfl, hi, hcl, HL, HE, HF⟩ := hrel
        by_cases hlt : i < m
        · skip
          go_upto_region 6 with fail
          refine WL.start ?_
          refine tK (.int .i64 ((i : Nat) : Int)) ?_
          refine tK (.pointer (some ⟨gk1, 2, none⟩)) ?_
          refine tW (.slice (some ⟨gl, 0, none⟩) m yk) (eL 28 _ rfl ⟨gk1, 2, none⟩ (load_one ((HF.out.box 0 _ _ _ rfl).cell 2 |>.trans (by kernel_rfl)) Try.und30 rfl)) ?_
          refine tK (.int .i64 ((m : Nat) : Int)) ?_
          refine tW (.bool true) (eB .lss 3 _ _ _ rfl (.int .i64 ((i : Nat) : Int)) (.int .i64 ((m : Nat) : Int)) _ (by rw [b_lss, decide_eq_true (by omega)])) ?_
          try simp only [pS]
          refine WL.nil ?_
          try simp only [pS]
          go_upto_region 8 with fail
          refine WL.start ?_
          refine tK (.pointer (some ⟨gk1, 2, none⟩)) ?_
          refine tW (.slice (some ⟨gl, 0, none⟩) m yk) (eL 28 _ rfl ⟨gk1, 2, none⟩ (load_one ((HF.out.box 0 _ _ _ rfl).cell 2 |>.trans (by kernel_rfl)) Try.und30 rfl)) ?_
          refine tK (.int .i64 ((i : Nat) : Int)) ?_
          refine tW (.agg (La.cells ⟨0, (-1), 0, 0, 0, 0, 0⟩)) (exec_build 94 _ rfl (La.cells ⟨0, (-1), 0, 0, 0, 0, 0⟩) (by kernel_rfl)) ?_
          refine tW (.pointer (some ⟨gl, 0 + i * 7, none⟩)) (exec_ixA 28 7 Try.und30e Try.size30e _ _ rfl gl 0 m yk i (by kernel_rfl) (by kernel_rfl) (by omega)) ?_
          try simp only [pS]
          refine wp_storeW 94 _ _ rfl ⟨gl, 0 + i * 7, none⟩ (.agg (La.cells ⟨0, (-1), 0, 0, 0, 0, 0⟩)) (by kernel_rfl) (by kernel_rfl) (wr.setRow gl (laL (cur.set i ⟨0, (-1), 0, 0, 0, 0, 0⟩)).toArray) (st_L _ HL.out (by omega)) (by kernel_rfl) ?_
          try simp only [pS]
          have HE : Hid (Box (wr.setRow gl (laL (cur.set i ⟨0, (-1), 0, 0, 0, 0, 0⟩)).toArray) ge 91 (enL es2).toArray) := HE.out.rowNe (hne) _
          have HL : Hid (Box (wr.setRow gl (laL (cur.set i ⟨0, (-1), 0, 0, 0, 0, 0⟩)).toArray) gl 94 (laL (cur.set i ⟨0, (-1), 0, 0, 0, 0, 0⟩)).toArray) := Box.setRow HL.out _
          have HF : Hid (Fr (fun k => k = ge ∨ k = gl) w (wr.setRow gl (laL (cur.set i ⟨0, (-1), 0, 0, 0, 0, 0⟩)).toArray) [(gk1, 30, Bv.cells ⟨u, ⟨some ⟨ge, 0, none⟩, n, xk⟩, ⟨some ⟨gl, 0, none⟩, m, yk⟩⟩)]) := HF.out.via (Kept.setRow _ _ _) (fun k e => ⟨by have e : k = gl := e; omega, .inr e⟩)
          generalize wr.setRow gl (laL (cur.set i ⟨0, (-1), 0, 0, 0, 0, 0⟩)).toArray = wk4 at HF HL HE ⊢
          refine WL.nil ?_
          try simp only [pS]
          go_upto_region 7 with fail
          refine WL.start ?_
          refine tK (.int .i64 ((i : Nat) : Int)) ?_
          refine tW (.int .i64 (((i + 1) : Nat) : Int)) (eB .add 3 _ _ _ rfl (.int .i64 ((i : Nat) : Int)) (.int .i64 1) _ (b_addw _ _ _ (by rw [IntKind.wrap_i64]; omega) _)) ?_
          refine tK (.int .i64 (((i + 1) : Nat) : Int)) ?_
          try simp only [pS]
          refine WL.nil ?_
          try simp only [pS]
          go_wp2
          go_roundw
          case rel => exact ⟨i + 1, _, by go_num, by omega, by rw [List.length_set]; exact hcl, HL, HE, HF⟩
          case measure => simp [intOf]; omega
        · skip
          go_upto_region 6 with fail
          refine WL.start ?_
          refine tK (.int .i64 ((i : Nat) : Int)) ?_
          refine tK (.pointer (some ⟨gk1, 2, none⟩)) ?_
          refine tW (.slice (some ⟨gl, 0, none⟩) m yk) (eL 28 _ rfl ⟨gk1, 2, none⟩ (load_one ((HF.out.box 0 _ _ _ rfl).cell 2 |>.trans (by kernel_rfl)) Try.und30 rfl)) ?_
          refine tK (.int .i64 ((m : Nat) : Int)) ?_
          refine tW (.bool false) (eB .lss 3 _ _ _ rfl (.int .i64 ((i : Nat) : Int)) (.int .i64 ((m : Nat) : Int)) _ (by rw [b_lss, decide_eq_false (by omega)])) ?_
          try simp only [pS]
          refine WL.nil ?_
          try simp only [pS]
          go_wp2
          rw [HC.out]
          refine bodyPost_end (v := .tuple #[]) (by kernel_rfl) rfl ⟨rfl, HF.out.kept⟩

end Go.Proofs.Ytcgnbpaaalmkoab
