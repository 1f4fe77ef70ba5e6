import Derived.Test.YtcgnbpaaalmkoabU
namespace Go.Proofs.Ytcgnbpaaalmkoab
open Go.RowKit
set_option linter.unusedVariables false
set_option linter.unusedSimpArgs false

set_option maxRecDepth 100000 in
set_option maxHeartbeats 4000000 in
theorem copied_any (b : Bv) (es : List En) (ls : List La) (w : World) (he : RdE w b.e es) (hl : RdL w b.l ls) (h1 : b.e.l * 40 ≤ 140737488355328) (h2 : b.l.l * 56 ≤ 140737488355328) : Calls Try.prog 38 #[.agg (Bv.cells b)] w (CopOut w b.up es ls) := by
  obtain ⟨C, hC⟩ : ∃ C : Ending → World → Prop, C = (CopOut w b.up es ls) := ⟨_, rfl⟩
  have HC : Hid (C = (CopOut w b.up es ls)) := hC
  rw [← hC]
  clear hC
  have HE : Hid (RdE w b.e es) := he
  have HL : Hid (RdL w b.l ls) := hl
  clear he hl
  have HF : Hid (Fr No w w []) := Fr.start _ _
  go_enter Try.func38, Try.ntmps38
  go_upto_region 0 with fail
  refine WL.start ?_
  refine wp_runW (.pointer (some ⟨w.heap.size, 0, none⟩)) (w.alloc (.cells (Bv.cells b) 30)) (exec_box 30 _ rfl (Bv.cells b) (by kernel_rfl)) (by kernel_rfl) ?_
  try simp only [pS]
  have HF : Hid (Fr No w _ [(w.heap.size, 30, Bv.cells b)]) := HF.out.alloc _ _
  generalize w.alloc (.cells (Bv.cells b) 30) = wk2 at HF ⊢
  generalize w.heap.size = gk1 at HF ⊢
  refine wp_runW (.pointer (some ⟨wk2.heap.size, 0, none⟩)) (wk2.alloc (.cells (Bv.cells bvZ) 30)) (exec_alloc 30 rfl (Bv.cells bvZ) zero32) (by kernel_rfl) ?_
  try simp only [pS]
  have HF : Hid (Fr No w _ [(gk1, 30, Bv.cells b), (wk2.heap.size, 30, Bv.cells bvZ)]) := HF.out.alloc _ _
  generalize wk2.alloc (.cells (Bv.cells bvZ) 30) = wk4 at HF ⊢
  generalize wk2.heap.size = gk3 at HF ⊢
  refine WL.nil ?_
  try simp only [pS]
  go_upto_region 1 with fail
  refine WL.start ?_
  refine tK (.pointer (some ⟨gk1, 1, none⟩)) ?_
  refine tW (b.e.v) (eL 27 _ rfl ⟨gk1, 1, none⟩ (load_one ((HF.out.box 0 _ _ _ rfl).cell 1 |>.trans (by kernel_rfl)) Try.und29 rfl)) ?_
  try simp only [pS]
  obtain ⟨sae, cape, we, hrun, hown, hk2, hat2⟩ := run_appN (w := wk4) 27 27 91 4 40 (.agg enZ.cells) Try.und29 Try.info110 rfl (by omega) w.heap.size 0 0 none [] (Own.nil _ _ _ _) b.e.a b.e.l b.e.k (enL es) (by rw [enL_len, HE.out.len]) HE.out.cap (RdE.src (HE.out.no HF.out.kept)) (enL_one _) (by omega) (by omega) (by have := HF.out.kept.size; omega)
  refine wp_runW (.slice sae (0 + b.e.l) cape) we (exec_appN _ _ 27 27 rfl _ _ (by kernel_rfl) (by kernel_rfl) hrun) (by kernel_rfl) ?_
  try simp only [pS]
  have hk : Kept No wk4 we := hk2.mono (fun i _ e => (At.none e).elim)
  have HF : Hid (Fr No w (we) [(gk1, 30, Bv.cells b), (gk3, 30, Bv.cells bvZ)]) := HF.out.no hk
  have HOe : Hid (OwE we w.heap.size ⟨sae, (0 + b.e.l), cape⟩ es) := ⟨by simpa using hown, by rw [HE.out.len]; simp⟩
  clear hrun hown hk2 hat2 hk
  refine tK (.pointer (some ⟨gk1, 1, none⟩)) ?_
  try simp only [pS]
  refine wp_storeW 27 _ _ rfl ⟨gk1, 1, none⟩ (.slice sae (0 + b.e.l) cape) (by kernel_rfl) (by kernel_rfl) (we.setRow gk1 (Bv.cells ⟨b.up, ⟨sae, (0 + b.e.l), cape⟩, b.l⟩)) (run_store_to (cur := Bv.cs b) (vs := [.slice sae (0 + b.e.l) cape]) (new := Bv.cs ⟨b.up, ⟨sae, (0 + b.e.l), cape⟩, b.l⟩) (HF.out.box 0 _ _ _ rfl) (by kernel_rfl) Try.size29 (Nat.le_of_ble_eq_true (by kernel_rfl)) (by simp [Value.oneCell', Sl.v]) (by kernel_rfl)) (by kernel_rfl) ?_
  try simp only [pS]
  have HOe : Hid (OwE (we.setRow gk1 (Bv.cells ⟨b.up, ⟨sae, (0 + b.e.l), cape⟩, b.l⟩)) w.heap.size ⟨sae, (0 + b.e.l), cape⟩ es) := HOe.out.kept (Kept.setRow _ _ _) (fun k h e => (HOe.out.own.notBox (HF.out.box 0 _ _ _ rfl) (by decide)) ((show k = gk1 from e) ▸ h))
  have HF : Hid (Fr No w _ [(gk1, 30, Bv.cells ⟨b.up, ⟨sae, (0 + b.e.l), cape⟩, b.l⟩), (gk3, 30, Bv.cells bvZ)]) := HF.out.set 0 rfl _
  generalize we.setRow gk1 (Bv.cells ⟨b.up, ⟨sae, (0 + b.e.l), cape⟩, b.l⟩) = wk5 at HF HOe ⊢
  refine WL.nil ?_
  try simp only [pS]
  go_upto_region 2 with fail
  refine WL.start ?_
  refine tK (.pointer (some ⟨gk1, 2, none⟩)) ?_
  refine tW (b.l.v) (eL 28 _ rfl ⟨gk1, 2, none⟩ (load_one ((HF.out.box 0 _ _ _ rfl).cell 2 |>.trans (by kernel_rfl)) Try.und30 rfl)) ?_
  try simp only [pS]
  obtain ⟨sal, capl, wl, hrun, hown, hk2, hat2⟩ := run_appN (w := wk5) 28 28 94 7 56 (.agg laZ.cells) Try.und30 Try.info113 rfl (by omega) w.heap.size 0 0 none [] (Own.nil _ _ _ _) b.l.a b.l.l b.l.k (laL ls) (by rw [laL_len, HL.out.len]) HL.out.cap (RdL.src (HL.out.no HF.out.kept)) (laL_one _) (by omega) (by omega) (by have := HF.out.kept.size; omega)
  refine wp_runW (.slice sal (0 + b.l.l) capl) wl (exec_appN _ _ 28 28 rfl _ _ (by kernel_rfl) (by kernel_rfl) hrun) (by kernel_rfl) ?_
  try simp only [pS]
  have hk : Kept No wk5 wl := hk2.mono (fun i _ e => (At.none e).elim)
  have HOe : Hid (OwE (wl) w.heap.size ⟨sae, (0 + b.e.l), cape⟩ es) := HOe.out.no hk
  have HF : Hid (Fr No w (wl) [(gk1, 30, Bv.cells ⟨b.up, ⟨sae, (0 + b.e.l), cape⟩, b.l⟩), (gk3, 30, Bv.cells bvZ)]) := HF.out.no hk
  have HOl : Hid (OwL wl w.heap.size ⟨sal, (0 + b.l.l), capl⟩ ls) := ⟨by simpa using hown, by rw [HL.out.len]; simp⟩
  clear hrun hown hk2 hat2 hk
  refine tK (.pointer (some ⟨gk1, 2, none⟩)) ?_
  try simp only [pS]
  refine wp_storeW 28 _ _ rfl ⟨gk1, 2, none⟩ (.slice sal (0 + b.l.l) capl) (by kernel_rfl) (by kernel_rfl) (wl.setRow gk1 (Bv.cells ⟨b.up, ⟨sae, (0 + b.e.l), cape⟩, ⟨sal, (0 + b.l.l), capl⟩⟩)) (run_store_to (cur := Bv.cs ⟨b.up, ⟨sae, (0 + b.e.l), cape⟩, b.l⟩) (vs := [.slice sal (0 + b.l.l) capl]) (new := Bv.cs ⟨b.up, ⟨sae, (0 + b.e.l), cape⟩, ⟨sal, (0 + b.l.l), capl⟩⟩) (HF.out.box 0 _ _ _ rfl) (by kernel_rfl) Try.size30 (Nat.le_of_ble_eq_true (by kernel_rfl)) (by simp [Value.oneCell', Sl.v]) (by kernel_rfl)) (by kernel_rfl) ?_
  try simp only [pS]
  have HOe : Hid (OwE (wl.setRow gk1 (Bv.cells ⟨b.up, ⟨sae, (0 + b.e.l), cape⟩, ⟨sal, (0 + b.l.l), capl⟩⟩)) w.heap.size ⟨sae, (0 + b.e.l), cape⟩ es) := HOe.out.kept (Kept.setRow _ _ _) (fun k h e => (HOe.out.own.notBox (HF.out.box 0 _ _ _ rfl) (by decide)) ((show k = gk1 from e) ▸ h))
  have HOl : Hid (OwL (wl.setRow gk1 (Bv.cells ⟨b.up, ⟨sae, (0 + b.e.l), cape⟩, ⟨sal, (0 + b.l.l), capl⟩⟩)) w.heap.size ⟨sal, (0 + b.l.l), capl⟩ ls) := HOl.out.kept (Kept.setRow _ _ _) (fun k h e => (HOl.out.own.notBox (HF.out.box 0 _ _ _ rfl) (by decide)) ((show k = gk1 from e) ▸ h))
  have HF : Hid (Fr No w _ [(gk1, 30, Bv.cells ⟨b.up, ⟨sae, (0 + b.e.l), cape⟩, ⟨sal, (0 + b.l.l), capl⟩⟩), (gk3, 30, Bv.cells bvZ)]) := HF.out.set 0 rfl _
  generalize wl.setRow gk1 (Bv.cells ⟨b.up, ⟨sae, (0 + b.e.l), cape⟩, ⟨sal, (0 + b.l.l), capl⟩⟩) = wk6 at HF HOe HOl ⊢
  refine WL.nil ?_
  try simp only [pS]
  go_upto_region 3 with fail
  refine WL.start ?_
  refine tW (.agg (Bv.cells ⟨b.up, ⟨sae, (0 + b.e.l), cape⟩, ⟨sal, (0 + b.l.l), capl⟩⟩)) (eL 30 _ rfl ⟨gk1, 0, none⟩ (run_load_part (cs := Bv.cs ⟨b.up, ⟨sae, (0 + b.e.l), cape⟩, ⟨sal, (0 + b.l.l), capl⟩⟩) (sub := Bv.cs ⟨b.up, ⟨sae, (0 + b.e.l), cape⟩, ⟨sal, (0 + b.l.l), capl⟩⟩) (HF.out.box 0 _ _ _ rfl) (Part.all _) Try.und32 rfl Try.size32)) ?_
  try simp only [pS]
  refine wp_storeW 30 _ _ rfl ⟨gk3, 0, none⟩ (.agg (Bv.cells ⟨b.up, ⟨sae, (0 + b.e.l), cape⟩, ⟨sal, (0 + b.l.l), capl⟩⟩)) (by kernel_rfl) (by kernel_rfl) (wk6.setRow gk3 (Bv.cells ⟨b.up, ⟨sae, (0 + b.e.l), cape⟩, ⟨sal, (0 + b.l.l), capl⟩⟩)) (run_store_to (cur := Bv.cs bvZ) (vs := Bv.cs ⟨b.up, ⟨sae, (0 + b.e.l), cape⟩, ⟨sal, (0 + b.l.l), capl⟩⟩) (new := Bv.cs ⟨b.up, ⟨sae, (0 + b.e.l), cape⟩, ⟨sal, (0 + b.l.l), capl⟩⟩) (HF.out.box 1 _ _ _ rfl) (by kernel_rfl) Try.size32 (Nat.le_of_ble_eq_true (by kernel_rfl)) (Bv.oneL _) (by kernel_rfl)) (by kernel_rfl) ?_
  try simp only [pS]
  have HOe : Hid (OwE (wk6.setRow gk3 (Bv.cells ⟨b.up, ⟨sae, (0 + b.e.l), cape⟩, ⟨sal, (0 + b.l.l), capl⟩⟩)) w.heap.size ⟨sae, (0 + b.e.l), cape⟩ es) := HOe.out.kept (Kept.setRow _ _ _) (fun k h e => (HOe.out.own.notBox (HF.out.box 1 _ _ _ rfl) (by decide)) ((show k = gk3 from e) ▸ h))
  have HOl : Hid (OwL (wk6.setRow gk3 (Bv.cells ⟨b.up, ⟨sae, (0 + b.e.l), cape⟩, ⟨sal, (0 + b.l.l), capl⟩⟩)) w.heap.size ⟨sal, (0 + b.l.l), capl⟩ ls) := HOl.out.kept (Kept.setRow _ _ _) (fun k h e => (HOl.out.own.notBox (HF.out.box 1 _ _ _ rfl) (by decide)) ((show k = gk3 from e) ▸ h))
  have HF : Hid (Fr No w _ [(gk1, 30, Bv.cells ⟨b.up, ⟨sae, (0 + b.e.l), cape⟩, ⟨sal, (0 + b.l.l), capl⟩⟩), (gk3, 30, Bv.cells ⟨b.up, ⟨sae, (0 + b.e.l), cape⟩, ⟨sal, (0 + b.l.l), capl⟩⟩)]) := HF.out.set 1 rfl _
  generalize wk6.setRow gk3 (Bv.cells ⟨b.up, ⟨sae, (0 + b.e.l), cape⟩, ⟨sal, (0 + b.l.l), capl⟩⟩) = wk7 at HF HOe HOl ⊢
  refine WL.nil ?_
  try simp only [pS]
  go_wp2
  rw [HC.out]
  refine bodyPost_ret (results_row1 (by rfl) _ _ gk3 (Bv.cells ⟨b.up, ⟨sae, (0 + b.e.l), cape⟩, ⟨sal, (0 + b.l.l), capl⟩⟩) (by rfl) (run_load_part (cs := Bv.cs ⟨b.up, ⟨sae, (0 + b.e.l), cape⟩, ⟨sal, (0 + b.l.l), capl⟩⟩) (sub := Bv.cs ⟨b.up, ⟨sae, (0 + b.e.l), cape⟩, ⟨sal, (0 + b.l.l), capl⟩⟩) (HF.out.box 1 _ _ _ rfl) (Part.all _) Try.und32 rfl Try.size32)) rfl ?_
  exact ⟨⟨sae, (0 + b.e.l), cape⟩, ⟨sal, (0 + b.l.l), capl⟩, rfl, HOe.out, HOl.out, HF.out.kept⟩

end Go.Proofs.Ytcgnbpaaalmkoab
