import Derived.Test.YtppkjebiiheljaaDr
import Derived.StillTailTactics
namespace Go.Proofs.Ytppkjebiiheljaa
open Go.RowKit
set_option linter.unusedVariables false
set_option linter.unusedSimpArgs false

theorem still_loadS {ops : Array Oper} {rest : List Oper} {o : Oper} {a : Act} {w : World} {Q : Act → Prop} (hg : o.guard = none) (x : Operand) (ho : o.op = .load 72 x) (g : Nat) (s : List Int) (hx : a.eval x = .pointer (some ⟨g, 0, none⟩)) (hl : s.length = 512) {t : TypeId} (hb : Box w g t (u8s s))
    (h : wpStill Try.prog ops w Q rest (a.put o.dst (secV s))) : wpStill Try.prog ops w Q (o :: rest) a := by
  refine wpStill_step (fun K hK => ?_)
  have hw : Region.wanted o (yielded ops a.tmps) = true := by simp [Region.wanted, hg]
  rw [if_pos hw]
  have hrun : (execOp a.eval o).run Try.prog w = .ok (.value (secV s)) w := by
    have := run_loadVar_row (P := Try.prog) w g t 72 (u8s s) (0, 0) _ hb Try.und72 rfl (by rw [u8s_size, hl]; exact Try.size72)
    simp only [execOp, ho, hx, Instr.loadAt, Instr.sureAddr, Sem.run_bind, Sem.run_pure, Result.andThen_ok, this]
    rfl
  unfold Oper.still
  rw [hrun, Oper.stillUpon_value]
  exact hK _ h

set_option maxHeartbeats 1000000 in
theorem put_any (d b n : Nat) (s : List Int) (x : DS) (w : World) (h : Dsk w d b x) (hl : s.length = 512) :
    Calls Try.prog 32 #[.pointer (some ⟨d, 0, none⟩), .int .i64 n, secV s] w fun e w' => e = .returned (.tuple #[]) ∧ Dsk w' d b { x with c := updC x.c n s } ∧ Kept (Only b) w w' := by
  have HD : Hid (Dsk w d b x) := h
  have hlt := h.ltd
  clear h
  obtain ⟨w0, hw0⟩ : ∃ w0, w0 = w.alloc (.cells (u8s s) 72) := ⟨_, rfl⟩
  have HB : Hid (Box w0 w.heap.size 72 (u8s s)) := by rw [hw0]; exact Box.new _ _ _
  have HK0 : Hid (Kept No w w0) := by rw [hw0]; exact (Kept.refl No w).alloc _
  have HD0 : Hid (Dsk w0 d b x) := HD.out.no HK0.out
  have c1 := HD0.out.cells.2.1
  go_enter Try.func32, Try.ntmps32
  by_cases hs : s = zs
  · have hdec : decide (s = zs) = true := by simpa using hs
    have HS : Hid (s = zs) := hs
    clear hs
    go_wp2_with (first
      | (refine wp_boxS rfl _ rfl s rfl w.heap.size rfl ?_; rw [← hw0]; clear hw0)
      | (refine wp_loadS rfl _ rfl w.heap.size s rfl hl HB.out ?_)
      | (refine wp_buildS rfl rfl ?_)
      | (refine wp_eqlS rfl _ _ _ rfl s zs rfl rfl hl zs_len ?_; rw [hdec]; clear hdec)
      | (refine wp_deleteS rfl _ _ rfl b n rfl rfl HD0.out.2 ?_; intro w1 hm1 hk1))
    all_goals first | go_end0 | refine bodyPost_ret (results_none rfl _ _ _) rfl ?_
    refine ⟨rfl, ⟨HD0.out.1.kept hk1 (fun e => HD0.out.ne e), ?_⟩, HK0.out.trans hk1 (fun _ e => e.elim) (fun _ _ e => e)⟩
    rw [gOf_none] at hm1
    rw [HS.out]
    exact hm1
  · have hdec : decide (s = zs) = false := by simpa using hs
    have HS : Hid (s ≠ zs) := hs
    clear hs
    go_wp2_with (first
      | (refine wp_boxS rfl _ rfl s rfl w.heap.size rfl ?_; rw [← hw0]; clear hw0)
      | (refine wp_loadS rfl _ rfl w.heap.size s rfl hl HB.out ?_)
      | (refine wp_buildS rfl rfl ?_)
      | (refine wp_eqlS rfl _ _ _ rfl s zs rfl rfl hl zs_len ?_; rw [hdec]; clear hdec))
    refine wp_region_still_tail 6 (by kernel_rfl) (by kernel_rfl) ?_
    simp only [List.take_succ_cons, List.take_zero, List.drop_succ_cons, List.drop_zero]
    change wpStill _ _ w0.drew _ _ _
    have HB1 : Hid (Box w0.drew w.heap.size 72 (u8s s)) := HB.out
    have HD1 : Hid (Dsk w0.drew d b x) := HD0.out.no ((Kept.refl No _).drew)
    have c1' := HD1.out.cells.2.1
    still_step
    still_step
    still_step
    still_step
    still_step
    refine still_loadS rfl _ rfl w.heap.size s rfl hl HB1.out ?_
    refine wpStill_nil ?_
    refine wp_updateS rfl _ _ _ rfl b n s rfl rfl rfl HD1.out.2 ?_
    intro w1 hm1 hk1
    go_wp2
    all_goals first | go_end0 | refine bodyPost_ret (results_none rfl _ _ _) rfl ?_
    refine ⟨rfl, ⟨HD1.out.1.kept hk1 (fun e => HD1.out.ne e), ?_⟩, (HK0.out.drew : Kept No w w0.drew).trans hk1 (fun _ e => e.elim) (fun _ _ e => e)⟩
    rw [gOf_some _ _ _ HS.out] at hm1
    exact hm1

end Go.Proofs.Ytppkjebiiheljaa
