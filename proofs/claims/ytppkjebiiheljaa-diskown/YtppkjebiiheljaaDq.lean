import Derived.Test.YtppkjebiiheljaaDp
namespace Go.Proofs.Ytppkjebiiheljaa
open Go.RowKit
set_option linter.unusedVariables false
set_option linter.unusedSimpArgs false

theorem refE_vals (x : DS) (n : Int) : refE x n = 0 ∨ refE x n = 5 ∨ refE x n = 31 := by
  unfold refE
  split
  · simp
  · split
    · simp
    · split <;> simp
theorem refE_zero {x : DS} {n : Nat} (hf : x.fl = false) (hn : n < x.N) : refE x n = 0 := by
  unfold refE
  rw [hf]
  have h1 : ¬ ((n : Int) < 0) := by omega
  have h2 : ¬ ((n : Int) ≥ x.N) := by omega
  simp only [Bool.false_eq_true, if_false]
  rw [if_neg h1, if_neg h2]

theorem readNo_any (d b : Nat) (n : Int) (x : DS) (w : World) (h : Dsk w d b x) (he : refE x n ≠ 0) :
    Calls Try.prog 12 #[.pointer (some ⟨d, 0, none⟩), .int .i64 n] w fun e w' => e = .returned (.tuple #[.slice none 0 0, .int .i64 (refE x n)]) ∧ w' = w := by
  have HR : Hid _ := refusal_any d b x n w h
  clear h
  generalize refE x n = E at he HR
  have he' : (E == 0) = false := by simpa using he
  clear he
  go_enter Try.func12, Try.ntmps12
  go_wp2_with (go_at_call 31; refine Calls.mono HR.out ?_; rintro e w' ⟨rfl, rfl⟩)
  all_goals go_ret2
  exact ⟨rfl, rfl⟩

set_option maxHeartbeats 1000000 in
theorem readYes_any (d b n : Nat) (x : DS) (w : World) (h : Dsk w d b x) (hf : x.fl = false) (hn : n < x.N) (hl : (x.c n).length = 512) (h0 : 0 ≤ x.rd) (h1 : x.rd < 4611686018427387904) :
    Calls Try.prog 12 #[.pointer (some ⟨d, 0, none⟩), .int .i64 n] w fun e w' => e = .returned (.tuple #[.slice (some ⟨w.heap.size, 0, none⟩) 512 512, .int .i64 0]) ∧ Box w' w.heap.size 72 (u8s (x.c n)) ∧ Dsk w' d b { x with rd := x.rd + 1 } ∧ Kept (Only d) w w' := by
  have HR := refusal_any d b x n w h
  rw [refE_zero hf hn] at HR
  have HR' : Hid _ := HR
  have c4 := h.cells.2.2.2.2.1
  have f4 := h.1.frozen 4
  have HD : Hid (Dsk w d b x) := h
  have hne := h.ne
  have hlt := h.ltd
  have H1 := h.put 4 (.int .i64 (x.rd + 1)) { x with rd := x.rd + 1 } rfl rfl
  obtain ⟨w1, hw1⟩ : ∃ w1, w1 = w.setCell ⟨d, 4, none⟩ (.int .i64 (x.rd + 1)) := ⟨_, rfl⟩
  rw [← hw1] at H1
  have HK1 : Hid (Kept (Only d) w w1) := by rw [hw1]; exact (Kept.refl (Only d) w).setCell (fun _ => onlySelf d) _
  have hs1 : w1.heap.size = w.heap.size := by rw [hw1]; simp
  have HD1 : Hid (Dsk w1 d b { x with rd := x.rd + 1 }) := H1
  have c1 := H1.cells.2.1
  rw [hw1] at c1
  obtain ⟨w2, hw2⟩ : ∃ w2, w2 = w1.alloc (.cells (u8s zs) 72) := ⟨_, rfl⟩
  have HB2 : Hid (Box w2 w.heap.size 72 (u8s zs)) := by rw [hw2, ← hs1]; exact Box.new _ _ _
  have HK2 : Hid (Kept No w1 w2) := by rw [hw2]; exact (Kept.refl No w1).alloc _
  have hgd : (gOf x.c n).getD zs = x.c n := gOf_getD x.c n
  clear h HR H1 hf hn
  go_enter Try.func12, Try.ntmps12
  go_wp2_with (first
    | (go_at_call 31; refine Calls.mono HR'.out ?_; rintro e w' ⟨rfl, hw'⟩; rw [hw']; clear hw' w')
    | (refine wp_lookupS rfl _ _ rfl b n rfl rfl (g := gOf x.c) (hw1 ▸ HD1.out.2) ?_; rw [hgd, ← hw1]; clear hw1)
    | (refine wp_allocS rfl rfl w.heap.size hs1 ?_; rw [← hw2]; clear hw2)
    | (refine wp_storeS rfl _ _ rfl w.heap.size (x.c n) rfl rfl hl HB2.out zs_len ?_; intro w3 hb3 hk3 hs3))
  all_goals go_ret2
  have hlt2 : b < w.heap.size := by rw [← hs1]; exact HD1.out.ltb
  refine ⟨rfl, hb3, (HD1.out.no HK2.out).kept hk3 (fun e => ?_) (fun e => ?_), (HK1.out.trans HK2.out (fun _ e => e) (fun _ _ e => e.elim)).trans hk3 (fun _ e => e) (fun i hi e => ?_)⟩
  · have : d = w.heap.size := e
    omega
  · have : b = w.heap.size := e
    omega
  · have : i = w.heap.size := e
    omega

end Go.Proofs.Ytppkjebiiheljaa
