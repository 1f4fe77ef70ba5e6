import Derived.Test.YtpabpeppgpeaoaaRt
import Derived.Test.YtpabpeppgpeaoaaZp
namespace Go.Proofs.Ytpabpeppgpeaoaa.Md
open Go.RowKit Gt
set_option linter.unusedVariables false
set_option linter.unusedSimpArgs false

theorem mg_plain (w0 : World) (m : Mg) (h : plainG m) : MgAt w0 m [] [] [] [] := by
  obtain ⟨k, fr, too, op, rd, ky, st, hd, bl, c, ⟨up, be, bl2⟩, cm, mo⟩ := m
  obtain ⟨h1, h2, h3, h4⟩ := h
  simp only at h1 h2 h3 h4
  subst h1 h2 h3 h4
  exact ⟨OwB.nil w0 0 |>.rd, (OwE.nil w0 0).rd, (OwL.nil w0 0).rd, ⟨RowsAt.nil _ _ _, rfl, fun _ => rfl⟩, Nat.zero_le _, Nat.zero_le _, Nat.zero_le _, Nat.zero_le _⟩
theorem wrap_le (z : Int) : IntKind.i64.wrap z ≤ 9223372036854775807 := by rw [IntKind.wrap_i64]; omega
theorem b_addW (a b : Int) (w : World) : (binOp .add 3 (.int .i64 a) (.int .i64 b)).run Try.prog w = .ok (.int .i64 (IntKind.i64.wrap (a + b))) w := rfl
theorem slice3_i (w : World) : (Instr.buildSlice 24 3 #[(0, .int .i64 1), (1, .int .i64 2), (2, .int .i64 3)]).run Try.prog w = .ok (.slice (some ⟨w.heap.size, 0, none⟩) 3 3) (w.alloc (.cells #[.int .i64 1, .int .i64 2, .int .i64 3] 3)) := by kernel_rfl
theorem exec_slice3 {o : Oper} {a : Act} {w : World} (parts : Array (Nat × Operand)) (ho : o.op = .buildSlice 24 3 parts) (hp : (parts.map fun (i, x) => (i, a.eval x)) = #[(0, .int .i64 1), (1, .int .i64 2), (2, .int .i64 3)]) : (execOp a.eval o).run Try.prog w = .ok (.value (.slice (some ⟨w.heap.size, 0, none⟩) 3 3)) (w.alloc (.cells #[.int .i64 1, .int .i64 2, .int .i64 3] 3)) := by
  simp only [execOp, ho, hp, Sem.run_bind, slice3_i, Result.andThen_ok, Sem.run_pure]
theorem nums3 (w : World) : Nums .i64 (w.alloc (.cells #[.int .i64 1, .int .i64 2, .int .i64 3] 3)) (some ⟨w.heap.size, 0, none⟩) [1, 2, 3] :=
  Box.nums (zs := [1, 2, 3]) (Box.new w 3 #[.int .i64 1, .int .i64 2, .int .i64 3]) 3
def rK : Ky := ⟨3, 0, 1, 0⟩
def rX : Cm := ⟨4, 1, 1, ⟨#[]⟩, 0, 0, 0, 0, 0⟩
set_option maxRecDepth 100000 in
set_option maxHeartbeats 4000000 in
theorem roundsWalk (ballot first nack ticks : Int) (w : World) (hbn : ballot ≤ 9223372036854775807) : Calls Try.prog 4 #[.int .i64 ballot, .int .i64 first, .int .i64 nack, .int .i64 ticks] w (fun e w' => e = .returned (.bool true) ∧ Kept No w w') := by
  refine hideC fun C HC => ?_
  have HF : Hid (Fq No w w []) := Fq.start _ _
  go_enter Try.func4, Try.ntmps4
  go_upto_region 0 with fail
  refine WL.start <| uK (.bool false) <| WL.nil <| ?_
  try simp only [pS]
  go_upto_region 1 with fail
  refine WL.start ?_
  refine uC 8 #[] (known_any _) ?_
  rintro e wk1 ⟨rfl, hk⟩
  have HF : Hid (Fq No w (wk1) []) := HF.out.no hk
  clear hk
  refine ⟨.bool true, rfl, ?_⟩
  try simp only [pS]
  refine uK (.bool false) <| WL.nil <| ?_
  try simp only [pS]
  go_upto_region 3 with fail
  refine WL.start <| uW (.agg (Ky.cells ⟨3, 0, 1, 0⟩)) (exec_build 23 _ rfl (Ky.cells ⟨3, 0, 1, 0⟩) (by kernel_rfl)) <| ?_
  try simp only [pS]
  refine uR (pV wk1.heap.size 0) (wk1.alloc (.cells (Ky.cells kyZ) 23)) (exec_alloc 23 rfl (Ky.cells kyZ) Z23) ?_
  try simp only [pS]
  have HF : Hid (Fq No w (wk1.alloc (.cells (Ky.cells kyZ) 23)) [(wk1.heap.size, 23, Ky.cells kyZ)]) := HF.out.alloc _ _
  generalize wk1.alloc (.cells (Ky.cells kyZ) 23) = wk3 at HF ⊢
  generalize wk1.heap.size = gk2 at HF ⊢
  refine uT 23 ⟨gk2, 0, none⟩ (.agg (Ky.cells ⟨3, 0, 1, 0⟩)) (wk3.setRow gk2 (Ky.cells ⟨3, 0, 1, 0⟩)) (rs (Ky.cs kyZ) (Ky.cs ⟨3, 0, 1, 0⟩) (Ky.cs ⟨3, 0, 1, 0⟩) (HF.out.box 0 _ _ _ rfl) S23 (Ky.oneL _)) ?_
  try simp only [pS]
  have HF : Hid (Fq No w (wk3.setRow gk2 (Ky.cells ⟨3, 0, 1, 0⟩)) [(gk2, 23, Ky.cells ⟨3, 0, 1, 0⟩)]) := HF.out.set 0 rfl _
  generalize wk3.setRow gk2 (Ky.cells ⟨3, 0, 1, 0⟩) = wk4 at HF ⊢
  refine WL.nil ?_
  try simp only [pS]
  go_upto_region 4 with fail
  refine WL.start <| uW (.agg (Cm.cells ⟨4, 1, 1, ⟨#[]⟩, 0, 0, 0, 0, 0⟩)) (exec_build 28 _ rfl (Cm.cells ⟨4, 1, 1, ⟨#[]⟩, 0, 0, 0, 0, 0⟩) (by kernel_rfl)) <| ?_
  try simp only [pS]
  refine uR (pV wk4.heap.size 0) (wk4.alloc (.cells (Cm.cells cZ) 28)) (exec_alloc 28 rfl (Cm.cells cZ) Z28) ?_
  try simp only [pS]
  have HF : Hid (Fq No w (wk4.alloc (.cells (Cm.cells cZ) 28)) [(gk2, 23, Ky.cells ⟨3, 0, 1, 0⟩), (wk4.heap.size, 28, Cm.cells cZ)]) := HF.out.alloc _ _
  generalize wk4.alloc (.cells (Cm.cells cZ) 28) = wk6 at HF ⊢
  generalize wk4.heap.size = gk5 at HF ⊢
  refine uT 28 ⟨gk5, 0, none⟩ (.agg (Cm.cells ⟨4, 1, 1, ⟨#[]⟩, 0, 0, 0, 0, 0⟩)) (wk6.setRow gk5 (Cm.cells ⟨4, 1, 1, ⟨#[]⟩, 0, 0, 0, 0, 0⟩)) (rs (Cm.cs cZ) (Cm.cs ⟨4, 1, 1, ⟨#[]⟩, 0, 0, 0, 0, 0⟩) (Cm.cs ⟨4, 1, 1, ⟨#[]⟩, 0, 0, 0, 0, 0⟩) (HF.out.box 1 _ _ _ rfl) S28 (Cm.oneL _)) ?_
  try simp only [pS]
  have HF : Hid (Fq No w (wk6.setRow gk5 (Cm.cells ⟨4, 1, 1, ⟨#[]⟩, 0, 0, 0, 0, 0⟩)) [(gk2, 23, Ky.cells ⟨3, 0, 1, 0⟩), (gk5, 28, Cm.cells ⟨4, 1, 1, ⟨#[]⟩, 0, 0, 0, 0, 0⟩)]) := HF.out.set 1 rfl _
  generalize wk6.setRow gk5 (Cm.cells ⟨4, 1, 1, ⟨#[]⟩, 0, 0, 0, 0, 0⟩) = wk7 at HF ⊢
  refine WL.nil ?_
  try simp only [pS]
  go_upto_region 5 with fail
  refine WL.start <| uL 23 ⟨gk2, 0, none⟩ (.agg (Ky.cells ⟨3, 0, 1, 0⟩)) (run_load_part (cs := Ky.cs ⟨3, 0, 1, 0⟩) (sub := Ky.cs ⟨3, 0, 1, 0⟩) (HF.out.box 0 _ _ _ rfl) (Part.all _) U23 rfl S23) <| ?_
  try simp only [pS]
  refine uR (.slice (some ⟨wk7.heap.size, 0, none⟩) 3 3) (wk7.alloc (.cells #[.int .i64 1, .int .i64 2, .int .i64 3] 3)) (exec_slice3 _ rfl (by kernel_rfl)) ?_
  try simp only [pS]
  have HNum : Hid (Nums .i64 (wk7.alloc (.cells #[.int .i64 1, .int .i64 2, .int .i64 3] 3)) (some ⟨wk7.heap.size, 0, none⟩) [1, 2, 3]) := nums3 wk7
  have HF : Hid (Fq No w (wk7.alloc (.cells #[.int .i64 1, .int .i64 2, .int .i64 3] 3)) [(gk2, 23, Ky.cells ⟨3, 0, 1, 0⟩), (gk5, 28, Cm.cells ⟨4, 1, 1, ⟨#[]⟩, 0, 0, 0, 0, 0⟩), (wk7.heap.size, 3, #[.int .i64 1, .int .i64 2, .int .i64 3])]) := HF.out.alloc _ _
  generalize wk7.alloc (.cells #[.int .i64 1, .int .i64 2, .int .i64 3] 3) = wk8 at HF HNum ⊢
  generalize wk7.heap.size = gk9 at HF HNum ⊢
  refine uL 28 ⟨gk5, 0, none⟩ (.agg (Cm.cells ⟨4, 1, 1, ⟨#[]⟩, 0, 0, 0, 0, 0⟩)) (run_load_part (cs := Cm.cs ⟨4, 1, 1, ⟨#[]⟩, 0, 0, 0, 0, 0⟩) (sub := Cm.cs ⟨4, 1, 1, ⟨#[]⟩, 0, 0, 0, 0, 0⟩) (HF.out.box 1 _ _ _ rfl) (Part.all _) U28 rfl S28) <| uK (.int .i64 ballot) <| uK (.int .i64 first) <| ?_
  try simp only [pS]
  refine uC 9 #[.int .i64 1, .int .i64 1, .agg (Ky.cells ⟨3, 0, 1, 0⟩), .slice (some ⟨gk9, 0, none⟩) 3 3, .agg (Cm.cells ⟨4, 1, 1, ⟨#[]⟩, 0, 0, 0, 0, 0⟩), .int .i64 ballot, .int .i64 first] (new_P 1 1 (jK rK) _ 3 3 [1, 2, 3] (jC rX) ballot first _ rfl (by decide) HNum.out) ?_
  rintro e wk10 ⟨p, I, rfl, hP, hI, hk⟩
  have HP : Hid (Prp wk10 I p (newS 1 1 (jK rK) [1, 2, 3] (jC rX) ballot first)) := hP
  have HI : Hid (∀ k, I k → w.heap.size ≤ k ∧ k < wk10.heap.size ∧ NotM wk10 k) := show ∀ k, I k → w.heap.size ≤ k ∧ k < wk10.heap.size ∧ NotM wk10 k from fun k e => ⟨by have := (hI k e).1; have := HF.out.kept.size; omega, (hI k e).2⟩
  have HF : Hid (Fq No w (wk10) [(gk2, 23, Ky.cells ⟨3, 0, 1, 0⟩), (gk5, 28, Cm.cells ⟨4, 1, 1, ⟨#[]⟩, 0, 0, 0, 0, 0⟩), (gk9, 3, #[.int .i64 1, .int .i64 2, .int .i64 3])]) := HF.out.no hk
  have HK1 : Hid (Kept No w wk10) := HF.out.kept
  obtain ⟨W1, hW1⟩ : ∃ W1, W1 = wk10 := ⟨_, rfl⟩
  rw [← hW1] at HP HI HK1
  have HK2 : Hid (Kept No W1 wk10) := by rw [hW1]; exact Kept.refl No _
  clear hP hI hk hW1
  refine ⟨.pointer (some ⟨p, 0, none⟩), rfl, ?_⟩
  try simp only [pS]
  refine uK (pV p 0) <| WL.nil <| ?_
  try simp only [pS]
  go_upto_region 6 with fail
  refine WL.start <| uL 23 ⟨gk2, 0, none⟩ (.agg (Ky.cells ⟨3, 0, 1, 0⟩)) (run_load_part (cs := Ky.cs ⟨3, 0, 1, 0⟩) (sub := Ky.cs ⟨3, 0, 1, 0⟩) (HF.out.box 0 _ _ _ rfl) (Part.all _) U23 rfl S23) <| ?_
  try simp only [pS]
  refine uR (.slice (some ⟨wk10.heap.size, 0, none⟩) 3 3) (wk10.alloc (.cells #[.int .i64 1, .int .i64 2, .int .i64 3] 3)) (exec_slice3 _ rfl (by kernel_rfl)) ?_
  try simp only [pS]
  have HNum : Hid (Nums .i64 (wk10.alloc (.cells #[.int .i64 1, .int .i64 2, .int .i64 3] 3)) (some ⟨wk10.heap.size, 0, none⟩) [1, 2, 3]) := nums3 wk10
  have HK2 : Hid (Kept No W1 (wk10.alloc (.cells #[.int .i64 1, .int .i64 2, .int .i64 3] 3))) := HK2.out.alloc _
  have HF : Hid (Fq No w (wk10.alloc (.cells #[.int .i64 1, .int .i64 2, .int .i64 3] 3)) [(gk2, 23, Ky.cells ⟨3, 0, 1, 0⟩), (gk5, 28, Cm.cells ⟨4, 1, 1, ⟨#[]⟩, 0, 0, 0, 0, 0⟩), (gk9, 3, #[.int .i64 1, .int .i64 2, .int .i64 3]), (wk10.heap.size, 3, #[.int .i64 1, .int .i64 2, .int .i64 3])]) := HF.out.alloc _ _
  generalize wk10.alloc (.cells #[.int .i64 1, .int .i64 2, .int .i64 3] 3) = wk11 at HF HNum HK2 ⊢
  generalize wk10.heap.size = gk12 at HF HNum ⊢
  refine uL 28 ⟨gk5, 0, none⟩ (.agg (Cm.cells ⟨4, 1, 1, ⟨#[]⟩, 0, 0, 0, 0, 0⟩)) (run_load_part (cs := Cm.cs ⟨4, 1, 1, ⟨#[]⟩, 0, 0, 0, 0, 0⟩) (sub := Cm.cs ⟨4, 1, 1, ⟨#[]⟩, 0, 0, 0, 0, 0⟩) (HF.out.box 1 _ _ _ rfl) (Part.all _) U28 rfl S28) <| uK (.int .i64 ballot) <| uK (.int .i64 first) <| ?_
  try simp only [pS]
  refine uC 10 #[.int .i64 1, .int .i64 1, .agg (Ky.cells ⟨3, 0, 1, 0⟩), .slice (some ⟨gk12, 0, none⟩) 3 3, .agg (Cm.cells ⟨4, 1, 1, ⟨#[]⟩, 0, 0, 0, 0, 0⟩), .int .i64 ballot, .int .i64 first] (rNew_any 1 1 rK ⟨some ⟨gk12, 0, none⟩, 3, 3⟩ [1, 2, 3] rX ballot first _ ⟨HNum.out, rfl⟩ (by show 3 ≤ 2000000; decide)) ?_
  rintro e wk13 ⟨r, rfl, hR, hk⟩
  obtain ⟨I2, J2, hF⟩ := Wf.make HP.out HI.out HK1.out HK2.out hR hk
  obtain ⟨s0, hs0⟩ : ∃ s0, s0 = newS 1 1 (jK rK) [1, 2, 3] (jC rX) ballot first := ⟨_, rfl⟩
  obtain ⟨x0, hx0⟩ : ∃ x0, x0 = newR 1 1 rK [1, 2, 3] rX ballot first := ⟨_, rfl⟩
  rw [← hs0, ← hx0] at hF
  have HF : Hid (Wf w No No I2 J2 p r s0 x0 w (wk13) []) := hF
  have HR : Hid (Rel (Bw w) s0 x0) := by rw [hs0, hx0]; exact rel_new 1 1 rK [1, 2, 3] rX ballot first hbn
  have HZ : Hid (s0.zs = [1, 2, 3]) := by rw [hs0]; rfl
  clear hF hR hk hs0 hx0 HP HI HK1 HK2
  refine ⟨.pointer (some ⟨r, 0, none⟩), rfl, ?_⟩
  try simp only [pS]
  refine uK (pV r 0) <| WL.nil <| ?_
  try simp only [pS]
  go_upto_region 7 with fail
  refine WL.start <| uK (pV p 0) <| uB .eql 31 (pV p 0) (.pointer none) (.bool false) (by kernel_rfl) <| uK (.bool false) <| uK (pV p 0) <| uK (pV r 0) <| uW (.agg (Stp.cells ⟨0, mgZ⟩)) (exec_build 49 _ rfl (Stp.cells ⟨0, mgZ⟩) (by kernel_rfl)) <| ?_
  try simp only [pS]
  refine uC 11 #[pV p 0, pV r 0, .agg (Stp.cells ⟨0, mgZ⟩)] (step_any w I2 J2 p r s0 x0 ⟨0, mgZ⟩ [] [] [] [] _ HF.out.c HR.out (mg_plain w _ ⟨rfl, rfl, rfl, rfl⟩) (by show (0 : Int) ≤ 9223372036854775807; decide) (by rw [HR.out.s0.zs, HZ.out]; decide)) ?_
  rintro e wk14 ho
  obtain ⟨Ia1, Ja1, sa1, xa1, rfl, hF, hR, hz⟩ := HF.out.step ho
  have HF : Hid (Wf w No No Ia1 Ja1 p r sa1 xa1 w (wk14) []) := hF
  have HR : Hid (Rel (Bw w) sa1 xa1) := hR
  have HZ : Hid (sa1.zs = [1, 2, 3]) := hz.trans HZ.out
  clear ho hF hR hz
  refine ⟨.bool true, rfl, ?_⟩
  try simp only [pS]
  refine uK (.bool false) <| uK (.bool false) <| uK (.bool false) <| uK (pV p 0) <| uK (pV r 0) <| ?_
  try simp only [pS]
  refine uC 12 #[pV p 0, pV r 0] (shows_any w Ia1 Ja1 p r sa1 xa1 _ HF.out.c (rel_show HR.out)) ?_
  rintro e wk15 ⟨rfl, hk⟩
  have HF : Hid (Wf w No No Ia1 Ja1 p r sa1 xa1 w (wk15) []) := HF.out.no hk
  clear hk
  refine ⟨.bool true, rfl, ?_⟩
  try simp only [pS]
  refine uK (.bool false) <| uK (.bool false) <| WL.nil <| ?_
  try simp only [pS]
  go_upto_region 9 with fail
  refine WL.start <| uK (.int .i64 0) <| WL.nil <| ?_
  try simp only [pS]
  go_wp2
  go_loopw [13] (fun v13 wr => ∃ (i : Nat) (I J : Nat → Prop) (s : PS) (x : Rs), v13 = .int .i64 ((i : Nat) : Int) ∧ i ≤ 6 ∧ Hid (Wf w No No I J p r s x w wr []) ∧ Hid (Rel (Bw w) s x) ∧ Hid (s.zs = [1, 2, 3])) (fun i _ => 6 - (intOf i).toNat)
  case atStart => exact ⟨0, Ia1, Ja1, sa1, xa1, by go_num, by omega, HF, HR, HZ⟩
  case round =>
    clear HF HR HZ
    obtain ⟨i, I, J, s, x, rfl, hi, HF, HR, HZ⟩ := hrel
    go_upto_region 10 with fail
    refine WL.start <| uK (.int .i64 ((i : Nat) : Int)) <| uK (.int .i64 ticks) <| ?_
    try simp only [pS]
    refine uC 13 #[.int .i64 ticks, .int .i64 6] (rnd_any _ 6 _ (by decide) (by decide)) ?_
    rintro e wk16 ⟨k2, hk2, rfl, hwq⟩
    have HF : Hid (Wf w No No I J p r s x w (wk16) []) := by rw [hwq]; exact HF
    clear hwq
    refine ⟨.int .i64 ((k2 : Nat) : Int), rfl, ?_⟩
    try simp only [pS]
    cases q3 : (decide (((i : Nat) : Int) < ((k2 : Nat) : Int)))
    ·skip
     refine uB .lss 3 (.int .i64 ((i : Nat) : Int)) (.int .i64 ((k2 : Nat) : Int)) (.bool false) (by rw [b_lss, q3]; try rfl) <| WL.nil <| ?_
     try simp only [pS]
     go_upto_region 15 with fail
     refine WL.start <| uK (.int .i64 0) <| WL.nil <| ?_
     try simp only [pS]
     go_wp2
     go_loopw [15] (fun v15 wr => ∃ (i : Nat) (I J : Nat → Prop) (s : PS) (x : Rs), v15 = .int .i64 ((i : Nat) : Int) ∧ i ≤ 6 ∧ Hid (Wf w No No I J p r s x w wr []) ∧ Hid (Rel (Bw w) s x) ∧ Hid (s.zs = [1, 2, 3])) (fun i _ => 6 - (intOf i).toNat)
     case atStart => exact ⟨0, I, J, s, x, by go_num, by omega, HF, HR, HZ⟩
     case round =>
       clear HF HR HZ
       obtain ⟨i, I, J, s, x, rfl, hi, HF, HR, HZ⟩ := hrel
       by_cases hlt : i < 6
       · skip
         go_upto_region 16 with fail
         refine WL.start <| uK (.int .i64 ((i : Nat) : Int)) <| uB .lss 3 (.int .i64 ((i : Nat) : Int)) (.int .i64 6) (.bool true) (by rw [b_lss, decide_eq_true (by omega)]) <| WL.nil <| ?_
         try simp only [pS]
         go_upto_region 18 with fail
         refine WL.start <| uK (.int .i64 ((i : Nat) : Int)) <| uW (.agg (Ad.cells ⟨false, ((i : Nat) : Int)⟩)) (exec_build 37 _ rfl (Ad.cells ⟨false, ((i : Nat) : Int)⟩) (by kernel_rfl)) <| uW (.agg (Mg.cells ⟨13, ⟨false, ((i : Nat) : Int)⟩, adZ, 0, 0, kyZ, spZ, spZ, slZ, cZ, bvZ, slZ, true⟩)) (exec_build 47 _ rfl (Mg.cells ⟨13, ⟨false, ((i : Nat) : Int)⟩, adZ, 0, 0, kyZ, spZ, spZ, slZ, cZ, bvZ, slZ, true⟩) (by kernel_rfl)) <| ?_
         try simp only [pS]
         refine uR (pV wr.heap.size 0) (wr.alloc (.cells (Mg.cells mgZ) 47)) (exec_alloc 47 rfl (Mg.cells mgZ) Z47) ?_
         try simp only [pS]
         have HF : Hid (Wf w No No I J p r s x w (wr.alloc (.cells (Mg.cells mgZ) 47)) [(wr.heap.size, 47, Mg.cells mgZ)]) := HF.out.alloc _ _
         generalize wr.alloc (.cells (Mg.cells mgZ) 47) = wk18 at HF ⊢
         generalize wr.heap.size = gk17 at HF ⊢
         refine uT 47 ⟨gk17, 0, none⟩ (.agg (Mg.cells ⟨13, ⟨false, ((i : Nat) : Int)⟩, adZ, 0, 0, kyZ, spZ, spZ, slZ, cZ, bvZ, slZ, true⟩)) (wk18.setRow gk17 (Mg.cells ⟨13, ⟨false, ((i : Nat) : Int)⟩, adZ, 0, 0, kyZ, spZ, spZ, slZ, cZ, bvZ, slZ, true⟩)) (rs (Mg.cs mgZ) (Mg.cs ⟨13, ⟨false, ((i : Nat) : Int)⟩, adZ, 0, 0, kyZ, spZ, spZ, slZ, cZ, bvZ, slZ, true⟩) (Mg.cs ⟨13, ⟨false, ((i : Nat) : Int)⟩, adZ, 0, 0, kyZ, spZ, spZ, slZ, cZ, bvZ, slZ, true⟩) (HF.out.box 0 _ _ _ rfl) S47 (Mg.oneL _)) ?_
         try simp only [pS]
         have HF : Hid (Wf w No No I J p r s x w (wk18.setRow gk17 (Mg.cells ⟨13, ⟨false, ((i : Nat) : Int)⟩, adZ, 0, 0, kyZ, spZ, spZ, slZ, cZ, bvZ, slZ, true⟩)) [(gk17, 47, Mg.cells ⟨13, ⟨false, ((i : Nat) : Int)⟩, adZ, 0, 0, kyZ, spZ, spZ, slZ, cZ, bvZ, slZ, true⟩)]) := HF.out.set 0 rfl _
         generalize wk18.setRow gk17 (Mg.cells ⟨13, ⟨false, ((i : Nat) : Int)⟩, adZ, 0, 0, kyZ, spZ, spZ, slZ, cZ, bvZ, slZ, true⟩) = wk19 at HF ⊢
         refine WL.nil ?_
         try simp only [pS]
         go_upto_region 19 with fail
         refine WL.start <| uK (.int .i64 ((i : Nat) : Int)) <| ?_
         try simp only [pS]
         cases q4 : (decide (2 < ((i : Nat) : Int)))
         ·skip
          refine uB .gtr 3 (.int .i64 ((i : Nat) : Int)) (.int .i64 2) (.bool false) (by rw [b_gtr, q4]; try rfl) <| WL.nil <| ?_
          try simp only [pS]
          go_upto_region 21 with fail
          refine WL.start <| uK (pV p 0) <| uK (pV r 0) <| uL 47 ⟨gk17, 0, none⟩ (.agg (Mg.cells ⟨13, ⟨false, ((i : Nat) : Int)⟩, adZ, 0, 0, kyZ, spZ, spZ, slZ, cZ, bvZ, slZ, true⟩)) (run_load_part (cs := Mg.cs ⟨13, ⟨false, ((i : Nat) : Int)⟩, adZ, 0, 0, kyZ, spZ, spZ, slZ, cZ, bvZ, slZ, true⟩) (sub := Mg.cs ⟨13, ⟨false, ((i : Nat) : Int)⟩, adZ, 0, 0, kyZ, spZ, spZ, slZ, cZ, bvZ, slZ, true⟩) (HF.out.box 0 _ _ _ rfl) (Part.all _) U47 rfl S47) <| uW (.agg (Stp.cells ⟨3, ⟨13, ⟨false, ((i : Nat) : Int)⟩, adZ, 0, 0, kyZ, spZ, spZ, slZ, cZ, bvZ, slZ, true⟩⟩)) (exec_build 49 _ rfl (Stp.cells ⟨3, ⟨13, ⟨false, ((i : Nat) : Int)⟩, adZ, 0, 0, kyZ, spZ, spZ, slZ, cZ, bvZ, slZ, true⟩⟩) (by kernel_rfl)) <| ?_
          try simp only [pS]
          refine uC 11 #[pV p 0, pV r 0, .agg (Stp.cells ⟨3, ⟨13, ⟨false, ((i : Nat) : Int)⟩, adZ, 0, 0, kyZ, spZ, spZ, slZ, cZ, bvZ, slZ, true⟩⟩)] (step_any w I J p r s x ⟨3, ⟨13, ⟨false, ((i : Nat) : Int)⟩, adZ, 0, 0, kyZ, spZ, spZ, slZ, cZ, bvZ, slZ, true⟩⟩ [] [] [] [] _ HF.out.c HR.out (mg_plain w _ ⟨rfl, rfl, rfl, rfl⟩) (by show (0 : Int) ≤ 9223372036854775807; decide) (by rw [HR.out.s0.zs, HZ.out]; decide)) ?_
          rintro e wk20 ho
          obtain ⟨Ia5, Ja5, sa5, xa5, rfl, hF, hR, hz⟩ := HF.out.step ho
          have HF : Hid (Wf w No No Ia5 Ja5 p r sa5 xa5 w (wk20) [(gk17, 47, Mg.cells ⟨13, ⟨false, ((i : Nat) : Int)⟩, adZ, 0, 0, kyZ, spZ, spZ, slZ, cZ, bvZ, slZ, true⟩)]) := hF
          have HR : Hid (Rel (Bw w) sa5 xa5) := hR
          have HZ : Hid (sa5.zs = [1, 2, 3]) := hz.trans HZ.out
          clear ho hF hR hz
          refine ⟨.bool true, rfl, ?_⟩
          try simp only [pS]
          refine uK (.bool false) <| uK (.bool false) <| uK (pV p 0) <| uK (pV r 0) <| ?_
          try simp only [pS]
          refine uC 12 #[pV p 0, pV r 0] (shows_any w Ia5 Ja5 p r sa5 xa5 _ HF.out.c (rel_show HR.out)) ?_
          rintro e wk21 ⟨rfl, hk⟩
          have HF : Hid (Wf w No No Ia5 Ja5 p r sa5 xa5 w (wk21) [(gk17, 47, Mg.cells ⟨13, ⟨false, ((i : Nat) : Int)⟩, adZ, 0, 0, kyZ, spZ, spZ, slZ, cZ, bvZ, slZ, true⟩)]) := HF.out.no hk
          clear hk
          refine ⟨.bool true, rfl, ?_⟩
          try simp only [pS]
          refine uK (.bool false) <| uK (.bool false) <| WL.nil <| ?_
          try simp only [pS]
          have HF : Hid (Wf w No No Ia5 Ja5 p r sa5 xa5 w wk21 []) := HF.out.none
          go_upto_region 17 with fail
          refine WL.start <| uK (.int .i64 ((i : Nat) : Int)) <| uB .add 3 (.int .i64 ((i : Nat) : Int)) (.int .i64 1) (.int .i64 (((i + 1) : Nat) : Int)) (b_addw _ _ _ (by rw [IntKind.wrap_i64]; omega) _) <| uK (.int .i64 (((i + 1) : Nat) : Int)) <| WL.nil <| ?_
          try simp only [pS]
          go_wp2
          go_roundw
          case rel => exact ⟨i + 1, _, _, _, _, by go_num, by omega, HF, HR, HZ⟩
          case measure => simp [intOf]; omega
         ·skip
          refine uB .gtr 3 (.int .i64 ((i : Nat) : Int)) (.int .i64 2) (.bool true) (by rw [b_gtr, q4]; try rfl) <| WL.nil <| ?_
          try simp only [pS]
          go_upto_region 20 with fail
          refine WL.start <| uK (pV gk17 0) <| ?_
          try simp only [pS]
          refine uT 3 ⟨gk17, 0, none⟩ (.int .i64 15) (wk19.setRow gk17 (Mg.cells ⟨15, ⟨false, ((i : Nat) : Int)⟩, adZ, 0, 0, kyZ, spZ, spZ, slZ, cZ, bvZ, slZ, true⟩)) (rs (Mg.cs ⟨13, ⟨false, ((i : Nat) : Int)⟩, adZ, 0, 0, kyZ, spZ, spZ, slZ, cZ, bvZ, slZ, true⟩) ([.int .i64 15]) (Mg.cs ⟨15, ⟨false, ((i : Nat) : Int)⟩, adZ, 0, 0, kyZ, spZ, spZ, slZ, cZ, bvZ, slZ, true⟩) (HF.out.box 0 _ _ _ rfl) S3 (by simp [Value.oneCell', Sl.v])) ?_
          try simp only [pS]
          have HF : Hid (Wf w No No I J p r s x w (wk19.setRow gk17 (Mg.cells ⟨15, ⟨false, ((i : Nat) : Int)⟩, adZ, 0, 0, kyZ, spZ, spZ, slZ, cZ, bvZ, slZ, true⟩)) [(gk17, 47, Mg.cells ⟨15, ⟨false, ((i : Nat) : Int)⟩, adZ, 0, 0, kyZ, spZ, spZ, slZ, cZ, bvZ, slZ, true⟩)]) := HF.out.set 0 rfl _
          generalize wk19.setRow gk17 (Mg.cells ⟨15, ⟨false, ((i : Nat) : Int)⟩, adZ, 0, 0, kyZ, spZ, spZ, slZ, cZ, bvZ, slZ, true⟩) = wk22 at HF ⊢
          refine WL.nil ?_
          try simp only [pS]
          go_upto_region 21 with fail
          refine WL.start <| uK (pV p 0) <| uK (pV r 0) <| uL 47 ⟨gk17, 0, none⟩ (.agg (Mg.cells ⟨15, ⟨false, ((i : Nat) : Int)⟩, adZ, 0, 0, kyZ, spZ, spZ, slZ, cZ, bvZ, slZ, true⟩)) (run_load_part (cs := Mg.cs ⟨15, ⟨false, ((i : Nat) : Int)⟩, adZ, 0, 0, kyZ, spZ, spZ, slZ, cZ, bvZ, slZ, true⟩) (sub := Mg.cs ⟨15, ⟨false, ((i : Nat) : Int)⟩, adZ, 0, 0, kyZ, spZ, spZ, slZ, cZ, bvZ, slZ, true⟩) (HF.out.box 0 _ _ _ rfl) (Part.all _) U47 rfl S47) <| uW (.agg (Stp.cells ⟨3, ⟨15, ⟨false, ((i : Nat) : Int)⟩, adZ, 0, 0, kyZ, spZ, spZ, slZ, cZ, bvZ, slZ, true⟩⟩)) (exec_build 49 _ rfl (Stp.cells ⟨3, ⟨15, ⟨false, ((i : Nat) : Int)⟩, adZ, 0, 0, kyZ, spZ, spZ, slZ, cZ, bvZ, slZ, true⟩⟩) (by kernel_rfl)) <| ?_
          try simp only [pS]
          refine uC 11 #[pV p 0, pV r 0, .agg (Stp.cells ⟨3, ⟨15, ⟨false, ((i : Nat) : Int)⟩, adZ, 0, 0, kyZ, spZ, spZ, slZ, cZ, bvZ, slZ, true⟩⟩)] (step_any w I J p r s x ⟨3, ⟨15, ⟨false, ((i : Nat) : Int)⟩, adZ, 0, 0, kyZ, spZ, spZ, slZ, cZ, bvZ, slZ, true⟩⟩ [] [] [] [] _ HF.out.c HR.out (mg_plain w _ ⟨rfl, rfl, rfl, rfl⟩) (by show (0 : Int) ≤ 9223372036854775807; decide) (by rw [HR.out.s0.zs, HZ.out]; decide)) ?_
          rintro e wk23 ho
          obtain ⟨Ia6, Ja6, sa6, xa6, rfl, hF, hR, hz⟩ := HF.out.step ho
          have HF : Hid (Wf w No No Ia6 Ja6 p r sa6 xa6 w (wk23) [(gk17, 47, Mg.cells ⟨15, ⟨false, ((i : Nat) : Int)⟩, adZ, 0, 0, kyZ, spZ, spZ, slZ, cZ, bvZ, slZ, true⟩)]) := hF
          have HR : Hid (Rel (Bw w) sa6 xa6) := hR
          have HZ : Hid (sa6.zs = [1, 2, 3]) := hz.trans HZ.out
          clear ho hF hR hz
          refine ⟨.bool true, rfl, ?_⟩
          try simp only [pS]
          refine uK (.bool false) <| uK (.bool false) <| uK (pV p 0) <| uK (pV r 0) <| ?_
          try simp only [pS]
          refine uC 12 #[pV p 0, pV r 0] (shows_any w Ia6 Ja6 p r sa6 xa6 _ HF.out.c (rel_show HR.out)) ?_
          rintro e wk24 ⟨rfl, hk⟩
          have HF : Hid (Wf w No No Ia6 Ja6 p r sa6 xa6 w (wk24) [(gk17, 47, Mg.cells ⟨15, ⟨false, ((i : Nat) : Int)⟩, adZ, 0, 0, kyZ, spZ, spZ, slZ, cZ, bvZ, slZ, true⟩)]) := HF.out.no hk
          clear hk
          refine ⟨.bool true, rfl, ?_⟩
          try simp only [pS]
          refine uK (.bool false) <| uK (.bool false) <| WL.nil <| ?_
          try simp only [pS]
          have HF : Hid (Wf w No No Ia6 Ja6 p r sa6 xa6 w wk24 []) := HF.out.none
          go_upto_region 17 with fail
          refine WL.start <| uK (.int .i64 ((i : Nat) : Int)) <| uB .add 3 (.int .i64 ((i : Nat) : Int)) (.int .i64 1) (.int .i64 (((i + 1) : Nat) : Int)) (b_addw _ _ _ (by rw [IntKind.wrap_i64]; omega) _) <| uK (.int .i64 (((i + 1) : Nat) : Int)) <| WL.nil <| ?_
          try simp only [pS]
          go_wp2
          go_roundw
          case rel => exact ⟨i + 1, _, _, _, _, by go_num, by omega, HF, HR, HZ⟩
          case measure => simp [intOf]; omega
       · skip
         go_upto_region 16 with fail
         refine WL.start <| uK (.int .i64 ((i : Nat) : Int)) <| uB .lss 3 (.int .i64 ((i : Nat) : Int)) (.int .i64 6) (.bool false) (by rw [b_lss, decide_eq_false (by omega)]) <| WL.nil <| ?_
         try simp only [pS]
         go_upto_region 23 with fail
         refine wp_region_held_drew (S := fun w' => Kept No wr.drew w') rfl (Kept.refl No _) (fun hH => ?_)
         have HWn : Hid (Wc w I J p r s x wr.drew) := HF.out.drew.c
         obtain ⟨g, ba, bc, bh, bm, hBn⟩ := HWn.out.b
         have HBr : Hid (Box wr.drew r 56 (rvOf x g ba bc bh bm).cells) := hBn.fq.box 0 _ _ _ rfl
         have HK : Hid (Kept No w wr.drew) := HF.out.drew.c.kp
         have HS : Hid (ShowR w s x) := rel_show HR.out
         clear hBn HF
         generalize wr.drew = wz at HWn HBr HK hH ⊢
         refine xV 0 108 (pV p 0) hH <| xV 2 110 (pV r 0) hH <| xV 3 111 (pV r 0) hH <| xV 4 112 (pV r 36) hH <| xL 5 113 4 ⟨r, 36, none⟩ (.bool x.wo) (fun _ hw => load_one ((HBr.out.kept hw (fun e => e)).cell 36 |>.trans (by kernel_rfl)) U4 rfl) hH <| ?_
         try simp only [pS]
         refine xC 1 109 14 #[pV p 0] (worn_P (HWn.out.a.no hH)) ?_
         rintro e wk25 ⟨rfl, hk⟩
         have hH2 : Kept No wz wk25 := hH.then hk
         clear hk
         refine ⟨.bool x.wo, by rw [HS.out.wo], hH2, fun hH => ?_⟩
         clear hH2
         try simp only [pS]
         refine xB 6 114 .eql 4 (.bool x.wo) (.bool x.wo) (.bool true) (fun _ _ => eqlB_self _ _) hH <| xV 7 8 (.bool true) hH <| ?_
         try simp only [pS]
         have hHe := hH
         refine wpAnyH_done (by kernel_rfl) ?_ _
         try simp only [pS]
         clear hH
         go_wp2
         rw [HC.out]
         exact ⟨rfl, HK.out.then hHe⟩
    ·skip
     refine uB .lss 3 (.int .i64 ((i : Nat) : Int)) (.int .i64 ((k2 : Nat) : Int)) (.bool true) (by rw [b_lss, q3]; try rfl) <| WL.nil <| ?_
     try simp only [pS]
     have hik : i < 6 := by have := of_decide_eq_true q3; omega
     go_upto_region 12 with fail
     refine WL.start <| uK (.int .i64 ((i : Nat) : Int)) <| uW (.agg (Ad.cells ⟨false, ((i : Nat) : Int)⟩)) (exec_build 37 _ rfl (Ad.cells ⟨false, ((i : Nat) : Int)⟩) (by kernel_rfl)) <| uK (.int .i64 nack) <| uK (.int .i64 ((i : Nat) : Int)) <| uB .add 3 (.int .i64 nack) (.int .i64 ((i : Nat) : Int)) (.int .i64 (IntKind.i64.wrap (nack + ((i : Nat) : Int)))) (b_addW _ _ _) <| uW (.agg (Sp.cells ⟨(IntKind.i64.wrap (nack + ((i : Nat) : Int))), 2⟩)) (exec_build 39 _ rfl (Sp.cells ⟨(IntKind.i64.wrap (nack + ((i : Nat) : Int))), 2⟩) (by kernel_rfl)) <| uW (.agg (Mg.cells ⟨14, ⟨false, ((i : Nat) : Int)⟩, adZ, 0, 0, kyZ, ⟨(IntKind.i64.wrap (nack + ((i : Nat) : Int))), 2⟩, spZ, slZ, cZ, bvZ, slZ, false⟩)) (exec_build 47 _ rfl (Mg.cells ⟨14, ⟨false, ((i : Nat) : Int)⟩, adZ, 0, 0, kyZ, ⟨(IntKind.i64.wrap (nack + ((i : Nat) : Int))), 2⟩, spZ, slZ, cZ, bvZ, slZ, false⟩) (by kernel_rfl)) <| ?_
     try simp only [pS]
     refine uR (pV wk16.heap.size 0) (wk16.alloc (.cells (Mg.cells mgZ) 47)) (exec_alloc 47 rfl (Mg.cells mgZ) Z47) ?_
     try simp only [pS]
     have HF : Hid (Wf w No No I J p r s x w (wk16.alloc (.cells (Mg.cells mgZ) 47)) [(wk16.heap.size, 47, Mg.cells mgZ)]) := HF.out.alloc _ _
     generalize wk16.alloc (.cells (Mg.cells mgZ) 47) = wk27 at HF ⊢
     generalize wk16.heap.size = gk26 at HF ⊢
     refine uT 47 ⟨gk26, 0, none⟩ (.agg (Mg.cells ⟨14, ⟨false, ((i : Nat) : Int)⟩, adZ, 0, 0, kyZ, ⟨(IntKind.i64.wrap (nack + ((i : Nat) : Int))), 2⟩, spZ, slZ, cZ, bvZ, slZ, false⟩)) (wk27.setRow gk26 (Mg.cells ⟨14, ⟨false, ((i : Nat) : Int)⟩, adZ, 0, 0, kyZ, ⟨(IntKind.i64.wrap (nack + ((i : Nat) : Int))), 2⟩, spZ, slZ, cZ, bvZ, slZ, false⟩)) (rs (Mg.cs mgZ) (Mg.cs ⟨14, ⟨false, ((i : Nat) : Int)⟩, adZ, 0, 0, kyZ, ⟨(IntKind.i64.wrap (nack + ((i : Nat) : Int))), 2⟩, spZ, slZ, cZ, bvZ, slZ, false⟩) (Mg.cs ⟨14, ⟨false, ((i : Nat) : Int)⟩, adZ, 0, 0, kyZ, ⟨(IntKind.i64.wrap (nack + ((i : Nat) : Int))), 2⟩, spZ, slZ, cZ, bvZ, slZ, false⟩) (HF.out.box 0 _ _ _ rfl) S47 (Mg.oneL _)) ?_
     try simp only [pS]
     have HF : Hid (Wf w No No I J p r s x w (wk27.setRow gk26 (Mg.cells ⟨14, ⟨false, ((i : Nat) : Int)⟩, adZ, 0, 0, kyZ, ⟨(IntKind.i64.wrap (nack + ((i : Nat) : Int))), 2⟩, spZ, slZ, cZ, bvZ, slZ, false⟩)) [(gk26, 47, Mg.cells ⟨14, ⟨false, ((i : Nat) : Int)⟩, adZ, 0, 0, kyZ, ⟨(IntKind.i64.wrap (nack + ((i : Nat) : Int))), 2⟩, spZ, slZ, cZ, bvZ, slZ, false⟩)]) := HF.out.set 0 rfl _
     generalize wk27.setRow gk26 (Mg.cells ⟨14, ⟨false, ((i : Nat) : Int)⟩, adZ, 0, 0, kyZ, ⟨(IntKind.i64.wrap (nack + ((i : Nat) : Int))), 2⟩, spZ, slZ, cZ, bvZ, slZ, false⟩) = wk28 at HF ⊢
     refine WL.nil ?_
     try simp only [pS]
     go_upto_region 13 with fail
     refine WL.start <| uK (pV p 0) <| uK (pV r 0) <| uL 47 ⟨gk26, 0, none⟩ (.agg (Mg.cells ⟨14, ⟨false, ((i : Nat) : Int)⟩, adZ, 0, 0, kyZ, ⟨(IntKind.i64.wrap (nack + ((i : Nat) : Int))), 2⟩, spZ, slZ, cZ, bvZ, slZ, false⟩)) (run_load_part (cs := Mg.cs ⟨14, ⟨false, ((i : Nat) : Int)⟩, adZ, 0, 0, kyZ, ⟨(IntKind.i64.wrap (nack + ((i : Nat) : Int))), 2⟩, spZ, slZ, cZ, bvZ, slZ, false⟩) (sub := Mg.cs ⟨14, ⟨false, ((i : Nat) : Int)⟩, adZ, 0, 0, kyZ, ⟨(IntKind.i64.wrap (nack + ((i : Nat) : Int))), 2⟩, spZ, slZ, cZ, bvZ, slZ, false⟩) (HF.out.box 0 _ _ _ rfl) (Part.all _) U47 rfl S47) <| uW (.agg (Stp.cells ⟨3, ⟨14, ⟨false, ((i : Nat) : Int)⟩, adZ, 0, 0, kyZ, ⟨(IntKind.i64.wrap (nack + ((i : Nat) : Int))), 2⟩, spZ, slZ, cZ, bvZ, slZ, false⟩⟩)) (exec_build 49 _ rfl (Stp.cells ⟨3, ⟨14, ⟨false, ((i : Nat) : Int)⟩, adZ, 0, 0, kyZ, ⟨(IntKind.i64.wrap (nack + ((i : Nat) : Int))), 2⟩, spZ, slZ, cZ, bvZ, slZ, false⟩⟩) (by kernel_rfl)) <| ?_
     try simp only [pS]
     refine uC 11 #[pV p 0, pV r 0, .agg (Stp.cells ⟨3, ⟨14, ⟨false, ((i : Nat) : Int)⟩, adZ, 0, 0, kyZ, ⟨(IntKind.i64.wrap (nack + ((i : Nat) : Int))), 2⟩, spZ, slZ, cZ, bvZ, slZ, false⟩⟩)] (step_any w I J p r s x ⟨3, ⟨14, ⟨false, ((i : Nat) : Int)⟩, adZ, 0, 0, kyZ, ⟨(IntKind.i64.wrap (nack + ((i : Nat) : Int))), 2⟩, spZ, slZ, cZ, bvZ, slZ, false⟩⟩ [] [] [] [] _ HF.out.c HR.out (mg_plain w _ ⟨rfl, rfl, rfl, rfl⟩) (wrap_le _) (by rw [HR.out.s0.zs, HZ.out]; decide)) ?_
     rintro e wk29 ho
     obtain ⟨Ia7, Ja7, sa7, xa7, rfl, hF, hR, hz⟩ := HF.out.step ho
     have HF : Hid (Wf w No No Ia7 Ja7 p r sa7 xa7 w (wk29) [(gk26, 47, Mg.cells ⟨14, ⟨false, ((i : Nat) : Int)⟩, adZ, 0, 0, kyZ, ⟨(IntKind.i64.wrap (nack + ((i : Nat) : Int))), 2⟩, spZ, slZ, cZ, bvZ, slZ, false⟩)]) := hF
     have HR : Hid (Rel (Bw w) sa7 xa7) := hR
     have HZ : Hid (sa7.zs = [1, 2, 3]) := hz.trans HZ.out
     clear ho hF hR hz
     refine ⟨.bool true, rfl, ?_⟩
     try simp only [pS]
     refine uK (.bool false) <| uK (.bool false) <| uK (pV p 0) <| uK (pV r 0) <| ?_
     try simp only [pS]
     refine uC 12 #[pV p 0, pV r 0] (shows_any w Ia7 Ja7 p r sa7 xa7 _ HF.out.c (rel_show HR.out)) ?_
     rintro e wk30 ⟨rfl, hk⟩
     have HF : Hid (Wf w No No Ia7 Ja7 p r sa7 xa7 w (wk30) [(gk26, 47, Mg.cells ⟨14, ⟨false, ((i : Nat) : Int)⟩, adZ, 0, 0, kyZ, ⟨(IntKind.i64.wrap (nack + ((i : Nat) : Int))), 2⟩, spZ, slZ, cZ, bvZ, slZ, false⟩)]) := HF.out.no hk
     clear hk
     refine ⟨.bool true, rfl, ?_⟩
     try simp only [pS]
     refine uK (.bool false) <| uK (.bool false) <| uK (.bool false) <| uK (pV p 0) <| uK (pV r 0) <| uW (.agg (Stp.cells ⟨1, mgZ⟩)) (exec_build 49 _ rfl (Stp.cells ⟨1, mgZ⟩) (by kernel_rfl)) <| ?_
     try simp only [pS]
     refine uC 11 #[pV p 0, pV r 0, .agg (Stp.cells ⟨1, mgZ⟩)] (step_any w Ia7 Ja7 p r sa7 xa7 ⟨1, mgZ⟩ [] [] [] [] _ HF.out.c HR.out (mg_plain w _ ⟨rfl, rfl, rfl, rfl⟩) (by show (0 : Int) ≤ 9223372036854775807; decide) (by rw [HR.out.s0.zs, HZ.out]; decide)) ?_
     rintro e wk31 ho
     obtain ⟨Ia8, Ja8, sa8, xa8, rfl, hF, hR, hz⟩ := HF.out.step ho
     have HF : Hid (Wf w No No Ia8 Ja8 p r sa8 xa8 w (wk31) [(gk26, 47, Mg.cells ⟨14, ⟨false, ((i : Nat) : Int)⟩, adZ, 0, 0, kyZ, ⟨(IntKind.i64.wrap (nack + ((i : Nat) : Int))), 2⟩, spZ, slZ, cZ, bvZ, slZ, false⟩)]) := hF
     have HR : Hid (Rel (Bw w) sa8 xa8) := hR
     have HZ : Hid (sa8.zs = [1, 2, 3]) := hz.trans HZ.out
     clear ho hF hR hz
     refine ⟨.bool true, rfl, ?_⟩
     try simp only [pS]
     refine uK (.bool false) <| uK (.bool false) <| uK (.bool false) <| uK (pV p 0) <| uK (pV r 0) <| ?_
     try simp only [pS]
     refine uC 12 #[pV p 0, pV r 0] (shows_any w Ia8 Ja8 p r sa8 xa8 _ HF.out.c (rel_show HR.out)) ?_
     rintro e wk32 ⟨rfl, hk⟩
     have HF : Hid (Wf w No No Ia8 Ja8 p r sa8 xa8 w (wk32) [(gk26, 47, Mg.cells ⟨14, ⟨false, ((i : Nat) : Int)⟩, adZ, 0, 0, kyZ, ⟨(IntKind.i64.wrap (nack + ((i : Nat) : Int))), 2⟩, spZ, slZ, cZ, bvZ, slZ, false⟩)]) := HF.out.no hk
     clear hk
     refine ⟨.bool true, rfl, ?_⟩
     try simp only [pS]
     refine uK (.bool false) <| uK (.bool false) <| WL.nil <| ?_
     try simp only [pS]
     have HF : Hid (Wf w No No Ia8 Ja8 p r sa8 xa8 w wk32 []) := HF.out.none
     go_upto_region 11 with fail
     refine WL.start <| uK (.int .i64 ((i : Nat) : Int)) <| uB .add 3 (.int .i64 ((i : Nat) : Int)) (.int .i64 1) (.int .i64 (((i + 1) : Nat) : Int)) (b_addw _ _ _ (by rw [IntKind.wrap_i64]; omega) _) <| uK (.int .i64 (((i + 1) : Nat) : Int)) <| WL.nil <| ?_
     try simp only [pS]
     go_wp2
     go_roundw
     case rel => exact ⟨i + 1, _, _, _, _, by go_num, by omega, HF, HR, HZ⟩
     case measure => simp [intOf]; omega

end Go.Proofs.Ytpabpeppgpeaoaa.Md
