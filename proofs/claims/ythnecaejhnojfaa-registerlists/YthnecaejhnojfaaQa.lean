import Derived.Test.YthnecaejhnojfaaTc
import Derived.Test.YthnecaejhnojfaaTa
namespace Go.Proofs.Ythnecaejhnojfaa.Md
open Go.RowKit
set_option linter.unusedVariables false
set_option linter.unusedSimpArgs false

theorem U140 : Try.prog.underlying 107 = some ((Try.prog.underlying 107).getD .bool) := by kernel_rfl
theorem V140 : (match (Try.prog.underlying 107).getD .bool with | .struct _ | .array _ _ => true | _ => false) = false := by kernel_rfl
theorem beginS (m : Value) (w : World) : Calls Try.prog 67 #[.agg #[], m] w (fun e w' => e = .returned (.slice none 0 0) ∧ Kept No w w') := by
  go_enter Try.func67, Try.ntmps67
  go_wp2
  go_ret
  exact ⟨rfl, (Kept.refl No w).alloc _⟩
theorem meth_done0 (a1 : Value) (w : World) : (method 277 105 (.agg #[a1]) "cairn/register.done").run Try.prog w = .ok (68, .agg #[]) w := by kernel_rfl
theorem done_0 (m : Nat) (a : Option Addr) (cap : Nat) (x : MS) (a1 : Value) (w : World) (hM : Mach w m a cap x 105 (.agg #[a1])) : Calls Try.prog 59 #[.pointer (some ⟨m, 0, none⟩)] w (DoneOut w 0 0 0 [] false) :=
  done_gen92 m a cap x 105 _ _ 0 0 0 [] false w hM (fun w => meth_done0 a1 w) (fun w1 _ => done0_any w1)
set_option maxRecDepth 100000 in
set_option maxHeartbeats 4000000 in
theorem mBegin_A (m : Nat) (a : Option Addr) (cap : Nat) (x : MS) (a1 a2 : Value) (w : World) (hM : Mach w m a cap x 146 (.agg #[a1, a2])) : Calls Try.prog 58 #[.pointer (some ⟨m, 0, none⟩)] w (fun e w' => e = .returned (.slice none 0 0) ∧ Kept No w w') := by
  obtain ⟨C, hC⟩ : ∃ C : Ending → World → Prop, C = (fun e w' => e = .returned (.slice none 0 0) ∧ Kept No w w') := ⟨_, rfl⟩
  have HC : Hid (C = (fun e w' => e = .returned (.slice none 0 0) ∧ Kept No w w')) := hC
  rw [← hC]
  clear hC
  have HM : Hid (Mach w m a cap x 146 (.agg #[a1, a2])) := hM
  clear hM
  have HF : Hid (Fq No w w []) := Fq.start _ _
  go_enter Try.func58, Try.ntmps58
  go_upto_region 0 with fail
  refine WL.start <| uK (.slice none 0 0) <| WL.nil <| ?_
  try simp only [pS]
  go_upto_region 1 with fail
  refine WL.start <| uK (.pointer (some ⟨m, 0, none⟩)) <| uK (.pointer (some ⟨m, 0, none⟩)) <| uK (.pointer (some ⟨m, 9, none⟩)) <| uL 107 ⟨m, 9, none⟩ (.iface 146 (.agg #[a1, a2])) (load_one ((HM.out.box.kept HF.out.kept (fun e => e)).cell 9 |>.trans (by kernel_rfl)) U140 V140) <| uK (.pointer (some ⟨m, 0, none⟩)) <| ?_
  try simp only [pS]
  refine uC 67 #[.agg #[], .pointer (some ⟨m, 0, none⟩)] (beginS _ w) ?_
  rintro e wk1 ⟨rfl, hk⟩
  have HF : Hid (Fq No w (wk1) []) := HF.out.no hk
  clear hk
  refine ⟨.slice none 0 0, rfl, ?_⟩
  try simp only [pS]
  refine uK (.slice none 0 0) <| WL.nil <| ?_
  try simp only [pS]
  go_wp2
  rw [HC.out]
  exact ⟨rfl, HF.out.kept⟩
set_option maxRecDepth 100000 in
set_option maxHeartbeats 4000000 in
theorem mBegin_L (m : Nat) (a : Option Addr) (cap : Nat) (x : MS) (n c : Int) (pa : Option Addr) (l k : Nat) (err sn sc : Int) (da : Option Addr) (dl dc ub : Nat) (w : World) (hM : Mach w m a cap x 160 (layV n c pa l k err sn sc da dl dc ub)) : Calls Try.prog 58 #[.pointer (some ⟨m, 0, none⟩)] w (fun e w' => e = .returned (.slice none 0 0) ∧ Kept No w w') := by
  obtain ⟨C, hC⟩ : ∃ C : Ending → World → Prop, C = (fun e w' => e = .returned (.slice none 0 0) ∧ Kept No w w') := ⟨_, rfl⟩
  have HC : Hid (C = (fun e w' => e = .returned (.slice none 0 0) ∧ Kept No w w')) := hC
  rw [← hC]
  clear hC
  have HM : Hid (Mach w m a cap x 160 (layV n c pa l k err sn sc da dl dc ub)) := hM
  clear hM
  have HF : Hid (Fq No w w []) := Fq.start _ _
  go_enter Try.func58, Try.ntmps58
  go_upto_region 0 with fail
  refine WL.start <| uK (.slice none 0 0) <| WL.nil <| ?_
  try simp only [pS]
  go_upto_region 1 with fail
  refine WL.start <| uK (.pointer (some ⟨m, 0, none⟩)) <| uK (.pointer (some ⟨m, 0, none⟩)) <| uK (.pointer (some ⟨m, 9, none⟩)) <| uL 107 ⟨m, 9, none⟩ (.iface 160 (layV n c pa l k err sn sc da dl dc ub)) (load_one ((HM.out.box.kept HF.out.kept (fun e => e)).cell 9 |>.trans (by kernel_rfl)) U140 V140) <| uK (.pointer (some ⟨m, 0, none⟩)) <| ?_
  try simp only [pS]
  refine uC 67 #[.agg #[], .pointer (some ⟨m, 0, none⟩)] (beginS _ w) ?_
  rintro e wk1 ⟨rfl, hk⟩
  have HF : Hid (Fq No w (wk1) []) := HF.out.no hk
  clear hk
  refine ⟨.slice none 0 0, rfl, ?_⟩
  try simp only [pS]
  refine uK (.slice none 0 0) <| WL.nil <| ?_
  try simp only [pS]
  go_wp2
  rw [HC.out]
  exact ⟨rfl, HF.out.kept⟩
set_option maxRecDepth 100000 in
set_option maxHeartbeats 4000000 in
theorem mBegin_E (m : Nat) (a : Option Addr) (cap : Nat) (x : MS) (err sn sc : Int) (da : Option Addr) (dl dc : Nat) (w : World) (hM : Mach w m a cap x 139 (endV err sn sc da dl dc)) : Calls Try.prog 58 #[.pointer (some ⟨m, 0, none⟩)] w (fun e w' => e = .returned (.slice none 0 0) ∧ Kept No w w') := by
  obtain ⟨C, hC⟩ : ∃ C : Ending → World → Prop, C = (fun e w' => e = .returned (.slice none 0 0) ∧ Kept No w w') := ⟨_, rfl⟩
  have HC : Hid (C = (fun e w' => e = .returned (.slice none 0 0) ∧ Kept No w w')) := hC
  rw [← hC]
  clear hC
  have HM : Hid (Mach w m a cap x 139 (endV err sn sc da dl dc)) := hM
  clear hM
  have HF : Hid (Fq No w w []) := Fq.start _ _
  go_enter Try.func58, Try.ntmps58
  go_upto_region 0 with fail
  refine WL.start <| uK (.slice none 0 0) <| WL.nil <| ?_
  try simp only [pS]
  go_upto_region 1 with fail
  refine WL.start <| uK (.pointer (some ⟨m, 0, none⟩)) <| uK (.pointer (some ⟨m, 0, none⟩)) <| uK (.pointer (some ⟨m, 9, none⟩)) <| uL 107 ⟨m, 9, none⟩ (.iface 139 (endV err sn sc da dl dc)) (load_one ((HM.out.box.kept HF.out.kept (fun e => e)).cell 9 |>.trans (by kernel_rfl)) U140 V140) <| uK (.pointer (some ⟨m, 0, none⟩)) <| ?_
  try simp only [pS]
  refine uC 67 #[.agg #[], .pointer (some ⟨m, 0, none⟩)] (beginS _ w) ?_
  rintro e wk1 ⟨rfl, hk⟩
  have HF : Hid (Fq No w (wk1) []) := HF.out.no hk
  clear hk
  refine ⟨.slice none 0 0, rfl, ?_⟩
  try simp only [pS]
  refine uK (.slice none 0 0) <| WL.nil <| ?_
  try simp only [pS]
  go_wp2
  rw [HC.out]
  exact ⟨rfl, HF.out.kept⟩
set_option maxRecDepth 100000 in
set_option maxHeartbeats 4000000 in
theorem mTake_0 (m : Nat) (a : Option Addr) (cap : Nat) (x : MS) (a1 : Value) (d : Mg) (w : World) (hM : Mach w m a cap x 105 (.agg #[a1])) : Calls Try.prog 61 #[.pointer (some ⟨m, 0, none⟩), .agg (Mg.cells d)] w (fun e w' => e = .returned (.slice none 0 0) ∧ Kept No w w') := by
  obtain ⟨C, hC⟩ : ∃ C : Ending → World → Prop, C = (fun e w' => e = .returned (.slice none 0 0) ∧ Kept No w w') := ⟨_, rfl⟩
  have HC : Hid (C = (fun e w' => e = .returned (.slice none 0 0) ∧ Kept No w w')) := hC
  rw [← hC]
  clear hC
  have HM : Hid (Mach w m a cap x 105 (.agg #[a1])) := hM
  clear hM
  have HF : Hid (Fq No w w []) := Fq.start _ _
  go_enter Try.func61, Try.ntmps61
  go_upto_region 0 with fail
  refine WL.start ?_
  refine uR (.pointer (some ⟨w.heap.size, 0, none⟩)) (w.alloc (.cells (Mg.cells d) 52)) (exec_box 52 _ rfl (Mg.cells d) (by kernel_rfl)) ?_
  try simp only [pS]
  have HF : Hid (Fq No w (w.alloc (.cells (Mg.cells d) 52)) [(w.heap.size, 52, Mg.cells d)]) := HF.out.alloc _ _
  generalize w.alloc (.cells (Mg.cells d) 52) = wk2 at HF ⊢
  generalize w.heap.size = gk1 at HF ⊢
  refine uK (.slice none 0 0) <| WL.nil <| ?_
  try simp only [pS]
  go_upto_region 1 with fail
  refine wp_region_held_drew (S := fun w' => Fq No w w' [(gk1, 52, Mg.cells d)]) rfl (HF.out.drew) (fun hH => ?_)
  have HF : Hid (Fq No w (wk2.drew) [(gk1, 52, Mg.cells d)]) := HF.out.drew
  generalize wk2.drew = wk3 at HF hH ⊢
  refine xV 0 5 (.pointer (some ⟨m, 0, none⟩)) hH <| xV 1 6 (.pointer (some ⟨m, 0, none⟩)) hH <| xV 2 7 (.pointer (some ⟨m, 9, none⟩)) hH <| xL 3 8 107 ⟨m, 9, none⟩ (.iface 105 (.agg #[a1])) (fun _ hw => load_one ((HM.out.box.kept hw.kept (fun e => e)).cell 9 |>.trans (by kernel_rfl)) U140 V140) hH <| xV 4 9 (.pointer (some ⟨m, 0, none⟩)) hH <| xL 5 10 52 ⟨gk1, 0, none⟩ (.agg (Mg.cells d)) (fun _ hw => run_load_part (cs := Mg.cs d) (sub := Mg.cs d) (hw.box 0 _ _ _ rfl) (Part.all _) U52 rfl S52) hH <| ?_
  try simp only [pS]
  refine xC 6 11 69 #[.agg #[], .pointer (some ⟨m, 0, none⟩), .agg (Mg.cells d)] (take0_any _ (mdOf d) wk3) ?_
  rintro e wk4 ⟨rfl, hk⟩
  have hH2 : Fq No w wk4 [(gk1, 52, Mg.cells d)] := hH.no hk
  have HF : Hid (Fq No w (wk4) [(gk1, 52, Mg.cells d)]) := HF.out.no hk
  clear hk
  refine ⟨.slice none 0 0, rfl, hH2, fun hH => ?_⟩
  clear hH2
  try simp only [pS]
  refine xV 7 4 (.slice none 0 0) hH ?_
  try simp only [pS]
  refine wpAnyH_done (by kernel_rfl) ?_ _
  try simp only [pS]
  clear hH
  go_wp2
  rw [HC.out]
  exact ⟨rfl, HF.out.kept⟩
set_option maxRecDepth 100000 in
set_option maxHeartbeats 4000000 in
theorem mTake_E (m : Nat) (a : Option Addr) (cap : Nat) (x : MS) (err sn sc : Int) (da : Option Addr) (dl dc : Nat) (d : Mg) (w : World) (hM : Mach w m a cap x 139 (endV err sn sc da dl dc)) : Calls Try.prog 61 #[.pointer (some ⟨m, 0, none⟩), .agg (Mg.cells d)] w (fun e w' => e = .returned (.slice none 0 0) ∧ Kept No w w') := by
  obtain ⟨C, hC⟩ : ∃ C : Ending → World → Prop, C = (fun e w' => e = .returned (.slice none 0 0) ∧ Kept No w w') := ⟨_, rfl⟩
  have HC : Hid (C = (fun e w' => e = .returned (.slice none 0 0) ∧ Kept No w w')) := hC
  rw [← hC]
  clear hC
  have HM : Hid (Mach w m a cap x 139 (endV err sn sc da dl dc)) := hM
  clear hM
  have HF : Hid (Fq No w w []) := Fq.start _ _
  go_enter Try.func61, Try.ntmps61
  go_upto_region 0 with fail
  refine WL.start ?_
  refine uR (.pointer (some ⟨w.heap.size, 0, none⟩)) (w.alloc (.cells (Mg.cells d) 52)) (exec_box 52 _ rfl (Mg.cells d) (by kernel_rfl)) ?_
  try simp only [pS]
  have HF : Hid (Fq No w (w.alloc (.cells (Mg.cells d) 52)) [(w.heap.size, 52, Mg.cells d)]) := HF.out.alloc _ _
  generalize w.alloc (.cells (Mg.cells d) 52) = wk2 at HF ⊢
  generalize w.heap.size = gk1 at HF ⊢
  refine uK (.slice none 0 0) <| WL.nil <| ?_
  try simp only [pS]
  go_upto_region 1 with fail
  refine wp_region_held_drew (S := fun w' => Fq No w w' [(gk1, 52, Mg.cells d)]) rfl (HF.out.drew) (fun hH => ?_)
  have HF : Hid (Fq No w (wk2.drew) [(gk1, 52, Mg.cells d)]) := HF.out.drew
  generalize wk2.drew = wk3 at HF hH ⊢
  refine xV 0 5 (.pointer (some ⟨m, 0, none⟩)) hH <| xV 1 6 (.pointer (some ⟨m, 0, none⟩)) hH <| xV 2 7 (.pointer (some ⟨m, 9, none⟩)) hH <| xL 3 8 107 ⟨m, 9, none⟩ (.iface 139 (endV err sn sc da dl dc)) (fun _ hw => load_one ((HM.out.box.kept hw.kept (fun e => e)).cell 9 |>.trans (by kernel_rfl)) U140 V140) hH <| xV 4 9 (.pointer (some ⟨m, 0, none⟩)) hH <| xL 5 10 52 ⟨gk1, 0, none⟩ (.agg (Mg.cells d)) (fun _ hw => run_load_part (cs := Mg.cs d) (sub := Mg.cs d) (hw.box 0 _ _ _ rfl) (Part.all _) U52 rfl S52) hH <| ?_
  try simp only [pS]
  refine xC 6 11 69 #[.agg #[], .pointer (some ⟨m, 0, none⟩), .agg (Mg.cells d)] (take0_any _ (mdOf d) wk3) ?_
  rintro e wk4 ⟨rfl, hk⟩
  have hH2 : Fq No w wk4 [(gk1, 52, Mg.cells d)] := hH.no hk
  have HF : Hid (Fq No w (wk4) [(gk1, 52, Mg.cells d)]) := HF.out.no hk
  clear hk
  refine ⟨.slice none 0 0, rfl, hH2, fun hH => ?_⟩
  clear hH2
  try simp only [pS]
  refine xV 7 4 (.slice none 0 0) hH ?_
  try simp only [pS]
  refine wpAnyH_done (by kernel_rfl) ?_ _
  try simp only [pS]
  clear hH
  go_wp2
  rw [HC.out]
  exact ⟨rfl, HF.out.kept⟩
set_option maxRecDepth 100000 in
set_option maxHeartbeats 4000000 in
theorem mTick_0 (m : Nat) (a : Option Addr) (cap : Nat) (x : MS) (a1 : Value) (w : World) (hM : Mach w m a cap x 105 (.agg #[a1])) : Calls Try.prog 62 #[.pointer (some ⟨m, 0, none⟩)] w (fun e w' => e = .returned (.slice none 0 0) ∧ Kept No w w') := by
  obtain ⟨C, hC⟩ : ∃ C : Ending → World → Prop, C = (fun e w' => e = .returned (.slice none 0 0) ∧ Kept No w w') := ⟨_, rfl⟩
  have HC : Hid (C = (fun e w' => e = .returned (.slice none 0 0) ∧ Kept No w w')) := hC
  rw [← hC]
  clear hC
  have HM : Hid (Mach w m a cap x 105 (.agg #[a1])) := hM
  clear hM
  have HF : Hid (Fq No w w []) := Fq.start _ _
  go_enter Try.func62, Try.ntmps62
  go_upto_region 0 with fail
  refine WL.start <| uK (.slice none 0 0) <| WL.nil <| ?_
  try simp only [pS]
  go_upto_region 1 with fail
  refine WL.start <| uK (.pointer (some ⟨m, 0, none⟩)) <| uK (.pointer (some ⟨m, 0, none⟩)) <| uK (.pointer (some ⟨m, 9, none⟩)) <| uL 107 ⟨m, 9, none⟩ (.iface 105 (.agg #[a1])) (load_one ((HM.out.box.kept HF.out.kept (fun e => e)).cell 9 |>.trans (by kernel_rfl)) U140 V140) <| uK (.pointer (some ⟨m, 0, none⟩)) <| ?_
  try simp only [pS]
  refine uC 70 #[.agg #[], .pointer (some ⟨m, 0, none⟩)] (tick0_any _ w) ?_
  rintro e wk1 ⟨rfl, hk⟩
  have HF : Hid (Fq No w (wk1) []) := HF.out.no hk
  clear hk
  refine ⟨.slice none 0 0, rfl, ?_⟩
  try simp only [pS]
  refine uK (.slice none 0 0) <| WL.nil <| ?_
  try simp only [pS]
  go_wp2
  rw [HC.out]
  exact ⟨rfl, HF.out.kept⟩
set_option maxRecDepth 100000 in
set_option maxHeartbeats 4000000 in
theorem begin95w (m : Nat) (a : Option Addr) (cap : Nat) (x : MS) (ai : TypeId) (av : Value) (w : World) (hM : Mach w m a cap x 105 (.agg #[.iface ai av])) (hr : ¬ (1 ≤ x.rd ∧ x.rd ≤ 1099511627776)) : Calls Try.prog 71 #[.agg #[.iface ai av], .pointer (some ⟨m, 0, none⟩)] w (fun e w' => e = .returned (.slice none 0 0) ∧ Mach w' m a cap x 139 (endV 4 0 0 none 0 0) ∧ Kept (Only m) w w') := by
  obtain ⟨C, hC⟩ : ∃ C : Ending → World → Prop, C = (fun e w' => e = .returned (.slice none 0 0) ∧ Mach w' m a cap x 139 (endV 4 0 0 none 0 0) ∧ Kept (Only m) w w') := ⟨_, rfl⟩
  have HC : Hid (C = (fun e w' => e = .returned (.slice none 0 0) ∧ Mach w' m a cap x 139 (endV 4 0 0 none 0 0) ∧ Kept (Only m) w w')) := hC
  rw [← hC]
  clear hC
  have HM : Hid (Mach w m a cap x 105 (.agg #[.iface ai av])) := hM
  clear hM
  have HF : Hid (Fq No w w []) := Fq.start _ _
  go_enter Try.func71, Try.ntmps71
  go_upto_region 0 with fail
  refine WL.start ?_
  refine uR (.pointer (some ⟨w.heap.size, 0, none⟩)) (w.alloc (.cells (#[.iface ai av]) 105)) (exec_box 105 _ rfl (#[.iface ai av]) (by kernel_rfl)) ?_
  try simp only [pS]
  have HF : Hid (Fq No w (w.alloc (.cells (#[.iface ai av]) 105)) [(w.heap.size, 105, #[.iface ai av])]) := HF.out.alloc _ _
  generalize w.alloc (.cells (#[.iface ai av]) 105) = wk2 at HF ⊢
  generalize w.heap.size = gk1 at HF ⊢
  refine uK (.slice none 0 0) <| WL.nil <| ?_
  try simp only [pS]
  go_upto_region 1 with fail
  refine WL.start <| uK (.pointer (some ⟨m, 0, none⟩)) <| uK (.pointer (some ⟨m, 0, none⟩)) <| uK (.pointer (some ⟨m, 8, none⟩)) <| uL 3 ⟨m, 8, none⟩ (.int .i64 x.rd) (load_one ((HM.out.box.kept HF.out.kept (fun e => e)).cell 8 |>.trans (by kernel_rfl)) U3 rfl) <| ?_
  try simp only [pS]
  cases q1 : (decide (x.rd < 1))
  ·skip
   refine uB .lss 3 (.int .i64 x.rd) (.int .i64 1) (.bool false) (by rw [b_lss, q1]; try rfl) <| uK (.bool false) <| uK (.pointer (some ⟨m, 0, none⟩)) <| uK (.pointer (some ⟨m, 0, none⟩)) <| uK (.pointer (some ⟨m, 8, none⟩)) <| uL 3 ⟨m, 8, none⟩ (.int .i64 x.rd) (load_one ((HM.out.box.kept HF.out.kept (fun e => e)).cell 8 |>.trans (by kernel_rfl)) U3 rfl) <| ?_
   try simp only [pS]
   cases q2 : (decide (1099511627776 < x.rd))
   · exact absurd ⟨by have := of_decide_eq_false q1; omega, by have := of_decide_eq_false q2; omega⟩ hr
   ·skip
    refine uB .gtr 3 (.int .i64 x.rd) (.int .i64 1099511627776) (.bool true) (by rw [b_gtr, q2]; try rfl) <| uK (.bool true) <| WL.nil <| ?_
    try simp only [pS]
    go_upto_region 2 with fail
    refine WL.start <| uK (.pointer (some ⟨m, 0, none⟩)) <| ?_
    try simp only [pS]
    refine uC 73 #[] (worn97 wk2) ?_
    rintro e wk3 ⟨rfl, hk⟩
    have HF : Hid (Fq No w (wk3) [(gk1, 105, #[.iface ai av])]) := HF.out.no hk
    clear hk
    refine ⟨.agg (Rz.cells { rzZ with er := 4 }), rfl, ?_⟩
    try simp only [pS]
    refine uK (.iface 139 (.agg (Rz.cells { rzZ with er := 4 }))) ?_
    try simp only [pS]
    refine uC 72 #[.pointer (some ⟨m, 0, none⟩), .iface 139 (.agg (Rz.cells { rzZ with er := 4 }))] (enterE_any m a cap x 105 (.agg #[.iface ai av]) 4 0 0 none 0 0 wk3 (HM.out.no HF.out.kept)) ?_
    rintro e wk4 ⟨rfl, hM2, hk⟩
    have HMf : Hid (Mach wk4 m a cap x 139 (endV 4 0 0 none 0 0)) := hM2
    have HKf : Hid (Kept (Only m) w wk4) := (HF.out.kept.of_no : Kept (Only m) _ _).then hk
    clear hk hM2
    refine ⟨.slice none 0 0, rfl, ?_⟩
    try simp only [pS]
    refine uK (.slice none 0 0) <| WL.nil <| ?_
    try simp only [pS]
    go_wp2
    rw [HC.out]
    exact ⟨rfl, HMf.out, HKf.out⟩
  ·skip
   refine uB .lss 3 (.int .i64 x.rd) (.int .i64 1) (.bool true) (by rw [b_lss, q1]; try rfl) <| uK (.bool true) <| uZ <| uZ <| uZ <| uZ <| uZ <| uK (.bool true) <| WL.nil <| ?_
   try simp only [pS]
   go_upto_region 2 with fail
   refine WL.start <| uK (.pointer (some ⟨m, 0, none⟩)) <| ?_
   try simp only [pS]
   refine uC 73 #[] (worn97 wk2) ?_
   rintro e wk5 ⟨rfl, hk⟩
   have HF : Hid (Fq No w (wk5) [(gk1, 105, #[.iface ai av])]) := HF.out.no hk
   clear hk
   refine ⟨.agg (Rz.cells { rzZ with er := 4 }), rfl, ?_⟩
   try simp only [pS]
   refine uK (.iface 139 (.agg (Rz.cells { rzZ with er := 4 }))) ?_
   try simp only [pS]
   refine uC 72 #[.pointer (some ⟨m, 0, none⟩), .iface 139 (.agg (Rz.cells { rzZ with er := 4 }))] (enterE_any m a cap x 105 (.agg #[.iface ai av]) 4 0 0 none 0 0 wk5 (HM.out.no HF.out.kept)) ?_
   rintro e wk6 ⟨rfl, hM2, hk⟩
   have HMf : Hid (Mach wk6 m a cap x 139 (endV 4 0 0 none 0 0)) := hM2
   have HKf : Hid (Kept (Only m) w wk6) := (HF.out.kept.of_no : Kept (Only m) _ _).then hk
   clear hk hM2
   refine ⟨.slice none 0 0, rfl, ?_⟩
   try simp only [pS]
   refine uK (.slice none 0 0) <| WL.nil <| ?_
   try simp only [pS]
   go_wp2
   rw [HC.out]
   exact ⟨rfl, HMf.out, HKf.out⟩
set_option maxRecDepth 100000 in
set_option maxHeartbeats 4000000 in
theorem mBegin_w (m : Nat) (a : Option Addr) (cap : Nat) (x : MS) (ai : TypeId) (av : Value) (w : World) (hM : Mach w m a cap x 105 (.agg #[.iface ai av])) (hr : ¬ (1 ≤ x.rd ∧ x.rd ≤ 1099511627776)) : Calls Try.prog 58 #[.pointer (some ⟨m, 0, none⟩)] w (fun e w' => e = .returned (.slice none 0 0) ∧ Mach w' m a cap x 139 (endV 4 0 0 none 0 0) ∧ Kept (Only m) w w') := by
  obtain ⟨C, hC⟩ : ∃ C : Ending → World → Prop, C = (fun e w' => e = .returned (.slice none 0 0) ∧ Mach w' m a cap x 139 (endV 4 0 0 none 0 0) ∧ Kept (Only m) w w') := ⟨_, rfl⟩
  have HC : Hid (C = (fun e w' => e = .returned (.slice none 0 0) ∧ Mach w' m a cap x 139 (endV 4 0 0 none 0 0) ∧ Kept (Only m) w w')) := hC
  rw [← hC]
  clear hC
  have HM : Hid (Mach w m a cap x 105 (.agg #[.iface ai av])) := hM
  clear hM
  have HF : Hid (Fq No w w []) := Fq.start _ _
  go_enter Try.func58, Try.ntmps58
  go_upto_region 0 with fail
  refine WL.start <| uK (.slice none 0 0) <| WL.nil <| ?_
  try simp only [pS]
  go_upto_region 1 with fail
  refine WL.start <| uK (.pointer (some ⟨m, 0, none⟩)) <| uK (.pointer (some ⟨m, 0, none⟩)) <| uK (.pointer (some ⟨m, 9, none⟩)) <| uL 107 ⟨m, 9, none⟩ (.iface 105 (.agg #[.iface ai av])) (load_one ((HM.out.box.kept HF.out.kept (fun e => e)).cell 9 |>.trans (by kernel_rfl)) U140 V140) <| uK (.pointer (some ⟨m, 0, none⟩)) <| ?_
  try simp only [pS]
  refine uC 71 #[.agg #[.iface ai av], .pointer (some ⟨m, 0, none⟩)] (begin95w m a cap x ai av w (HM.out.no HF.out.kept) hr) ?_
  rintro e wk1 ⟨rfl, hM2, hk⟩
  have HMf : Hid (Mach wk1 m a cap x 139 (endV 4 0 0 none 0 0)) := hM2
  have HKf : Hid (Kept (Only m) w wk1) := (HF.out.kept.of_no : Kept (Only m) _ _).then hk
  clear hk hM2
  refine ⟨.slice none 0 0, rfl, ?_⟩
  try simp only [pS]
  refine uK (.slice none 0 0) <| WL.nil <| ?_
  try simp only [pS]
  go_wp2
  rw [HC.out]
  exact ⟨rfl, HMf.out, HKf.out⟩

end Go.Proofs.Ythnecaejhnojfaa.Md
namespace Go.Proofs.Ythnecaejhnojfaa
open Go.RowKit
set_option linter.unusedVariables false
set_option linter.unusedSimpArgs false

set_option maxRecDepth 100000 in
set_option maxHeartbeats 2000000 in
theorem read_lo (cl op k0 k1 k2 k3 rd sz : Int) (a0 : Option Addr) (n0 cap0 : Nat) (gs : List Int) (w : World) (hz : gs.length = n0) (hn : n0 ≤ 17592186043904) (hb : Nums .i64 w a0 gs) (h0 : sz < 0) :
    Calls Try.prog 17 #[.int .i64 cl, .int .i64 op, .agg #[.int .i64 k0, .int .i64 k1, .int .i64 k2, .int .i64 k3], .slice a0 n0 cap0, .int .i64 rd, .int .i64 sz] w (ReadOut w ⟨cl, op, k0, k1, k2, k3, uq gs, rd⟩ sz) := by
  have HB : Hid (Nums .i64 w a0 gs) := hb
  have HZ : Hid (gs.length = n0) := hz
  clear hb hz
  obtain ⟨w1, hw1⟩ : ∃ w1, w1 = w.alloc (.cells #[.int .i64 k0, .int .i64 k1, .int .i64 k2, .int .i64 k3] 23) := ⟨_, rfl⟩
  have HK1 : Hid (Kept No w w1) := by rw [hw1]; exact (Kept.refl No w).alloc _
  have HS : Hid (szB sz = 0) := by show _ = _; unfold szB; omega
  have e0 : (0 > sz) := by omega
  have e1 : sz < 0 := h0
  clear h0
  go_enter Try.func17, Try.ntmps17
  go_wp2_with (first
    | (go_at_call 31
       rw [← hw1]
       refine Calls.mono (newM_any cl op k0 k1 k2 k3 rd a0 n0 cap0 gs 89 (.agg #[.int .i64 0]) w1 HZ.out hn (HB.out.no HK1.out)) ?_
       rintro e w3 ⟨m, a, cap, rfl, hM, hf, hk3⟩
       have HM3 : Hid (Mach w3 m a cap ⟨cl, op, k0, k1, k2, k3, uq gs, rd⟩ 105 (.agg #[.iface 89 (.agg #[.int .i64 (szB sz)])])) := by rw [HS.out]; exact hM
       have HF3 : Hid (∀ k, MB m a k → w1.heap.size ≤ k) := hf
       have HK3 : Hid (Kept No w w3) := HK1.out.then hk3
       clear hM hf hk3 hw1))
  go_ret
  exact ⟨m, a, cap, rfl, HM3.out, fun k h => Nat.le_trans HK1.out.size (HF3.out k h), HK3.out⟩
set_option maxRecDepth 100000 in
set_option maxHeartbeats 2000000 in
theorem read_hi (cl op k0 k1 k2 k3 rd sz : Int) (a0 : Option Addr) (n0 cap0 : Nat) (gs : List Int) (w : World) (hz : gs.length = n0) (hn : n0 ≤ 17592186043904) (hb : Nums .i64 w a0 gs) (h0 : 4096 < sz) :
    Calls Try.prog 17 #[.int .i64 cl, .int .i64 op, .agg #[.int .i64 k0, .int .i64 k1, .int .i64 k2, .int .i64 k3], .slice a0 n0 cap0, .int .i64 rd, .int .i64 sz] w (ReadOut w ⟨cl, op, k0, k1, k2, k3, uq gs, rd⟩ sz) := by
  have HB : Hid (Nums .i64 w a0 gs) := hb
  have HZ : Hid (gs.length = n0) := hz
  clear hb hz
  obtain ⟨w1, hw1⟩ : ∃ w1, w1 = w.alloc (.cells #[.int .i64 k0, .int .i64 k1, .int .i64 k2, .int .i64 k3] 23) := ⟨_, rfl⟩
  have HK1 : Hid (Kept No w w1) := by rw [hw1]; exact (Kept.refl No w).alloc _
  have HS : Hid (szB sz = 4096) := by show _ = _; unfold szB; omega
  have e0 : ¬ (0 > sz) := by omega
  have e1 : ¬ (sz < 0) := by omega
  have e2 : 4096 < sz := h0
  clear h0
  go_enter Try.func17, Try.ntmps17
  go_wp2_with (first
    | (go_at_call 31
       rw [← hw1]
       refine Calls.mono (newM_any cl op k0 k1 k2 k3 rd a0 n0 cap0 gs 89 (.agg #[.int .i64 4096]) w1 HZ.out hn (HB.out.no HK1.out)) ?_
       rintro e w3 ⟨m, a, cap, rfl, hM, hf, hk3⟩
       have HM3 : Hid (Mach w3 m a cap ⟨cl, op, k0, k1, k2, k3, uq gs, rd⟩ 105 (.agg #[.iface 89 (.agg #[.int .i64 (szB sz)])])) := by rw [HS.out]; exact hM
       have HF3 : Hid (∀ k, MB m a k → w1.heap.size ≤ k) := hf
       have HK3 : Hid (Kept No w w3) := HK1.out.then hk3
       clear hM hf hk3 hw1))
  go_ret
  exact ⟨m, a, cap, rfl, HM3.out, fun k h => Nat.le_trans HK1.out.size (HF3.out k h), HK3.out⟩
theorem readX (cl op k0 k1 k2 k3 rd sz : Int) (a0 : Option Addr) (n0 cap0 : Nat) (gs : List Int) (w : World) (hz : gs.length = n0) (hn : n0 ≤ 17592186043904) (hb : Nums .i64 w a0 gs) :
    Calls Try.prog 17 #[.int .i64 cl, .int .i64 op, .agg #[.int .i64 k0, .int .i64 k1, .int .i64 k2, .int .i64 k3], .slice a0 n0 cap0, .int .i64 rd, .int .i64 sz] w (ReadOut w ⟨cl, op, k0, k1, k2, k3, uq gs, rd⟩ sz) := by
  rcases Int.lt_or_le sz 0 with h | h
  · exact read_lo cl op k0 k1 k2 k3 rd sz a0 n0 cap0 gs w hz hn hb h
  · rcases Int.lt_or_le 4096 sz with h' | h'
    · exact read_hi cl op k0 k1 k2 k3 rd sz a0 n0 cap0 gs w hz hn hb h'
    · exact read_any cl op k0 k1 k2 k3 rd sz a0 n0 cap0 gs w hz hn hb h h'
theorem szB_R (sz : Int) : szB sz = Md.szR sz := by
  unfold szB Md.szR
  split
  · omega
  · split <;> omega

end Go.Proofs.Ythnecaejhnojfaa
namespace Go.Proofs.Ythnecaejhnojfaa
open Go.RowKit
set_option linter.unusedVariables false
set_option linter.unusedSimpArgs false

theorem bi_congr {lt lt' : Nat → Nat → Bool} : ∀ k, (∀ i j, i ≤ k → j ≤ k → lt i j = lt' i j) → bi lt k = bi lt' k
  | 0, _ => rfl
  | k + 1, h => by
    unfold bi
    have e := bi_congr k (fun i j hi hj => h i j (by omega) (by omega))
    rw [e, h (bi lt' k) (k + 1) (by have := bi_le lt' k; omega) (Nat.le_refl _)]
/-- Two lists, place by place. -/
def Two2 {α β : Type} (R : α → β → Prop) (l : List α) (k : List β) : Prop := l.length = k.length ∧ ∀ (i : Nat) a b, l[i]? = some a → k[i]? = some b → R a b
theorem Two2.nil {α β : Type} (R : α → β → Prop) : Two2 R [] [] := ⟨rfl, fun i a b h => by simp at h⟩
theorem Two2.cons {α β : Type} {R : α → β → Prop} {a : α} {b : β} {l : List α} {k : List β} (h : R a b) (t : Two2 R l k) : Two2 R (a :: l) (b :: k) :=
  ⟨by simp [t.1], fun i x y hx hy => by
    cases i with
    | zero => simp at hx hy; subst hx hy; exact h
    | succ i => simp at hx hy; exact t.2 i x y hx hy⟩
theorem got2 {α β : Type} {R : α → β → Prop} (f : Int → Option α) (g : Int → Option β) : ∀ (l : List Int), (∀ n ∈ l, f n = none → g n = none) → (∀ n ∈ l, ∀ a, f n = some a → ∃ b, g n = some b ∧ R a b) →
    Two2 R ((l.filterMap (fun n => (f n).map (fun v => (n, v)))).map Prod.snd) ((l.filterMap (fun n => (g n).map (fun v => (n, v)))).map Prod.snd)
  | [], _, _ => Two2.nil R
  | n :: l, h1, h2 => by
    have ih := got2 f g l (fun m hm => h1 m (List.mem_cons_of_mem _ hm)) (fun m hm => h2 m (List.mem_cons_of_mem _ hm))
    cases hf : f n with
    | none =>
      have hg := h1 n (by simp) hf
      simpa [List.filterMap_cons, hf, hg] using ih
    | some a =>
      obtain ⟨b, hg, hr⟩ := h2 n (by simp) a hf
      simpa [List.filterMap_cons, hf, hg] using Two2.cons hr ih
theorem Two2.any {α β : Type} {R : α → β → Prop} {p : α → Bool} {q : β → Bool} (h : ∀ a b, R a b → p a = q b) : ∀ {l : List α} {k : List β}, Two2 R l k → l.any p = k.any q
  | [], [], _ => rfl
  | [], b :: k, t => by have := t.1; simp at this
  | a :: l, [], t => by have := t.1; simp at this
  | a :: l, b :: k, t => by
    have h0 := h a b (t.2 0 a b rfl rfl)
    have ih := Two2.any h (l := l) (k := k) ⟨by have := t.1; simpa using this, fun i x y hx hy => t.2 (i + 1) x y (by simpa using hx) (by simpa using hy)⟩
    simp [h0, ih]
section
variable {α β : Type} {X : TS α} {Y : TS β}
theorem miss2 (hg : Y.g = X.g) (h : ∀ n, (X.v n).isNone = (Y.v n).isNone) : missL Y = missL X := by
  unfold missL
  rw [hg]
  congr 1
  funext n
  rw [h]
theorem cnt2 (hg : Y.g = X.g) (h : ∀ n, (X.v n).isNone = (Y.v n).isNone) : cnt Y = cnt X := by
  unfold cnt
  rw [hg]
  congr 1
  funext n
  have := h n
  cases h1 : X.v n <;> cases h2 : Y.v n <;> simp [h1, h2] at this ⊢
theorem may2 (hg : Y.g = X.g) (hn : Y.need = X.need) (h : ∀ n, (X.v n).isNone = (Y.v n).isNone) (s : Int) : mayB Y s = mayB X s := by
  unfold mayB enB
  rw [hg, hn, cnt2 hg h, h s]
theorem takeB2 (hg : Y.g = X.g) (hn : Y.need = X.need) (h : ∀ n, (X.v n).isNone = (Y.v n).isNone) (s : Int) : takeB Y s = takeB X s := by
  unfold takeB
  rw [may2 hg hn h, hn, cnt2 hg h]
end
theorem got_mem {α : Type} {Y : TS α} {p : α} (h : p ∈ (gotL Y).map Prod.snd) : ∃ n, Y.v n = some p := by
  obtain ⟨⟨n, q⟩, hq, rfl⟩ := List.mem_map.1 h
  unfold gotL at hq
  obtain ⟨m, _, hm⟩ := List.mem_filterMap.1 hq
  cases hv : Y.v m with
  | none => rw [hv] at hm; cases hm
  | some v => rw [hv] at hm; simp at hm; exact ⟨m, by rw [hv, hm.2]⟩
theorem takeS_v {α : Type} (Y : TS α) (s : Int) (b : α) (n : Int) : (takeS Y s b).v n = if mayB Y s = true ∧ n = s then some b else Y.v n := by
  unfold takeS
  by_cases h : mayB Y s = true
  · rw [if_pos h]
    show (if n = s then some b else Y.v n) = _
    by_cases e : n = s
    · rw [if_pos e, if_pos ⟨h, e⟩]
    · rw [if_neg e, if_neg (fun x => e x.2)]
  · rw [if_neg h, if_neg (fun x => h x.1)]

end Go.Proofs.Ythnecaejhnojfaa
