import Derived.Test.YtgiokkcdgoloaaaTc
import Derived.Test.YtgiokkcdgoloaaaTa
namespace Go.Proofs.Ytgiokkcdgoloaaa.Md
open Go.RowKit
set_option linter.unusedVariables false
set_option linter.unusedSimpArgs false
theorem U140 : Try.prog.underlying 140 = some ((Try.prog.underlying 140).getD .bool) := by kernel_rfl
theorem V140 : (match (Try.prog.underlying 140).getD .bool with | .struct _ | .array _ _ => true | _ => false) = false := by kernel_rfl
theorem beginS (m : Value) (w : World) : Calls Try.prog 91 #[.agg #[], m] w (fun e w' => e = .returned (.slice none 0 0) ∧ Kept No w w') := by
 go_enter Try.func91, Try.ntmps91
 go_wp2
 go_ret
 exact ⟨rfl, (Kept.refl No w).alloc _⟩
theorem meth_done0 (a1 : Value) (w : World) : (method 311 138 (.agg #[a1]) "cairn/register.done").run Try.prog w = .ok (92, .agg #[]) w := by kernel_rfl
theorem done_0 (m : Nat) (a : Option Addr) (cap : Nat) (x : MS) (a1 : Value) (w : World) (hM : Mach w m a cap x 138 (.agg #[a1])) : Calls Try.prog 83 #[.pointer (some ⟨m, 0, none⟩)] w (DoneOut w 0 0 0 [] false) :=
 done_gen92 m a cap x 138 _ _ 0 0 0 [] false w hM (fun w => meth_done0 a1 w) (fun w1 _ => done0_any w1)
set_option maxRecDepth 100000 in
set_option maxHeartbeats 4000000 in
theorem mBegin_A (m : Nat) (a : Option Addr) (cap : Nat) (x : MS) (a1 a2 : Value) (w : World) (hM : Mach w m a cap x 182 (.agg #[a1, a2])) : Calls Try.prog 82 #[.pointer (some ⟨m, 0, none⟩)] w (fun e w' => e = .returned (.slice none 0 0) ∧ Kept No w w') := by
 refine hideC fun C HC => ?_
 have HM : Hid (Mach w m a cap x 182 (.agg #[a1, a2])) := hM
 clear hM
 have HF : Hid (Fq No w w []) := Fq.start _ _
 go_enter Try.func82, Try.ntmps82
 go_upto_region 0 with fail
 refine WL.start <| uK (.slice none 0 0) <| WL.nil <| ?_
 try simp only [pS]
 go_upto_region 1 with fail
 refine WL.start <| uK (pV m 0) <| uK (pV m 0) <| uK (pV m 9) <| uL 140 ⟨m, 9, none⟩ (.iface 182 (.agg #[a1, a2])) (load_one ((HM.out.box.kept HF.out.kept (fun e => e)).cell 9 |>.trans (by kernel_rfl)) U140 V140) <| uK (pV m 0) <| ?_
 try simp only [pS]
 refine uC 91 #[.agg #[], pV m 0] (beginS _ w) ?_
 rintro e wk1 ⟨rfl, hk⟩
 have HF : Hid _ := HF.out.no hk
 clear hk
 refine ⟨.slice none 0 0, rfl, ?_⟩
 try simp only [pS]
 refine uK (.slice none 0 0) <| WL.nil <| ?_
 try simp only [pS]
 go_wp2
 rw [HC.out]
 exact ⟨rfl, HF.out.kept⟩
set_option maxRecDepth 100000 in
set_option maxHeartbeats 4000000 in
theorem mBegin_L (m : Nat) (a : Option Addr) (cap : Nat) (x : MS) (n c : Int) (pa : Option Addr) (l k : Nat) (err sn sc : Int) (da : Option Addr) (dl dc ub : Nat) (w : World) (hM : Mach w m a cap x 195 (layV n c pa l k err sn sc da dl dc ub)) : Calls Try.prog 82 #[.pointer (some ⟨m, 0, none⟩)] w (fun e w' => e = .returned (.slice none 0 0) ∧ Kept No w w') := by
 refine hideC fun C HC => ?_
 have HM : Hid (Mach w m a cap x 195 (layV n c pa l k err sn sc da dl dc ub)) := hM
 clear hM
 have HF : Hid (Fq No w w []) := Fq.start _ _
 go_enter Try.func82, Try.ntmps82
 go_upto_region 0 with fail
 refine WL.start <| uK (.slice none 0 0) <| WL.nil <| ?_
 try simp only [pS]
 go_upto_region 1 with fail
 refine WL.start <| uK (pV m 0) <| uK (pV m 0) <| uK (pV m 9) <| uL 140 ⟨m, 9, none⟩ (.iface 195 (layV n c pa l k err sn sc da dl dc ub)) (load_one ((HM.out.box.kept HF.out.kept (fun e => e)).cell 9 |>.trans (by kernel_rfl)) U140 V140) <| uK (pV m 0) <| ?_
 try simp only [pS]
 refine uC 91 #[.agg #[], pV m 0] (beginS _ w) ?_
 rintro e wk1 ⟨rfl, hk⟩
 have HF : Hid _ := HF.out.no hk
 clear hk
 refine ⟨.slice none 0 0, rfl, ?_⟩
 try simp only [pS]
 refine uK (.slice none 0 0) <| WL.nil <| ?_
 try simp only [pS]
 go_wp2
 rw [HC.out]
 exact ⟨rfl, HF.out.kept⟩
set_option maxRecDepth 100000 in
set_option maxHeartbeats 4000000 in
theorem mBegin_E (m : Nat) (a : Option Addr) (cap : Nat) (x : MS) (err sn sc : Int) (da : Option Addr) (dl dc : Nat) (w : World) (hM : Mach w m a cap x 177 (endV err sn sc da dl dc)) : Calls Try.prog 82 #[.pointer (some ⟨m, 0, none⟩)] w (fun e w' => e = .returned (.slice none 0 0) ∧ Kept No w w') := by
 refine hideC fun C HC => ?_
 have HM : Hid (Mach w m a cap x 177 (endV err sn sc da dl dc)) := hM
 clear hM
 have HF : Hid (Fq No w w []) := Fq.start _ _
 go_enter Try.func82, Try.ntmps82
 go_upto_region 0 with fail
 refine WL.start <| uK (.slice none 0 0) <| WL.nil <| ?_
 try simp only [pS]
 go_upto_region 1 with fail
 refine WL.start <| uK (pV m 0) <| uK (pV m 0) <| uK (pV m 9) <| uL 140 ⟨m, 9, none⟩ (.iface 177 (endV err sn sc da dl dc)) (load_one ((HM.out.box.kept HF.out.kept (fun e => e)).cell 9 |>.trans (by kernel_rfl)) U140 V140) <| uK (pV m 0) <| ?_
 try simp only [pS]
 refine uC 91 #[.agg #[], pV m 0] (beginS _ w) ?_
 rintro e wk1 ⟨rfl, hk⟩
 have HF : Hid _ := HF.out.no hk
 clear hk
 refine ⟨.slice none 0 0, rfl, ?_⟩
 try simp only [pS]
 refine uK (.slice none 0 0) <| WL.nil <| ?_
 try simp only [pS]
 go_wp2
 rw [HC.out]
 exact ⟨rfl, HF.out.kept⟩
set_option maxRecDepth 100000 in
set_option maxHeartbeats 4000000 in
theorem mTake_0 (m : Nat) (a : Option Addr) (cap : Nat) (x : MS) (a1 : Value) (d : Mg) (w : World) (hM : Mach w m a cap x 138 (.agg #[a1])) : Calls Try.prog 85 #[.pointer (some ⟨m, 0, none⟩), .agg (Mg.cells d)] w (fun e w' => e = .returned (.slice none 0 0) ∧ Kept No w w') := by
 refine hideC fun C HC => ?_
 have HM : Hid (Mach w m a cap x 138 (.agg #[a1])) := hM
 clear hM
 have HF : Hid (Fq No w w []) := Fq.start _ _
 go_enter Try.func85, Try.ntmps85
 go_upto_region 0 with fail
 refine WL.start ?_
 refine uR (pV w.heap.size 0) (w.alloc (.cells (Mg.cells d) 52)) (exec_box 52 _ rfl (Mg.cells d) (by kernel_rfl)) ?_
 try simp only [pS]
 have HF : Hid _ := HF.out.alloc 52 (Mg.cells d)
 generalize w.alloc (.cells (Mg.cells d) 52) = wk2 at HF ⊢
 generalize w.heap.size = gk1 at HF ⊢
 refine uK (.slice none 0 0) <| WL.nil <| ?_
 try simp only [pS]
 go_upto_region 1 with fail
 refine wp_region_held_drew (S := fun w' => Fq No w w' [(gk1, 52, Mg.cells d)]) rfl (HF.out.drew) (fun hH => ?_)
 have HF : Hid _ := HF.out.drew
 generalize wk2.drew = wk3 at HF hH ⊢
 refine xV 0 5 (pV m 0) hH <| xV 1 6 (pV m 0) hH <| xV 2 7 (pV m 9) hH <| xL 3 8 140 ⟨m, 9, none⟩ (.iface 138 (.agg #[a1])) (fun _ hw => load_one ((HM.out.box.kept hw.kept (fun e => e)).cell 9 |>.trans (by kernel_rfl)) U140 V140) hH <| xV 4 9 (pV m 0) hH <| xL 5 10 52 ⟨gk1, 0, none⟩ (.agg (Mg.cells d)) (fun _ hw => run_load_part (cs := Mg.cs d) (sub := Mg.cs d) (hw.box 0 _ _ _ rfl) (Part.all _) U52 rfl S52) hH <| ?_
 try simp only [pS]
 refine xC 6 11 93 #[.agg #[], pV m 0, .agg (Mg.cells d)] (take0_any _ (mdOf d) wk3) ?_
 rintro e wk4 ⟨rfl, hk⟩
 have hH2 : Fq No w wk4 [(gk1, 52, Mg.cells d)] := hH.no hk
 have HF : Hid _ := HF.out.no hk
 clear hk
 refine ⟨.slice none 0 0, rfl, hH2, fun hH => ?_⟩
 clear hH2
 try simp only [pS]
 refine xV 7 4 (.slice none 0 0) hH ?_
 try simp only [pS]
 refine wpAnyH_done (by kernel_rfl) ?_ _
 try simp only [pS]
 clear hH
 go_wp2
 rw [HC.out]
 exact ⟨rfl, HF.out.kept⟩
set_option maxRecDepth 100000 in
set_option maxHeartbeats 4000000 in
theorem mTake_E (m : Nat) (a : Option Addr) (cap : Nat) (x : MS) (err sn sc : Int) (da : Option Addr) (dl dc : Nat) (d : Mg) (w : World) (hM : Mach w m a cap x 177 (endV err sn sc da dl dc)) : Calls Try.prog 85 #[.pointer (some ⟨m, 0, none⟩), .agg (Mg.cells d)] w (fun e w' => e = .returned (.slice none 0 0) ∧ Kept No w w') := by
 refine hideC fun C HC => ?_
 have HM : Hid (Mach w m a cap x 177 (endV err sn sc da dl dc)) := hM
 clear hM
 have HF : Hid (Fq No w w []) := Fq.start _ _
 go_enter Try.func85, Try.ntmps85
 go_upto_region 0 with fail
 refine WL.start ?_
 refine uR (pV w.heap.size 0) (w.alloc (.cells (Mg.cells d) 52)) (exec_box 52 _ rfl (Mg.cells d) (by kernel_rfl)) ?_
 try simp only [pS]
 have HF : Hid _ := HF.out.alloc 52 (Mg.cells d)
 generalize w.alloc (.cells (Mg.cells d) 52) = wk2 at HF ⊢
 generalize w.heap.size = gk1 at HF ⊢
 refine uK (.slice none 0 0) <| WL.nil <| ?_
 try simp only [pS]
 go_upto_region 1 with fail
 refine wp_region_held_drew (S := fun w' => Fq No w w' [(gk1, 52, Mg.cells d)]) rfl (HF.out.drew) (fun hH => ?_)
 have HF : Hid _ := HF.out.drew
 generalize wk2.drew = wk3 at HF hH ⊢
 refine xV 0 5 (pV m 0) hH <| xV 1 6 (pV m 0) hH <| xV 2 7 (pV m 9) hH <| xL 3 8 140 ⟨m, 9, none⟩ (.iface 177 (endV err sn sc da dl dc)) (fun _ hw => load_one ((HM.out.box.kept hw.kept (fun e => e)).cell 9 |>.trans (by kernel_rfl)) U140 V140) hH <| xV 4 9 (pV m 0) hH <| xL 5 10 52 ⟨gk1, 0, none⟩ (.agg (Mg.cells d)) (fun _ hw => run_load_part (cs := Mg.cs d) (sub := Mg.cs d) (hw.box 0 _ _ _ rfl) (Part.all _) U52 rfl S52) hH <| ?_
 try simp only [pS]
 refine xC 6 11 93 #[.agg #[], pV m 0, .agg (Mg.cells d)] (take0_any _ (mdOf d) wk3) ?_
 rintro e wk4 ⟨rfl, hk⟩
 have hH2 : Fq No w wk4 [(gk1, 52, Mg.cells d)] := hH.no hk
 have HF : Hid _ := HF.out.no hk
 clear hk
 refine ⟨.slice none 0 0, rfl, hH2, fun hH => ?_⟩
 clear hH2
 try simp only [pS]
 refine xV 7 4 (.slice none 0 0) hH ?_
 try simp only [pS]
 refine wpAnyH_done (by kernel_rfl) ?_ _
 try simp only [pS]
 clear hH
 go_wp2
 rw [HC.out]
 exact ⟨rfl, HF.out.kept⟩
set_option maxRecDepth 100000 in
set_option maxHeartbeats 4000000 in
theorem mTick_0 (m : Nat) (a : Option Addr) (cap : Nat) (x : MS) (a1 : Value) (w : World) (hM : Mach w m a cap x 138 (.agg #[a1])) : Calls Try.prog 86 #[.pointer (some ⟨m, 0, none⟩)] w (fun e w' => e = .returned (.slice none 0 0) ∧ Kept No w w') := by
 refine hideC fun C HC => ?_
 have HM : Hid (Mach w m a cap x 138 (.agg #[a1])) := hM
 clear hM
 have HF : Hid (Fq No w w []) := Fq.start _ _
 go_enter Try.func86, Try.ntmps86
 go_upto_region 0 with fail
 refine WL.start <| uK (.slice none 0 0) <| WL.nil <| ?_
 try simp only [pS]
 go_upto_region 1 with fail
 refine WL.start <| uK (pV m 0) <| uK (pV m 0) <| uK (pV m 9) <| uL 140 ⟨m, 9, none⟩ (.iface 138 (.agg #[a1])) (load_one ((HM.out.box.kept HF.out.kept (fun e => e)).cell 9 |>.trans (by kernel_rfl)) U140 V140) <| uK (pV m 0) <| ?_
 try simp only [pS]
 refine uC 94 #[.agg #[], pV m 0] (tick0_any _ w) ?_
 rintro e wk1 ⟨rfl, hk⟩
 have HF : Hid _ := HF.out.no hk
 clear hk
 refine ⟨.slice none 0 0, rfl, ?_⟩
 try simp only [pS]
 refine uK (.slice none 0 0) <| WL.nil <| ?_
 try simp only [pS]
 go_wp2
 rw [HC.out]
 exact ⟨rfl, HF.out.kept⟩
set_option maxRecDepth 100000 in
set_option maxHeartbeats 4000000 in
theorem begin95w (m : Nat) (a : Option Addr) (cap : Nat) (x : MS) (ai : TypeId) (av : Value) (w : World) (hM : Mach w m a cap x 138 (.agg #[.iface ai av])) (hr : ¬ (1 ≤ x.rd ∧ x.rd ≤ 1099511627776)) : Calls Try.prog 95 #[.agg #[.iface ai av], .pointer (some ⟨m, 0, none⟩)] w (fun e w' => e = .returned (.slice none 0 0) ∧ Mach w' m a cap x 177 (endV 4 0 0 none 0 0) ∧ Kept (Only m) w w') := by
 refine hideC fun C HC => ?_
 have HM : Hid (Mach w m a cap x 138 (.agg #[.iface ai av])) := hM
 clear hM
 have HF : Hid (Fq No w w []) := Fq.start _ _
 go_enter Try.func95, Try.ntmps95
 go_upto_region 0 with fail
 refine WL.start ?_
 refine uR (pV w.heap.size 0) (w.alloc (.cells (#[.iface ai av]) 138)) (exec_box 138 _ rfl (#[.iface ai av]) (by kernel_rfl)) ?_
 try simp only [pS]
 have HF : Hid _ := HF.out.alloc 138 (#[.iface ai av])
 generalize w.alloc (.cells (#[.iface ai av]) 138) = wk2 at HF ⊢
 generalize w.heap.size = gk1 at HF ⊢
 refine uK (.slice none 0 0) <| WL.nil <| ?_
 try simp only [pS]
 go_upto_region 1 with fail
 refine WL.start <| uK (pV m 0) <| uK (pV m 0) <| uK (pV m 8) <| uL 3 ⟨m, 8, none⟩ (.int .i64 x.rd) (load_one ((HM.out.box.kept HF.out.kept (fun e => e)).cell 8 |>.trans (by kernel_rfl)) U3 rfl) <| ?_
 try simp only [pS]
 cases q1 : (decide (x.rd < 1))
 ·skip
  refine uB .lss 3 (.int .i64 x.rd) (.int .i64 1) (.bool false) (by rw [b_lss, q1]; try rfl) <| uK (.bool false) <| uK (pV m 0) <| uK (pV m 0) <| uK (pV m 8) <| uL 3 ⟨m, 8, none⟩ (.int .i64 x.rd) (load_one ((HM.out.box.kept HF.out.kept (fun e => e)).cell 8 |>.trans (by kernel_rfl)) U3 rfl) <| ?_
  try simp only [pS]
  cases q2 : (decide (1099511627776 < x.rd))
  · exact absurd ⟨by have := of_decide_eq_false q1; omega, by have := of_decide_eq_false q2; omega⟩ hr
  ·skip
   refine uB .gtr 3 (.int .i64 x.rd) (.int .i64 1099511627776) (.bool true) (by rw [b_gtr, q2]; try rfl) <| uK (.bool true) <| WL.nil <| ?_
   try simp only [pS]
   go_upto_region 2 with fail
   refine WL.start <| uK (pV m 0) <| ?_
   try simp only [pS]
   refine uC 97 #[] (worn97 wk2) ?_
   rintro e wk3 ⟨rfl, hk⟩
   have HF : Hid _ := HF.out.no hk
   clear hk
   refine ⟨.agg (Rz.cells { rzZ with er := 4 }), rfl, ?_⟩
   try simp only [pS]
   refine uK (.iface 177 (.agg (Rz.cells { rzZ with er := 4 }))) ?_
   try simp only [pS]
   refine uC 96 #[pV m 0, .iface 177 (.agg (Rz.cells { rzZ with er := 4 }))] (enterE_any m a cap x 138 (.agg #[.iface ai av]) 4 0 0 none 0 0 wk3 (HM.out.no HF.out.kept)) ?_
   rintro e wk4 ⟨rfl, hM2, hk⟩
   have HMf : Hid (Mach wk4 m a cap x 177 (endV 4 0 0 none 0 0)) := hM2
   have HKf : Hid (Kept (Only m) w wk4) := (HF.out.kept.of_no : Kept (Only m) _ _).then hk
   clear hk hM2
   refine ⟨.slice none 0 0, rfl, ?_⟩
   try simp only [pS]
   refine uK (.slice none 0 0) <| WL.nil <| ?_
   try simp only [pS]
   go_wp2
   rw [HC.out]
   exact ⟨rfl, HMf.out, HKf.out⟩
 ·skip
  refine uB .lss 3 (.int .i64 x.rd) (.int .i64 1) (.bool true) (by rw [b_lss, q1]; try rfl) <| uK (.bool true) <| uZ <| uZ <| uZ <| uZ <| uZ <| uK (.bool true) <| WL.nil <| ?_
  try simp only [pS]
  go_upto_region 2 with fail
  refine WL.start <| uK (pV m 0) <| ?_
  try simp only [pS]
  refine uC 97 #[] (worn97 wk2) ?_
  rintro e wk5 ⟨rfl, hk⟩
  have HF : Hid _ := HF.out.no hk
  clear hk
  refine ⟨.agg (Rz.cells { rzZ with er := 4 }), rfl, ?_⟩
  try simp only [pS]
  refine uK (.iface 177 (.agg (Rz.cells { rzZ with er := 4 }))) ?_
  try simp only [pS]
  refine uC 96 #[pV m 0, .iface 177 (.agg (Rz.cells { rzZ with er := 4 }))] (enterE_any m a cap x 138 (.agg #[.iface ai av]) 4 0 0 none 0 0 wk5 (HM.out.no HF.out.kept)) ?_
  rintro e wk6 ⟨rfl, hM2, hk⟩
  have HMf : Hid (Mach wk6 m a cap x 177 (endV 4 0 0 none 0 0)) := hM2
  have HKf : Hid (Kept (Only m) w wk6) := (HF.out.kept.of_no : Kept (Only m) _ _).then hk
  clear hk hM2
  refine ⟨.slice none 0 0, rfl, ?_⟩
  try simp only [pS]
  refine uK (.slice none 0 0) <| WL.nil <| ?_
  try simp only [pS]
  go_wp2
  rw [HC.out]
  exact ⟨rfl, HMf.out, HKf.out⟩
set_option maxRecDepth 100000 in
set_option maxHeartbeats 4000000 in
theorem mBegin_w (m : Nat) (a : Option Addr) (cap : Nat) (x : MS) (ai : TypeId) (av : Value) (w : World) (hM : Mach w m a cap x 138 (.agg #[.iface ai av])) (hr : ¬ (1 ≤ x.rd ∧ x.rd ≤ 1099511627776)) : Calls Try.prog 82 #[.pointer (some ⟨m, 0, none⟩)] w (fun e w' => e = .returned (.slice none 0 0) ∧ Mach w' m a cap x 177 (endV 4 0 0 none 0 0) ∧ Kept (Only m) w w') := by
 refine hideC fun C HC => ?_
 have HM : Hid (Mach w m a cap x 138 (.agg #[.iface ai av])) := hM
 clear hM
 have HF : Hid (Fq No w w []) := Fq.start _ _
 go_enter Try.func82, Try.ntmps82
 go_upto_region 0 with fail
 refine WL.start <| uK (.slice none 0 0) <| WL.nil <| ?_
 try simp only [pS]
 go_upto_region 1 with fail
 refine WL.start <| uK (pV m 0) <| uK (pV m 0) <| uK (pV m 9) <| uL 140 ⟨m, 9, none⟩ (.iface 138 (.agg #[.iface ai av])) (load_one ((HM.out.box.kept HF.out.kept (fun e => e)).cell 9 |>.trans (by kernel_rfl)) U140 V140) <| uK (pV m 0) <| ?_
 try simp only [pS]
 refine uC 95 #[.agg #[.iface ai av], pV m 0] (begin95w m a cap x ai av w (HM.out.no HF.out.kept) hr) ?_
 rintro e wk1 ⟨rfl, hM2, hk⟩
 have HMf : Hid (Mach wk1 m a cap x 177 (endV 4 0 0 none 0 0)) := hM2
 have HKf : Hid (Kept (Only m) w wk1) := (HF.out.kept.of_no : Kept (Only m) _ _).then hk
 clear hk hM2
 refine ⟨.slice none 0 0, rfl, ?_⟩
 try simp only [pS]
 refine uK (.slice none 0 0) <| WL.nil <| ?_
 try simp only [pS]
 go_wp2
 rw [HC.out]
 exact ⟨rfl, HMf.out, HKf.out⟩
end Go.Proofs.Ytgiokkcdgoloaaa.Md
namespace Go.Proofs.Ytgiokkcdgoloaaa
open Go.RowKit
set_option linter.unusedVariables false
set_option linter.unusedSimpArgs false
set_option maxRecDepth 100000 in
set_option maxHeartbeats 2000000 in
theorem read_lo (cl op k0 k1 k2 k3 rd sz : Int) (a0 : Option Addr) (n0 cap0 : Nat) (gs : List Int) (w : World) (hz : gs.length = n0) (hn : n0 ≤ 17592186043904) (hb : Nums .i64 w a0 gs) (h0 : sz < 0) :
    Calls Try.prog 24 #[.int .i64 cl, .int .i64 op, .agg #[.int .i64 k0, .int .i64 k1, .int .i64 k2, .int .i64 k3], .slice a0 n0 cap0, .int .i64 rd, .int .i64 sz] w (ReadOut w ⟨cl, op, k0, k1, k2, k3, uq gs, rd⟩ sz) := by
  have HB : Hid (Nums .i64 w a0 gs) := hb
  have HZ : Hid (gs.length = n0) := hz
  clear hb hz
  obtain ⟨w1, hw1⟩ : ∃ w1, w1 = w.alloc (.cells #[.int .i64 k0, .int .i64 k1, .int .i64 k2, .int .i64 k3] 23) := ⟨_, rfl⟩
  have HK1 : Hid (Kept No w w1) := by rw [hw1]; exact (Kept.refl No w).alloc _
  have HS : Hid (szB sz = 0) := by show _ = _; unfold szB; omega
  have e0 : (0 > sz) := by omega
  have e1 : sz < 0 := h0
  clear h0
  go_enter Try.func24, Try.ntmps24
  go_wp2_with (first
    | (go_at_call 48
       rw [← hw1]
       refine Calls.mono (newM_any cl op k0 k1 k2 k3 rd a0 n0 cap0 gs 120 (.agg #[.int .i64 0]) w1 HZ.out hn (HB.out.no HK1.out)) ?_
       rintro e w3 ⟨m, a, cap, rfl, hM, hf, hk3⟩
       have HM3 : Hid (Mach w3 m a cap ⟨cl, op, k0, k1, k2, k3, uq gs, rd⟩ 138 (.agg #[.iface 120 (.agg #[.int .i64 (szB sz)])])) := by rw [HS.out]; exact hM
       have HF3 : Hid (∀ k, MB m a k → w1.heap.size ≤ k) := hf
       have HK3 : Hid (Kept No w w3) := HK1.out.then hk3
       clear hM hf hk3 hw1))
  go_ret
  exact ⟨m, a, cap, rfl, HM3.out, fun k h => Nat.le_trans HK1.out.size (HF3.out k h), HK3.out⟩
set_option maxRecDepth 100000 in
set_option maxHeartbeats 2000000 in
theorem read_hi (cl op k0 k1 k2 k3 rd sz : Int) (a0 : Option Addr) (n0 cap0 : Nat) (gs : List Int) (w : World) (hz : gs.length = n0) (hn : n0 ≤ 17592186043904) (hb : Nums .i64 w a0 gs) (h0 : 4096 < sz) :
    Calls Try.prog 24 #[.int .i64 cl, .int .i64 op, .agg #[.int .i64 k0, .int .i64 k1, .int .i64 k2, .int .i64 k3], .slice a0 n0 cap0, .int .i64 rd, .int .i64 sz] w (ReadOut w ⟨cl, op, k0, k1, k2, k3, uq gs, rd⟩ sz) := by
  have HB : Hid (Nums .i64 w a0 gs) := hb
  have HZ : Hid (gs.length = n0) := hz
  clear hb hz
  obtain ⟨w1, hw1⟩ : ∃ w1, w1 = w.alloc (.cells #[.int .i64 k0, .int .i64 k1, .int .i64 k2, .int .i64 k3] 23) := ⟨_, rfl⟩
  have HK1 : Hid (Kept No w w1) := by rw [hw1]; exact (Kept.refl No w).alloc _
  have HS : Hid (szB sz = 4096) := by show _ = _; unfold szB; omega
  have e0 : ¬ (0 > sz) := by omega
  have e1 : ¬ (sz < 0) := by omega
  have e2 : 4096 < sz := h0
  clear h0
  go_enter Try.func24, Try.ntmps24
  go_wp2_with (first
    | (go_at_call 48
       rw [← hw1]
       refine Calls.mono (newM_any cl op k0 k1 k2 k3 rd a0 n0 cap0 gs 120 (.agg #[.int .i64 4096]) w1 HZ.out hn (HB.out.no HK1.out)) ?_
       rintro e w3 ⟨m, a, cap, rfl, hM, hf, hk3⟩
       have HM3 : Hid (Mach w3 m a cap ⟨cl, op, k0, k1, k2, k3, uq gs, rd⟩ 138 (.agg #[.iface 120 (.agg #[.int .i64 (szB sz)])])) := by rw [HS.out]; exact hM
       have HF3 : Hid (∀ k, MB m a k → w1.heap.size ≤ k) := hf
       have HK3 : Hid (Kept No w w3) := HK1.out.then hk3
       clear hM hf hk3 hw1))
  go_ret
  exact ⟨m, a, cap, rfl, HM3.out, fun k h => Nat.le_trans HK1.out.size (HF3.out k h), HK3.out⟩
theorem readX (cl op k0 k1 k2 k3 rd sz : Int) (a0 : Option Addr) (n0 cap0 : Nat) (gs : List Int) (w : World) (hz : gs.length = n0) (hn : n0 ≤ 17592186043904) (hb : Nums .i64 w a0 gs) :
    Calls Try.prog 24 #[.int .i64 cl, .int .i64 op, .agg #[.int .i64 k0, .int .i64 k1, .int .i64 k2, .int .i64 k3], .slice a0 n0 cap0, .int .i64 rd, .int .i64 sz] w (ReadOut w ⟨cl, op, k0, k1, k2, k3, uq gs, rd⟩ sz) := by
  rcases Int.lt_or_le sz 0 with h | h
  · exact read_lo cl op k0 k1 k2 k3 rd sz a0 n0 cap0 gs w hz hn hb h
  · rcases Int.lt_or_le 4096 sz with h' | h'
    · exact read_hi cl op k0 k1 k2 k3 rd sz a0 n0 cap0 gs w hz hn hb h'
    · exact read_any cl op k0 k1 k2 k3 rd sz a0 n0 cap0 gs w hz hn hb h h'
theorem szB_R (sz : Int) : szB sz = Md.szR sz := by
  unfold szB Md.szR
  split
  · omega
  · split <;> omega
end Go.Proofs.Ytgiokkcdgoloaaa
namespace Go.Proofs.Ytgiokkcdgoloaaa
open Go.RowKit
set_option linter.unusedVariables false
set_option linter.unusedSimpArgs false
theorem bi_congr {lt lt' : Nat → Nat → Bool} : ∀ k, (∀ i j, i ≤ k → j ≤ k → lt i j = lt' i j) → bi lt k = bi lt' k
  | 0, _ => rfl
  | k + 1, h => by
    unfold bi
    have e := bi_congr k (fun i j hi hj => h i j (by omega) (by omega))
    rw [e, h (bi lt' k) (k + 1) (by have := bi_le lt' k; omega) (Nat.le_refl _)]
def Two2 {α β : Type} (R : α → β → Prop) (l : List α) (k : List β) : Prop := l.length = k.length ∧ ∀ (i : Nat) a b, l[i]? = some a → k[i]? = some b → R a b
theorem Two2.nil {α β : Type} (R : α → β → Prop) : Two2 R [] [] := ⟨rfl, fun i a b h => by simp at h⟩
theorem Two2.cons {α β : Type} {R : α → β → Prop} {a : α} {b : β} {l : List α} {k : List β} (h : R a b) (t : Two2 R l k) : Two2 R (a :: l) (b :: k) :=
  ⟨by simp [t.1], fun i x y hx hy => by
    cases i with
    | zero => simp at hx hy; subst hx hy; exact h
    | succ i => simp at hx hy; exact t.2 i x y hx hy⟩
theorem got2 {α β : Type} {R : α → β → Prop} (f : Int → Option α) (g : Int → Option β) : ∀ (l : List Int), (∀ n ∈ l, f n = none → g n = none) → (∀ n ∈ l, ∀ a, f n = some a → ∃ b, g n = some b ∧ R a b) →
    Two2 R ((l.filterMap (fun n => (f n).map (fun v => (n, v)))).map Prod.snd) ((l.filterMap (fun n => (g n).map (fun v => (n, v)))).map Prod.snd)
  | [], _, _ => Two2.nil R
  | n :: l, h1, h2 => by
    have ih := got2 f g l (fun m hm => h1 m (List.mem_cons_of_mem _ hm)) (fun m hm => h2 m (List.mem_cons_of_mem _ hm))
    cases hf : f n with
    | none =>
      have hg := h1 n (by simp) hf
      simpa [List.filterMap_cons, hf, hg] using ih
    | some a =>
      obtain ⟨b, hg, hr⟩ := h2 n (by simp) a hf
      simpa [List.filterMap_cons, hf, hg] using Two2.cons hr ih
theorem Two2.any {α β : Type} {R : α → β → Prop} {p : α → Bool} {q : β → Bool} (h : ∀ a b, R a b → p a = q b) : ∀ {l : List α} {k : List β}, Two2 R l k → l.any p = k.any q
  | [], [], _ => rfl
  | [], b :: k, t => by have := t.1; simp at this
  | a :: l, [], t => by have := t.1; simp at this
  | a :: l, b :: k, t => by
    have h0 := h a b (t.2 0 a b rfl rfl)
    have ih := Two2.any h (l := l) (k := k) ⟨by have := t.1; simpa using this, fun i x y hx hy => t.2 (i + 1) x y (by simpa using hx) (by simpa using hy)⟩
    simp [h0, ih]
section
variable {α β : Type} {X : TS α} {Y : TS β}
theorem miss2 (hg : Y.g = X.g) (h : ∀ n, (X.v n).isNone = (Y.v n).isNone) : missL Y = missL X := by
  unfold missL
  rw [hg]
  congr 1
  funext n
  rw [h]
theorem cnt2 (hg : Y.g = X.g) (h : ∀ n, (X.v n).isNone = (Y.v n).isNone) : cnt Y = cnt X := by
  unfold cnt
  rw [hg]
  congr 1
  funext n
  have := h n
  cases h1 : X.v n <;> cases h2 : Y.v n <;> simp [h1, h2] at this ⊢
theorem may2 (hg : Y.g = X.g) (hn : Y.need = X.need) (h : ∀ n, (X.v n).isNone = (Y.v n).isNone) (s : Int) : mayB Y s = mayB X s := by
  unfold mayB enB
  rw [hg, hn, cnt2 hg h, h s]
theorem takeB2 (hg : Y.g = X.g) (hn : Y.need = X.need) (h : ∀ n, (X.v n).isNone = (Y.v n).isNone) (s : Int) : takeB Y s = takeB X s := by
  unfold takeB
  rw [may2 hg hn h, hn, cnt2 hg h]
end
theorem got_mem {α : Type} {Y : TS α} {p : α} (h : p ∈ (gotL Y).map Prod.snd) : ∃ n, Y.v n = some p := by
  obtain ⟨⟨n, q⟩, hq, rfl⟩ := List.mem_map.1 h
  unfold gotL at hq
  obtain ⟨m, _, hm⟩ := List.mem_filterMap.1 hq
  cases hv : Y.v m with
  | none => rw [hv] at hm; cases hm
  | some v => rw [hv] at hm; simp at hm; exact ⟨m, by rw [hv, hm.2]⟩
theorem takeS_v {α : Type} (Y : TS α) (s : Int) (b : α) (n : Int) : (takeS Y s b).v n = if mayB Y s = true ∧ n = s then some b else Y.v n := by
  unfold takeS
  by_cases h : mayB Y s = true
  · rw [if_pos h]
    show (if n = s then some b else Y.v n) = _
    by_cases e : n = s
    · rw [if_pos e, if_pos ⟨h, e⟩]
    · rw [if_neg e, if_neg (fun x => e x.2)]
  · rw [if_neg h, if_neg (fun x => h x.1)]
end Go.Proofs.Ytgiokkcdgoloaaa
namespace Go.Proofs.Ytgiokkcdgoloaaa.Md
open Go.RowKit
set_option linter.unusedVariables false
set_option linter.unusedSimpArgs false
structure Bp where
  st : Sp
  z : List Int
inductive Aim
  | wr (z : List Int)
  | rd (n : Nat)
inductive Rp
  | fresh
  | ask (X : TS Bp)
  | lay (b : Bp) (U : TS Unit)
  | fin (er : Int) (st : Sp) (z : List Int)
structure RM where
  cl : Int
  op : Int
  ky : Ky
  zs : List Int
  rd : Int
  aim : Aim
  ph : Rp
structure To where
  k : Int
  st : Sp
  z : List Int
  ss : List Int
def toZ : To := ⟨0, spZ, [], []⟩
def RM.x (s : RM) : MS := ⟨s.cl, s.op, s.ky.k, s.ky.a, s.ky.b, s.ky.c, s.zs, s.rd⟩
def RM.need (s : RM) : Int := (s.zs.length : Int) / 2 + 1
def RM.isW (s : RM) : Bool := match s.aim with | .wr _ => true | .rd _ => false
def begP (s : RM) : RM × To := match s.ph with
  | .fresh => if 1 ≤ s.rd ∧ s.rd ≤ 1099511627776 then ({ s with ph := .ask (tNew Bp s.zs s.need) }, ⟨1, spZ, [], s.zs⟩) else ({ s with ph := .fin 4 spZ [] }, toZ)
  | _ => (s, toZ)
def tikP (s : RM) : To := match s.ph with
  | .ask X => ⟨1, spZ, [], missL X⟩
  | .lay b U => ⟨2, b.st, b.z, missL U⟩
  | _ => toZ
def hitP (s : RM) (k : Int) (d : Mg) : Bool := hitB s.x k (mdOf d)
def keepP (s : RM) (d : Mg) (z : List Int) : Bp := match s.aim with
  | .wr _ => ⟨d.st, []⟩
  | .rd n => if d.st.n = 0 ∧ d.st.c = 0 then ⟨spZ, List.replicate n 0⟩ else ⟨d.st, z⟩
def lsP (a b : Bp) : Bool := lessB a.st.n a.st.c b.st.n b.st.c
def bpZ : Bp := ⟨spZ, []⟩
def bpAt (l : List Bp) (i : Nat) : Bp := l[i]?.getD bpZ
def bestB (l : List Bp) : Bp := bpAt l (bi (fun i j => lsP (bpAt l i) (bpAt l j)) (l.length - 1))
def othP (g p : Bp) : Bool := !(p.st.n == g.st.n && p.st.c == g.st.c)
def layP (s : RM) (b : Bp) : RM × To := if s.rd = 1099511627776 then ({ s with ph := .fin 4 spZ [] }, toZ) else ({ s with rd := s.rd + 1, ph := .lay b (tNew Unit s.zs s.need) }, ⟨2, b.st, b.z, s.zs⟩)
def setP (s : RM) (l : List Bp) : RM × To := match s.aim with
  | .wr z => if 1099511627776 ≤ (bestB l).st.n then ({ s with ph := .fin 4 spZ [] }, toZ) else layP s ⟨⟨(bestB l).st.n + 1, s.cl⟩, z⟩
  | .rd _ => if l.any (othP (bestB l)) then layP s (bestB l) else ({ s with ph := .fin 0 (bestB l).st (bestB l).z }, toZ)
def resP (s : RM) (b : Bp) : List Int := match s.aim with | .wr _ => [] | .rd _ => b.z
def takP (s : RM) (d : Mg) (z : List Int) : RM × To := match s.ph with
  | .ask X => if hitP s 11 d then (if takeB X d.fr.id then setP s ((gotL (takeS X d.fr.id (keepP s d z))).map Prod.snd) else ({ s with ph := .ask (takeS X d.fr.id (keepP s d z)) }, toZ)) else (s, toZ)
  | .lay b U => if hitP s 12 d then (if takeB U d.fr.id then ({ s with ph := .fin 0 b.st (resP s b) }, toZ) else ({ s with ph := .lay b (takeS U d.fr.id ()) }, toZ)) else (s, toZ)
  | _ => (s, toZ)
def Bk2 (w : World) (I : Nat → Prop) (b : Bp) (k : Bq) : Prop := k.n = b.st.n ∧ k.c = b.st.c ∧ k.l = b.z.length ∧ b.z.length ≤ 140737488351232 ∧ -9223372036854775808 ≤ b.st.n ∧ OwnB w 0 k.a k.k b.z ∧ ∀ j, At k.a j → I j
structure LkR (R : Bp → Bq → Prop) (X : TS Bp) (Y : TS Bq) : Prop where
  g : Y.g = X.g
  need : Y.need = X.need
  no : ∀ n, X.v n = none → Y.v n = none
  so : ∀ n b, X.v n = some b → ∃ k : Bq, Y.v n = some k ∧ R b k
abbrev Lk (w : World) (I : Nat → Prop) (X : TS Bp) (Y : TS Bq) : Prop := LkR (Bk2 w I) X Y
theorem LkR.mono {R R' : Bp → Bq → Prop} {X : TS Bp} {Y : TS Bq} (h : LkR R X Y) (hR : ∀ b k, R b k → R' b k) : LkR R' X Y :=
  ⟨h.g, h.need, h.no, fun n b e => by obtain ⟨k, h1, h2⟩ := h.so n b e; exact ⟨k, h1, hR b k h2⟩⟩
def AimAt (w : World) (I : Nat → Prop) (s : RM) (ai : TypeId) (av : Value) : Prop := match s.aim with
  | .wr z => ai = 118 ∧ z.length ≤ 140737488351232 ∧ ∃ da dk, av = .agg #[.int .i64 s.cl, .slice da z.length dk] ∧ OwnB w 0 da dk z ∧ ∀ k, At da k → I k
  | .rd n => ai = 120 ∧ n ≤ 4096 ∧ av = .agg #[.int .i64 (n : Int)]
def PhM (w : World) (I : Nat → Prop) (s : RM) (t : TypeId) (v : Value) : Rp → Prop
  | .fresh => t = 138 ∧ ∃ ai av, v = .agg #[.iface ai av] ∧ AimAt w I s ai av
  | .ask X => t = 182 ∧ 1 ≤ s.rd ∧ s.rd ≤ 1099511627776 ∧ ∃ ai av tb bb at' ct Y, v = .agg #[.iface ai av, .pointer (some ⟨tb, 0, none⟩)] ∧ AimAt w I s ai av ∧ Tal 185 ansB w tb bb at' ct Y ∧ Lk w I X Y ∧ (∀ k, TB tb bb at' k → I k) ∧ X.g = s.zs
  | .lay b U => t = 195 ∧ ∃ pa pk da dc ub ubb ua ut, v = layV b.st.n b.st.c pa b.z.length pk 0 b.st.n b.st.c da (resP s b).length dc ub ∧ b.z.length ≤ 140737488351232 ∧ OwnB w 0 pa pk b.z ∧ (∀ k, At pa k → I k) ∧ Bytes w da (resP s b) ∧ (∀ k, At da k → I k ∧ ∃ cs, Box w k 5 cs) ∧ Tal 150 ansU w ub ubb ua ut U ∧ (∀ k, TB ub ubb ua k → I k) ∧ U.g = s.zs
  | .fin er st z => t = 177 ∧ ∃ da dc, v = endV er st.n st.c da z.length dc ∧ z.length ≤ 140737488351232 ∧ Bytes w da z ∧ ∀ k, At da k → I k ∧ ∃ cs, Box w k 5 cs
structure Mch (w : World) (I : Nat → Prop) (m : Nat) (s : RM) : Prop where
  ex : ∃ a cap t v, Mach w m a cap s.x t v ∧ I m ∧ (∀ k, At a k → I k) ∧ PhM w I s t v s.ph
  len : s.zs.length ≤ 1000
theorem boxKept {S : Nat → Prop} {w w' : World} {k : Nat} {t : TypeId} (h : ∃ cs, Box w k t cs) (hk : Kept S w w') (hS : ¬ S k) : ∃ cs, Box w' k t cs := by
  obtain ⟨cs, h⟩ := h
  exact ⟨cs, h.kept hk hS⟩
theorem boxLt {w : World} {k : Nat} {t : TypeId} (h : ∃ cs, Box w k t cs) : k < w.heap.size := by
  obtain ⟨cs, h⟩ := h
  exact h.lt
section
variable {S I I' : Nat → Prop} {w w' : World} {m : Nat} {s : RM}
theorem OwnB.five {w : World} {b : Nat} {a : Option Addr} {c : Nat} {zs : List Int} (h : OwnB w b a c zs) {k : Nat} (e : At a k) : ∃ cs, Box w k 5 cs := Own.ty h e
theorem Bk2.kept5 {b : Bp} {k : Bq} (h : Bk2 w I b k) (hk : Kept S w w') (hS : ∀ k, I k → (∃ cs, Box w k 5 cs) → ¬ S k ∧ I' k) : Bk2 w' I' b k := by
  obtain ⟨h2, h3, h4, h4', h4'', h5, h6⟩ := h
  exact ⟨h2, h3, h4, h4', h4'', Own.kept h5 hk (fun j e => (hS j (h6 j e) (OwnB.five h5 e)).1), fun j e => (hS j (h6 j e) (OwnB.five h5 e)).2⟩
theorem LkR.kept5 {X : TS Bp} {Y : TS Bq} (h : Lk w I X Y) (hk : Kept S w w') (hS : ∀ k, I k → (∃ cs, Box w k 5 cs) → ¬ S k ∧ I' k) : Lk w' I' X Y := by
  refine ⟨h.g, h.need, h.no, fun n b e => ?_⟩
  obtain ⟨k, h1, h2⟩ := h.so n b e
  exact ⟨k, h1, h2.kept5 hk hS⟩
theorem LkR.kept {X : TS Bp} {Y : TS Bq} (h : Lk w I X Y) (hk : Kept S w w') (hS : ∀ k, I k → k < w.heap.size → ¬ S k ∧ I' k) : Lk w' I' X Y := h.kept5 hk (fun k e b => hS k e (boxLt b))
theorem AimAt.kept5 {ai : TypeId} {av : Value} (h : AimAt w I s ai av) (hk : Kept S w w') (hS : ∀ k, I k → (∃ cs, Box w k 5 cs) → ¬ S k ∧ I' k) : AimAt w' I' s ai av := by
  unfold AimAt at h ⊢
  split
  · rename_i z hz
    rw [hz] at h
    obtain ⟨h1, h2, da, dk, h3, h4, h5⟩ := h
    exact ⟨h1, h2, da, dk, h3, Own.kept h4 hk (fun j e => (hS j (h5 j e) (OwnB.five h4 e)).1), fun j e => (hS j (h5 j e) (OwnB.five h4 e)).2⟩
  · rename_i n hn
    rw [hn] at h
    exact h
theorem AimAt.kept {ai : TypeId} {av : Value} (h : AimAt w I s ai av) (hk : Kept S w w') (hS : ∀ k, I k → k < w.heap.size → ¬ S k ∧ I' k) : AimAt w' I' s ai av := h.kept5 hk (fun k e b => hS k e (boxLt b))
theorem AimAt.of {s s' : RM} {ai : TypeId} {av : Value} (h : AimAt w I s ai av) (ha : s'.aim = s.aim) (hc : s'.cl = s.cl) : AimAt w I s' ai av := by
  unfold AimAt at h ⊢
  rw [ha, hc]
  exact h
theorem PhM.kept {t : TypeId} {v : Value} {p : Rp} (h : PhM w I s t v p) (hk : Kept S w w') (hS : ∀ k, I k → k < w.heap.size → ¬ S k ∧ I' k) : PhM w' I' s t v p := by
  cases p with
  | fresh => obtain ⟨h1, ai, av, h2, h3⟩ := h; exact ⟨h1, ai, av, h2, h3.kept hk hS⟩
  | ask X =>
    obtain ⟨h1, r0, r1, ai, av, tb, bb, at', ct, Y, h2, h3, h4, h5, h6, h7⟩ := h
    have q : ∀ k, TB tb bb at' k → ¬ S k ∧ I' k := fun k e => hS k (h6 k e) (h4.lt e)
    exact ⟨h1, r0, r1, ai, av, tb, bb, at', ct, Y, h2, h3.kept hk hS, h4.kept hk (fun k e => (q k e).1), h5.kept hk hS, fun k e => (q k e).2, h7⟩
  | lay b U =>
    obtain ⟨h1, pa, pk, da, dc, ub, ubb, ua, ut, h2, h3, h4, h5, h6, h7, h8, h9, h10⟩ := h
    have q : ∀ k, TB ub ubb ua k → ¬ S k ∧ I' k := fun k e => hS k (h9 k e) (h8.lt e)
    have p : ∀ k, At pa k → ¬ S k ∧ I' k := fun k e => hS k (h5 k e) (Own.lt h4 e)
    have d : ∀ k, At da k → ¬ S k ∧ I' k := fun k e => hS k (h7 k e).1 (boxLt (h7 k e).2)
    exact ⟨h1, pa, pk, da, dc, ub, ubb, ua, ut, h2, h3, Own.kept h4 hk (fun k e => (p k e).1), fun k e => (p k e).2, Nums.kept h6 hk (fun b off e => (d b ⟨_, e, rfl⟩).1), fun k e => ⟨(d k e).2, boxKept (h7 k e).2 hk (d k e).1⟩, h8.kept hk (fun k e => (q k e).1), fun k e => (q k e).2, h10⟩
  | fin er st z =>
    obtain ⟨h1, da, dc, h2, h3, h4, h5⟩ := h
    have d : ∀ k, At da k → ¬ S k ∧ I' k := fun k e => hS k (h5 k e).1 (boxLt (h5 k e).2)
    exact ⟨h1, da, dc, h2, h3, Nums.kept h4 hk (fun b off e => (d b ⟨_, e, rfl⟩).1), fun k e => ⟨(d k e).2, boxKept (h5 k e).2 hk (d k e).1⟩⟩
theorem Mch.kept (h : Mch w I m s) (hk : Kept S w w') (hS : ∀ k, I k → k < w.heap.size → ¬ S k ∧ I' k) : Mch w' I' m s := by
  obtain ⟨⟨a, cap, t, v, h1, h2, h3, h4⟩, len⟩ := h
  have q1 := hS m h2 h1.box.lt
  have q2 : ∀ k, At a k → ¬ S k ∧ I' k := fun k e => hS k (h3 k e) (Own.lt h1.row e)
  exact ⟨⟨a, cap, t, v, h1.kept hk (fun k e => by rcases e with rfl | e; exact q1.1; exact (q2 k e).1), q1.2, fun k e => (q2 k e).2, h4.kept hk hS⟩, len⟩
theorem Mch.no (h : Mch w I m s) (hk : Kept No w w') : Mch w' I m s := h.kept hk (fun k e _ => ⟨fun f => f, e⟩)
theorem Mch.cut (h : Mch w I m s) : Mch w (fun k => I k ∧ k < w.heap.size) m s := h.kept (Kept.refl No w) (fun k e l => ⟨fun f => f, e, l⟩)
theorem Mch.wide (h : Mch w I m s) (hS : ∀ k, I k → I' k) : Mch w I' m s := h.kept (Kept.refl No w) (fun k e _ => ⟨fun f => f, hS k e⟩)
end
def MOut (w : World) (I : Nat → Prop) (m : Nat) (o : RM × To) (e : Ending) (w' : World) : Prop :=
  ∃ la lc qs I', e = .returned (.slice la qs.length lc) ∧ qs.map Qm.sv = o.2.ss ∧ Msgs w' w.heap.size la lc o.1.x ⟨o.2.k, o.2.st.n, o.2.st.c, o.2.z.length⟩ o.2.z qs ∧ Mch w' I' m o.1 ∧ (∀ k, I' k → (I k ∨ w.heap.size ≤ k) ∧ k < w'.heap.size) ∧ Kept I w w'
theorem MOut.mk {w w' : World} {I : Nat → Prop} {m : Nat} {o : RM × To} {e : Ending} {la : Option Addr} {lc : Nat} {qs : List Qm} (he : e = .returned (.slice la qs.length lc)) (hq : qs.map Qm.sv = o.2.ss) (hM : Msgs w' w.heap.size la lc o.1.x ⟨o.2.k, o.2.st.n, o.2.st.c, o.2.z.length⟩ o.2.z qs) (hm : Mch w' (fun k => I k ∨ w.heap.size ≤ k) m o.1) (hk : Kept I w w') : MOut w I m o e w' :=
  ⟨la, lc, qs, _, he, hq, hM, hm.cut, fun k e => e, hk⟩
theorem MOut.nil {w w' : World} {I : Nat → Prop} {m : Nat} {s : RM} {e : Ending} (he : e = .returned (.slice none 0 0)) (hm : Mch w' (fun k => I k ∨ w.heap.size ≤ k) m s) (hk : Kept I w w') : MOut w I m (s, toZ) e w' :=
  MOut.mk (la := none) (lc := 0) (qs := []) he rfl ⟨Own.nil _ _ _ _, fun q h => (by cases h), List.Pairwise.nil, rfl⟩ hm hk
theorem MOut.same {w w' : World} {I : Nat → Prop} {m : Nat} {s : RM} {e : Ending} (he : e = .returned (.slice none 0 0)) (hm : Mch w I m s) (hk : Kept No w w') : MOut w I m (s, toZ) e w' :=
  MOut.nil he ((hm.no hk).wide (fun k e => .inl e)) hk.of_no
theorem LkR.new (R : Bp → Bq → Prop) (l : List Int) (n : Int) : LkR R (tNew Bp l n) (tNew Bq l n) := ⟨rfl, rfl, fun _ _ => rfl, fun n b e => by cases e⟩
section
variable {R : Bp → Bq → Prop} {X : TS Bp} {Y : TS Bq}
theorem LkR.nn (h : LkR R X Y) (n : Int) : (X.v n).isNone = (Y.v n).isNone := by
  cases e : X.v n with
  | none => rw [h.no n e]; rfl
  | some b => obtain ⟨k, h1, _⟩ := h.so n b e; rw [h1]; rfl
theorem LkR.take (h : LkR R X Y) {b : Bp} {k : Bq} (hb : R b k) (s : Int) : LkR R (takeS X s b) (takeS Y s k) := by
  have hm := may2 h.g h.need h.nn s
  refine ⟨by rw [takeS_g, takeS_g, h.g], ?_, fun n e => ?_, fun n p e => ?_⟩
  · unfold takeS; split <;> split <;> exact h.need
  · rw [takeS_v] at e ⊢
    rw [hm]
    split at e
    · cases e
    · rename_i hc; rw [if_neg hc]; exact h.no n e
  · rw [takeS_v] at e ⊢
    rw [hm]
    split at e
    · rename_i hc; cases e; rw [if_pos hc]; exact ⟨k, rfl, hb⟩
    · rename_i hc; rw [if_neg hc]; exact h.so n p e
theorem LkR.got (h : LkR R X Y) : Two2 R ((gotL X).map Prod.snd) ((gotL Y).map Prod.snd) := by
  unfold gotL
  rw [h.g]
  exact got2 X.v Y.v X.g (fun n _ e => h.no n e) (fun n _ b e => h.so n b e)
abbrev pAt' := @Go.Proofs.Ytgiokkcdgoloaaa.pAt
theorem best2 (hR : ∀ b k, R b k → k.n = b.st.n ∧ k.c = b.st.c) {l : List Bp} {k : List Bq} (h : Two2 R l k) (h0 : 0 < l.length) : R (bestB l) (bestP k) := by
  have hl := h.1
  have hat : ∀ i, i < l.length → R (bpAt l i) (pAt' k i) := fun i hi => by
    have hk : i < k.length := by omega
    have e1 : l[i]? = some (bpAt l i) := by simp [bpAt, List.getElem?_eq_getElem hi]
    have e2 : k[i]? = some (pAt' k i) := by simp [pAt', Go.Proofs.Ytgiokkcdgoloaaa.pAt, List.getElem?_eq_getElem hk]
    exact h.2 i _ _ e1 e2
  have hb : bi (fun i j => lsP (bpAt l i) (bpAt l j)) (l.length - 1) = bi (ltP k) (k.length - 1) := by
    rw [hl]
    refine bi_congr _ (fun i j hi hj => ?_)
    have a1 := hR _ _ (hat i (by omega))
    have a2 := hR _ _ (hat j (by omega))
    unfold ltP lessK lsP
    show _ = lessB (pAt' k i).n (pAt' k i).c (pAt' k j).n (pAt' k j).c
    rw [a1.1, a1.2, a2.1, a2.2]
  have hlt := bi_le (ltP k) (k.length - 1)
  unfold bestB bestP
  rw [hb]
  exact hat _ (by omega)
theorem any2 (hR : ∀ b k, R b k → k.n = b.st.n ∧ k.c = b.st.c) {l : List Bp} {k : List Bq} (h : Two2 R l k) (h0 : 0 < l.length) : k.any (otherB (bestP k)) = l.any (othP (bestB l)) := by
  have hb := hR _ _ (best2 hR h h0)
  refine (Two2.any (R := R) (fun a b hr => ?_) h).symm
  unfold othP otherB
  rw [(hR _ _ hr).1, (hR _ _ hr).2, hb.1, hb.2]
end
def donP (s : RM) : Int × Sp × List Int × Bool := match s.ph with
  | .fin er st z => (er, st, z, true)
  | _ => (0, spZ, [], false)
theorem done_M {w : World} {I : Nat → Prop} {m : Nat} {s : RM} (h : Mch w I m s) : Calls Try.prog 83 #[.pointer (some ⟨m, 0, none⟩)] w (DoneOut w (donP s).1 (donP s).2.1.n (donP s).2.1.c (donP s).2.2.1 (donP s).2.2.2) := by
  obtain ⟨⟨a, cap, t, v, hM, i1, i2, hP⟩, len⟩ := h
  unfold donP
  cases hp : s.ph with
  | fresh =>
    rw [hp] at hP
    obtain ⟨rfl, ai, av, rfl, hA⟩ := hP
    exact done_0 m a cap s.x _ w hM
  | ask X =>
    rw [hp] at hP
    obtain ⟨rfl, r0, r1, ai, av, tb, bb, at', ct, Y, rfl, _⟩ := hP
    exact doneA_any m a cap s.x _ _ w hM
  | lay b U =>
    rw [hp] at hP
    obtain ⟨rfl, pa, pk, da, dc, ub, ubb, ua, ut, rfl, _⟩ := hP
    exact machDoneL_any m a cap s.x _ _ _ _ _ _ _ _ _ _ _ _ w hM
  | fin er st z =>
    rw [hp] at hP
    obtain ⟨rfl, da, dc, rfl, hz, hd, hI⟩ := hP
    exact machDoneE_any m a cap s.x _ _ _ _ _ _ z w hM rfl (by omega) hd
theorem round_M {w : World} {I : Nat → Prop} {m : Nat} {s : RM} (h : Mch w I m s) : Calls Try.prog 84 #[.pointer (some ⟨m, 0, none⟩)] w (fun e w' => e = .returned (.int .i64 s.rd) ∧ w' = w) := by
  obtain ⟨⟨a, cap, t, v, hM, i1, i2, hP⟩, len⟩ := h
  exact round_any m a cap s.x t v w hM
end Go.Proofs.Ytgiokkcdgoloaaa.Md
