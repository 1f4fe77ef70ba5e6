import Derived.Test.YthnecaejhnojfaaSa
import Derived.Test.YthnecaejhnojfaaLa
namespace Go.Proofs.Ythnecaejhnojfaa.Md
open Go.RowKit
set_option linter.unusedVariables false
set_option linter.unusedSimpArgs false

set_option maxRecDepth 100000 in
set_option maxHeartbeats 4000000 in
theorem sameM0 (k op rd up : Int) (fr too : Ad) (ky : Ky) (st hd : Sp) (c : Cm) (mo : Bool) (ba bb ea eb la lb ca cb : Option Addr) (bn bk bj en ek ej ln lk lj cn ck cj : Nat) (zs : List Int) (es : List En) (ls : List La) (cs : List Cm) (w : World) (h1 : RdB w ⟨ba, bn, bk⟩ zs) (h2 : RdB w ⟨bb, bn, bj⟩ zs) (h3 : RdE w ⟨ea, en, ek⟩ es) (h4 : RdE w ⟨eb, en, ej⟩ es) (h5 : RdL w ⟨la, ln, lk⟩ ls) (h6 : RdL w ⟨lb, ln, lj⟩ ls) (h7 : RdC w ⟨ca, cn, ck⟩ cs) (h8 : RdC w ⟨cb, cn, cj⟩ cs) (n1 : bn ≤ 281474976710656) (n2 : en ≤ 4000000000000) (n3 : ln ≤ 4000000000000) (n4 : cn ≤ 4000000000000) : Calls Try.prog 27 #[.agg (Mg.cells ⟨k, fr, too, op, rd, ky, st, hd, ⟨ba, bn, bk⟩, c, ⟨up, ⟨ea, en, ek⟩, ⟨la, ln, lk⟩⟩, ⟨ca, cn, ck⟩, mo⟩), .agg (Mg.cells ⟨k, fr, too, op, rd, ky, st, hd, ⟨bb, bn, bj⟩, c, ⟨up, ⟨eb, en, ej⟩, ⟨lb, ln, lj⟩⟩, ⟨cb, cn, cj⟩, mo⟩)] w (fun e w' => e = .returned (.bool true) ∧ Kept No w w') := by
  obtain ⟨C, hC⟩ : ∃ C : Ending → World → Prop, C = (fun e w' => e = .returned (.bool true) ∧ Kept No w w') := ⟨_, rfl⟩
  have HC : Hid (C = (fun e w' => e = .returned (.bool true) ∧ Kept No w w')) := hC
  rw [← hC]
  clear hC
  have hz : zs.length = bn := h1.len
  have H1 : Hid (Nums .u8 w ba zs) := h1.row
  have H2 : Hid (Nums .u8 w bb zs) := h2.row
  have H3 : Hid (RdE w ⟨ea, en, ek⟩ es) := h3
  have H4 : Hid (RdE w ⟨eb, en, ej⟩ es) := h4
  have H5 : Hid (RdL w ⟨la, ln, lk⟩ ls) := h5
  have H6 : Hid (RdL w ⟨lb, ln, lj⟩ ls) := h6
  have H7 : Hid (RdC w ⟨ca, cn, ck⟩ cs) := h7
  have H8 : Hid (RdC w ⟨cb, cn, cj⟩ cs) := h8
  clear h1 h2 h3 h4 h5 h6 h7 h8
  have HF : Hid (Fq No w w []) := Fq.start _ _
  go_enter Try.func27, Try.ntmps27
  go_upto_region 0 with fail
  refine WL.start ?_
  refine uR (.pointer (some ⟨w.heap.size, 0, none⟩)) (w.alloc (.cells (Mg.cells ⟨k, fr, too, op, rd, ky, st, hd, ⟨ba, bn, bk⟩, c, ⟨up, ⟨ea, en, ek⟩, ⟨la, ln, lk⟩⟩, ⟨ca, cn, ck⟩, mo⟩) 52)) (exec_box 52 _ rfl (Mg.cells ⟨k, fr, too, op, rd, ky, st, hd, ⟨ba, bn, bk⟩, c, ⟨up, ⟨ea, en, ek⟩, ⟨la, ln, lk⟩⟩, ⟨ca, cn, ck⟩, mo⟩) (by kernel_rfl)) ?_
  try simp only [pS]
  have HF : Hid (Fq No w (w.alloc (.cells (Mg.cells ⟨k, fr, too, op, rd, ky, st, hd, ⟨ba, bn, bk⟩, c, ⟨up, ⟨ea, en, ek⟩, ⟨la, ln, lk⟩⟩, ⟨ca, cn, ck⟩, mo⟩) 52)) [(w.heap.size, 52, Mg.cells ⟨k, fr, too, op, rd, ky, st, hd, ⟨ba, bn, bk⟩, c, ⟨up, ⟨ea, en, ek⟩, ⟨la, ln, lk⟩⟩, ⟨ca, cn, ck⟩, mo⟩)]) := HF.out.alloc _ _
  generalize w.alloc (.cells (Mg.cells ⟨k, fr, too, op, rd, ky, st, hd, ⟨ba, bn, bk⟩, c, ⟨up, ⟨ea, en, ek⟩, ⟨la, ln, lk⟩⟩, ⟨ca, cn, ck⟩, mo⟩) 52) = wk2 at HF ⊢
  generalize w.heap.size = gk1 at HF ⊢
  refine uR (.pointer (some ⟨wk2.heap.size, 0, none⟩)) (wk2.alloc (.cells (Mg.cells ⟨k, fr, too, op, rd, ky, st, hd, ⟨bb, bn, bj⟩, c, ⟨up, ⟨eb, en, ej⟩, ⟨lb, ln, lj⟩⟩, ⟨cb, cn, cj⟩, mo⟩) 52)) (exec_box 52 _ rfl (Mg.cells ⟨k, fr, too, op, rd, ky, st, hd, ⟨bb, bn, bj⟩, c, ⟨up, ⟨eb, en, ej⟩, ⟨lb, ln, lj⟩⟩, ⟨cb, cn, cj⟩, mo⟩) (by kernel_rfl)) ?_
  try simp only [pS]
  have HF : Hid (Fq No w (wk2.alloc (.cells (Mg.cells ⟨k, fr, too, op, rd, ky, st, hd, ⟨bb, bn, bj⟩, c, ⟨up, ⟨eb, en, ej⟩, ⟨lb, ln, lj⟩⟩, ⟨cb, cn, cj⟩, mo⟩) 52)) [(gk1, 52, Mg.cells ⟨k, fr, too, op, rd, ky, st, hd, ⟨ba, bn, bk⟩, c, ⟨up, ⟨ea, en, ek⟩, ⟨la, ln, lk⟩⟩, ⟨ca, cn, ck⟩, mo⟩), (wk2.heap.size, 52, Mg.cells ⟨k, fr, too, op, rd, ky, st, hd, ⟨bb, bn, bj⟩, c, ⟨up, ⟨eb, en, ej⟩, ⟨lb, ln, lj⟩⟩, ⟨cb, cn, cj⟩, mo⟩)]) := HF.out.alloc _ _
  generalize wk2.alloc (.cells (Mg.cells ⟨k, fr, too, op, rd, ky, st, hd, ⟨bb, bn, bj⟩, c, ⟨up, ⟨eb, en, ej⟩, ⟨lb, ln, lj⟩⟩, ⟨cb, cn, cj⟩, mo⟩) 52) = wk4 at HF ⊢
  generalize wk2.heap.size = gk3 at HF ⊢
  refine uK (.bool false) <| WL.nil <| ?_
  try simp only [pS]
  go_upto_region 1 with fail
  refine WL.start <| uK (.pointer (some ⟨gk1, 0, none⟩)) <| uL 3 ⟨gk1, 0, none⟩ (.int .i64 k) (load_one ((HF.out.box 0 _ _ _ rfl).cell 0 |>.trans (by kernel_rfl)) U3 rfl) <| uK (.pointer (some ⟨gk3, 0, none⟩)) <| uL 3 ⟨gk3, 0, none⟩ (.int .i64 k) (load_one ((HF.out.box 1 _ _ _ rfl).cell 0 |>.trans (by kernel_rfl)) U3 rfl) <| uB .eql 3 (.int .i64 k) (.int .i64 k) (.bool true) (by rw [b_eql, beq_self_eq_true]) <| uK (.bool true) <| uK (.pointer (some ⟨gk1, 1, none⟩)) <| ?_
  try simp only [pS]
  refine uL 39 ⟨gk1, 1, none⟩ (.agg (Ad.cells fr)) (run_load_part (cs := Mg.cs ⟨k, fr, too, op, rd, ky, st, hd, ⟨ba, bn, bk⟩, c, ⟨up, ⟨ea, en, ek⟩, ⟨la, ln, lk⟩⟩, ⟨ca, cn, ck⟩, mo⟩) (sub := Ad.cs fr) (HF.out.box 0 _ _ _ rfl) (part_of (by kernel_rfl)) U39 rfl S39) <| uK (.pointer (some ⟨gk3, 1, none⟩)) <| uL 39 ⟨gk3, 1, none⟩ (.agg (Ad.cells fr)) (run_load_part (cs := Mg.cs ⟨k, fr, too, op, rd, ky, st, hd, ⟨bb, bn, bj⟩, c, ⟨up, ⟨eb, en, ej⟩, ⟨lb, ln, lj⟩⟩, ⟨cb, cn, cj⟩, mo⟩) (sub := Ad.cs fr) (HF.out.box 1 _ _ _ rfl) (part_of (by kernel_rfl)) U39 rfl S39) <| uB .eql 39 (.agg (Ad.cells fr)) (.agg (Ad.cells fr)) (.bool true) (by rw [eqA_eql, eqA_refl]) <| uK (.bool true) <| uK (.bool true) <| uK (.pointer (some ⟨gk1, 3, none⟩)) <| uL 39 ⟨gk1, 3, none⟩ (.agg (Ad.cells too)) (run_load_part (cs := Mg.cs ⟨k, fr, too, op, rd, ky, st, hd, ⟨ba, bn, bk⟩, c, ⟨up, ⟨ea, en, ek⟩, ⟨la, ln, lk⟩⟩, ⟨ca, cn, ck⟩, mo⟩) (sub := Ad.cs too) (HF.out.box 0 _ _ _ rfl) (part_of (by kernel_rfl)) U39 rfl S39) <| ?_
  try simp only [pS]
  refine uK (.pointer (some ⟨gk3, 3, none⟩)) <| uL 39 ⟨gk3, 3, none⟩ (.agg (Ad.cells too)) (run_load_part (cs := Mg.cs ⟨k, fr, too, op, rd, ky, st, hd, ⟨bb, bn, bj⟩, c, ⟨up, ⟨eb, en, ej⟩, ⟨lb, ln, lj⟩⟩, ⟨cb, cn, cj⟩, mo⟩) (sub := Ad.cs too) (HF.out.box 1 _ _ _ rfl) (part_of (by kernel_rfl)) U39 rfl S39) <| uB .eql 39 (.agg (Ad.cells too)) (.agg (Ad.cells too)) (.bool true) (by rw [eqA_eql, eqA_refl]) <| uK (.bool true) <| uK (.bool true) <| uK (.pointer (some ⟨gk1, 5, none⟩)) <| uL 3 ⟨gk1, 5, none⟩ (.int .i64 op) (load_one ((HF.out.box 0 _ _ _ rfl).cell 5 |>.trans (by kernel_rfl)) U3 rfl) <| uK (.pointer (some ⟨gk3, 5, none⟩)) <| ?_
  try simp only [pS]
  refine uL 3 ⟨gk3, 5, none⟩ (.int .i64 op) (load_one ((HF.out.box 1 _ _ _ rfl).cell 5 |>.trans (by kernel_rfl)) U3 rfl) <| uB .eql 3 (.int .i64 op) (.int .i64 op) (.bool true) (by rw [b_eql, beq_self_eq_true]) <| uK (.bool true) <| uK (.bool true) <| uK (.pointer (some ⟨gk1, 6, none⟩)) <| uL 3 ⟨gk1, 6, none⟩ (.int .i64 rd) (load_one ((HF.out.box 0 _ _ _ rfl).cell 6 |>.trans (by kernel_rfl)) U3 rfl) <| uK (.pointer (some ⟨gk3, 6, none⟩)) <| uL 3 ⟨gk3, 6, none⟩ (.int .i64 rd) (load_one ((HF.out.box 1 _ _ _ rfl).cell 6 |>.trans (by kernel_rfl)) U3 rfl) <| ?_
  try simp only [pS]
  refine uB .eql 3 (.int .i64 rd) (.int .i64 rd) (.bool true) (by rw [b_eql, beq_self_eq_true]) <| uK (.bool true) <| uK (.bool true) <| uK (.pointer (some ⟨gk1, 7, none⟩)) <| uL 23 ⟨gk1, 7, none⟩ (.agg (Ky.cells ky)) (run_load_part (cs := Mg.cs ⟨k, fr, too, op, rd, ky, st, hd, ⟨ba, bn, bk⟩, c, ⟨up, ⟨ea, en, ek⟩, ⟨la, ln, lk⟩⟩, ⟨ca, cn, ck⟩, mo⟩) (sub := Ky.cs ky) (HF.out.box 0 _ _ _ rfl) (part_of (by kernel_rfl)) U23 rfl S23) <| uK (.pointer (some ⟨gk3, 7, none⟩)) <| uL 23 ⟨gk3, 7, none⟩ (.agg (Ky.cells ky)) (run_load_part (cs := Mg.cs ⟨k, fr, too, op, rd, ky, st, hd, ⟨bb, bn, bj⟩, c, ⟨up, ⟨eb, en, ej⟩, ⟨lb, ln, lj⟩⟩, ⟨cb, cn, cj⟩, mo⟩) (sub := Ky.cs ky) (HF.out.box 1 _ _ _ rfl) (part_of (by kernel_rfl)) U23 rfl S23) <| uB .eql 23 (.agg (Ky.cells ky)) (.agg (Ky.cells ky)) (.bool true) (by rw [eqK_eql, eqK_refl]) <| ?_
  try simp only [pS]
  refine uK (.bool true) <| uK (.bool true) <| uK (.pointer (some ⟨gk1, 11, none⟩)) <| uL 41 ⟨gk1, 11, none⟩ (.agg (Sp.cells st)) (run_load_part (cs := Mg.cs ⟨k, fr, too, op, rd, ky, st, hd, ⟨ba, bn, bk⟩, c, ⟨up, ⟨ea, en, ek⟩, ⟨la, ln, lk⟩⟩, ⟨ca, cn, ck⟩, mo⟩) (sub := Sp.cs st) (HF.out.box 0 _ _ _ rfl) (part_of (by kernel_rfl)) U41 rfl S41) <| uK (.pointer (some ⟨gk3, 11, none⟩)) <| uL 41 ⟨gk3, 11, none⟩ (.agg (Sp.cells st)) (run_load_part (cs := Mg.cs ⟨k, fr, too, op, rd, ky, st, hd, ⟨bb, bn, bj⟩, c, ⟨up, ⟨eb, en, ej⟩, ⟨lb, ln, lj⟩⟩, ⟨cb, cn, cj⟩, mo⟩) (sub := Sp.cs st) (HF.out.box 1 _ _ _ rfl) (part_of (by kernel_rfl)) U41 rfl S41) <| uB .eql 41 (.agg (Sp.cells st)) (.agg (Sp.cells st)) (.bool true) (by rw [eqS_eql, eqS_refl]) <| uK (.bool true) <| ?_
  try simp only [pS]
  refine uK (.bool true) <| uK (.pointer (some ⟨gk1, 13, none⟩)) <| uL 41 ⟨gk1, 13, none⟩ (.agg (Sp.cells hd)) (run_load_part (cs := Mg.cs ⟨k, fr, too, op, rd, ky, st, hd, ⟨ba, bn, bk⟩, c, ⟨up, ⟨ea, en, ek⟩, ⟨la, ln, lk⟩⟩, ⟨ca, cn, ck⟩, mo⟩) (sub := Sp.cs hd) (HF.out.box 0 _ _ _ rfl) (part_of (by kernel_rfl)) U41 rfl S41) <| uK (.pointer (some ⟨gk3, 13, none⟩)) <| uL 41 ⟨gk3, 13, none⟩ (.agg (Sp.cells hd)) (run_load_part (cs := Mg.cs ⟨k, fr, too, op, rd, ky, st, hd, ⟨bb, bn, bj⟩, c, ⟨up, ⟨eb, en, ej⟩, ⟨lb, ln, lj⟩⟩, ⟨cb, cn, cj⟩, mo⟩) (sub := Sp.cs hd) (HF.out.box 1 _ _ _ rfl) (part_of (by kernel_rfl)) U41 rfl S41) <| uB .eql 41 (.agg (Sp.cells hd)) (.agg (Sp.cells hd)) (.bool true) (by rw [eqS_eql, eqS_refl]) <| uK (.bool true) <| uK (.bool true) <| ?_
  try simp only [pS]
  refine uK (.pointer (some ⟨gk1, 16, none⟩)) <| uL 45 ⟨gk1, 16, none⟩ (.agg (Cm.cells c)) (run_load_part (cs := Mg.cs ⟨k, fr, too, op, rd, ky, st, hd, ⟨ba, bn, bk⟩, c, ⟨up, ⟨ea, en, ek⟩, ⟨la, ln, lk⟩⟩, ⟨ca, cn, ck⟩, mo⟩) (sub := Cm.cs c) (HF.out.box 0 _ _ _ rfl) (part_of (by kernel_rfl)) U45 rfl S45) <| uK (.pointer (some ⟨gk3, 16, none⟩)) <| uL 45 ⟨gk3, 16, none⟩ (.agg (Cm.cells c)) (run_load_part (cs := Mg.cs ⟨k, fr, too, op, rd, ky, st, hd, ⟨bb, bn, bj⟩, c, ⟨up, ⟨eb, en, ej⟩, ⟨lb, ln, lj⟩⟩, ⟨cb, cn, cj⟩, mo⟩) (sub := Cm.cs c) (HF.out.box 1 _ _ _ rfl) (part_of (by kernel_rfl)) U45 rfl S45) <| uB .eql 45 (.agg (Cm.cells c)) (.agg (Cm.cells c)) (.bool true) (by rw [eqC_eql, eqC_refl]) <| uK (.bool true) <| uK (.bool true) <| uK (.pointer (some ⟨gk1, 29, none⟩)) <| ?_
  try simp only [pS]
  refine uL 4 ⟨gk1, 29, none⟩ (.bool mo) (load_one ((HF.out.box 0 _ _ _ rfl).cell 29 |>.trans (by kernel_rfl)) U4 rfl) <| uK (.pointer (some ⟨gk3, 29, none⟩)) <| uL 4 ⟨gk3, 29, none⟩ (.bool mo) (load_one ((HF.out.box 1 _ _ _ rfl).cell 29 |>.trans (by kernel_rfl)) U4 rfl) <| uB .eql 4 (.bool mo) (.bool mo) (.bool true) (by rw [b_eqlB, beq_self_eq_true]) <| uK (.bool true) <| uK (.bool true) <| uK (.pointer (some ⟨gk1, 15, none⟩)) <| uL 25 ⟨gk1, 15, none⟩ (.slice ba bn bk) (load_one ((HF.out.box 0 _ _ _ rfl).cell 15 |>.trans (by kernel_rfl)) U25 rfl) <| ?_
  try simp only [pS]
  refine uK (.pointer (some ⟨gk3, 15, none⟩)) <| uL 25 ⟨gk3, 15, none⟩ (.slice bb bn bj) (load_one ((HF.out.box 1 _ _ _ rfl).cell 15 |>.trans (by kernel_rfl)) U25 rfl) <| ?_
  try simp only [pS]
  refine uC 33 #[.slice ba bn bk, .slice bb bn bj] (same_l ba bb bk bj bn zs wk4 hz n1 (Nums.kept H1.out HF.out.kept (fun _ _ _ e => e)) (Nums.kept H2.out HF.out.kept (fun _ _ _ e => e))) ?_
  rintro e wk5 ⟨rfl, hk⟩
  have HF : Hid (Fq No w (wk5) [(gk1, 52, Mg.cells ⟨k, fr, too, op, rd, ky, st, hd, ⟨ba, bn, bk⟩, c, ⟨up, ⟨ea, en, ek⟩, ⟨la, ln, lk⟩⟩, ⟨ca, cn, ck⟩, mo⟩), (gk3, 52, Mg.cells ⟨k, fr, too, op, rd, ky, st, hd, ⟨bb, bn, bj⟩, c, ⟨up, ⟨eb, en, ej⟩, ⟨lb, ln, lj⟩⟩, ⟨cb, cn, cj⟩, mo⟩)]) := HF.out.no hk
  clear hk
  refine ⟨.bool true, rfl, ?_⟩
  try simp only [pS]
  refine uK (.bool true) <| uK (.bool true) <| uK (.pointer (some ⟨gk1, 25, none⟩)) <| uL 49 ⟨gk1, 25, none⟩ (.agg (Bv.cells ⟨up, ⟨ea, en, ek⟩, ⟨la, ln, lk⟩⟩)) (run_load_part (cs := Mg.cs ⟨k, fr, too, op, rd, ky, st, hd, ⟨ba, bn, bk⟩, c, ⟨up, ⟨ea, en, ek⟩, ⟨la, ln, lk⟩⟩, ⟨ca, cn, ck⟩, mo⟩) (sub := Bv.cs ⟨up, ⟨ea, en, ek⟩, ⟨la, ln, lk⟩⟩) (HF.out.box 0 _ _ _ rfl) (part_of (by kernel_rfl)) U49 rfl S49) <| uK (.pointer (some ⟨gk3, 25, none⟩)) <| uL 49 ⟨gk3, 25, none⟩ (.agg (Bv.cells ⟨up, ⟨eb, en, ej⟩, ⟨lb, ln, lj⟩⟩)) (run_load_part (cs := Mg.cs ⟨k, fr, too, op, rd, ky, st, hd, ⟨bb, bn, bj⟩, c, ⟨up, ⟨eb, en, ej⟩, ⟨lb, ln, lj⟩⟩, ⟨cb, cn, cj⟩, mo⟩) (sub := Bv.cs ⟨up, ⟨eb, en, ej⟩, ⟨lb, ln, lj⟩⟩) (HF.out.box 1 _ _ _ rfl) (part_of (by kernel_rfl)) U49 rfl S49) <| ?_
  try simp only [pS]
  refine uC 36 #[.agg (Bv.cells ⟨up, ⟨ea, en, ek⟩, ⟨la, ln, lk⟩⟩), .agg (Bv.cells ⟨up, ⟨eb, en, ej⟩, ⟨lb, ln, lj⟩⟩)] (sameBk up ea eb la lb en ln ek ej lk lj es ls wk5 (H3.out.no HF.out.kept) (H4.out.no HF.out.kept) (H5.out.no HF.out.kept) (H6.out.no HF.out.kept) n2 n3) ?_
  rintro e wk6 ⟨rfl, hk⟩
  have HF : Hid (Fq No w (wk6) [(gk1, 52, Mg.cells ⟨k, fr, too, op, rd, ky, st, hd, ⟨ba, bn, bk⟩, c, ⟨up, ⟨ea, en, ek⟩, ⟨la, ln, lk⟩⟩, ⟨ca, cn, ck⟩, mo⟩), (gk3, 52, Mg.cells ⟨k, fr, too, op, rd, ky, st, hd, ⟨bb, bn, bj⟩, c, ⟨up, ⟨eb, en, ej⟩, ⟨lb, ln, lj⟩⟩, ⟨cb, cn, cj⟩, mo⟩)]) := HF.out.no hk
  clear hk
  refine ⟨.bool true, rfl, ?_⟩
  try simp only [pS]
  refine uK (.bool true) <| uK (.bool true) <| uK (.pointer (some ⟨gk1, 28, none⟩)) <| uL 50 ⟨gk1, 28, none⟩ (.slice ca cn ck) (load_one ((HF.out.box 0 _ _ _ rfl).cell 28 |>.trans (by kernel_rfl)) U50 rfl) <| uK (.pointer (some ⟨gk3, 28, none⟩)) <| uL 50 ⟨gk3, 28, none⟩ (.slice cb cn cj) (load_one ((HF.out.box 1 _ _ _ rfl).cell 28 |>.trans (by kernel_rfl)) U50 rfl) <| ?_
  try simp only [pS]
  refine uC 37 #[.slice ca cn ck, .slice cb cn cj] (sameCm ca cb cn ck cj cs wk6 (H7.out.no HF.out.kept) (H8.out.no HF.out.kept) n4) ?_
  rintro e wk7 ⟨rfl, hk⟩
  have HF : Hid (Fq No w (wk7) [(gk1, 52, Mg.cells ⟨k, fr, too, op, rd, ky, st, hd, ⟨ba, bn, bk⟩, c, ⟨up, ⟨ea, en, ek⟩, ⟨la, ln, lk⟩⟩, ⟨ca, cn, ck⟩, mo⟩), (gk3, 52, Mg.cells ⟨k, fr, too, op, rd, ky, st, hd, ⟨bb, bn, bj⟩, c, ⟨up, ⟨eb, en, ej⟩, ⟨lb, ln, lj⟩⟩, ⟨cb, cn, cj⟩, mo⟩)]) := HF.out.no hk
  clear hk
  refine ⟨.bool true, rfl, ?_⟩
  try simp only [pS]
  refine uK (.bool true) <| uK (.bool true) <| WL.nil <| ?_
  try simp only [pS]
  go_wp2
  rw [HC.out]
  exact ⟨rfl, HF.out.kept⟩
/-- Messages alike: what they say, and their lists' contents. -/
structure LikeM (w : World) (m m' : Mg) : Prop where
  sc : m' = { m with bl := m'.bl, bk := ⟨m.bk.up, m'.bk.e, m'.bk.l⟩, cm := m'.cm }
  ex : ∃ zs es ls cs, RdB w m.bl zs ∧ RdB w m'.bl zs ∧ RdE w m.bk.e es ∧ RdE w m'.bk.e es ∧ RdL w m.bk.l ls ∧ RdL w m'.bk.l ls ∧ RdC w m.cm cs ∧ RdC w m'.cm cs
  n1 : m.bl.l ≤ 281474976710656
  n2 : m.bk.e.l ≤ 4000000000000
  n3 : m.bk.l.l ≤ 4000000000000
  n4 : m.cm.l ≤ 4000000000000
theorem LikeM.no {w w' : World} {m m' : Mg} (h : LikeM w m m') (hk : Kept No w w') : LikeM w' m m' := by
  obtain ⟨h1, ⟨zs, es, ls, cs, a1, a2, a3, a4, a5, a6, a7, a8⟩, n1, n2, n3, n4⟩ := h
  exact ⟨h1, ⟨zs, es, ls, cs, a1.no hk, a2.no hk, a3.no hk, a4.no hk, a5.no hk, a6.no hk, a7.no hk, a8.no hk⟩, n1, n2, n3, n4⟩
theorem sameMg {w : World} {m m' : Mg} (h : LikeM w m m') : Calls Try.prog 27 #[.agg (Mg.cells m), .agg (Mg.cells m')] w (fun e w' => e = .returned (.bool true) ∧ Kept No w w') := by
  obtain ⟨h1, ⟨zs, es, ls, cs, a1, a2, a3, a4, a5, a6, a7, a8⟩, n1, n2, n3, n4⟩ := h
  obtain ⟨k, fr, too, op, rd, ky, st, hd, ⟨ba, bn, bk⟩, c, ⟨up, ⟨ea, en, ek⟩, ⟨la, ln, lk⟩⟩, ⟨ca, cn, ck⟩, mo⟩ := m
  obtain ⟨k', fr', too', op', rd', ky', st', hd', ⟨ba', bn', bk'⟩, c', ⟨up', ⟨ea', en', ek'⟩, ⟨la', ln', lk'⟩⟩, ⟨ca', cn', ck'⟩, mo'⟩ := m'
  simp only [Mg.mk.injEq, Bv.mk.injEq] at h1
  obtain ⟨rfl, rfl, rfl, rfl, rfl, rfl, rfl, rfl, _, rfl, ⟨rfl, _, _⟩, _, rfl⟩ := h1
  have e1 : bn = bn' := a1.len.symm.trans a2.len
  have e2 : en = en' := a3.len.symm.trans a4.len
  have e3 : ln = ln' := a5.len.symm.trans a6.len
  have e4 : cn = cn' := a7.len.symm.trans a8.len
  subst e1 e2 e3 e4
  exact sameM0 _ _ _ _ _ _ _ _ _ _ _ _ _ _ _ _ _ _ _ _ _ _ _ _ _ _ _ _ _ _ _ zs es ls cs w a1 a2 a3 a4 a5 a6 a7 a8 n1 n2 n3 n4
set_option maxRecDepth 100000 in
set_option maxHeartbeats 4000000 in
theorem sameMs (sa ta : Option Addr) (n sk tk : Nat) (ms ms' : List Mg) (w : World) (hs : RdM w ⟨sa, n, sk⟩ ms) (ht : RdM w ⟨ta, n, tk⟩ ms') (hl : ∀ i : Nat, i < n → LikeM w (gAt ms i) (gAt ms' i)) (hn : n ≤ 4000000000000) : Calls Try.prog 10 #[.slice sa n sk, .slice ta n tk] w (fun e w' => e = .returned (.bool true) ∧ Kept No w w') := by
  obtain ⟨C, hC⟩ : ∃ C : Ending → World → Prop, C = (fun e w' => e = .returned (.bool true) ∧ Kept No w w') := ⟨_, rfl⟩
  have HC : Hid (C = (fun e w' => e = .returned (.bool true) ∧ Kept No w w')) := hC
  rw [← hC]
  clear hC
  have HS : Hid (RdM w ⟨sa, n, sk⟩ ms) := hs
  have HT : Hid (RdM w ⟨ta, n, tk⟩ ms') := ht
  have HL : Hid (∀ i : Nat, i < n → LikeM w (gAt ms i) (gAt ms' i)) := hl
  have hle : ms.length = n := hs.len
  have hle' : ms'.length = n := ht.len
  clear hs ht hl
  have HF : Hid (Fq No w w []) := Fq.start _ _
  go_enter Try.func10, Try.ntmps10
  go_upto_region 0 with fail
  refine WL.start <| uK (.bool false) <| WL.nil <| ?_
  try simp only [pS]
  go_upto_region 1 with fail
  refine WL.start <| uK (.slice sa n sk) <| uK (.int .i64 ((n : Nat) : Int)) <| uK (.slice ta n tk) <| uK (.int .i64 ((n : Nat) : Int)) <| uB .neq 3 (.int .i64 ((n : Nat) : Int)) (.int .i64 ((n : Nat) : Int)) (.bool false) (by rw [b_neq, beq_self_eq_true]; rfl) <| WL.nil <| ?_
  try simp only [pS]
  go_upto_region 3 with fail
  refine WL.start <| uK (.int .i64 0) <| WL.nil <| ?_
  try simp only [pS]
  go_wp2
  go_loopw [5] (fun v5 wr => ∃ i : Nat, v5 = .int .i64 ((i : Nat) : Int) ∧ i ≤ n ∧ Hid (Fq No w wr [])) (fun i _ => n - (intOf i).toNat)
  case atStart => exact ⟨0, by go_num, by omega, HF⟩
  case round =>
    clear HF
    obtain ⟨i, rfl, hi, HF⟩ := hrel
    by_cases hlt : i < n
    · skip
      obtain ⟨b, off, rfl, hc⟩ : ∃ b off, sa = some ⟨b, off, none⟩ ∧ ∀ (j : Nat) v, (gAt ms i).cs[j]? = some v → w.cell? ⟨b, off + i * 30 + j, none⟩ = some v := HS.out.at (i := i) (by omega)
      obtain ⟨b', off', rfl, hc'⟩ : ∃ b off, ta = some ⟨b, off, none⟩ ∧ ∀ (j : Nat) v, (gAt ms' i).cs[j]? = some v → w.cell? ⟨b, off + i * 30 + j, none⟩ = some v := HT.out.at (i := i) (by omega)
      have HLi : Hid (LikeM w (gAt ms i) (gAt ms' i)) := HL.out i hlt
      go_upto_region 4 with fail
      refine WL.start <| uK (.int .i64 ((i : Nat) : Int)) <| uK (.slice (some ⟨b, off, none⟩) n sk) <| uK (.int .i64 ((n : Nat) : Int)) <| uB .lss 3 (.int .i64 ((i : Nat) : Int)) (.int .i64 ((n : Nat) : Int)) (.bool true) (by rw [b_lss, decide_eq_true (by omega)]) <| WL.nil <| ?_
      try simp only [pS]
      go_upto_region 6 with fail
      refine wp_region_held_drew (S := fun w' => Fq No w w' []) rfl (HF.out.drew) (fun hH => ?_)
      have HF : Hid (Fq No w (wr.drew) []) := HF.out.drew
      generalize wr.drew = wk1 at HF hH ⊢
      refine xV 0 17 (.slice (some ⟨b, off, none⟩) n sk) hH <| xV 1 18 (.int .i64 ((i : Nat) : Int)) hH <| xU 2 19 (.pointer (some ⟨b, off + i * 30, none⟩)) (fun w' hw => exec_ixA 57 30 E71 F71 _ _ rfl b off n sk i (by kernel_rfl) (by kernel_rfl) (by omega)) hH <| xL 3 20 52 ⟨b, off + i * 30, none⟩ (.agg (Mg.cells (gAt ms i))) (fun _ hw => load_Ma (fun j v h => hw.kept.cell (hc j v h) (fun e => e))) hH <| xV 4 21 (.slice (some ⟨b', off', none⟩) n tk) hH <| xV 5 22 (.int .i64 ((i : Nat) : Int)) hH <| ?_
      try simp only [pS]
      refine xU 6 23 (.pointer (some ⟨b', off' + i * 30, none⟩)) (fun w' hw => exec_ixA 57 30 E71 F71 _ _ rfl b' off' n tk i (by kernel_rfl) (by kernel_rfl) (by omega)) hH <| xL 7 24 52 ⟨b', off' + i * 30, none⟩ (.agg (Mg.cells (gAt ms' i))) (fun _ hw => load_Ma (fun j v h => hw.kept.cell (hc' j v h) (fun e => e))) hH <| ?_
      try simp only [pS]
      refine xC 8 25 27 #[.agg (Mg.cells (gAt ms i)), .agg (Mg.cells (gAt ms' i))] (sameMg (HLi.out.no HF.out.kept)) ?_
      rintro e wk2 ⟨rfl, hk⟩
      have hH2 : Fq No w wk2 [] := hH.no hk
      have HF : Hid (Fq No w (wk2) []) := HF.out.no hk
      clear hk
      refine ⟨.bool true, rfl, hH2, fun hH => ?_⟩
      clear hH2
      try simp only [pS]
      refine xV 9 26 (.bool false) hH ?_
      try simp only [pS]
      refine wpAnyH_done (by kernel_rfl) ?_ _
      try simp only [pS]
      clear hH
      go_upto_region 5 with fail
      refine WL.start <| uK (.int .i64 ((i : Nat) : Int)) <| uB .add 3 (.int .i64 ((i : Nat) : Int)) (.int .i64 1) (.int .i64 (((i + 1) : Nat) : Int)) (b_addw _ _ _ (by rw [IntKind.wrap_i64]; omega) _) <| uK (.int .i64 (((i + 1) : Nat) : Int)) <| WL.nil <| ?_
      try simp only [pS]
      go_wp2
      go_roundw
      case rel => exact ⟨i + 1, by go_num, by omega, HF⟩
      case measure => simp [intOf]; omega
    · skip
      go_upto_region 4 with fail
      refine WL.start <| uK (.int .i64 ((i : Nat) : Int)) <| uK (.slice sa n sk) <| uK (.int .i64 ((n : Nat) : Int)) <| uB .lss 3 (.int .i64 ((i : Nat) : Int)) (.int .i64 ((n : Nat) : Int)) (.bool false) (by rw [b_lss, decide_eq_false (by omega)]) <| WL.nil <| ?_
      try simp only [pS]
      go_upto_region 8 with fail
      refine WL.start <| uK (.bool true) <| WL.nil <| ?_
      try simp only [pS]
      go_wp2
      rw [HC.out]
      exact ⟨rfl, HF.out.kept⟩

end Go.Proofs.Ythnecaejhnojfaa.Md
namespace Go.Proofs.Ythnecaejhnojfaa.Md
open Go.RowKit
set_option linter.unusedVariables false
set_option linter.unusedSimpArgs false

/-- A message and what its lists hold. -/
structure MgIn (w : World) (m : Mg) (zs : List Int) (es : List En) (ls : List La) (cs : List Cm) : Prop where
  b : RdB w m.bl zs
  e : RdE w m.bk.e es
  l : RdL w m.bk.l ls
  c : RdC w m.cm cs
  nb : m.bl.l ≤ 140737488351232
  ne : m.bk.e.l ≤ 3518437208780
  nl : m.bk.l.l ≤ 2513169434843
  nc : m.cm.l ≤ 1759218604390
theorem MgIn.no {w w' : World} {m : Mg} {zs : List Int} {es : List En} {ls : List La} {cs : List Cm} (H : MgIn w m zs es ls cs) (hk : Kept No w w') : MgIn w' m zs es ls cs := ⟨H.b.no hk, H.e.no hk, H.l.no hk, H.c.no hk, H.nb, H.ne, H.nl, H.nc⟩
structure Len (w : World) (base : Nat) (m : Mg) (zs : List Int) (es : List En) (ls : List La) (cs : List Cm) (gb : Nat) (e l c : Sl) : Prop where
  b : Blk w gb (lent zs 5)
  bb : base ≤ gb
  e : OwE w base e es
  l : OwL w base l ls
  c : OwC w base c cs
theorem Len.kept {S : Nat → Prop} {w w' : World} {base : Nat} {m : Mg} {zs : List Int} {es : List En} {ls : List La} {cs : List Cm} {gb : Nat} {e l c : Sl} (h : Len w base m zs es ls cs gb e l c) (hk : Kept S w w') (hS : ∀ k, base ≤ k → ¬ S k) : Len w' base m zs es ls cs gb e l c :=
  ⟨(hk.block gb (Array.getElem?_eq_some_iff.1 h.b).1 (hS gb h.bb)).trans h.b, h.bb, h.e.kept hk (fun k e => hS k (h.e.own.base e)), h.l.kept hk (fun k e => hS k (h.l.own.base e)), ⟨h.c.own.kept hk (fun k e => hS k (h.c.own.base e)), h.c.len⟩⟩
end Go.Proofs.Ythnecaejhnojfaa.Md
namespace Go.Proofs.Ythnecaejhnojfaa.Md
open Go.RowKit
set_option linter.unusedVariables false
set_option linter.unusedSimpArgs false

theorem OwC.rd {w : World} {base : Nat} {s : Sl} {es : List Cm} (h : OwC w base s es) : RdC w s es := ⟨Own.rows h.own (cmL_c es) (by omega), h.len, h.own.cap0⟩
theorem _root_.Go.Proofs.Ythnecaejhnojfaa.Nums.kept0 {q : IntKind} {S : Nat → Prop} {w w' : World} {a : Option Addr} {zs : List Int} (h : Nums q w a zs) (hk : Kept S w w') (hS : zs ≠ [] → ∀ b off, a = some ⟨b, off, none⟩ → ¬ S b) : Nums q w' a zs := by
  cases zs with
  | nil => intro i hi; simp at hi
  | cons z l => exact h.kept hk (hS (by simp))
theorem RowsAt.kept0 {n : Nat} {S : Nat → Prop} {w w' : World} {a : Option Addr} {xs : List (List Value)} (h : RowsAt n w a xs) (hk : Kept S w w') (hS : xs ≠ [] → ∀ k, At a k → ¬ S k) : RowsAt n w' a xs := by
  cases xs with
  | nil => intro i it hi; simp at hi
  | cons z l => exact h.kept hk (hS (by simp))
theorem RdB.kept0 {S : Nat → Prop} {w w' : World} {s : Sl} {bs : List Int} (h : RdB w s bs) (hk : Kept S w w') (hS : bs ≠ [] → ∀ k, At s.a k → ¬ S k) : RdB w' s bs := ⟨h.row.kept0 hk (fun hne b off e => hS hne b ⟨_, e, rfl⟩), h.len, h.cap⟩
def LB (gb : Nat) (E L C : Sl) : Nat → Prop := fun k => k = gb ∨ At E.a k ∨ At L.a k ∨ At C.a k
theorem Fq.wr {S : Nat → Prop} {w0 w : World} {l : List (Nat × TypeId × Array Value)} (h : Fq S w0 w l) {g : Nat} {T : TypeId} {c0 : Array Value} (hb : Box w g T c0) (hg : S g) (hT : ∀ x ∈ l, x.2.1 ≠ T) (cs : Array Value) : Fq S w0 (w.setRow g cs) l :=
  ⟨kept_row h.kept (.inr hg) cs, fun i g' T' cs' hi => (h.box i g' T' cs' hi).rowNe (box_ne (h.box i g' T' cs' hi) hb (hT _ (List.mem_of_getElem? hi))) _, h.low, h.inj⟩
end Go.Proofs.Ythnecaejhnojfaa.Md
namespace Go.Proofs.Ythnecaejhnojfaa.Md
open Go.RowKit
set_option linter.unusedVariables false
set_option linter.unusedSimpArgs false

theorem U56 : Try.prog.underlying 56 = some (.slice 57) := by kernel_rfl
theorem E56 : Try.prog.underlying 56 = some (.slice (Try.prog.elem 56)) := by kernel_rfl
theorem F56 : (Try.prog.info? (Try.prog.elem 56)).map (·.size) = some 1 := by kernel_rfl
theorem I71 : (Try.prog.info? 57).map (fun i => (i.zero, i.size, i.bytes)) = some (some (.slice none 0 0), 1, 24) := by kernel_rfl
theorem E57m : Try.prog.underlying 57 = some (.slice (Try.prog.elem 57)) := by kernel_rfl
theorem F57m : (Try.prog.info? (Try.prog.elem 57)).map (·.size) = some 30 := by kernel_rfl
def mk (kind op : Int) : Mg := { mgZ with k := kind, op := op }
def news (i m : Nat) : List Mg := (List.range m).map (fun (k : Nat) => mk (-1 - (i : Int)) (k : Int))
theorem news_snoc (i m : Nat) : news i (m + 1) = news i m ++ [mk (-1 - (i : Int)) (m : Int)] := by unfold news; rw [List.range_succ, List.map_append]; rfl
theorem news_len (i m : Nat) : (news i m).length = m := by simp [news]
theorem news_at {i m k : Nat} (h : k < m) : (news i m)[k]? = some (mk (-1 - (i : Int)) (k : Int)) := by unfold news; rw [List.getElem?_map, List.getElem?_range h]; rfl
/-- Marked as the i-th list. -/
def Mkd (i : Nat) (x : It) (k : Nat) : Prop := ∀ q, q < k → x.ms[q]? = some (mk (500 + (i : Int)) (q : Int))
def Raw (x : It) : Prop := x.a2 = none ∧ x.ms2 = [] ∧ x.c2 = 0
def P1 (i : Nat) (X : List It) : Prop := ∀ (j : Nat) x, X[j]? = some x → Raw x ∧ (j < i → Mkd j x x.ms.length)
def P2 (i : Nat) (X : List It) : Prop := ∀ (j : Nat) x, X[j]? = some x → Mkd j x x.ms.length ∧ (j < i → x.ms2 = x.ms ++ news j 40) ∧ (i ≤ j → Raw x)
theorem ty_ne' {w : World} {k : Nat} (h : ∃ cs, Box w k 52 cs) (h' : ∃ cs, Box w k 57 cs) : False := by
  obtain ⟨_, h⟩ := h; obtain ⟨_, h'⟩ := h'
  unfold Box at h h'
  rw [h] at h'
  cases h'
theorem sl_v {s : Sl} {g o : Nat} (h : s.a = some ⟨g, o, none⟩) : s.v = .slice (some ⟨g, o, none⟩) s.l s.k := by unfold Sl.v; rw [h]
theorem own_at {t : TypeId} {c : Nat} {w : World} {base : Nat} {a : Option Addr} {cap n : Nat} {vs : List Value} (h : Own t c w base a cap n vs) (h0 : 0 < n) : ∃ g, a = some ⟨g, 0, none⟩ := by
  rcases h.cases h.1 with ⟨_, _, e⟩ | ⟨g, e, _⟩
  · omega
  · exact ⟨g, e⟩
theorem own_cell {α : Type} {T : TypeId} {c : Nat} {W : World} {base n k g : Nat} {a : Option Addr} {f : α → List Value} {xs : List α} (h : Own T c W base a k n (xs.map f).flatten) (ha : a = some ⟨g, 0, none⟩) (hc : ∀ x ∈ xs.map f, x.length = c) (h0 : 0 < c) {i : Nat} {e : α} (hi : xs[i]? = some e) : ∀ (j : Nat) v, (f e)[j]? = some v → W.cell? ⟨g, 0 + i * c + j, none⟩ = some v := by
  obtain ⟨b, off, e1, e2⟩ := Own.rows h hc h0 i (f e) (by rw [List.getElem?_map, hi]; rfl)
  rw [ha] at e1
  cases e1
  exact e2
theorem own_c1 {T : TypeId} {W : World} {base n k g i : Nat} {a : Option Addr} {vs : List Value} {u : Value} (h : Own T 1 W base a k n vs) (ha : a = some ⟨g, 0, none⟩) (hu : vs[i]? = some u) : W.cell? ⟨g, 0 + i * 1, none⟩ = some u := by
  have e : ∀ l : List Value, (l.map (fun z => [z])).flatten = l := fun l => by induction l with
    | nil => rfl
    | cons a l ih => simp only [List.map_cons, List.flatten_cons, ih]; rfl
  have h' : Own T 1 W base a k n (vs.map (fun z => [z])).flatten := by rw [e]; exact h
  have := own_cell h' ha (by intro x hx; obtain ⟨z, _, rfl⟩ := List.mem_map.1 hx; rfl) (by decide) hu 0 u rfl
  rwa [Nat.add_zero] at this
theorem load_part {w : World} {b o n T : Nat} {cs sub : List Value} {d : TypeDesc} (hc : ∀ (j : Nat) v, cs[j]? = some v → w.cell? ⟨b, o + j, none⟩ = some v) (hp : Part cs n sub) (hu : Try.prog.underlying T = some d) (hd : (match d with | .struct _ | .array _ _ => true | _ => false) = true) (hs : (Try.prog.info? T).map (·.size) = some sub.length) : (loadVar T ⟨b, o + n, none⟩).run Try.prog w = .ok (.agg sub.toArray) w := by
  have h := load_at (n := 0) (b := b) (off := o + n) (i := 0) (it := sub) (w := w) (fun j v hv => by rw [Nat.zero_mul, Nat.add_zero, Nat.add_assoc]; exact hc (n + j) v (hp j v hv)) hu hd hs
  rwa [Nat.zero_mul, Nat.add_zero] at h
/-- What grownMsgs holds; S: what it may write to of what was there. -/
structure Gm (S : Nat → Prop) (w W : World) (t mo : Sl) (X : List It) (n2 : Nat) (l : List (Nat × TypeId × Array Value)) : Prop where
  ks : Ks W 0 X
  ra : Own 57 1 W 0 t.a t.k t.l (X.map It.v)
  rm : Own 57 1 W w.heap.size mo.a mo.k mo.l ((X.take n2).map It.v2)
  ap : ∀ k, At t.a k → ¬ At mo.a k
  fr : Fq S w W l
  so : ∀ (j : Nat) x, X[j]? = some x → ∀ k, x.at k → w.heap.size ≤ k ∨ S k
  li : ∀ (i : Nat) g ty cs, l[i]? = some (g, ty, cs) → w.heap.size ≤ g ∧ (∀ (j : Nat) x, X[j]? = some x → ¬ x.at g) ∧ ¬ At t.a g ∧ ¬ At mo.a g
section
variable {S : Nat → Prop} {w W W2 : World} {t mo : Sl} {X : List It} {n2 : Nat} {l l2 : List (Nat × TypeId × Array Value)}
theorem Gm.box (G : Gm S w W t mo X n2 l) : ∀ (i : Nat) g T cs, l[i]? = some (g, T, cs) → Box W g T cs := G.fr.box
theorem Gm.ne (G : Gm S w W t mo X n2 l) (i j : Nat) {g g' : Nat} {T T' : TypeId} {cs cs' : Array Value} (hi : l[i]? = some (g, T, cs)) (hj : l[j]? = some (g', T', cs')) (hne : i ≠ j) : g ≠ g' := G.fr.ne i j hi hj hne
theorem Gm.no (G : Gm S w W t mo X n2 l) (hk : Kept No W W2) : Gm S w W2 t mo X n2 l := ⟨G.ks.no hk, Own.no G.ra hk, Own.no G.rm hk, G.ap, G.fr.no hk, G.so, G.li⟩
theorem Gm.front (G : Gm S w W t mo X n2 (l ++ l2)) : Gm S w W t mo X n2 l := ⟨G.ks, G.ra, G.rm, G.ap, G.fr.front, G.so, fun i g ty cs hi => G.li i g ty cs (by rw [List.getElem?_append_left (List.getElem?_eq_some_iff.1 hi).1]; exact hi)⟩
theorem Gm.alloc (G : Gm S w W t mo X n2 l) (ty : TypeId) (cs : Array Value) : Gm S w (W.alloc (.cells cs ty)) t mo X n2 (l ++ [(W.heap.size, ty, cs)]) := by
  have hk : Kept No W (W.alloc (.cells cs ty)) := (Kept.refl No W).alloc _
  refine ⟨G.ks.no hk, Own.no G.ra hk, Own.no G.rm hk, G.ap, G.fr.alloc ty cs, G.so, fun i g t' cs' hi => ?_⟩
  rw [List.getElem?_append] at hi
  split at hi
  · exact G.li i g t' cs' hi
  · have := List.mem_of_getElem? hi
    simp at this
    obtain ⟨rfl, _, _⟩ := this
    exact ⟨G.fr.kept.size, fun j x hx e => by have := (G.ks.ok j x hx).lt e; omega, fun e => by have := Own.lt G.ra e; omega, fun e => by have := Own.lt G.rm e; omega⟩
theorem Gm.set (G : Gm S w W t mo X n2 l) (i : Nat) {g : Nat} {ty : TypeId} {cs : Array Value} (hi : l[i]? = some (g, ty, cs)) (cs' : Array Value) : Gm S w (W.setRow g cs') t mo X n2 (l.set i (g, ty, cs')) := by
  have hk : Kept (Only g) W (W.setRow g cs') := Kept.setRow W g cs'
  obtain ⟨h1, h2, h3, h4⟩ := G.li i g ty cs hi
  refine ⟨G.ks.kept hk (fun j x hx k e f => h2 j x hx ((show k = g from f) ▸ e)), Own.kept G.ra hk (fun k e f => h3 ((show k = g from f) ▸ e)), Own.kept G.rm hk (fun k e f => h4 ((show k = g from f) ▸ e)), G.ap, G.fr.set i hi cs', G.so, fun j g1 t1 cs1 hj => ?_⟩
  rw [List.getElem?_set] at hj
  split at hj
  · rename_i hij
    split at hj
    · cases hj
      exact ⟨h1, h2, h3, h4⟩
    · cases hj
  · exact G.li j g1 t1 cs1 hj
/-- A list is written over or grown. -/
theorem Gm.upd (G : Gm S w W t mo X n2 l) {i : Nat} {x x' : It} (hi : X[i]? = some x) (hn : n2 ≤ i) (hk : Kept x.at W W2) (hx' : ItOk W2 0 x') (hat : ∀ k, x'.at k → x.at k ∨ W.heap.size ≤ k) (hv : x'.v = x.v) : Gm S w W2 t mo (X.set i x') n2 l := by
  have hty : ∀ k, x.at k → ∃ cs, Box W k 52 cs := fun k e => G.ks.ty hi e
  have e1 : (X.set i x').map It.v = X.map It.v := by
    rw [List.map_set, hv]
    refine List.ext_getElem? (fun j => ?_)
    rw [List.getElem?_set]
    split
    · rename_i e
      subst e
      rw [List.getElem?_map, hi]
      split
      · rfl
      · rename_i h; exact absurd (by rw [List.length_map]; exact (List.getElem?_eq_some_iff.1 hi).1) h
    · rfl
  have e2 : (X.set i x').take n2 = X.take n2 := List.take_set_of_le hn
  refine ⟨G.ks.upd hi hk hx' hat, by rw [e1]; exact Own.kept G.ra hk (fun k e f => ty_ne' (hty k f) (Own.ty G.ra e)), by rw [e2]; exact Own.kept G.rm hk (fun k e f => ty_ne' (hty k f) (Own.ty G.rm e)), G.ap, ⟨G.fr.kept.trans hk (fun _ e => e) (fun k hl e => (G.so i x hi k e).elim (fun h => absurd hl (by omega)) id), fun j g ty cs hj => (G.fr.box j g ty cs hj).kept hk ((G.li j g ty cs hj).2.1 i x hi), G.fr.low, G.fr.inj⟩, fun q y hy k e => ?_, fun j g ty cs hj => ⟨(G.li j g ty cs hj).1, fun q y hy e => ?_, (G.li j g ty cs hj).2.2⟩⟩
  · rw [List.getElem?_set] at hy
    split at hy
    · split at hy
      · cases hy
        exact (hat k e).elim (G.so i x hi k) (fun h => .inl (Nat.le_trans G.fr.kept.size h))
      · cases hy
    · exact G.so q y hy k e
  · rw [List.getElem?_set] at hy
    split at hy
    · rename_i hq
      split at hy
      · cases hy
        exact (hat g e).elim ((G.li j g ty cs hj).2.1 i x hi) (fun h => by have := (G.fr.box j g ty cs hj).lt; omega)
      · cases hy
    · exact (G.li j g ty cs hj).2.1 q y hy e
theorem Gm.store (G : Gm S w W t mo X n2 l) {i : Nat} {x : It} (hi : X[i]? = some x) (hn : n2 ≤ i) (hr : Raw x) {k g : Nat} (hk : k < x.ms.length) (hg : x.a = some ⟨g, 0, none⟩) (y : Mg) :
    ∃ cs', (storeVar 52 ⟨g, 0 + k * 30, none⟩ (.agg y.cells)).run Try.prog W = .ok () (W.setRow g cs') ∧ Gm S w (W.setRow g cs') t mo (X.set i { x with ms := x.ms.set k y }) n2 l := by
  have ho := (G.ks.ok i x hi).own
  obtain ⟨cs', h1, h2⟩ := Own.setN (ty := 52) (xs := x.ms.map Mg.cs) ho (mgL_c x.ms) (by rw [List.length_map]) hk hg (v := .agg y.cells) (y := y.cs) rfl S52 y.oneL rfl
  rw [← List.map_set] at h2
  refine ⟨cs', h1, G.upd hi hn ((Kept.setRow W g cs').mono (fun q _ e => .inl ⟨_, hg, (show q = g from e).symm⟩)) ⟨by rw [List.length_set]; exact h2, ?_⟩ (fun q e => .inl e) (by unfold It.v; rw [List.length_set])⟩
  show Own 52 30 _ 0 x.a2 x.c2 x.ms2.length (mgL x.ms2)
  rw [hr.1, hr.2.1, hr.2.2]
  exact Own.nil _ _ _ _
/-- The grown list is kept. -/
theorem Gm.push (G : Gm S w W t mo X n2 l) {x : It} (hi : X[n2]? = some x) (hl : mo.l ≤ 1000000) {g cc : Nat} (hb : Box W g 57 #[x.v2]) :
    ∃ a1 k1 W2, (Builtin.append_ #[56, 56] 56 #[mo.v, .slice (some ⟨g, 0, none⟩) 1 cc]).run Try.prog W = .ok (.slice a1 (mo.l + 1) k1) W2 ∧ Gm S w W2 t ⟨a1, mo.l + 1, k1⟩ X (n2 + 1) [] := by
  obtain ⟨a1, k1, W2, h, ho, hk, hn⟩ := run_appN (w := W) 56 56 57 1 24 (.slice none 0 0) U56 I71 rfl (by decide) w.heap.size mo.l mo.k mo.a _ G.rm (some ⟨g, 0, none⟩) 1 cc [x.v2] rfl (fun e => by cases e) (fun j u hj => ⟨_, rfl, by rw [addr_add, Nat.zero_add, hb.cell]; simpa using hj⟩) (by simp [It.v2, Value.oneCell']) (by omega) (by omega) G.fr.kept.size
  have e1 : (X.take n2).map It.v2 ++ [x.v2] = (X.take (n2 + 1)).map It.v2 := by rw [List.take_add_one, hi, List.map_append]; rfl
  rw [e1] at ho
  refine ⟨a1, k1, W2, h, G.ks.kept hk (fun j y hy k e f => ty_ne' (G.ks.ty hy e) (Own.ty G.rm f)), Own.kept G.ra hk (fun k e f => G.ap k e f), ho, fun k e f => (hn k f).elim (G.ap k e) (fun r => by have := Own.lt G.ra e; omega), ⟨G.fr.kept.trans hk (fun _ e => e) (fun k hl e => by have := Own.base G.rm e; omega), by simp, by simp, by simp⟩, G.so, by simp⟩
theorem Gm.start (hk : Ks w 0 X) (ha : Own 57 1 w 0 t.a t.k t.l (X.map It.v)) (hS : ∀ (j : Nat) x, X[j]? = some x → ∀ k, x.at k → S k) : Gm S w w t slZ X 0 [] := ⟨hk, ha, Own.nil _ _ _ _, fun _ _ e => At.none e, Fq.start _ _, fun j x hx k e => .inr (hS j x hx k e), by simp⟩
theorem Gm.xl (G : Gm S w W t mo X n2 l) : X.length = t.l := by have := G.ra.1; rw [List.length_map] at this; omega
end
def GrO (S : Nat → Prop) (w : World) (e : Ending) (w' : World) : Prop := e = .returned (.bool true) ∧ Kept S w w'

end Go.Proofs.Ythnecaejhnojfaa.Md
