import Derived.Test.YtgiokkcdgoloaaaSa
namespace Go.Proofs.Ytgiokkcdgoloaaa.Md
open Go.RowKit
set_option linter.unusedVariables false
set_option linter.unusedSimpArgs false

set_option maxRecDepth 100000 in
set_option maxHeartbeats 4000000 in
theorem sameM0 (k op rd up : Int) (fr too : Ad) (ky : Ky) (st hd : Sp) (c : Cm) (mo : Bool) (ba bb ea eb la lb ca cb : Option Addr) (bn bk bj en ek ej ln lk lj cn ck cj : Nat) (zs : List Int) (es : List En) (ls : List La) (cs : List Cm) (w : World) (h1 : RdB w ⟨ba, bn, bk⟩ zs) (h2 : RdB w ⟨bb, bn, bj⟩ zs) (h3 : RdE w ⟨ea, en, ek⟩ es) (h4 : RdE w ⟨eb, en, ej⟩ es) (h5 : RdL w ⟨la, ln, lk⟩ ls) (h6 : RdL w ⟨lb, ln, lj⟩ ls) (h7 : RdC w ⟨ca, cn, ck⟩ cs) (h8 : RdC w ⟨cb, cn, cj⟩ cs) (n1 : bn ≤ 281474976710656) (n2 : en ≤ 4000000000000) (n3 : ln ≤ 4000000000000) (n4 : cn ≤ 4000000000000) : Calls Try.prog 52 #[.agg (Mg.cells ⟨k, fr, too, op, rd, ky, st, hd, ⟨ba, bn, bk⟩, c, ⟨up, ⟨ea, en, ek⟩, ⟨la, ln, lk⟩⟩, ⟨ca, cn, ck⟩, mo⟩), .agg (Mg.cells ⟨k, fr, too, op, rd, ky, st, hd, ⟨bb, bn, bj⟩, c, ⟨up, ⟨eb, en, ej⟩, ⟨lb, ln, lj⟩⟩, ⟨cb, cn, cj⟩, mo⟩)] w (fun e w' => e = .returned (.bool true) ∧ Kept No w w') := by
  obtain ⟨C, hC⟩ : ∃ C : Ending → World → Prop, C = (fun e w' => e = .returned (.bool true) ∧ Kept No w w') := ⟨_, rfl⟩
  have HC : Hid (C = (fun e w' => e = .returned (.bool true) ∧ Kept No w w')) := hC
  rw [← hC]
  clear hC
  have hz : zs.length = bn := h1.len
  have H1 : Hid (Nums .u8 w ba zs) := h1.row
  have H2 : Hid (Nums .u8 w bb zs) := h2.row
  have H3 : Hid (RdE w ⟨ea, en, ek⟩ es) := h3
  have H4 : Hid (RdE w ⟨eb, en, ej⟩ es) := h4
  have H5 : Hid (RdL w ⟨la, ln, lk⟩ ls) := h5
  have H6 : Hid (RdL w ⟨lb, ln, lj⟩ ls) := h6
  have H7 : Hid (RdC w ⟨ca, cn, ck⟩ cs) := h7
  have H8 : Hid (RdC w ⟨cb, cn, cj⟩ cs) := h8
  clear h1 h2 h3 h4 h5 h6 h7 h8
  have HF : Hid (Fq No w w []) := Fq.start _ _
  go_enter Try.func52, Try.ntmps52
  go_upto_region 0 with fail
  refine WL.start ?_
  refine uR (.pointer (some ⟨w.heap.size, 0, none⟩)) (w.alloc (.cells (Mg.cells ⟨k, fr, too, op, rd, ky, st, hd, ⟨ba, bn, bk⟩, c, ⟨up, ⟨ea, en, ek⟩, ⟨la, ln, lk⟩⟩, ⟨ca, cn, ck⟩, mo⟩) 52)) (exec_box 52 _ rfl (Mg.cells ⟨k, fr, too, op, rd, ky, st, hd, ⟨ba, bn, bk⟩, c, ⟨up, ⟨ea, en, ek⟩, ⟨la, ln, lk⟩⟩, ⟨ca, cn, ck⟩, mo⟩) (by kernel_rfl)) ?_
  try simp only [pS]
  have HF : Hid (Fq No w (w.alloc (.cells (Mg.cells ⟨k, fr, too, op, rd, ky, st, hd, ⟨ba, bn, bk⟩, c, ⟨up, ⟨ea, en, ek⟩, ⟨la, ln, lk⟩⟩, ⟨ca, cn, ck⟩, mo⟩) 52)) [(w.heap.size, 52, Mg.cells ⟨k, fr, too, op, rd, ky, st, hd, ⟨ba, bn, bk⟩, c, ⟨up, ⟨ea, en, ek⟩, ⟨la, ln, lk⟩⟩, ⟨ca, cn, ck⟩, mo⟩)]) := HF.out.alloc _ _
  generalize w.alloc (.cells (Mg.cells ⟨k, fr, too, op, rd, ky, st, hd, ⟨ba, bn, bk⟩, c, ⟨up, ⟨ea, en, ek⟩, ⟨la, ln, lk⟩⟩, ⟨ca, cn, ck⟩, mo⟩) 52) = wk2 at HF ⊢
  generalize w.heap.size = gk1 at HF ⊢
  refine uR (.pointer (some ⟨wk2.heap.size, 0, none⟩)) (wk2.alloc (.cells (Mg.cells ⟨k, fr, too, op, rd, ky, st, hd, ⟨bb, bn, bj⟩, c, ⟨up, ⟨eb, en, ej⟩, ⟨lb, ln, lj⟩⟩, ⟨cb, cn, cj⟩, mo⟩) 52)) (exec_box 52 _ rfl (Mg.cells ⟨k, fr, too, op, rd, ky, st, hd, ⟨bb, bn, bj⟩, c, ⟨up, ⟨eb, en, ej⟩, ⟨lb, ln, lj⟩⟩, ⟨cb, cn, cj⟩, mo⟩) (by kernel_rfl)) ?_
  try simp only [pS]
  have HF : Hid (Fq No w (wk2.alloc (.cells (Mg.cells ⟨k, fr, too, op, rd, ky, st, hd, ⟨bb, bn, bj⟩, c, ⟨up, ⟨eb, en, ej⟩, ⟨lb, ln, lj⟩⟩, ⟨cb, cn, cj⟩, mo⟩) 52)) [(gk1, 52, Mg.cells ⟨k, fr, too, op, rd, ky, st, hd, ⟨ba, bn, bk⟩, c, ⟨up, ⟨ea, en, ek⟩, ⟨la, ln, lk⟩⟩, ⟨ca, cn, ck⟩, mo⟩), (wk2.heap.size, 52, Mg.cells ⟨k, fr, too, op, rd, ky, st, hd, ⟨bb, bn, bj⟩, c, ⟨up, ⟨eb, en, ej⟩, ⟨lb, ln, lj⟩⟩, ⟨cb, cn, cj⟩, mo⟩)]) := HF.out.alloc _ _
  generalize wk2.alloc (.cells (Mg.cells ⟨k, fr, too, op, rd, ky, st, hd, ⟨bb, bn, bj⟩, c, ⟨up, ⟨eb, en, ej⟩, ⟨lb, ln, lj⟩⟩, ⟨cb, cn, cj⟩, mo⟩) 52) = wk4 at HF ⊢
  generalize wk2.heap.size = gk3 at HF ⊢
  refine uK (.bool false) <| WL.nil <| ?_
  try simp only [pS]
  go_upto_region 1 with fail
  refine WL.start <| uK (.pointer (some ⟨gk1, 0, none⟩)) <| uL 3 ⟨gk1, 0, none⟩ (.int .i64 k) (load_one ((HF.out.box 0 _ _ _ rfl).cell 0 |>.trans (by kernel_rfl)) U3 rfl) <| uK (.pointer (some ⟨gk3, 0, none⟩)) <| uL 3 ⟨gk3, 0, none⟩ (.int .i64 k) (load_one ((HF.out.box 1 _ _ _ rfl).cell 0 |>.trans (by kernel_rfl)) U3 rfl) <| uB .eql 3 (.int .i64 k) (.int .i64 k) (.bool true) (by rw [b_eql, beq_self_eq_true]) <| uK (.bool true) <| uK (.pointer (some ⟨gk1, 1, none⟩)) <| ?_
  try simp only [pS]
  refine uL 39 ⟨gk1, 1, none⟩ (.agg (Ad.cells fr)) (run_load_part (cs := Mg.cs ⟨k, fr, too, op, rd, ky, st, hd, ⟨ba, bn, bk⟩, c, ⟨up, ⟨ea, en, ek⟩, ⟨la, ln, lk⟩⟩, ⟨ca, cn, ck⟩, mo⟩) (sub := Ad.cs fr) (HF.out.box 0 _ _ _ rfl) (part_of (by kernel_rfl)) U39 rfl S39) <| uK (.pointer (some ⟨gk3, 1, none⟩)) <| uL 39 ⟨gk3, 1, none⟩ (.agg (Ad.cells fr)) (run_load_part (cs := Mg.cs ⟨k, fr, too, op, rd, ky, st, hd, ⟨bb, bn, bj⟩, c, ⟨up, ⟨eb, en, ej⟩, ⟨lb, ln, lj⟩⟩, ⟨cb, cn, cj⟩, mo⟩) (sub := Ad.cs fr) (HF.out.box 1 _ _ _ rfl) (part_of (by kernel_rfl)) U39 rfl S39) <| uB .eql 39 (.agg (Ad.cells fr)) (.agg (Ad.cells fr)) (.bool true) (by rw [eqA_eql, eqA_refl]) <| uK (.bool true) <| uK (.bool true) <| uK (.pointer (some ⟨gk1, 3, none⟩)) <| uL 39 ⟨gk1, 3, none⟩ (.agg (Ad.cells too)) (run_load_part (cs := Mg.cs ⟨k, fr, too, op, rd, ky, st, hd, ⟨ba, bn, bk⟩, c, ⟨up, ⟨ea, en, ek⟩, ⟨la, ln, lk⟩⟩, ⟨ca, cn, ck⟩, mo⟩) (sub := Ad.cs too) (HF.out.box 0 _ _ _ rfl) (part_of (by kernel_rfl)) U39 rfl S39) <| ?_
  try simp only [pS]
  refine uK (.pointer (some ⟨gk3, 3, none⟩)) <| uL 39 ⟨gk3, 3, none⟩ (.agg (Ad.cells too)) (run_load_part (cs := Mg.cs ⟨k, fr, too, op, rd, ky, st, hd, ⟨bb, bn, bj⟩, c, ⟨up, ⟨eb, en, ej⟩, ⟨lb, ln, lj⟩⟩, ⟨cb, cn, cj⟩, mo⟩) (sub := Ad.cs too) (HF.out.box 1 _ _ _ rfl) (part_of (by kernel_rfl)) U39 rfl S39) <| uB .eql 39 (.agg (Ad.cells too)) (.agg (Ad.cells too)) (.bool true) (by rw [eqA_eql, eqA_refl]) <| uK (.bool true) <| uK (.bool true) <| uK (.pointer (some ⟨gk1, 5, none⟩)) <| uL 3 ⟨gk1, 5, none⟩ (.int .i64 op) (load_one ((HF.out.box 0 _ _ _ rfl).cell 5 |>.trans (by kernel_rfl)) U3 rfl) <| uK (.pointer (some ⟨gk3, 5, none⟩)) <| ?_
  try simp only [pS]
  refine uL 3 ⟨gk3, 5, none⟩ (.int .i64 op) (load_one ((HF.out.box 1 _ _ _ rfl).cell 5 |>.trans (by kernel_rfl)) U3 rfl) <| uB .eql 3 (.int .i64 op) (.int .i64 op) (.bool true) (by rw [b_eql, beq_self_eq_true]) <| uK (.bool true) <| uK (.bool true) <| uK (.pointer (some ⟨gk1, 6, none⟩)) <| uL 3 ⟨gk1, 6, none⟩ (.int .i64 rd) (load_one ((HF.out.box 0 _ _ _ rfl).cell 6 |>.trans (by kernel_rfl)) U3 rfl) <| uK (.pointer (some ⟨gk3, 6, none⟩)) <| uL 3 ⟨gk3, 6, none⟩ (.int .i64 rd) (load_one ((HF.out.box 1 _ _ _ rfl).cell 6 |>.trans (by kernel_rfl)) U3 rfl) <| ?_
  try simp only [pS]
  refine uB .eql 3 (.int .i64 rd) (.int .i64 rd) (.bool true) (by rw [b_eql, beq_self_eq_true]) <| uK (.bool true) <| uK (.bool true) <| uK (.pointer (some ⟨gk1, 7, none⟩)) <| uL 23 ⟨gk1, 7, none⟩ (.agg (Ky.cells ky)) (run_load_part (cs := Mg.cs ⟨k, fr, too, op, rd, ky, st, hd, ⟨ba, bn, bk⟩, c, ⟨up, ⟨ea, en, ek⟩, ⟨la, ln, lk⟩⟩, ⟨ca, cn, ck⟩, mo⟩) (sub := Ky.cs ky) (HF.out.box 0 _ _ _ rfl) (part_of (by kernel_rfl)) U23 rfl S23) <| uK (.pointer (some ⟨gk3, 7, none⟩)) <| uL 23 ⟨gk3, 7, none⟩ (.agg (Ky.cells ky)) (run_load_part (cs := Mg.cs ⟨k, fr, too, op, rd, ky, st, hd, ⟨bb, bn, bj⟩, c, ⟨up, ⟨eb, en, ej⟩, ⟨lb, ln, lj⟩⟩, ⟨cb, cn, cj⟩, mo⟩) (sub := Ky.cs ky) (HF.out.box 1 _ _ _ rfl) (part_of (by kernel_rfl)) U23 rfl S23) <| uB .eql 23 (.agg (Ky.cells ky)) (.agg (Ky.cells ky)) (.bool true) (by rw [eqK_eql, eqK_refl]) <| ?_
  try simp only [pS]
  refine uK (.bool true) <| uK (.bool true) <| uK (.pointer (some ⟨gk1, 11, none⟩)) <| uL 41 ⟨gk1, 11, none⟩ (.agg (Sp.cells st)) (run_load_part (cs := Mg.cs ⟨k, fr, too, op, rd, ky, st, hd, ⟨ba, bn, bk⟩, c, ⟨up, ⟨ea, en, ek⟩, ⟨la, ln, lk⟩⟩, ⟨ca, cn, ck⟩, mo⟩) (sub := Sp.cs st) (HF.out.box 0 _ _ _ rfl) (part_of (by kernel_rfl)) U41 rfl S41) <| uK (.pointer (some ⟨gk3, 11, none⟩)) <| uL 41 ⟨gk3, 11, none⟩ (.agg (Sp.cells st)) (run_load_part (cs := Mg.cs ⟨k, fr, too, op, rd, ky, st, hd, ⟨bb, bn, bj⟩, c, ⟨up, ⟨eb, en, ej⟩, ⟨lb, ln, lj⟩⟩, ⟨cb, cn, cj⟩, mo⟩) (sub := Sp.cs st) (HF.out.box 1 _ _ _ rfl) (part_of (by kernel_rfl)) U41 rfl S41) <| uB .eql 41 (.agg (Sp.cells st)) (.agg (Sp.cells st)) (.bool true) (by rw [eqS_eql, eqS_refl]) <| uK (.bool true) <| ?_
  try simp only [pS]
  refine uK (.bool true) <| uK (.pointer (some ⟨gk1, 13, none⟩)) <| uL 41 ⟨gk1, 13, none⟩ (.agg (Sp.cells hd)) (run_load_part (cs := Mg.cs ⟨k, fr, too, op, rd, ky, st, hd, ⟨ba, bn, bk⟩, c, ⟨up, ⟨ea, en, ek⟩, ⟨la, ln, lk⟩⟩, ⟨ca, cn, ck⟩, mo⟩) (sub := Sp.cs hd) (HF.out.box 0 _ _ _ rfl) (part_of (by kernel_rfl)) U41 rfl S41) <| uK (.pointer (some ⟨gk3, 13, none⟩)) <| uL 41 ⟨gk3, 13, none⟩ (.agg (Sp.cells hd)) (run_load_part (cs := Mg.cs ⟨k, fr, too, op, rd, ky, st, hd, ⟨bb, bn, bj⟩, c, ⟨up, ⟨eb, en, ej⟩, ⟨lb, ln, lj⟩⟩, ⟨cb, cn, cj⟩, mo⟩) (sub := Sp.cs hd) (HF.out.box 1 _ _ _ rfl) (part_of (by kernel_rfl)) U41 rfl S41) <| uB .eql 41 (.agg (Sp.cells hd)) (.agg (Sp.cells hd)) (.bool true) (by rw [eqS_eql, eqS_refl]) <| uK (.bool true) <| uK (.bool true) <| ?_
  try simp only [pS]
  refine uK (.pointer (some ⟨gk1, 16, none⟩)) <| uL 45 ⟨gk1, 16, none⟩ (.agg (Cm.cells c)) (run_load_part (cs := Mg.cs ⟨k, fr, too, op, rd, ky, st, hd, ⟨ba, bn, bk⟩, c, ⟨up, ⟨ea, en, ek⟩, ⟨la, ln, lk⟩⟩, ⟨ca, cn, ck⟩, mo⟩) (sub := Cm.cs c) (HF.out.box 0 _ _ _ rfl) (part_of (by kernel_rfl)) U45 rfl S45) <| uK (.pointer (some ⟨gk3, 16, none⟩)) <| uL 45 ⟨gk3, 16, none⟩ (.agg (Cm.cells c)) (run_load_part (cs := Mg.cs ⟨k, fr, too, op, rd, ky, st, hd, ⟨bb, bn, bj⟩, c, ⟨up, ⟨eb, en, ej⟩, ⟨lb, ln, lj⟩⟩, ⟨cb, cn, cj⟩, mo⟩) (sub := Cm.cs c) (HF.out.box 1 _ _ _ rfl) (part_of (by kernel_rfl)) U45 rfl S45) <| uB .eql 45 (.agg (Cm.cells c)) (.agg (Cm.cells c)) (.bool true) (by rw [eqC_eql, eqC_refl]) <| uK (.bool true) <| uK (.bool true) <| uK (.pointer (some ⟨gk1, 29, none⟩)) <| ?_
  try simp only [pS]
  refine uL 4 ⟨gk1, 29, none⟩ (.bool mo) (load_one ((HF.out.box 0 _ _ _ rfl).cell 29 |>.trans (by kernel_rfl)) U4 rfl) <| uK (.pointer (some ⟨gk3, 29, none⟩)) <| uL 4 ⟨gk3, 29, none⟩ (.bool mo) (load_one ((HF.out.box 1 _ _ _ rfl).cell 29 |>.trans (by kernel_rfl)) U4 rfl) <| uB .eql 4 (.bool mo) (.bool mo) (.bool true) (by rw [b_eqlB, beq_self_eq_true]) <| uK (.bool true) <| uK (.bool true) <| uK (.pointer (some ⟨gk1, 15, none⟩)) <| uL 25 ⟨gk1, 15, none⟩ (.slice ba bn bk) (load_one ((HF.out.box 0 _ _ _ rfl).cell 15 |>.trans (by kernel_rfl)) U25 rfl) <| ?_
  try simp only [pS]
  refine uK (.pointer (some ⟨gk3, 15, none⟩)) <| uL 25 ⟨gk3, 15, none⟩ (.slice bb bn bj) (load_one ((HF.out.box 1 _ _ _ rfl).cell 15 |>.trans (by kernel_rfl)) U25 rfl) <| ?_
  try simp only [pS]
  refine uC 17 #[.slice ba bn bk, .slice bb bn bj] (same_l ba bb bk bj bn zs wk4 hz n1 (Nums.kept H1.out HF.out.kept (fun _ _ _ e => e)) (Nums.kept H2.out HF.out.kept (fun _ _ _ e => e))) ?_
  rintro e wk5 ⟨rfl, hk⟩
  have HF : Hid (Fq No w (wk5) [(gk1, 52, Mg.cells ⟨k, fr, too, op, rd, ky, st, hd, ⟨ba, bn, bk⟩, c, ⟨up, ⟨ea, en, ek⟩, ⟨la, ln, lk⟩⟩, ⟨ca, cn, ck⟩, mo⟩), (gk3, 52, Mg.cells ⟨k, fr, too, op, rd, ky, st, hd, ⟨bb, bn, bj⟩, c, ⟨up, ⟨eb, en, ej⟩, ⟨lb, ln, lj⟩⟩, ⟨cb, cn, cj⟩, mo⟩)]) := HF.out.no hk
  clear hk
  refine ⟨.bool true, rfl, ?_⟩
  try simp only [pS]
  refine uK (.bool true) <| uK (.bool true) <| uK (.pointer (some ⟨gk1, 25, none⟩)) <| uL 49 ⟨gk1, 25, none⟩ (.agg (Bv.cells ⟨up, ⟨ea, en, ek⟩, ⟨la, ln, lk⟩⟩)) (run_load_part (cs := Mg.cs ⟨k, fr, too, op, rd, ky, st, hd, ⟨ba, bn, bk⟩, c, ⟨up, ⟨ea, en, ek⟩, ⟨la, ln, lk⟩⟩, ⟨ca, cn, ck⟩, mo⟩) (sub := Bv.cs ⟨up, ⟨ea, en, ek⟩, ⟨la, ln, lk⟩⟩) (HF.out.box 0 _ _ _ rfl) (part_of (by kernel_rfl)) U49 rfl S49) <| uK (.pointer (some ⟨gk3, 25, none⟩)) <| uL 49 ⟨gk3, 25, none⟩ (.agg (Bv.cells ⟨up, ⟨eb, en, ej⟩, ⟨lb, ln, lj⟩⟩)) (run_load_part (cs := Mg.cs ⟨k, fr, too, op, rd, ky, st, hd, ⟨bb, bn, bj⟩, c, ⟨up, ⟨eb, en, ej⟩, ⟨lb, ln, lj⟩⟩, ⟨cb, cn, cj⟩, mo⟩) (sub := Bv.cs ⟨up, ⟨eb, en, ej⟩, ⟨lb, ln, lj⟩⟩) (HF.out.box 1 _ _ _ rfl) (part_of (by kernel_rfl)) U49 rfl S49) <| ?_
  try simp only [pS]
  refine uC 63 #[.agg (Bv.cells ⟨up, ⟨ea, en, ek⟩, ⟨la, ln, lk⟩⟩), .agg (Bv.cells ⟨up, ⟨eb, en, ej⟩, ⟨lb, ln, lj⟩⟩)] (sameBk up ea eb la lb en ln ek ej lk lj es ls wk5 (H3.out.no HF.out.kept) (H4.out.no HF.out.kept) (H5.out.no HF.out.kept) (H6.out.no HF.out.kept) n2 n3) ?_
  rintro e wk6 ⟨rfl, hk⟩
  have HF : Hid (Fq No w (wk6) [(gk1, 52, Mg.cells ⟨k, fr, too, op, rd, ky, st, hd, ⟨ba, bn, bk⟩, c, ⟨up, ⟨ea, en, ek⟩, ⟨la, ln, lk⟩⟩, ⟨ca, cn, ck⟩, mo⟩), (gk3, 52, Mg.cells ⟨k, fr, too, op, rd, ky, st, hd, ⟨bb, bn, bj⟩, c, ⟨up, ⟨eb, en, ej⟩, ⟨lb, ln, lj⟩⟩, ⟨cb, cn, cj⟩, mo⟩)]) := HF.out.no hk
  clear hk
  refine ⟨.bool true, rfl, ?_⟩
  try simp only [pS]
  refine uK (.bool true) <| uK (.bool true) <| uK (.pointer (some ⟨gk1, 28, none⟩)) <| uL 50 ⟨gk1, 28, none⟩ (.slice ca cn ck) (load_one ((HF.out.box 0 _ _ _ rfl).cell 28 |>.trans (by kernel_rfl)) U50 rfl) <| uK (.pointer (some ⟨gk3, 28, none⟩)) <| uL 50 ⟨gk3, 28, none⟩ (.slice cb cn cj) (load_one ((HF.out.box 1 _ _ _ rfl).cell 28 |>.trans (by kernel_rfl)) U50 rfl) <| ?_
  try simp only [pS]
  refine uC 64 #[.slice ca cn ck, .slice cb cn cj] (sameCm ca cb cn ck cj cs wk6 (H7.out.no HF.out.kept) (H8.out.no HF.out.kept) n4) ?_
  rintro e wk7 ⟨rfl, hk⟩
  have HF : Hid (Fq No w (wk7) [(gk1, 52, Mg.cells ⟨k, fr, too, op, rd, ky, st, hd, ⟨ba, bn, bk⟩, c, ⟨up, ⟨ea, en, ek⟩, ⟨la, ln, lk⟩⟩, ⟨ca, cn, ck⟩, mo⟩), (gk3, 52, Mg.cells ⟨k, fr, too, op, rd, ky, st, hd, ⟨bb, bn, bj⟩, c, ⟨up, ⟨eb, en, ej⟩, ⟨lb, ln, lj⟩⟩, ⟨cb, cn, cj⟩, mo⟩)]) := HF.out.no hk
  clear hk
  refine ⟨.bool true, rfl, ?_⟩
  try simp only [pS]
  refine uK (.bool true) <| uK (.bool true) <| WL.nil <| ?_
  try simp only [pS]
  go_wp2
  rw [HC.out]
  exact ⟨rfl, HF.out.kept⟩
/-- Messages alike: what they say, and their lists' contents. -/
structure LikeM (w : World) (m m' : Mg) : Prop where
  sc : m' = { m with bl := m'.bl, bk := ⟨m.bk.up, m'.bk.e, m'.bk.l⟩, cm := m'.cm }
  ex : ∃ zs es ls cs, RdB w m.bl zs ∧ RdB w m'.bl zs ∧ RdE w m.bk.e es ∧ RdE w m'.bk.e es ∧ RdL w m.bk.l ls ∧ RdL w m'.bk.l ls ∧ RdC w m.cm cs ∧ RdC w m'.cm cs
  n1 : m.bl.l ≤ 281474976710656
  n2 : m.bk.e.l ≤ 4000000000000
  n3 : m.bk.l.l ≤ 4000000000000
  n4 : m.cm.l ≤ 4000000000000
theorem LikeM.no {w w' : World} {m m' : Mg} (h : LikeM w m m') (hk : Kept No w w') : LikeM w' m m' := by
  obtain ⟨h1, ⟨zs, es, ls, cs, a1, a2, a3, a4, a5, a6, a7, a8⟩, n1, n2, n3, n4⟩ := h
  exact ⟨h1, ⟨zs, es, ls, cs, a1.no hk, a2.no hk, a3.no hk, a4.no hk, a5.no hk, a6.no hk, a7.no hk, a8.no hk⟩, n1, n2, n3, n4⟩
theorem sameMg {w : World} {m m' : Mg} (h : LikeM w m m') : Calls Try.prog 52 #[.agg (Mg.cells m), .agg (Mg.cells m')] w (fun e w' => e = .returned (.bool true) ∧ Kept No w w') := by
  obtain ⟨h1, ⟨zs, es, ls, cs, a1, a2, a3, a4, a5, a6, a7, a8⟩, n1, n2, n3, n4⟩ := h
  obtain ⟨k, fr, too, op, rd, ky, st, hd, ⟨ba, bn, bk⟩, c, ⟨up, ⟨ea, en, ek⟩, ⟨la, ln, lk⟩⟩, ⟨ca, cn, ck⟩, mo⟩ := m
  obtain ⟨k', fr', too', op', rd', ky', st', hd', ⟨ba', bn', bk'⟩, c', ⟨up', ⟨ea', en', ek'⟩, ⟨la', ln', lk'⟩⟩, ⟨ca', cn', ck'⟩, mo'⟩ := m'
  simp only [Mg.mk.injEq, Bv.mk.injEq] at h1
  obtain ⟨rfl, rfl, rfl, rfl, rfl, rfl, rfl, rfl, _, rfl, ⟨rfl, _, _⟩, _, rfl⟩ := h1
  have e1 : bn = bn' := a1.len.symm.trans a2.len
  have e2 : en = en' := a3.len.symm.trans a4.len
  have e3 : ln = ln' := a5.len.symm.trans a6.len
  have e4 : cn = cn' := a7.len.symm.trans a8.len
  subst e1 e2 e3 e4
  exact sameM0 _ _ _ _ _ _ _ _ _ _ _ _ _ _ _ _ _ _ _ _ _ _ _ _ _ _ _ _ _ _ _ zs es ls cs w a1 a2 a3 a4 a5 a6 a7 a8 n1 n2 n3 n4
set_option maxRecDepth 100000 in
set_option maxHeartbeats 4000000 in
theorem sameMs (sa ta : Option Addr) (n sk tk : Nat) (ms ms' : List Mg) (w : World) (hs : RdM w ⟨sa, n, sk⟩ ms) (ht : RdM w ⟨ta, n, tk⟩ ms') (hl : ∀ i : Nat, i < n → LikeM w (gAt ms i) (gAt ms' i)) (hn : n ≤ 4000000000000) : Calls Try.prog 31 #[.slice sa n sk, .slice ta n tk] w (fun e w' => e = .returned (.bool true) ∧ Kept No w w') := by
  obtain ⟨C, hC⟩ : ∃ C : Ending → World → Prop, C = (fun e w' => e = .returned (.bool true) ∧ Kept No w w') := ⟨_, rfl⟩
  have HC : Hid (C = (fun e w' => e = .returned (.bool true) ∧ Kept No w w')) := hC
  rw [← hC]
  clear hC
  have HS : Hid (RdM w ⟨sa, n, sk⟩ ms) := hs
  have HT : Hid (RdM w ⟨ta, n, tk⟩ ms') := ht
  have HL : Hid (∀ i : Nat, i < n → LikeM w (gAt ms i) (gAt ms' i)) := hl
  have hle : ms.length = n := hs.len
  have hle' : ms'.length = n := ht.len
  clear hs ht hl
  have HF : Hid (Fq No w w []) := Fq.start _ _
  go_enter Try.func31, Try.ntmps31
  go_upto_region 0 with fail
  refine WL.start <| uK (.bool false) <| WL.nil <| ?_
  try simp only [pS]
  go_upto_region 1 with fail
  refine WL.start <| uK (.slice sa n sk) <| uK (.int .i64 ((n : Nat) : Int)) <| uK (.slice ta n tk) <| uK (.int .i64 ((n : Nat) : Int)) <| uB .neq 3 (.int .i64 ((n : Nat) : Int)) (.int .i64 ((n : Nat) : Int)) (.bool false) (by rw [b_neq, beq_self_eq_true]; rfl) <| WL.nil <| ?_
  try simp only [pS]
  go_upto_region 3 with fail
  refine WL.start <| uK (.int .i64 0) <| WL.nil <| ?_
  try simp only [pS]
  go_wp2
  go_loopw [5] (fun v5 wr => ∃ i : Nat, v5 = .int .i64 ((i : Nat) : Int) ∧ i ≤ n ∧ Hid (Fq No w wr [])) (fun i _ => n - (intOf i).toNat)
  case atStart => exact ⟨0, by go_num, by omega, HF⟩
  case round =>
    clear HF
    obtain ⟨i, rfl, hi, HF⟩ := hrel
    by_cases hlt : i < n
    · skip
      obtain ⟨b, off, rfl, hc⟩ : ∃ b off, sa = some ⟨b, off, none⟩ ∧ ∀ (j : Nat) v, (gAt ms i).cs[j]? = some v → w.cell? ⟨b, off + i * 30 + j, none⟩ = some v := HS.out.at (i := i) (by omega)
      obtain ⟨b', off', rfl, hc'⟩ : ∃ b off, ta = some ⟨b, off, none⟩ ∧ ∀ (j : Nat) v, (gAt ms' i).cs[j]? = some v → w.cell? ⟨b, off + i * 30 + j, none⟩ = some v := HT.out.at (i := i) (by omega)
      have HLi : Hid (LikeM w (gAt ms i) (gAt ms' i)) := HL.out i hlt
      go_upto_region 4 with fail
      refine WL.start <| uK (.int .i64 ((i : Nat) : Int)) <| uK (.slice (some ⟨b, off, none⟩) n sk) <| uK (.int .i64 ((n : Nat) : Int)) <| uB .lss 3 (.int .i64 ((i : Nat) : Int)) (.int .i64 ((n : Nat) : Int)) (.bool true) (by rw [b_lss, decide_eq_true (by omega)]) <| WL.nil <| ?_
      try simp only [pS]
      go_upto_region 6 with fail
      refine wp_region_held_drew (S := fun w' => Fq No w w' []) rfl (HF.out.drew) (fun hH => ?_)
      have HF : Hid (Fq No w (wr.drew) []) := HF.out.drew
      generalize wr.drew = wk1 at HF hH ⊢
      refine xV 0 17 (.slice (some ⟨b, off, none⟩) n sk) hH <| xV 1 18 (.int .i64 ((i : Nat) : Int)) hH <| xU 2 19 (.pointer (some ⟨b, off + i * 30, none⟩)) (fun w' hw => exec_ixA 71 30 E71 F71 _ _ rfl b off n sk i (by kernel_rfl) (by kernel_rfl) (by omega)) hH <| xL 3 20 52 ⟨b, off + i * 30, none⟩ (.agg (Mg.cells (gAt ms i))) (fun _ hw => load_Ma (fun j v h => hw.kept.cell (hc j v h) (fun e => e))) hH <| xV 4 21 (.slice (some ⟨b', off', none⟩) n tk) hH <| xV 5 22 (.int .i64 ((i : Nat) : Int)) hH <| ?_
      try simp only [pS]
      refine xU 6 23 (.pointer (some ⟨b', off' + i * 30, none⟩)) (fun w' hw => exec_ixA 71 30 E71 F71 _ _ rfl b' off' n tk i (by kernel_rfl) (by kernel_rfl) (by omega)) hH <| xL 7 24 52 ⟨b', off' + i * 30, none⟩ (.agg (Mg.cells (gAt ms' i))) (fun _ hw => load_Ma (fun j v h => hw.kept.cell (hc' j v h) (fun e => e))) hH <| ?_
      try simp only [pS]
      refine xC 8 25 52 #[.agg (Mg.cells (gAt ms i)), .agg (Mg.cells (gAt ms' i))] (sameMg (HLi.out.no HF.out.kept)) ?_
      rintro e wk2 ⟨rfl, hk⟩
      have hH2 : Fq No w wk2 [] := hH.no hk
      have HF : Hid (Fq No w (wk2) []) := HF.out.no hk
      clear hk
      refine ⟨.bool true, rfl, hH2, fun hH => ?_⟩
      clear hH2
      try simp only [pS]
      refine xV 9 26 (.bool false) hH ?_
      try simp only [pS]
      refine wpAnyH_done (by kernel_rfl) ?_ _
      try simp only [pS]
      clear hH
      go_upto_region 5 with fail
      refine WL.start <| uK (.int .i64 ((i : Nat) : Int)) <| uB .add 3 (.int .i64 ((i : Nat) : Int)) (.int .i64 1) (.int .i64 (((i + 1) : Nat) : Int)) (b_addw _ _ _ (by rw [IntKind.wrap_i64]; omega) _) <| uK (.int .i64 (((i + 1) : Nat) : Int)) <| WL.nil <| ?_
      try simp only [pS]
      go_wp2
      go_roundw
      case rel => exact ⟨i + 1, by go_num, by omega, HF⟩
      case measure => simp [intOf]; omega
    · skip
      go_upto_region 4 with fail
      refine WL.start <| uK (.int .i64 ((i : Nat) : Int)) <| uK (.slice sa n sk) <| uK (.int .i64 ((n : Nat) : Int)) <| uB .lss 3 (.int .i64 ((i : Nat) : Int)) (.int .i64 ((n : Nat) : Int)) (.bool false) (by rw [b_lss, decide_eq_false (by omega)]) <| WL.nil <| ?_
      try simp only [pS]
      go_upto_region 8 with fail
      refine WL.start <| uK (.bool true) <| WL.nil <| ?_
      try simp only [pS]
      go_wp2
      rw [HC.out]
      exact ⟨rfl, HF.out.kept⟩

end Go.Proofs.Ytgiokkcdgoloaaa.Md
namespace Go.Proofs.Ytgiokkcdgoloaaa.Md
open Go.RowKit
set_option linter.unusedVariables false
set_option linter.unusedSimpArgs false

theorem run_appN {w : World} (T ty E : TypeId) (c by' : Nat) (z : Value) (ht : Try.prog.underlying T = some (.slice E))
    (hinf : (Try.prog.info? E).map (fun i => (i.zero, i.size, i.bytes)) = some (some z, c, by')) (hzc : z.cells.size = c) (hc0 : 0 < c)
    (base n cap : Nat) (sa : Option Addr) (vs : List Value) (hown : Own E c w base sa cap n vs) (xa : Option Addr) (m cc : Nat) (news : List Value) (hl : news.length = m * c) (hx0 : xa = none → cc = 0) (hnews : ∀ j u, news[j]? = some u → ∃ ad, xa = some ad ∧ w.cell? (ad.add j) = some u) (h1 : ∀ u ∈ news, u.oneCell' = true) (hbd : (n + m) * by' ≤ 140737488355328) (hb63 : n + m ≤ 9223372036854775807) (hbase : base ≤ w.heap.size) :
    ∃ a' cap' w', (Builtin.append_ #[T, T] ty #[.slice sa n cap, .slice xa m cc]).run Try.prog w = .ok (.slice a' (n + m) cap') w' ∧ Own E c w' base a' cap' (n + m) (vs ++ news) ∧ Kept (At sa) w w' ∧ (∀ k, At a' k → At sa k ∨ k = w.heap.size) := by
  obtain ⟨i0, hi, hz0, hz1, hz2⟩ := info_parts hinf
  cases xa with
  | none =>
    have hm : m = 0 := by
      cases m with
      | zero => rfl
      | succ m =>
        have h0 : 0 < news.length := by rw [hl, Nat.succ_mul]; omega
        obtain ⟨ad, e, _⟩ := hnews 0 news[0] (List.getElem?_eq_getElem h0)
        cases e
    subst hm
    obtain rfl : news = [] := List.eq_nil_of_length_eq_zero (by simpa using hl)
    obtain rfl := hx0 rfl
    have hrun := run_append_owned_none (P := Try.prog) (w := w) base T ty E i0 c ht hi (.slice sa n cap) n vs hown
    exact ⟨sa, cap, w, hrun, by simpa using hown, Kept.refl _ _, fun k hk => .inl hk⟩
  | some ad =>
    obtain ⟨v', w', hrun, r1, r2, _, r4⟩ := run_append_own_at (P := Try.prog) (w := w) base T ty E i0 z c by' ht hi hz0 hz1 hz2 hzc hc0 (.slice sa n cap) n vs hown ad m cc news hl (fun j u hj => by obtain ⟨ad', e, h⟩ := hnews j u hj; cases e; exact h) h1 (by unfold maxLen; omega) hbd hbase
    have hk : Kept (At sa) w w' := (Kept.refl (At sa) w).grown r2 (fun k e hk => by
      cases sa with
      | none => cases e
      | some ad' => simp only [Value.ownBlock, Option.some.injEq] at e; exact ⟨ad', rfl, e⟩)
    rcases r1.2 with ⟨e, h0⟩ | ⟨g, cap', cur, e, _⟩
    · subst e
      refine ⟨none, 0, w', ?_, ?_, hk, fun k h => absurd h At.none⟩
      · rw [hrun, h0]
      · have := r1; rw [h0] at this ⊢; exact this
    · subst e
      refine ⟨some ⟨g, 0, none⟩, cap', w', hrun, r1, hk, ?_⟩
      rintro k ⟨ad2, e2, rfl⟩
      cases e2
      rcases r4 with e | e
      · left
        cases sa with
        | none => simp [Value.ownBlock] at e
        | some ad' => simp only [Value.ownBlock, Option.some.injEq] at e; exact ⟨ad', rfl, e.symm⟩
      · right; simpa [Value.ownBlock] using e
theorem exec_appN {o : Oper} {a : Act} {w w' : World} {v : Value} (s x : Operand) (T T' : TypeId) (ho : o.op = .call { callee := Callee.builtin Builtin.append, args := #[s, x], argTypes := #[T, T'] }) (vs vx : Value) (hs : a.eval s = vs) (hx : a.eval x = vx)
    (hrun : (Builtin.append_ #[T, T'] o.type #[vs, vx]).run Try.prog w = .ok v w') : (execOp a.eval o).run Try.prog w = .ok (.value v) w' := by
  simp [execOp, ho, resolve, invoke, builtin, hs, hx, hrun, Result.andThen]
theorem _root_.Go.Proofs.Ytgiokkcdgoloaaa.Own.ty {t : TypeId} {c : Nat} {w : World} {base : Nat} {a : Option Addr} {cap n : Nat} {vs : List Value} (h : Own t c w base a cap n vs) {k : Nat} (hk : At a k) : ∃ cs, Box w k t cs := by
  rcases h.cases h.1 with ⟨rfl, _⟩ | ⟨g, rfl, _, hg, sp, hbx, _⟩
  · exact absurd hk At.none
  · obtain ⟨ad, e, rfl⟩ := hk
    cases e
    exact ⟨_, hbx⟩
theorem flat_setA (c : Nat) (xs : List (List Value)) (hc : ∀ x ∈ xs, x.length = c) (sp : List Value) (i : Nat) (y : List Value) (hy : y.length = c) (hi : i < xs.length) : putL (xs.flatten ++ sp) (i * c) y = (xs.set i y).flatten ++ sp := by
  have h : xs = xs.take i ++ ([xs[i]] ++ xs.drop (i + 1)) := by simp
  have h2 : xs.set i y = xs.take i ++ ([y] ++ xs.drop (i + 1)) := by rw [List.set_eq_take_append_cons_drop]; simp [hi]
  have hl : (xs.take i).flatten.length = i * c := by
    rw [flat_len c _ (fun x hx => hc x (List.mem_of_mem_take hx)), List.length_take]; congr 1; omega
  have hxi : (xs[i]).length = c := hc _ (List.getElem_mem hi)
  have h3 : xs.flatten = (xs.take i).flatten ++ (xs[i] ++ (xs.drop (i + 1)).flatten) := by
    have e := congrArg List.flatten h
    rw [List.flatten_append, List.flatten_append, List.flatten_cons, List.flatten_nil, List.append_nil] at e
    exact e
  rw [h2, h3]
  simp only [List.flatten_append, List.flatten_cons, List.flatten_nil, List.append_nil, List.append_assoc]
  unfold putL
  rw [← hl, List.take_left', ← List.drop_drop, List.drop_left', hy, ← hxi, List.drop_left']
  all_goals rfl
theorem _root_.Go.Proofs.Ytgiokkcdgoloaaa.Own.setN {T ty : TypeId} {c : Nat} {W : World} {base : Nat} {a : Option Addr} {cap n : Nat} {xs : List (List Value)} (h : Own T c W base a cap n xs.flatten) (hc : ∀ x ∈ xs, x.length = c) (hl : xs.length = n) {i g : Nat} (hi : i < n) (ha : a = some ⟨g, 0, none⟩) {v : Value} {y : List Value} (hv : v.cells = y.toArray) (hz : (Try.prog.info? ty).map (·.size) = some y.length) (h1 : ∀ x ∈ y, x.oneCell' = true) (hy : y.length = c) :
    ∃ cs', (storeVar ty ⟨g, 0 + i * c, none⟩ v).run Try.prog W = .ok () (W.setRow g cs') ∧ Own T c (W.setRow g cs') base a cap n (xs.set i y).flatten := by
  rcases h.2 with ⟨hv2, hn⟩ | ⟨g', cap', cur, hv2, hb, hg, hle, hm, hs, ht⟩
  · omega
  · simp only [Value.slice.injEq] at hv2
    obtain ⟨ea, -, rfl⟩ := hv2
    rw [ea] at ha
    cases ha
    obtain ⟨cur, rfl⟩ : ∃ l : List Value, cur = l.toArray := ⟨cur.toList, by simp⟩
    have hbox : Box W g T cur.toArray := hg
    have hs : cur.length = cap * c := by simpa using hs
    have ht : cur.take (n * c) = xs.flatten := by simpa using ht
    have hnc : n * c ≤ cap * c := Nat.mul_le_mul_right _ hle
    have hic : i * c + c ≤ n * c := by rw [← Nat.succ_mul]; exact Nat.mul_le_mul_right _ hi
    have hcur : cur = xs.flatten ++ cur.drop (n * c) := by rw [← ht, List.take_append_drop]
    have hfl : xs.flatten.length = n * c := by rw [flat_len c xs hc, hl]
    refine ⟨(putL cur (0 + i * c) y).toArray, run_store_at hbox hv hz (by rw [hy, Nat.zero_add, hs]; omega) h1, ?_⟩
    rw [Nat.zero_add, ea]
    have hp : putL cur (i * c) y = (xs.set i y).flatten ++ cur.drop (n * c) := by
      conv => lhs; rw [hcur]
      exact flat_setA c xs hc _ i y hy (by omega)
    rw [hp]
    have hsl : ((xs.set i y).flatten).length = n * c := by
      rw [flat_len c _ (fun x hx => by rcases List.mem_or_eq_of_mem_set hx with hx | hx; exact hc x hx; rw [hx]; exact hy), List.length_set, hl]
    exact Own.shut hb (Box.setRow hbox _) hle (by unfold maxLen at hm; omega) (by rw [List.length_append, hsl, List.length_drop, hs]; omega) (by rw [← hsl]; exact List.take_left' rfl)
theorem I88 : (Try.prog.info? 88).map (fun i => (i.zero, i.size, i.bytes)) = some (some (.agg enZ.cells), 4, 40) := by kernel_rfl
theorem I126 : (Try.prog.info? 126).map (fun i => (i.zero, i.size, i.bytes)) = some (some (.agg laZ.cells), 7, 56) := by kernel_rfl
theorem I45 : (Try.prog.info? 45).map (fun i => (i.zero, i.size, i.bytes)) = some (some (.agg cZ.cells), 9, 80) := by kernel_rfl
theorem sl0_88 (w : World) : (Instr.buildSlice 46 0 #[]).run Try.prog w = .ok (.slice (some ⟨w.heap.size, 0, none⟩) 0 0) (w.alloc (.cells #[] 88)) := by kernel_rfl
theorem sl0_126 (w : World) : (Instr.buildSlice 47 0 #[]).run Try.prog w = .ok (.slice (some ⟨w.heap.size, 0, none⟩) 0 0) (w.alloc (.cells #[] 126)) := by kernel_rfl
theorem sl0_45 (w : World) : (Instr.buildSlice 50 0 #[]).run Try.prog w = .ok (.slice (some ⟨w.heap.size, 0, none⟩) 0 0) (w.alloc (.cells #[] 45)) := by kernel_rfl
theorem sl0_3 (w : World) : (Instr.buildSlice 24 0 #[]).run Try.prog w = .ok (.slice (some ⟨w.heap.size, 0, none⟩) 0 0) (w.alloc (.cells #[] 3)) := by kernel_rfl
theorem exec_sl0 {o : Oper} {a : Act} {w : World} (T E : TypeId) (ho : o.op = .buildSlice T 0 #[]) (h : (Instr.buildSlice T 0 #[]).run Try.prog w = .ok (.slice (some ⟨w.heap.size, 0, none⟩) 0 0) (w.alloc (.cells #[] E))) : (execOp a.eval o).run Try.prog w = .ok (.value (.slice (some ⟨w.heap.size, 0, none⟩) 0 0)) (w.alloc (.cells #[] E)) := by
  simp only [execOp, ho, Sem.run_bind, Array.map_empty, h, Result.andThen_ok, Sem.run_pure]
theorem own0 (t : TypeId) (c : Nat) (w : World) : Own t c (w.alloc (.cells #[] t)) w.heap.size (some ⟨w.heap.size, 0, none⟩) 0 0 [] := by
  refine ⟨by simp, .inr ⟨w.heap.size, 0, #[], rfl, Nat.le_refl _, ?_, Nat.le_refl _, Nat.zero_le _, by simp, by simp⟩⟩
  exact Box.new w t #[]
/-- A copy onto an empty slice that was built: new memory. -/
theorem run_cpy {w : World} (T ty E : TypeId) (c by' : Nat) (z : Value) (ht : Try.prog.underlying T = some (.slice E))
    (hinf : (Try.prog.info? E).map (fun i => (i.zero, i.size, i.bytes)) = some (some z, c, by')) (hzc : z.cells.size = c) (hc0 : 0 < c) (xa : Option Addr) (m cc : Nat) (news : List Value) (hl : news.length = m * c) (hx0 : xa = none → cc = 0) (hnews : ∀ j u, news[j]? = some u → ∃ ad, xa = some ad ∧ w.cell? (ad.add j) = some u) (h1 : ∀ u ∈ news, u.oneCell' = true) (hbd : m * by' ≤ 140737488355328) (hb63 : m ≤ 9223372036854775807) :
    ∃ a' cap' w', (Builtin.append_ #[T, T] ty #[.slice (some ⟨w.heap.size, 0, none⟩) 0 0, .slice xa m cc]).run Try.prog (w.alloc (.cells #[] E)) = .ok (.slice a' m cap') w' ∧ Own E c w' w.heap.size a' cap' m news ∧ Kept No w w' := by
  obtain ⟨a', cap', w', hr, ho, hk, _⟩ := run_appN (w := w.alloc (.cells #[] E)) T ty E c by' z ht hinf hzc hc0 w.heap.size 0 0 _ [] (own0 E c w) xa m cc news hl hx0 (fun j u hj => by
    obtain ⟨ad, e, hc⟩ := hnews j u hj
    exact ⟨ad, e, ((Kept.refl No w).alloc _).cell hc (fun e => e)⟩) h1 (by rwa [Nat.zero_add]) (by omega) (by simp)
  rw [Nat.zero_add] at hr ho
  refine ⟨a', cap', w', hr, ho, ((Kept.refl No w).alloc _).trans hk (fun _ e => e) (fun k hk' e => ?_)⟩
  obtain ⟨ad, e1, e2⟩ := e
  cases e1
  simp at e2
  omega

end Go.Proofs.Ytgiokkcdgoloaaa.Md
