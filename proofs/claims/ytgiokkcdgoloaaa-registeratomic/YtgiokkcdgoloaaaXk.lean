import Derived.Test.YtgiokkcdgoloaaaXj
namespace Go.Proofs.Ytgiokkcdgoloaaa.Md
open Go.RowKit
set_option linter.unusedVariables false
set_option linter.unusedSimpArgs false

theorem laidW_same (x : Wd) (t : Sp) (z : List Int) : (laidW x t z).m = x.m ∧ (laidW x t z).at' = x.at' ∧ (laidW x t z).ds = x.ds ∧ (laidW x t z).now = x.now ∧ (laidW x t z).gone = x.gone ∧ (laidW x t z).rd = x.rd ∧ (laidW x t z).n = x.n := by
  unfold laidW
  split <;> exact ⟨rfl, rfl, rfl, rfl, rfl, rfl, rfl⟩
theorem send1_same (x : Wd) (p : Pm) : (send1 x p).m = x.m ∧ (send1 x p).at' = x.at' ∧ (send1 x p).ds = x.ds ∧ (send1 x p).now = x.now ∧ (send1 x p).gone = x.gone ∧ (send1 x p).rd = x.rd ∧ (send1 x p).n = x.n := by
  have h := laidW_same x p.st p.z
  unfold send1
  dsimp only
  split <;> split <;> first | exact h | exact ⟨rfl, rfl, rfl, rfl, rfl, rfl, rfl⟩
theorem sendW_same (ps : List Pm) : ∀ x : Wd, (sendW x ps).m = x.m ∧ (sendW x ps).at' = x.at' ∧ (sendW x ps).ds = x.ds ∧ (sendW x ps).now = x.now ∧ (sendW x ps).gone = x.gone ∧ (sendW x ps).rd = x.rd ∧ (sendW x ps).n = x.n := by
  induction ps with
  | nil => exact fun x => ⟨rfl, rfl, rfl, rfl, rfl, rfl, rfl⟩
  | cons p ps ih =>
    intro x
    have h1 := send1_same x p
    have h2 := ih (send1 x p)
    show (sendW (send1 x p) ps).m = x.m ∧ _
    exact ⟨h2.1.trans h1.1, h2.2.1.trans h1.2.1, h2.2.2.1.trans h1.2.2.1, h2.2.2.2.1.trans h1.2.2.2.1, h2.2.2.2.2.1.trans h1.2.2.2.2.1, h2.2.2.2.2.2.1.trans h1.2.2.2.2.2.1, h2.2.2.2.2.2.2.trans h1.2.2.2.2.2.2⟩
theorem clieW_none {x : Wd} {p : Pm} {c : Nat} (h : x.m c = none) : clieW x p c = x := by unfold clieW; rw [h]
theorem clieW_gone {x : Wd} {p : Pm} {c : Nat} (h : x.gone c = true) : clieW x p c = x := by
  unfold clieW
  split
  · rfl
  · rw [if_pos h]
theorem clieW_some {x : Wd} {p : Pm} {c : Nat} {s : RM} (h : x.m c = some s) (hg : x.gone c = false) : clieW x p c = lookW (sendW { x with m := upN x.m c (some (takP s (mgP p) p.z).1) } (outs (takP s (mgP p) p.z))) c := by
  unfold clieW
  rw [h]
  dsimp only
  rw [if_neg (by rw [hg]; simp)]
set_option maxRecDepth 100000 in
set_option maxHeartbeats 4000000 in
theorem deliver_c (n0 : Nat) (J : Nat → Prop) (b : Nat) (x : Wd) (k : Int) (fr : Ad) (c : Nat) (op rd : Int) (ky : Ky) (st : Sp) (z : List Int) (s : Sl) (w : World) (hW : WAt w n0 J b x) (hz : By w n0 s z) (hc : c < 4) (hat : ∀ t, x.m c = some t → x.at' c < x.ds.length) (hnow : 0 ≤ x.now ∧ x.now ≤ 1000000000) (hl : x.ls.length ≤ 900000) (h63 : -9223372036854775808 ≤ st.n) : Calls Try.prog 47 #[.pointer (some ⟨b, 0, none⟩), .agg (Mg.cells ⟨k, fr, ⟨true, (c : Int) + 1⟩, op, rd, ky, st, spZ, s, cZ, bvZ, slZ, false⟩)] w (WOut w n0 J b (clieW x ⟨k, fr, ⟨true, (c : Int) + 1⟩, op, rd, ky, st, z⟩ c)) := by
  obtain ⟨C, hC⟩ : ∃ C : Ending → World → Prop, C = (WOut w n0 J b (clieW x ⟨k, fr, ⟨true, (c : Int) + 1⟩, op, rd, ky, st, z⟩ c)) := ⟨_, rfl⟩
  have HC : Hid (C = (WOut w n0 J b (clieW x ⟨k, fr, ⟨true, (c : Int) + 1⟩, op, rd, ky, st, z⟩ c))) := hC
  rw [← hC]
  clear hC
  obtain ⟨v, mp, I, H, U, D, L, hA⟩ := hW
  have hml := hA.ml
  have hgl := hA.gl
  obtain ⟨gm, hgm⟩ := own_at hA.mm (by omega)
  obtain ⟨gg, hgg⟩ := own_at hA.gn (by omega)
  have HF : Hid (Wg w w n0 J J b v x mp I H U D L [] [] [(s, z)]) := (Wg.start hA).byt (Q := []) (Q' := [(s, z)]) (by simpa using hz)
  clear hA hz
  go_enter Try.func47, Try.ntmps47
  cases hm : x.m c with
  | none =>
    have hmp : mp c = none := HF.out.wa.wl.mn c hm
    go_upto_region 0 with fail
    refine WL.start ?_
    refine uR (.pointer (some ⟨w.heap.size, 0, none⟩)) (w.alloc (.cells (Mg.cells ⟨k, fr, ⟨true, (c : Int) + 1⟩, op, rd, ky, st, spZ, s, cZ, bvZ, slZ, false⟩) 52)) (exec_box 52 _ rfl (Mg.cells ⟨k, fr, ⟨true, (c : Int) + 1⟩, op, rd, ky, st, spZ, s, cZ, bvZ, slZ, false⟩) (by kernel_rfl)) ?_
    try simp only [pS]
    have HF : Hid (Wg w (w.alloc (.cells (Mg.cells ⟨k, fr, ⟨true, (c : Int) + 1⟩, op, rd, ky, st, spZ, s, cZ, bvZ, slZ, false⟩) 52)) n0 J J b v x mp I H U D L [(w.heap.size, 52, Mg.cells ⟨k, fr, ⟨true, (c : Int) + 1⟩, op, rd, ky, st, spZ, s, cZ, bvZ, slZ, false⟩)] [] [(s, z)]) := HF.out.alloc _ _
    generalize w.alloc (.cells (Mg.cells ⟨k, fr, ⟨true, (c : Int) + 1⟩, op, rd, ky, st, spZ, s, cZ, bvZ, slZ, false⟩) 52) = wk2 at HF ⊢
    generalize w.heap.size = gk1 at HF ⊢
    refine WL.nil ?_
    try simp only [pS]
    go_upto_region 1 with fail
    refine WL.start <| uK (.pointer (some ⟨gk1, 3, none⟩)) <| uK (.pointer (some ⟨gk1, 3, none⟩)) <| uL 4 ⟨gk1, 3, none⟩ (.bool true) (load_one ((HF.out.box 0 _ _ _ rfl).cell 3 |>.trans (by kernel_rfl)) U4 rfl) <| WL.nil <| ?_
    try simp only [pS]
    go_upto_region 2 with fail
    refine WL.start <| uK (.pointer (some ⟨gk1, 3, none⟩)) <| uK (.pointer (some ⟨gk1, 4, none⟩)) <| uL 3 ⟨gk1, 4, none⟩ (.int .i64 ((c : Int) + 1)) (load_one ((HF.out.box 0 _ _ _ rfl).cell 4 |>.trans (by kernel_rfl)) U3 rfl) <| uB .sub 3 (.int .i64 ((c : Int) + 1)) (.int .i64 1) (.int .i64 ((c : Nat) : Int)) (b_subw _ _ _ (by rw [IntKind.wrap_i64]; omega) _) <| uK (.int .i64 ((c : Nat) : Int)) <| WL.nil <| ?_
    try simp only [pS]
    go_upto_region 3 with fail
    refine WL.start <| uK (.int .i64 ((c : Nat) : Int)) <| uB .lss 3 (.int .i64 ((c : Nat) : Int)) (.int .i64 0) (.bool false) (by rw [b_lss, decide_eq_false (by omega)]) <| uK (.bool false) <| uK (.int .i64 ((c : Nat) : Int)) <| uB .geq 3 (.int .i64 ((c : Nat) : Int)) (.int .i64 4) (.bool false) (by rw [b_geq, decide_eq_false (by omega)]) <| uK (.bool false) <| WL.nil <| ?_
    try simp only [pS]
    go_upto_region 5 with fail
    refine WL.start <| uK (.pointer (some ⟨b, 0, none⟩)) <| uK (.pointer (some ⟨b, 0, none⟩)) <| uK (.pointer (some ⟨b, 2, none⟩)) <| uL 69 ⟨b, 2, none⟩ (v.mm.v) (load_one ((HF.out.wbox).cell 2 |>.trans (by kernel_rfl)) U69 rfl) <| uK (.int .i64 ((c : Nat) : Int)) <| uW (.pointer (some ⟨gm, 0 + c * 1, none⟩)) (exec_ixA 69 1 E69 F69 _ _ rfl gm 0 v.mm.l v.mm.k c (Eq.trans (b := v.mm.v) (by kernel_rfl) (sl_v (s := v.mm) hgm)) (by kernel_rfl) (by omega)) <| uL 31 ⟨gm, 0 + c * 1, none⟩ (.nilIface) (load_one ((HF.out.wa.mmc hgm hc).trans (by rw [hmp]; rfl)) U31 V31) <| ?_
    try simp only [pS]
    refine uB .eql 31 (.nilIface) (.nilIface) (.bool true) (eql31_t _) <| uK (.bool true) <| uZ <| uZ <| uZ <| uZ <| uZ <| uZ <| ?_
    try simp only [pS]
    refine uZ <| uK (.bool true) <| WL.nil <| ?_
    try simp only [pS]
    go_wp2
    rw [HC.out, clieW_none hm]
    refine bodyPost_ret (v := .tuple #[]) (by kernel_rfl) rfl ⟨rfl, HF.out.out⟩
  | some u =>
    obtain ⟨m, hmp, hM⟩ := HF.out.wa.wl.mc c u hm
    have hsl : (outs (takP u ⟨k, fr, ⟨true, (c : Int) + 1⟩, op, rd, ky, st, spZ, s, cZ, bvZ, slZ, false⟩ z)).length ≤ 1000 := by
      have h1 := ss_tak u ⟨k, fr, ⟨true, (c : Int) + 1⟩, op, rd, ky, st, spZ, s, cZ, bvZ, slZ, false⟩ z
      have h2 := hM.len
      unfold outs
      rw [List.length_map]
      omega
    clear hM
    cases hgo : x.gone c with
    | true =>
      go_upto_region 0 with fail
      refine WL.start ?_
      refine uR (.pointer (some ⟨w.heap.size, 0, none⟩)) (w.alloc (.cells (Mg.cells ⟨k, fr, ⟨true, (c : Int) + 1⟩, op, rd, ky, st, spZ, s, cZ, bvZ, slZ, false⟩) 52)) (exec_box 52 _ rfl (Mg.cells ⟨k, fr, ⟨true, (c : Int) + 1⟩, op, rd, ky, st, spZ, s, cZ, bvZ, slZ, false⟩) (by kernel_rfl)) ?_
      try simp only [pS]
      have HF : Hid (Wg w (w.alloc (.cells (Mg.cells ⟨k, fr, ⟨true, (c : Int) + 1⟩, op, rd, ky, st, spZ, s, cZ, bvZ, slZ, false⟩) 52)) n0 J J b v x mp I H U D L [(w.heap.size, 52, Mg.cells ⟨k, fr, ⟨true, (c : Int) + 1⟩, op, rd, ky, st, spZ, s, cZ, bvZ, slZ, false⟩)] [] [(s, z)]) := HF.out.alloc _ _
      generalize w.alloc (.cells (Mg.cells ⟨k, fr, ⟨true, (c : Int) + 1⟩, op, rd, ky, st, spZ, s, cZ, bvZ, slZ, false⟩) 52) = wk4 at HF ⊢
      generalize w.heap.size = gk3 at HF ⊢
      refine WL.nil ?_
      try simp only [pS]
      go_upto_region 1 with fail
      refine WL.start <| uK (.pointer (some ⟨gk3, 3, none⟩)) <| uK (.pointer (some ⟨gk3, 3, none⟩)) <| uL 4 ⟨gk3, 3, none⟩ (.bool true) (load_one ((HF.out.box 0 _ _ _ rfl).cell 3 |>.trans (by kernel_rfl)) U4 rfl) <| WL.nil <| ?_
      try simp only [pS]
      go_upto_region 2 with fail
      refine WL.start <| uK (.pointer (some ⟨gk3, 3, none⟩)) <| uK (.pointer (some ⟨gk3, 4, none⟩)) <| uL 3 ⟨gk3, 4, none⟩ (.int .i64 ((c : Int) + 1)) (load_one ((HF.out.box 0 _ _ _ rfl).cell 4 |>.trans (by kernel_rfl)) U3 rfl) <| uB .sub 3 (.int .i64 ((c : Int) + 1)) (.int .i64 1) (.int .i64 ((c : Nat) : Int)) (b_subw _ _ _ (by rw [IntKind.wrap_i64]; omega) _) <| uK (.int .i64 ((c : Nat) : Int)) <| WL.nil <| ?_
      try simp only [pS]
      go_upto_region 3 with fail
      refine WL.start <| uK (.int .i64 ((c : Nat) : Int)) <| uB .lss 3 (.int .i64 ((c : Nat) : Int)) (.int .i64 0) (.bool false) (by rw [b_lss, decide_eq_false (by omega)]) <| uK (.bool false) <| uK (.int .i64 ((c : Nat) : Int)) <| uB .geq 3 (.int .i64 ((c : Nat) : Int)) (.int .i64 4) (.bool false) (by rw [b_geq, decide_eq_false (by omega)]) <| uK (.bool false) <| WL.nil <| ?_
      try simp only [pS]
      go_upto_region 5 with fail
      refine WL.start <| uK (.pointer (some ⟨b, 0, none⟩)) <| uK (.pointer (some ⟨b, 0, none⟩)) <| uK (.pointer (some ⟨b, 2, none⟩)) <| uL 69 ⟨b, 2, none⟩ (v.mm.v) (load_one ((HF.out.wbox).cell 2 |>.trans (by kernel_rfl)) U69 rfl) <| uK (.int .i64 ((c : Nat) : Int)) <| uW (.pointer (some ⟨gm, 0 + c * 1, none⟩)) (exec_ixA 69 1 E69 F69 _ _ rfl gm 0 v.mm.l v.mm.k c (Eq.trans (b := v.mm.v) (by kernel_rfl) (sl_v (s := v.mm) hgm)) (by kernel_rfl) (by omega)) <| uL 31 ⟨gm, 0 + c * 1, none⟩ (.iface 115 (.pointer (some ⟨m, 0, none⟩))) (load_one ((HF.out.wa.mmc hgm hc).trans (by rw [hmp]; rfl)) U31 V31) <| ?_
      try simp only [pS]
      refine uB .eql 31 (.iface 115 (.pointer (some ⟨m, 0, none⟩))) (.nilIface) (.bool false) (eql31_f _ _) <| uK (.bool false) <| uK (.pointer (some ⟨b, 0, none⟩)) <| uK (.pointer (some ⟨b, 0, none⟩)) <| uK (.pointer (some ⟨b, 5, none⟩)) <| uL 70 ⟨b, 5, none⟩ (v.gn.v) (load_one ((HF.out.wbox).cell 5 |>.trans (by kernel_rfl)) U70 rfl) <| uK (.int .i64 ((c : Nat) : Int)) <| uW (.pointer (some ⟨gg, 0 + c * 1, none⟩)) (exec_ixA 70 1 E70 F70 _ _ rfl gg 0 v.gn.l v.gn.k c (Eq.trans (b := v.gn.v) (by kernel_rfl) (sl_v (s := v.gn) hgg)) (by kernel_rfl) (by omega)) <| ?_
      try simp only [pS]
      refine uL 4 ⟨gg, 0 + c * 1, none⟩ (.bool true) (load_one ((HF.out.wa.gnc hgg hc).trans (by rw [hgo])) U4 rfl) <| uK (.bool true) <| WL.nil <| ?_
      try simp only [pS]
      go_wp2
      rw [HC.out, clieW_gone hgo]
      refine bodyPost_ret (v := .tuple #[]) (by kernel_rfl) rfl ⟨rfl, HF.out.out⟩
    | false =>
      go_upto_region 0 with fail
      refine WL.start ?_
      refine uR (.pointer (some ⟨w.heap.size, 0, none⟩)) (w.alloc (.cells (Mg.cells ⟨k, fr, ⟨true, (c : Int) + 1⟩, op, rd, ky, st, spZ, s, cZ, bvZ, slZ, false⟩) 52)) (exec_box 52 _ rfl (Mg.cells ⟨k, fr, ⟨true, (c : Int) + 1⟩, op, rd, ky, st, spZ, s, cZ, bvZ, slZ, false⟩) (by kernel_rfl)) ?_
      try simp only [pS]
      have HF : Hid (Wg w (w.alloc (.cells (Mg.cells ⟨k, fr, ⟨true, (c : Int) + 1⟩, op, rd, ky, st, spZ, s, cZ, bvZ, slZ, false⟩) 52)) n0 J J b v x mp I H U D L [(w.heap.size, 52, Mg.cells ⟨k, fr, ⟨true, (c : Int) + 1⟩, op, rd, ky, st, spZ, s, cZ, bvZ, slZ, false⟩)] [] [(s, z)]) := HF.out.alloc _ _
      generalize w.alloc (.cells (Mg.cells ⟨k, fr, ⟨true, (c : Int) + 1⟩, op, rd, ky, st, spZ, s, cZ, bvZ, slZ, false⟩) 52) = wk6 at HF ⊢
      generalize w.heap.size = gk5 at HF ⊢
      refine WL.nil ?_
      try simp only [pS]
      go_upto_region 1 with fail
      refine WL.start <| uK (.pointer (some ⟨gk5, 3, none⟩)) <| uK (.pointer (some ⟨gk5, 3, none⟩)) <| uL 4 ⟨gk5, 3, none⟩ (.bool true) (load_one ((HF.out.box 0 _ _ _ rfl).cell 3 |>.trans (by kernel_rfl)) U4 rfl) <| WL.nil <| ?_
      try simp only [pS]
      go_upto_region 2 with fail
      refine WL.start <| uK (.pointer (some ⟨gk5, 3, none⟩)) <| uK (.pointer (some ⟨gk5, 4, none⟩)) <| uL 3 ⟨gk5, 4, none⟩ (.int .i64 ((c : Int) + 1)) (load_one ((HF.out.box 0 _ _ _ rfl).cell 4 |>.trans (by kernel_rfl)) U3 rfl) <| uB .sub 3 (.int .i64 ((c : Int) + 1)) (.int .i64 1) (.int .i64 ((c : Nat) : Int)) (b_subw _ _ _ (by rw [IntKind.wrap_i64]; omega) _) <| uK (.int .i64 ((c : Nat) : Int)) <| WL.nil <| ?_
      try simp only [pS]
      go_upto_region 3 with fail
      refine WL.start <| uK (.int .i64 ((c : Nat) : Int)) <| uB .lss 3 (.int .i64 ((c : Nat) : Int)) (.int .i64 0) (.bool false) (by rw [b_lss, decide_eq_false (by omega)]) <| uK (.bool false) <| uK (.int .i64 ((c : Nat) : Int)) <| uB .geq 3 (.int .i64 ((c : Nat) : Int)) (.int .i64 4) (.bool false) (by rw [b_geq, decide_eq_false (by omega)]) <| uK (.bool false) <| WL.nil <| ?_
      try simp only [pS]
      go_upto_region 5 with fail
      refine WL.start <| uK (.pointer (some ⟨b, 0, none⟩)) <| uK (.pointer (some ⟨b, 0, none⟩)) <| uK (.pointer (some ⟨b, 2, none⟩)) <| uL 69 ⟨b, 2, none⟩ (v.mm.v) (load_one ((HF.out.wbox).cell 2 |>.trans (by kernel_rfl)) U69 rfl) <| uK (.int .i64 ((c : Nat) : Int)) <| uW (.pointer (some ⟨gm, 0 + c * 1, none⟩)) (exec_ixA 69 1 E69 F69 _ _ rfl gm 0 v.mm.l v.mm.k c (Eq.trans (b := v.mm.v) (by kernel_rfl) (sl_v (s := v.mm) hgm)) (by kernel_rfl) (by omega)) <| uL 31 ⟨gm, 0 + c * 1, none⟩ (.iface 115 (.pointer (some ⟨m, 0, none⟩))) (load_one ((HF.out.wa.mmc hgm hc).trans (by rw [hmp]; rfl)) U31 V31) <| ?_
      try simp only [pS]
      refine uB .eql 31 (.iface 115 (.pointer (some ⟨m, 0, none⟩))) (.nilIface) (.bool false) (eql31_f _ _) <| uK (.bool false) <| uK (.pointer (some ⟨b, 0, none⟩)) <| uK (.pointer (some ⟨b, 0, none⟩)) <| uK (.pointer (some ⟨b, 5, none⟩)) <| uL 70 ⟨b, 5, none⟩ (v.gn.v) (load_one ((HF.out.wbox).cell 5 |>.trans (by kernel_rfl)) U70 rfl) <| uK (.int .i64 ((c : Nat) : Int)) <| uW (.pointer (some ⟨gg, 0 + c * 1, none⟩)) (exec_ixA 70 1 E70 F70 _ _ rfl gg 0 v.gn.l v.gn.k c (Eq.trans (b := v.gn.v) (by kernel_rfl) (sl_v (s := v.gn) hgg)) (by kernel_rfl) (by omega)) <| ?_
      try simp only [pS]
      refine uL 4 ⟨gg, 0 + c * 1, none⟩ (.bool false) (load_one ((HF.out.wa.gnc hgg hc).trans (by rw [hgo])) U4 rfl) <| uK (.bool false) <| WL.nil <| ?_
      try simp only [pS]
      go_upto_region 6 with fail
      refine wp_region_held_drew (S := fun w' => Box w' b 75 (Wv.cells v) ∧ Box w' gk5 52 (Mg.cells ⟨k, fr, ⟨true, (c : Int) + 1⟩, op, rd, ky, st, spZ, s, cZ, bvZ, slZ, false⟩)) rfl ⟨HF.out.drew.wbox, HF.out.drew.box 0 _ _ _ rfl⟩ (fun hH => ?_)
      have HF : Hid (Wg w wk6.drew n0 J J b v x mp I H U D L [(gk5, 52, Mg.cells ⟨k, fr, ⟨true, (c : Int) + 1⟩, op, rd, ky, st, spZ, s, cZ, bvZ, slZ, false⟩)] [] [(s, z)]) := HF.out.drew
      generalize wk6.drew = wk7 at HF hH ⊢
      refine xV 0 41 (.pointer (some ⟨b, 0, none⟩)) hH <| xV 1 42 (.pointer (some ⟨b, 0, none⟩)) hH <| xV 2 43 (.pointer (some ⟨b, 2, none⟩)) hH <| xL 3 44 69 ⟨b, 2, none⟩ v.mm.v (fun _ hw => load_one ((hw.1).cell 2 |>.trans (by kernel_rfl)) U69 rfl) hH <| xV 4 45 (.int .i64 ((c : Nat) : Int)) hH <| xU 5 46 (.pointer (some ⟨gm, 0 + c * 1, none⟩)) (fun w' hw => exec_ixA 69 1 E69 F69 _ _ rfl gm 0 v.mm.l v.mm.k c (Eq.trans (b := v.mm.v) (by kernel_rfl) (sl_v (s := v.mm) hgm)) (by kernel_rfl) (by omega)) hH <| ?_
      try simp only [pS]
      refine xL 7 48 52 ⟨gk5, 0, none⟩ (.agg (Mg.cells ⟨k, fr, ⟨true, (c : Int) + 1⟩, op, rd, ky, st, spZ, s, cZ, bvZ, slZ, false⟩)) (fun _ hw => run_load_part (cs := Mg.cs ⟨k, fr, ⟨true, (c : Int) + 1⟩, op, rd, ky, st, spZ, s, cZ, bvZ, slZ, false⟩) (sub := Mg.cs ⟨k, fr, ⟨true, (c : Int) + 1⟩, op, rd, ky, st, spZ, s, cZ, bvZ, slZ, false⟩) (hw.2) (Part.all _) U52 rfl S52) hH ?_
      try simp only [pS]
      refine xP 6 47 (.iface 115 (.pointer (some ⟨m, 0, none⟩))) (w' := wk7) (exec_load 31 _ rfl ⟨gm, 0 + c * 1, none⟩ (by kernel_rfl) (.iface 115 (.pointer (some ⟨m, 0, none⟩))) (load_one ((HF.out.wa.mmc hgm hc).trans (by rw [hmp]; rfl)) U31 V31)) hH (fun hH => ?_)
      try simp only [pS]
      refine xC 8 49 85 #[.pointer (some ⟨m, 0, none⟩), .agg (Mg.cells ⟨k, fr, ⟨true, (c : Int) + 1⟩, op, rd, ky, st, spZ, s, cZ, bvZ, slZ, false⟩)] (take_M5 (HF.out.mch hm hmp) ⟨k, fr, ⟨true, (c : Int) + 1⟩, op, rd, ky, st, spZ, s, cZ, bvZ, slZ, false⟩ z (HF.out.qs 0 _ rfl).rd (by have h1 := (HF.out.qs 0 _ rfl).rd.len; have h2 := (HF.out.qs 0 _ rfl).le; dsimp only at h1 h2 ⊢; omega) h63) ?_
      rintro e wk8 hO
      obtain ⟨la, lc, ms, I2, J2, rfl, hL, hU2, hJ2, hG⟩ := HF.out.tell hmp hO (toOk_tak _ _ _)
      have HF : Hid (Wg w wk8 n0 J J2 b v ({ x with m := upN x.m c (some (takP u ⟨k, fr, ⟨true, (c : Int) + 1⟩, op, rd, ky, st, spZ, s, cZ, bvZ, slZ, false⟩ z).1) }) mp I2 H U D L [(gk5, 52, Mg.cells ⟨k, fr, ⟨true, (c : Int) + 1⟩, op, rd, ky, st, spZ, s, cZ, bvZ, slZ, false⟩)] [] [(s, z)]) := hG
      clear hG hO
      have hH2 : Box wk8 b 75 (Wv.cells v) ∧ Box wk8 gk5 52 (Mg.cells ⟨k, fr, ⟨true, (c : Int) + 1⟩, op, rd, ky, st, spZ, s, cZ, bvZ, slZ, false⟩) := ⟨HF.out.wbox, HF.out.box 0 _ _ _ rfl⟩
      refine ⟨.slice la ms.length lc, rfl, hH2, fun hH => ?_⟩
      clear hH2
      try simp only [pS]
      refine xV 9 5 (.slice la ms.length lc) hH ?_
      try simp only [pS]
      refine wpAnyH_done (by kernel_rfl) ?_ _
      try simp only [pS]
      clear hH
      go_upto_region 7 with fail
      refine WL.start <| uK (.pointer (some ⟨b, 0, none⟩)) <| uK (.slice la ms.length lc) <| ?_
      try simp only [pS]
      refine uC 45 #[.pointer (some ⟨b, 0, none⟩), .slice la ms.length lc] (send_any n0 J2 b _ ⟨la, ms.length, lc⟩ (outs (takP u ⟨k, fr, ⟨true, (c : Int) + 1⟩, op, rd, ky, st, spZ, s, cZ, bvZ, slZ, false⟩ z)) ms _ ⟨_, _, _, _, _, _, _, HF.out.wa⟩ hL hJ2 hU2 (by have := hsl; dsimp only; omega)) ?_
      rintro e wk9 ⟨rfl, J3, ⟨v3, mp3, I3, H3, U3, D3, L3, hA3⟩, hup⟩
      have HF : Hid (Wg w wk9 n0 J J3 b v3 (sendW { x with m := upN x.m c (some (takP u ⟨k, fr, ⟨true, (c : Int) + 1⟩, op, rd, ky, st, spZ, s, cZ, bvZ, slZ, false⟩ z).1) } (outs (takP u ⟨k, fr, ⟨true, (c : Int) + 1⟩, op, rd, ky, st, spZ, s, cZ, bvZ, slZ, false⟩ z))) mp3 I3 H3 U3 D3 L3 [(gk5, 52, Mg.cells ⟨k, fr, ⟨true, (c : Int) + 1⟩, op, rd, ky, st, spZ, s, cZ, bvZ, slZ, false⟩)] [] [(s, z)]) := HF.out.upd hA3 hup
      clear hA3 hup hL hU2 hJ2
      refine ⟨.tuple #[], rfl, ?_⟩
      try simp only [pS]
      refine WL.nil ?_
      try simp only [pS]
      have hsm := sendW_same (outs (takP u ⟨k, fr, ⟨true, (c : Int) + 1⟩, op, rd, ky, st, spZ, s, cZ, bvZ, slZ, false⟩ z)) { x with m := upN x.m c (some (takP u ⟨k, fr, ⟨true, (c : Int) + 1⟩, op, rd, ky, st, spZ, s, cZ, bvZ, slZ, false⟩ z).1) }
      go_upto_region 8 with fail
      refine WL.start <| uK (.pointer (some ⟨b, 0, none⟩)) <| uK (.int .i64 ((c : Nat) : Int)) <| ?_
      try simp only [pS]
      refine uC 46 #[.pointer (some ⟨b, 0, none⟩), .int .i64 ((c : Nat) : Int)] (look_any_w n0 J3 b _ c _ ⟨_, _, _, _, _, _, _, HF.out.wa⟩ hc (fun t _ => by rw [hsm.2.1, hsm.2.2.1]; exact hat u hm) (by rw [hsm.2.2.2.1]; exact hnow)) ?_
      rintro e wk10 ⟨rfl, J4, ⟨v4, mp4, I4, H4, U4, D4, L4, hA4⟩, hup⟩
      have HF : Hid (Wg w wk10 n0 J J4 b v4 (lookW (sendW { x with m := upN x.m c (some (takP u ⟨k, fr, ⟨true, (c : Int) + 1⟩, op, rd, ky, st, spZ, s, cZ, bvZ, slZ, false⟩ z).1) } (outs (takP u ⟨k, fr, ⟨true, (c : Int) + 1⟩, op, rd, ky, st, spZ, s, cZ, bvZ, slZ, false⟩ z))) c) mp4 I4 H4 U4 D4 L4 [(gk5, 52, Mg.cells ⟨k, fr, ⟨true, (c : Int) + 1⟩, op, rd, ky, st, spZ, s, cZ, bvZ, slZ, false⟩)] [] [(s, z)]) := HF.out.upd hA4 hup
      clear hA4 hup
      refine ⟨.tuple #[], rfl, ?_⟩
      try simp only [pS]
      refine WL.nil ?_
      try simp only [pS]
      go_wp2
      rw [HC.out, clieW_some hm hgo]
      refine bodyPost_ret (v := .tuple #[]) (by kernel_rfl) rfl ⟨rfl, HF.out.out⟩

end Go.Proofs.Ytgiokkcdgoloaaa.Md
