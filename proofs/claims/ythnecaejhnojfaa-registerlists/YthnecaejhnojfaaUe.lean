import Derived.Test.YthnecaejhnojfaaUd
namespace Go.Proofs.Ythnecaejhnojfaa.Md
open Go.RowKit
set_option linter.unusedVariables false
set_option linter.unusedSimpArgs false

/-- What is made: both machines, side by side. -/
def MadO (H : Nat → Prop) (w : World) (s : RM) (x : Rx) (e : Ending) (w' : World) : Prop := ∃ m r g I, e = .returned (.tuple #[.agg #[.iface 84 (.pointer (some ⟨m, 0, none⟩)), .pointer (some ⟨r, 0, none⟩)], .bool true]) ∧ Wq w w' I m r g none s x ∧ RelW H w' I (Jx r g none) s x
theorem nilne (v : Value) (w : World) : (binOp .neq 31 (.iface 84 v) .nilIface).run Try.prog w = .ok (.bool true) w := by kernel_rfl
set_option maxRecDepth 100000 in
set_option maxHeartbeats 4000000 in
theorem made_t {H : Nat → Prop} (cl op : Int) (ky : Ky) (sa : Option Addr) (n sk : Nat) (rd sz : Int) (da : Option Addr) (dl dk : Nat) (gs zs : List Int) (w : World) (hg : RdI w ⟨sa, n, sk⟩ gs) (hg0 : sa = none → sk = 0) (hn : n ≤ 100) (hb : RdB w ⟨da, dl, dk⟩ zs) (hl : dl ≤ 140737488351232) (hoff : zs ≠ [] → ∀ k, At da k → k < w.heap.size ∧ H k) : Calls Try.prog 6 #[.agg (Aq.cells ⟨true, cl, op, ky, ⟨sa, n, sk⟩, rd, sz, ⟨da, dl, dk⟩⟩)] w (MadO H w (newS true cl op ky gs rd sz zs) (newR true cl op ky gs rd sz ⟨da, dl, dk⟩)) := by
  obtain ⟨C, hC⟩ : ∃ C : Ending → World → Prop, C = (MadO H w (newS true cl op ky gs rd sz zs) (newR true cl op ky gs rd sz ⟨da, dl, dk⟩)) := ⟨_, rfl⟩
  have HC : Hid (C = (MadO H w (newS true cl op ky gs rd sz zs) (newR true cl op ky gs rd sz ⟨da, dl, dk⟩))) := hC
  rw [← hC]
  clear hC
  have HG : Hid (Nums .i64 w sa gs) := hg.row
  have HD : Hid (RdB w ⟨da, dl, dk⟩ zs) := hb
  have hgl : gs.length = n := hg.len
  have hzl : zs.length = dl := hb.len
  clear hg hb
  have HF : Hid (Fq No w w []) := Fq.start _ _
  go_enter Try.func6, Try.ntmps6
  go_upto_region 0 with fail
  refine WL.start ?_
  refine uR (.pointer (some ⟨w.heap.size, 0, none⟩)) (w.alloc (.cells (Aq.cells ⟨true, cl, op, ky, ⟨sa, n, sk⟩, rd, sz, ⟨da, dl, dk⟩⟩) 27)) (exec_box 27 _ rfl (Aq.cells ⟨true, cl, op, ky, ⟨sa, n, sk⟩, rd, sz, ⟨da, dl, dk⟩⟩) (by kernel_rfl)) ?_
  try simp only [pS]
  have HF : Hid (Fq No w (w.alloc (.cells (Aq.cells ⟨true, cl, op, ky, ⟨sa, n, sk⟩, rd, sz, ⟨da, dl, dk⟩⟩) 27)) [(w.heap.size, 27, Aq.cells ⟨true, cl, op, ky, ⟨sa, n, sk⟩, rd, sz, ⟨da, dl, dk⟩⟩)]) := HF.out.alloc _ _
  generalize w.alloc (.cells (Aq.cells ⟨true, cl, op, ky, ⟨sa, n, sk⟩, rd, sz, ⟨da, dl, dk⟩⟩) 27) = wk2 at HF ⊢
  generalize w.heap.size = gk1 at HF ⊢
  refine uR (.pointer (some ⟨wk2.heap.size, 0, none⟩)) (wk2.alloc (.cells (#[.nilIface, .pointer none]) 34)) (exec_alloc 34 rfl (#[.nilIface, .pointer none]) Z34) ?_
  try simp only [pS]
  have HF : Hid (Fq No w (wk2.alloc (.cells (#[.nilIface, .pointer none]) 34)) [(gk1, 27, Aq.cells ⟨true, cl, op, ky, ⟨sa, n, sk⟩, rd, sz, ⟨da, dl, dk⟩⟩), (wk2.heap.size, 34, #[.nilIface, .pointer none])]) := HF.out.alloc _ _
  generalize wk2.alloc (.cells (#[.nilIface, .pointer none]) 34) = wk4 at HF ⊢
  generalize wk2.heap.size = gk3 at HF ⊢
  refine uK (.bool false) <| WL.nil <| ?_
  try simp only [pS]
  go_upto_region 1 with fail
  refine WL.start ?_
  refine uR (.slice (some ⟨wk4.heap.size, 0, none⟩) 0 0) (wk4.alloc (.cells #[] 3)) (exec_sl0 24 3 rfl (sl0_3 _)) ?_
  try simp only [pS]
  refine uK (.pointer (some ⟨gk1, 7, none⟩)) <| uL 24 ⟨gk1, 7, none⟩ (.slice sa n sk) (load_one (((HF.out.box 0 _ _ _ rfl).alloc _).cell 7 |>.trans (by kernel_rfl)) U24 rfl) <| ?_
  try simp only [pS]
  obtain ⟨ga, gk, wk5, hr, ho, hk⟩ := run_cpy (w := wk4) 24 24 3 1 8 (.int .i64 0) U24 I3 rfl (by omega) sa n sk (gs.map (Value.int .i64)) (by rw [List.length_map]; omega) hg0 (fun j u hj => by
    have hlt := (List.getElem?_eq_some_iff.1 hj).1
    obtain ⟨ad, e, hc⟩ := (Nums.kept HG.out HF.out.kept (fun _ _ _ e => e)).src (by omega)
    exact ⟨ad, e, hc j u hj⟩) (by simp [Value.oneCell']) (by omega) (by omega)
  refine uR (.slice ga n gk) wk5 (exec_appN _ _ 24 24 rfl _ _ (by kernel_rfl) (by kernel_rfl) hr) ?_
  try simp only [pS]
  have HO : Hid (OwI wk5 w.heap.size ⟨ga, n, gk⟩ gs) := ⟨ho.lower HF.out.kept.size, hgl⟩
  have HF : Hid (Fq No w (wk5) [(gk1, 27, Aq.cells ⟨true, cl, op, ky, ⟨sa, n, sk⟩, rd, sz, ⟨da, dl, dk⟩⟩), (gk3, 34, #[.nilIface, .pointer none])]) := HF.out.no hk
  clear hk ho hr
  refine uK (.slice ga n gk) <| WL.nil <| ?_
  try simp only [pS]
  go_upto_region 2 with fail
  refine WL.start <| uK (.pointer (some ⟨gk1, 10, none⟩)) <| uL 25 ⟨gk1, 10, none⟩ (.slice da dl dk) (load_one ((HF.out.box 0 _ _ _ rfl).cell 10 |>.trans (by kernel_rfl)) U25 rfl) <| ?_
  try simp only [pS]
  refine uC 16 #[.slice da dl dk] (lend_l da dk dl zs wk5 hzl (by omega) (Nums.kept HD.out.row HF.out.kept (fun _ _ _ e => e))) ?_
  rintro e wk6 ⟨rfl, hB, hk⟩
  have HB : Hid (Blk wk6 wk5.heap.size (lent zs 5)) := hB
  have hgw : w.heap.size ≤ wk5.heap.size := HF.out.kept.size
  have HO : Hid (OwI wk6 w.heap.size ⟨ga, n, gk⟩ gs) := HO.out.no hk
  have HF : Hid (Fq No w (wk6) [(gk1, 27, Aq.cells ⟨true, cl, op, ky, ⟨sa, n, sk⟩, rd, sz, ⟨da, dl, dk⟩⟩), (gk3, 34, #[.nilIface, .pointer none])]) := HF.out.no hk
  clear hk hB
  generalize wk5.heap.size = gb at HB hgw ⊢
  refine ⟨.slice (some ⟨gb, 0, none⟩) dl (dl + 5), rfl, ?_⟩
  try simp only [pS]
  refine uK (.slice (some ⟨gb, 0, none⟩) dl (dl + 5)) <| WL.nil <| ?_
  try simp only [pS]
  go_upto_region 3 with fail
  refine WL.start <| uK (.nilIface) <| WL.nil <| ?_
  try simp only [pS]
  go_upto_region 4 with fail
  refine WL.start <| uK (.pointer (some ⟨gk1, 0, none⟩)) <| uL 4 ⟨gk1, 0, none⟩ (.bool true) (load_one ((HF.out.box 0 _ _ _ rfl).cell 0 |>.trans (by kernel_rfl)) U4 rfl) <| WL.nil <| ?_
  try simp only [pS]
  go_upto_region 5 with fail
  refine WL.start <| uK (.pointer (some ⟨gk1, 1, none⟩)) <| uL 3 ⟨gk1, 1, none⟩ (.int .i64 cl) (load_one ((HF.out.box 0 _ _ _ rfl).cell 1 |>.trans (by kernel_rfl)) U3 rfl) <| uK (.pointer (some ⟨gk1, 2, none⟩)) <| uL 3 ⟨gk1, 2, none⟩ (.int .i64 op) (load_one ((HF.out.box 0 _ _ _ rfl).cell 2 |>.trans (by kernel_rfl)) U3 rfl) <| uK (.pointer (some ⟨gk1, 3, none⟩)) <| uL 23 ⟨gk1, 3, none⟩ (.agg (Ky.cells ky)) (run_load_part (cs := Aq.cs ⟨true, cl, op, ky, ⟨sa, n, sk⟩, rd, sz, ⟨da, dl, dk⟩⟩) (sub := Ky.cs ky) (HF.out.box 0 _ _ _ rfl) (part_of (by kernel_rfl)) U23 rfl S23) <| uK (.slice ga n gk) <| ?_
  try simp only [pS]
  refine uK (.pointer (some ⟨gk1, 8, none⟩)) <| uL 3 ⟨gk1, 8, none⟩ (.int .i64 rd) (load_one ((HF.out.box 0 _ _ _ rfl).cell 8 |>.trans (by kernel_rfl)) U3 rfl) <| uK (.slice (some ⟨gb, 0, none⟩) dl (dl + 5)) <| ?_
  try simp only [pS]
  refine uC 15 #[.int .i64 cl, .int .i64 op, .agg (Ky.cells ky), .slice ga n gk, .int .i64 rd, .slice (some ⟨gb, 0, none⟩) dl (dl + 5)] (write_M cl op ky ga n gk rd (some ⟨gb, 0, none⟩) dl (dl + 5) gs zs wk6 (HO.out.own.nums HO.out.len) hgl hn (lent_rd HB.out hzl).row hzl hl) ?_
  rintro e wk7 ⟨m, I, rfl, hM, hI, hk⟩
  have HM : Hid (Mch wk7 I m (newS true cl op ky gs rd sz zs)) := hM
  have hfl : ∀ y ∈ [(gk1, 27, Aq.cells ⟨true, cl, op, ky, ⟨sa, n, sk⟩, rd, sz, ⟨da, dl, dk⟩⟩), (gk3, 34, #[.nilIface, .pointer none])], y.1 < wk6.heap.size := Fq.lt HF.out
  have hgb : gb < wk6.heap.size := (Array.getElem?_eq_some_iff.1 HB.out).1
  have hga : ∀ k, At ga k → k < wk6.heap.size := fun k e => Own.lt HO.out.own e
  have hwN : w.heap.size ≤ wk6.heap.size := HF.out.kept.size
  have hNW : wk6.heap.size ≤ wk7.heap.size := hk.size
  have hN2 : ∀ k, I k → k < wk7.heap.size := fun k e => (hI k e).2
  have hN1 : ∀ k, I k → wk6.heap.size ≤ k := fun k e => (hI k e).1
  have HO : Hid (OwI wk7 w.heap.size ⟨ga, n, gk⟩ gs) := HO.out.no hk
  have HB : Hid (Blk wk7 gb (lent zs 5)) := (hk.block gb (Array.getElem?_eq_some_iff.1 HB.out).1 (fun e => e)).trans HB.out
  have HF : Hid (Fq No w (wk7) [(gk1, 27, Aq.cells ⟨true, cl, op, ky, ⟨sa, n, sk⟩, rd, sz, ⟨da, dl, dk⟩⟩), (gk3, 34, #[.nilIface, .pointer none])]) := HF.out.no hk
  clear hk hI hM
  generalize wk6.heap.size = N at hfl hgb hga hwN hNW hN1
  refine ⟨.iface 84 (.pointer (some ⟨m, 0, none⟩)), rfl, ?_⟩
  try simp only [pS]
  refine uK (.iface 84 (.pointer (some ⟨m, 0, none⟩))) <| WL.nil <| ?_
  try simp only [pS]
  go_upto_region 7 with fail
  refine WL.start <| uK (.slice (some ⟨gb, 0, none⟩) dl (dl + 5)) <| uK (.pointer (some ⟨gk1, 10, none⟩)) <| uL 25 ⟨gk1, 10, none⟩ (.slice da dl dk) (load_one ((HF.out.box 0 _ _ _ rfl).cell 10 |>.trans (by kernel_rfl)) U25 rfl) <| ?_
  try simp only [pS]
  refine uC 18 #[.slice (some ⟨gb, 0, none⟩) dl (dl + 5), .slice da dl dk] (back_l gb da dk dl zs wk7 hzl (by omega) HB.out (Nums.kept HD.out.row HF.out.kept (fun _ _ _ e => e))) ?_
  rintro e wk8 ⟨rfl, hk⟩
  have HO : Hid (OwI wk8 w.heap.size ⟨ga, n, gk⟩ gs) := HO.out.kept hk (fun k e f => Own.notBox HO.out.own (show Box _ gb 5 _ from HB.out) (by decide) ((show k = gb from f) ▸ e))
  have HM : Hid (Mch wk8 I m (newS true cl op ky gs rd sz zs)) := HM.out.kept hk (fun k e _ => ⟨fun f => by have : k = gb := f; have := hN1 k e; omega, e⟩)
  have hk2 : ∀ k, I k → k < wk8.heap.size := fun k e => by have := hN2 k e; have := hk.size; omega
  have hNW2 : N ≤ wk8.heap.size := by have := hk.size; omega
  have HF : Hid (Fq No w (wk8) [(gk1, 27, Aq.cells ⟨true, cl, op, ky, ⟨sa, n, sk⟩, rd, sz, ⟨da, dl, dk⟩⟩), (gk3, 34, #[.nilIface, .pointer none])]) := Fq.new HF.out hk (fun k e => by have : k = gb := e; omega) (by
    intro y hy e
    have e : y.1 = gb := e
    simp only [List.mem_cons, List.not_mem_nil, or_false] at hy
    rcases hy with rfl | rfl
    · exact box_ne HB.out (HF.out.box 0 _ _ _ rfl) (by decide) e.symm
    · exact box_ne HB.out (HF.out.box 1 _ _ _ rfl) (by decide) e.symm)
  clear hk HB hN2 hNW
  refine ⟨.bool true, rfl, ?_⟩
  try simp only [pS]
  refine uK (.bool true) <| WL.nil <| ?_
  try simp only [pS]
  go_upto_region 8 with fail
  refine WL.start <| uK (.int .i64 0) <| WL.nil <| ?_
  try simp only [pS]
  obtain ⟨NW, hNWd⟩ : ∃ NW, NW = wk8.heap.size := ⟨_, rfl⟩
  rw [← hNWd] at hk2 hNW2
  have HSz : Hid (NW ≤ wk8.heap.size) := Nat.le_of_eq hNWd
  clear hNWd
  go_wp2
  go_loopw [7, 8] (fun v7 v8 wr' => ∃ (i : Nat) (L : List Int), v7 = .bool true ∧ v8 = .int .i64 ((i : Nat) : Int) ∧ i ≤ n ∧ (∀ j, i ≤ j → L[j]? = gs[j]?) ∧ Hid (OwI wr' w.heap.size ⟨ga, n, gk⟩ L) ∧ Hid (Mch wr' I m (newS true cl op ky gs rd sz zs)) ∧ Hid (NW ≤ wr'.heap.size) ∧ Hid (Fq No w wr' [(gk1, 27, Aq.cells ⟨true, cl, op, ky, ⟨sa, n, sk⟩, rd, sz, ⟨da, dl, dk⟩⟩), (gk3, 34, #[.nilIface, .pointer none])])) (fun _ i _ => n - (intOf i).toNat)
  case atStart => exact ⟨0, gs, rfl, by go_num, by omega, fun _ _ => rfl, HO, HM, HSz, HF⟩
  case round =>
    rename World => wo
    clear HF HO HM HSz
    obtain ⟨i, L, rfl, rfl, hi, hL, HO, HM, HSz, HF⟩ := hrel
    by_cases hlt : i < n
    · skip
      obtain ⟨ab, aoff, rfl, hac⟩ := HG.out i (by omega)
      obtain ⟨z, hz⟩ : ∃ z, z = gs[i]?.getD 0 := ⟨_, rfl⟩
      rw [← hz] at hac
      have HAc : Hid (w.cell? ⟨ab, aoff + i * 1, none⟩ = some (.int .i64 z)) := by rw [Nat.mul_one]; exact hac
      obtain ⟨gg, rfl, hoc⟩ : ∃ g, ga = some ⟨g, 0, none⟩ ∧ wo.cell? ⟨g, 0 + i * 1, none⟩ = some (.int .i64 (L[i]?.getD 0)) := HO.out.at (i := i) hlt
      rw [hL i (Nat.le_refl _), ← hz] at hoc
      have HOc : Hid (wo.cell? ⟨gg, 0 + i * 1, none⟩ = some (.int .i64 z)) := hoc
      clear hac hz hoc
      go_upto_region 9 with fail
      refine WL.start <| uK (.int .i64 ((i : Nat) : Int)) <| uK (.slice (some ⟨gg, 0, none⟩) n gk) <| uK (.int .i64 ((n : Nat) : Int)) <| uB .lss 3 (.int .i64 ((i : Nat) : Int)) (.int .i64 ((n : Nat) : Int)) (.bool true) (by rw [b_lss, decide_eq_true (by omega)]) <| WL.nil <| ?_
      try simp only [pS]
      have HF0 := HF
      go_upto_region 11 with fail
      refine wp_region_held_drew (S := fun w' => Kept No wo w') rfl (Kept.refl No _).drew (fun hH => ?_)
      have HKq : Hid (Kept No wo (wo.drew)) := (Kept.refl No _).drew
      have HO : Hid (OwI (wo.drew) w.heap.size ⟨some ⟨gg, 0, none⟩, n, gk⟩ L) := HO.out.no (Kept.refl No _).drew
      have HM : Hid (Mch (wo.drew) I m (newS true cl op ky gs rd sz zs)) := HM.out.no (Kept.refl No _).drew
      have HF : Hid (Fq No w (wo.drew) [(gk1, 27, Aq.cells ⟨true, cl, op, ky, ⟨some ⟨ab, aoff, none⟩, n, sk⟩, rd, sz, ⟨da, dl, dk⟩⟩), (gk3, 34, #[.nilIface, .pointer none])]) := HF.out.drew
      generalize wo.drew = wk9 at HF HKq HO HM hH ⊢
      refine xV 0 52 (.bool true) hH <| xV 1 53 (.bool true) hH <| xV 2 54 (.slice (some ⟨gg, 0, none⟩) n gk) hH <| xV 3 55 (.int .i64 ((i : Nat) : Int)) hH <| xU 4 56 (.pointer (some ⟨gg, 0 + i * 1, none⟩)) (fun w' hw => exec_ixA 24 1 E24 F24 _ _ rfl gg 0 n gk i (by kernel_rfl) (by kernel_rfl) (by omega)) hH <| xL 5 57 3 ⟨gg, 0 + i * 1, none⟩ (.int .i64 z) (fun _ hw => load_one (hw.cell HOc.out (fun e => e)) U3 rfl) hH <| ?_
      try simp only [pS]
      refine xV 6 58 (.pointer (some ⟨gk1, 7, none⟩)) hH <| xL 7 59 24 ⟨gk1, 7, none⟩ (.slice (some ⟨ab, aoff, none⟩) n sk) (fun _ hw => load_one (((HF0.out.box 0 _ _ _ rfl).kept hw (fun e => e)).cell 7 |>.trans (by kernel_rfl)) U24 rfl) hH <| xV 8 60 (.int .i64 ((i : Nat) : Int)) hH <| xU 9 61 (.pointer (some ⟨ab, aoff + i * 1, none⟩)) (fun w' hw => exec_ixA 24 1 E24 F24 _ _ rfl ab aoff n sk i (by kernel_rfl) (by kernel_rfl) (by omega)) hH <| xL 10 62 3 ⟨ab, aoff + i * 1, none⟩ (.int .i64 z) (fun _ hw => load_one ((HF0.out.kept.then hw).cell HAc.out (fun e => e)) U3 rfl) hH <| xB 11 63 .eql 3 (.int .i64 z) (.int .i64 z) (.bool true) (fun _ _ => by rw [b_eql, beq_self_eq_true]) hH <| ?_
      try simp only [pS]
      refine xV 12 64 (.bool true) hH <| xV 13 7 (.bool true) hH <| ?_
      try simp only [pS]
      refine wpAnyH_done (by kernel_rfl) ?_ _
      try simp only [pS]
      clear hH
      clear HF0
      have HSz : Hid (NW ≤ wk9.heap.size) := Nat.le_trans HSz.out HKq.out.size
      go_upto_region 12 with fail
      refine WL.start <| uK (.slice (some ⟨gg, 0, none⟩) n gk) <| uK (.int .i64 ((i : Nat) : Int)) <| uW (.pointer (some ⟨gg, 0 + i * 1, none⟩)) (exec_ixA 24 1 E24 F24 _ _ rfl gg 0 n gk i (by kernel_rfl) (by kernel_rfl) (by omega)) <| ?_
      try simp only [pS]
      obtain ⟨cs', hrun, hO2⟩ := OwI.set HO.out hlt (-7)
      refine uT 3 ⟨gg, 0 + i * 1, none⟩ (.int .i64 (-7)) (wk9.setRow gg cs') hrun ?_
      try simp only [pS]
      have hga' : gg < N := hga gg ⟨_, rfl, rfl⟩
      have hgw' : w.heap.size ≤ gg := Own.base HO.out.own ⟨_, rfl, rfl⟩
      have HO2 : Hid (OwI (wk9.setRow gg cs') w.heap.size ⟨some ⟨gg, 0, none⟩, n, gk⟩ (L.set i (-7))) := hO2
      have HM2 : Hid (Mch (wk9.setRow gg cs') I m (newS true cl op ky gs rd sz zs)) := HM.out.kept (Kept.setRow _ _ _) (fun k e _ => ⟨fun f => by have : k = gg := f; have := hN1 k e; omega, e⟩)
      have HSz2 : Hid (NW ≤ (wk9.setRow gg cs').heap.size) := by have := (Kept.setRow wk9 gg cs').size; have := HSz.out; exact Nat.le_trans HSz.out (Kept.setRow wk9 gg cs').size
      have HF2 : Hid (Fq No w (wk9.setRow gg cs') [(gk1, 27, Aq.cells ⟨true, cl, op, ky, ⟨some ⟨ab, aoff, none⟩, n, sk⟩, rd, sz, ⟨da, dl, dk⟩⟩), (gk3, 34, #[.nilIface, .pointer none])]) := Fq.new HF.out (Kept.setRow _ gg _) (fun k e => by have : k = gg := e; omega) (by
        intro y hy e
        have e : y.1 = gg := e
        have ht : ¬ At (some ⟨gg, 0, none⟩) y.1 := by
          simp only [List.mem_cons, List.not_mem_nil, or_false] at hy
          rcases hy with rfl | rfl
          · exact Own.notBox HO.out.own (HF.out.box 0 _ _ _ rfl) (by decide)
          · exact Own.notBox HO.out.own (HF.out.box 1 _ _ _ rfl) (by decide)
        exact ht ⟨_, rfl, e.symm⟩)
      clear hO2 hrun
      generalize wk9.setRow gg cs' = wk10 at HO2 HM2 HF2 HSz2 ⊢
      refine WL.nil ?_
      try simp only [pS]
      have HF := HF2
      go_upto_region 10 with fail
      refine WL.start <| uK (.int .i64 ((i : Nat) : Int)) <| uB .add 3 (.int .i64 ((i : Nat) : Int)) (.int .i64 1) (.int .i64 (((i + 1) : Nat) : Int)) (b_addw _ _ _ (by rw [IntKind.wrap_i64]; omega) _) <| uK (.int .i64 (((i + 1) : Nat) : Int)) <| WL.nil <| ?_
      try simp only [pS]
      go_wp2
      go_roundw
      case rel => exact ⟨i + 1, L.set i (-7), rfl, by go_num, by omega, fun j hj => by rw [List.getElem?_set_ne (by omega)]; exact hL j (by omega), HO2, HM2, HSz2, HF2⟩
      case measure => simp [intOf]; omega
    · skip
      have hk3 : ∀ k, I k → k < wo.heap.size := fun k e => by have := hk2 k e; have := HSz.out; omega
      have hNM : N ≤ wo.heap.size := by have := HSz.out; omega
      go_upto_region 9 with fail
      refine WL.start <| uK (.int .i64 ((i : Nat) : Int)) <| uK (.slice ga n gk) <| uK (.int .i64 ((n : Nat) : Int)) <| uB .lss 3 (.int .i64 ((i : Nat) : Int)) (.int .i64 ((n : Nat) : Int)) (.bool false) (by rw [b_lss, decide_eq_false (by omega)]) <| WL.nil <| ?_
      try simp only [pS]
      go_upto_region 13 with fail
      refine WL.start <| uK (.pointer (some ⟨gk1, 0, none⟩)) <| uL 4 ⟨gk1, 0, none⟩ (.bool true) (load_one ((HF.out.box 0 _ _ _ rfl).cell 0 |>.trans (by kernel_rfl)) U4 rfl) <| uK (.pointer (some ⟨gk1, 1, none⟩)) <| uL 3 ⟨gk1, 1, none⟩ (.int .i64 cl) (load_one ((HF.out.box 0 _ _ _ rfl).cell 1 |>.trans (by kernel_rfl)) U3 rfl) <| uK (.pointer (some ⟨gk1, 2, none⟩)) <| uL 3 ⟨gk1, 2, none⟩ (.int .i64 op) (load_one ((HF.out.box 0 _ _ _ rfl).cell 2 |>.trans (by kernel_rfl)) U3 rfl) <| uK (.pointer (some ⟨gk1, 3, none⟩)) <| ?_
      try simp only [pS]
      refine uL 23 ⟨gk1, 3, none⟩ (.agg (Ky.cells ky)) (run_load_part (cs := Aq.cs ⟨true, cl, op, ky, ⟨sa, n, sk⟩, rd, sz, ⟨da, dl, dk⟩⟩) (sub := Ky.cs ky) (HF.out.box 0 _ _ _ rfl) (part_of (by kernel_rfl)) U23 rfl S23) <| uK (.pointer (some ⟨gk1, 7, none⟩)) <| uL 24 ⟨gk1, 7, none⟩ (.slice sa n sk) (load_one ((HF.out.box 0 _ _ _ rfl).cell 7 |>.trans (by kernel_rfl)) U24 rfl) <| uK (.pointer (some ⟨gk1, 8, none⟩)) <| uL 3 ⟨gk1, 8, none⟩ (.int .i64 rd) (load_one ((HF.out.box 0 _ _ _ rfl).cell 8 |>.trans (by kernel_rfl)) U3 rfl) <| uK (.pointer (some ⟨gk1, 9, none⟩)) <| uL 3 ⟨gk1, 9, none⟩ (.int .i64 sz) (load_one ((HF.out.box 0 _ _ _ rfl).cell 9 |>.trans (by kernel_rfl)) U3 rfl) <| uK (.pointer (some ⟨gk1, 10, none⟩)) <| ?_
      try simp only [pS]
      refine uL 25 ⟨gk1, 10, none⟩ (.slice da dl dk) (load_one ((HF.out.box 0 _ _ _ rfl).cell 10 |>.trans (by kernel_rfl)) U25 rfl) ?_
      try simp only [pS]
      refine uC 19 #[.bool true, .int .i64 cl, .int .i64 op, .agg (Ky.cells ky), .slice sa n sk, .int .i64 rd, .int .i64 sz, .slice da dl dk] (rNew true cl op ky sa n sk gs rd sz ⟨da, dl, dk⟩ wo ⟨Nums.kept HG.out HF.out.kept (fun _ _ _ e => e), hgl⟩ hn) ?_
      rintro e wk11 ⟨r, g, rfl, hR, hr0, hg1, hk⟩
      have HRf : Hid (RfG wk11 r (newR true cl op ky gs rd sz ⟨da, dl, dk⟩) g slZ slZ) := hR
      have HM : Hid (Mch wk11 I m (newS true cl op ky gs rd sz zs)) := HM.out.no hk
      have HF : Hid (Fq No w (wk11) [(gk1, 27, Aq.cells ⟨true, cl, op, ky, ⟨sa, n, sk⟩, rd, sz, ⟨da, dl, dk⟩⟩), (gk3, 34, #[.nilIface, .pointer none])]) := HF.out.no hk
      have hNW3 : wo.heap.size ≤ wk11.heap.size := hk.size
      clear hR hk HO
      obtain ⟨M, hMd⟩ : ∃ M, M = wo.heap.size := ⟨_, rfl⟩
      rw [← hMd] at hr0 hg1 hk3 hNM hNW3
      clear hMd
      refine ⟨.pointer (some ⟨r, 0, none⟩), rfl, ?_⟩
      try simp only [pS]
      refine uK (.pointer (some ⟨r, 0, none⟩)) <| WL.nil <| ?_
      try simp only [pS]
      go_upto_region 14 with fail
      refine wp_region_held_drew (S := fun w' => Fq No w w' [(gk1, 27, Aq.cells ⟨true, cl, op, ky, ⟨sa, n, sk⟩, rd, sz, ⟨da, dl, dk⟩⟩)]) rfl (Fq.front (l := [(gk1, 27, Aq.cells ⟨true, cl, op, ky, ⟨sa, n, sk⟩, rd, sz, ⟨da, dl, dk⟩⟩)]) (m := [(gk3, 34, #[.nilIface, .pointer none])]) (HF.out.drew)) (fun hH => ?_)
      have HM : Hid (Mch (wk11.drew) I m (newS true cl op ky gs rd sz zs)) := HM.out.no (Kept.refl No _).drew
      have HRf : Hid (RfG (wk11.drew) r (newR true cl op ky gs rd sz ⟨da, dl, dk⟩) g slZ slZ) := HRf.out.no (Kept.refl No _).drew
      have HF : Hid (Fq No w (wk11.drew) [(gk1, 27, Aq.cells ⟨true, cl, op, ky, ⟨sa, n, sk⟩, rd, sz, ⟨da, dl, dk⟩⟩), (gk3, 34, #[.nilIface, .pointer none])]) := HF.out.drew
      generalize wk11.drew = wk12 at HF HM HRf hH ⊢
      refine xV 0 85 (.iface 84 (.pointer (some ⟨m, 0, none⟩))) hH <| xV 1 86 (.pointer (some ⟨r, 0, none⟩)) hH <| xU 2 87 (.agg #[.iface 84 (.pointer (some ⟨m, 0, none⟩)), .pointer (some ⟨r, 0, none⟩)]) (fun w' hw => exec_build 34 _ rfl (#[.iface 84 (.pointer (some ⟨m, 0, none⟩)), .pointer (some ⟨r, 0, none⟩)]) (by kernel_rfl)) hH <| xV 3 88 (.bool true) hH <| xV 4 89 (.bool true) hH <| xV 5 90 (.iface 84 (.pointer (some ⟨m, 0, none⟩))) hH <| ?_
      try simp only [pS]
      refine xB 6 91 .neq 31 (.iface 84 (.pointer (some ⟨m, 0, none⟩))) (.nilIface) (.bool true) (fun _ _ => nilne _ _) hH <| xV 7 92 (.bool true) hH <| ?_
      try simp only [pS]
      refine xS 8 34 ⟨gk3, 0, none⟩ (.agg #[.iface 84 (.pointer (some ⟨m, 0, none⟩)), .pointer (some ⟨r, 0, none⟩)]) (w' := wk12.setRow gk3 (#[.iface 84 (.pointer (some ⟨m, 0, none⟩)), .pointer (some ⟨r, 0, none⟩)])) (rs ([.nilIface, .pointer none]) ([.iface 84 (.pointer (some ⟨m, 0, none⟩)), .pointer (some ⟨r, 0, none⟩)]) ([.iface 84 (.pointer (some ⟨m, 0, none⟩)), .pointer (some ⟨r, 0, none⟩)]) (HF.out.box 1 _ _ _ rfl) S34 (by simp [Value.oneCell'])) (Fq.front (l := [(gk1, 27, Aq.cells ⟨true, cl, op, ky, ⟨sa, n, sk⟩, rd, sz, ⟨da, dl, dk⟩⟩)]) (m := [(gk3, 34, #[.iface 84 (.pointer (some ⟨m, 0, none⟩)), .pointer (some ⟨r, 0, none⟩)])]) (HF.out.set 1 rfl _)) (fun hH => ?_)
      try simp only [pS]
      have HM : Hid (Mch (wk12.setRow gk3 (#[.iface 84 (.pointer (some ⟨m, 0, none⟩)), .pointer (some ⟨r, 0, none⟩)])) I m (newS true cl op ky gs rd sz zs)) := HM.out.kept (Kept.setRow _ _ _) (fun k e _ => ⟨fun f => by have : k = gk3 := f; have := hN1 k e; have := hfl _ (List.mem_of_getElem? (i := 1) rfl); dsimp only at this; omega, e⟩)
      have HRf : Hid (RfG (wk12.setRow gk3 (#[.iface 84 (.pointer (some ⟨m, 0, none⟩)), .pointer (some ⟨r, 0, none⟩)])) r (newR true cl op ky gs rd sz ⟨da, dl, dk⟩) g slZ slZ) := HRf.out.kept (Kept.setRow _ _ _) (fun e => box_ne HRf.out.box (HF.out.box 1 _ _ _ rfl) (by decide) e) (fun k e f => Own.notBox HRf.out.gr.own (HF.out.box 1 _ _ _ rfl) (by decide) ((show k = gk3 from f) ▸ e))
      have HF : Hid (Fq No w (wk12.setRow gk3 (#[.iface 84 (.pointer (some ⟨m, 0, none⟩)), .pointer (some ⟨r, 0, none⟩)])) [(gk1, 27, Aq.cells ⟨true, cl, op, ky, ⟨sa, n, sk⟩, rd, sz, ⟨da, dl, dk⟩⟩), (gk3, 34, #[.iface 84 (.pointer (some ⟨m, 0, none⟩)), .pointer (some ⟨r, 0, none⟩)])]) := HF.out.set 1 rfl _
      generalize wk12.setRow gk3 (#[.iface 84 (.pointer (some ⟨m, 0, none⟩)), .pointer (some ⟨r, 0, none⟩)]) = wk13 at HF HM HRf hH ⊢
      refine xV 9 3 (.bool true) hH ?_
      try simp only [pS]
      refine wpAnyH_done (by kernel_rfl) ?_ _
      try simp only [pS]
      clear hH
      go_wp2
      rw [HC.out]
      refine bodyPost_ret (results_row_tmp (by rfl) _ _ gk3 (#[.iface 84 (.pointer (some ⟨m, 0, none⟩)), .pointer (some ⟨r, 0, none⟩)]) (by rfl) (run_load_part (cs := [.iface 84 (.pointer (some ⟨m, 0, none⟩)), .pointer (some ⟨r, 0, none⟩)]) (sub := [.iface 84 (.pointer (some ⟨m, 0, none⟩)), .pointer (some ⟨r, 0, none⟩)]) (HF.out.box 1 _ _ _ rfl) (Part.all _) U34 rfl S34)) rfl ?_
      obtain ⟨h1, h2⟩ := mad_fin HF.out.kept HM.out (fun k e => ⟨by have := hN1 k e; omega, hk3 k e⟩) (by have := HRf.out.box.lt; omega) HRf.out hr0 hg1 (by omega) rfl (H := H)
      exact ⟨m, r, g, I, rfl, h1, new_rel true cl op ky gs rd sz ⟨da, dl, dk⟩ zs (h2 _ _ HD.out hl hoff)⟩
set_option maxRecDepth 100000 in
set_option maxHeartbeats 4000000 in
theorem made_f {H : Nat → Prop} (cl op : Int) (ky : Ky) (sa : Option Addr) (n sk : Nat) (rd sz : Int) (da : Option Addr) (dl dk : Nat) (gs zs : List Int) (w : World) (hg : RdI w ⟨sa, n, sk⟩ gs) (hg0 : sa = none → sk = 0) (hn : n ≤ 100) (hb : RdB w ⟨da, dl, dk⟩ zs) (hl : dl ≤ 140737488351232) (hoff : zs ≠ [] → ∀ k, At da k → k < w.heap.size ∧ H k) : Calls Try.prog 6 #[.agg (Aq.cells ⟨false, cl, op, ky, ⟨sa, n, sk⟩, rd, sz, ⟨da, dl, dk⟩⟩)] w (MadO H w (newS false cl op ky gs rd sz zs) (newR false cl op ky gs rd sz ⟨da, dl, dk⟩)) := by
  obtain ⟨C, hC⟩ : ∃ C : Ending → World → Prop, C = (MadO H w (newS false cl op ky gs rd sz zs) (newR false cl op ky gs rd sz ⟨da, dl, dk⟩)) := ⟨_, rfl⟩
  have HC : Hid (C = (MadO H w (newS false cl op ky gs rd sz zs) (newR false cl op ky gs rd sz ⟨da, dl, dk⟩))) := hC
  rw [← hC]
  clear hC
  have HG : Hid (Nums .i64 w sa gs) := hg.row
  have HD : Hid (RdB w ⟨da, dl, dk⟩ zs) := hb
  have hgl : gs.length = n := hg.len
  have hzl : zs.length = dl := hb.len
  clear hg hb
  have HF : Hid (Fq No w w []) := Fq.start _ _
  go_enter Try.func6, Try.ntmps6
  go_upto_region 0 with fail
  refine WL.start ?_
  refine uR (.pointer (some ⟨w.heap.size, 0, none⟩)) (w.alloc (.cells (Aq.cells ⟨false, cl, op, ky, ⟨sa, n, sk⟩, rd, sz, ⟨da, dl, dk⟩⟩) 27)) (exec_box 27 _ rfl (Aq.cells ⟨false, cl, op, ky, ⟨sa, n, sk⟩, rd, sz, ⟨da, dl, dk⟩⟩) (by kernel_rfl)) ?_
  try simp only [pS]
  have HF : Hid (Fq No w (w.alloc (.cells (Aq.cells ⟨false, cl, op, ky, ⟨sa, n, sk⟩, rd, sz, ⟨da, dl, dk⟩⟩) 27)) [(w.heap.size, 27, Aq.cells ⟨false, cl, op, ky, ⟨sa, n, sk⟩, rd, sz, ⟨da, dl, dk⟩⟩)]) := HF.out.alloc _ _
  generalize w.alloc (.cells (Aq.cells ⟨false, cl, op, ky, ⟨sa, n, sk⟩, rd, sz, ⟨da, dl, dk⟩⟩) 27) = wk2 at HF ⊢
  generalize w.heap.size = gk1 at HF ⊢
  refine uR (.pointer (some ⟨wk2.heap.size, 0, none⟩)) (wk2.alloc (.cells (#[.nilIface, .pointer none]) 34)) (exec_alloc 34 rfl (#[.nilIface, .pointer none]) Z34) ?_
  try simp only [pS]
  have HF : Hid (Fq No w (wk2.alloc (.cells (#[.nilIface, .pointer none]) 34)) [(gk1, 27, Aq.cells ⟨false, cl, op, ky, ⟨sa, n, sk⟩, rd, sz, ⟨da, dl, dk⟩⟩), (wk2.heap.size, 34, #[.nilIface, .pointer none])]) := HF.out.alloc _ _
  generalize wk2.alloc (.cells (#[.nilIface, .pointer none]) 34) = wk4 at HF ⊢
  generalize wk2.heap.size = gk3 at HF ⊢
  refine uK (.bool false) <| WL.nil <| ?_
  try simp only [pS]
  go_upto_region 1 with fail
  refine WL.start ?_
  refine uR (.slice (some ⟨wk4.heap.size, 0, none⟩) 0 0) (wk4.alloc (.cells #[] 3)) (exec_sl0 24 3 rfl (sl0_3 _)) ?_
  try simp only [pS]
  refine uK (.pointer (some ⟨gk1, 7, none⟩)) <| uL 24 ⟨gk1, 7, none⟩ (.slice sa n sk) (load_one (((HF.out.box 0 _ _ _ rfl).alloc _).cell 7 |>.trans (by kernel_rfl)) U24 rfl) <| ?_
  try simp only [pS]
  obtain ⟨ga, gk, wk5, hr, ho, hk⟩ := run_cpy (w := wk4) 24 24 3 1 8 (.int .i64 0) U24 I3 rfl (by omega) sa n sk (gs.map (Value.int .i64)) (by rw [List.length_map]; omega) hg0 (fun j u hj => by
    have hlt := (List.getElem?_eq_some_iff.1 hj).1
    obtain ⟨ad, e, hc⟩ := (Nums.kept HG.out HF.out.kept (fun _ _ _ e => e)).src (by omega)
    exact ⟨ad, e, hc j u hj⟩) (by simp [Value.oneCell']) (by omega) (by omega)
  refine uR (.slice ga n gk) wk5 (exec_appN _ _ 24 24 rfl _ _ (by kernel_rfl) (by kernel_rfl) hr) ?_
  try simp only [pS]
  have HO : Hid (OwI wk5 w.heap.size ⟨ga, n, gk⟩ gs) := ⟨ho.lower HF.out.kept.size, hgl⟩
  have HF : Hid (Fq No w (wk5) [(gk1, 27, Aq.cells ⟨false, cl, op, ky, ⟨sa, n, sk⟩, rd, sz, ⟨da, dl, dk⟩⟩), (gk3, 34, #[.nilIface, .pointer none])]) := HF.out.no hk
  clear hk ho hr
  refine uK (.slice ga n gk) <| WL.nil <| ?_
  try simp only [pS]
  go_upto_region 2 with fail
  refine WL.start <| uK (.pointer (some ⟨gk1, 10, none⟩)) <| uL 25 ⟨gk1, 10, none⟩ (.slice da dl dk) (load_one ((HF.out.box 0 _ _ _ rfl).cell 10 |>.trans (by kernel_rfl)) U25 rfl) <| ?_
  try simp only [pS]
  refine uC 16 #[.slice da dl dk] (lend_l da dk dl zs wk5 hzl (by omega) (Nums.kept HD.out.row HF.out.kept (fun _ _ _ e => e))) ?_
  rintro e wk6 ⟨rfl, hB, hk⟩
  have HB : Hid (Blk wk6 wk5.heap.size (lent zs 5)) := hB
  have hgw : w.heap.size ≤ wk5.heap.size := HF.out.kept.size
  have HO : Hid (OwI wk6 w.heap.size ⟨ga, n, gk⟩ gs) := HO.out.no hk
  have HF : Hid (Fq No w (wk6) [(gk1, 27, Aq.cells ⟨false, cl, op, ky, ⟨sa, n, sk⟩, rd, sz, ⟨da, dl, dk⟩⟩), (gk3, 34, #[.nilIface, .pointer none])]) := HF.out.no hk
  clear hk hB
  generalize wk5.heap.size = gb at HB hgw ⊢
  refine ⟨.slice (some ⟨gb, 0, none⟩) dl (dl + 5), rfl, ?_⟩
  try simp only [pS]
  refine uK (.slice (some ⟨gb, 0, none⟩) dl (dl + 5)) <| WL.nil <| ?_
  try simp only [pS]
  go_upto_region 3 with fail
  refine WL.start <| uK (.nilIface) <| WL.nil <| ?_
  try simp only [pS]
  go_upto_region 4 with fail
  refine WL.start <| uK (.pointer (some ⟨gk1, 0, none⟩)) <| uL 4 ⟨gk1, 0, none⟩ (.bool false) (load_one ((HF.out.box 0 _ _ _ rfl).cell 0 |>.trans (by kernel_rfl)) U4 rfl) <| WL.nil <| ?_
  try simp only [pS]
  go_upto_region 6 with fail
  refine WL.start <| uK (.pointer (some ⟨gk1, 1, none⟩)) <| uL 3 ⟨gk1, 1, none⟩ (.int .i64 cl) (load_one ((HF.out.box 0 _ _ _ rfl).cell 1 |>.trans (by kernel_rfl)) U3 rfl) <| uK (.pointer (some ⟨gk1, 2, none⟩)) <| uL 3 ⟨gk1, 2, none⟩ (.int .i64 op) (load_one ((HF.out.box 0 _ _ _ rfl).cell 2 |>.trans (by kernel_rfl)) U3 rfl) <| uK (.pointer (some ⟨gk1, 3, none⟩)) <| uL 23 ⟨gk1, 3, none⟩ (.agg (Ky.cells ky)) (run_load_part (cs := Aq.cs ⟨false, cl, op, ky, ⟨sa, n, sk⟩, rd, sz, ⟨da, dl, dk⟩⟩) (sub := Ky.cs ky) (HF.out.box 0 _ _ _ rfl) (part_of (by kernel_rfl)) U23 rfl S23) <| uK (.slice ga n gk) <| ?_
  try simp only [pS]
  refine uK (.pointer (some ⟨gk1, 8, none⟩)) <| uL 3 ⟨gk1, 8, none⟩ (.int .i64 rd) (load_one ((HF.out.box 0 _ _ _ rfl).cell 8 |>.trans (by kernel_rfl)) U3 rfl) <| uK (.pointer (some ⟨gk1, 9, none⟩)) <| uL 3 ⟨gk1, 9, none⟩ (.int .i64 sz) (load_one ((HF.out.box 0 _ _ _ rfl).cell 9 |>.trans (by kernel_rfl)) U3 rfl) <| ?_
  try simp only [pS]
  refine uC 17 #[.int .i64 cl, .int .i64 op, .agg (Ky.cells ky), .slice ga n gk, .int .i64 rd, .int .i64 sz] (read_M cl op ky ga n gk rd sz gs wk6 (HO.out.own.nums HO.out.len) hgl hn) ?_
  rintro e wk7 ⟨m, I, rfl, hM, hI, hk⟩
  have HM : Hid (Mch wk7 I m (newS false cl op ky gs rd sz zs)) := hM
  have hfl : ∀ y ∈ [(gk1, 27, Aq.cells ⟨false, cl, op, ky, ⟨sa, n, sk⟩, rd, sz, ⟨da, dl, dk⟩⟩), (gk3, 34, #[.nilIface, .pointer none])], y.1 < wk6.heap.size := Fq.lt HF.out
  have hgb : gb < wk6.heap.size := (Array.getElem?_eq_some_iff.1 HB.out).1
  have hga : ∀ k, At ga k → k < wk6.heap.size := fun k e => Own.lt HO.out.own e
  have hwN : w.heap.size ≤ wk6.heap.size := HF.out.kept.size
  have hNW : wk6.heap.size ≤ wk7.heap.size := hk.size
  have hN2 : ∀ k, I k → k < wk7.heap.size := fun k e => (hI k e).2
  have hN1 : ∀ k, I k → wk6.heap.size ≤ k := fun k e => (hI k e).1
  have HO : Hid (OwI wk7 w.heap.size ⟨ga, n, gk⟩ gs) := HO.out.no hk
  have HB : Hid (Blk wk7 gb (lent zs 5)) := (hk.block gb (Array.getElem?_eq_some_iff.1 HB.out).1 (fun e => e)).trans HB.out
  have HF : Hid (Fq No w (wk7) [(gk1, 27, Aq.cells ⟨false, cl, op, ky, ⟨sa, n, sk⟩, rd, sz, ⟨da, dl, dk⟩⟩), (gk3, 34, #[.nilIface, .pointer none])]) := HF.out.no hk
  clear hk hI hM
  generalize wk6.heap.size = N at hfl hgb hga hwN hNW hN1
  refine ⟨.iface 84 (.pointer (some ⟨m, 0, none⟩)), rfl, ?_⟩
  try simp only [pS]
  refine uK (.iface 84 (.pointer (some ⟨m, 0, none⟩))) <| WL.nil <| ?_
  try simp only [pS]
  go_upto_region 7 with fail
  refine WL.start <| uK (.slice (some ⟨gb, 0, none⟩) dl (dl + 5)) <| uK (.pointer (some ⟨gk1, 10, none⟩)) <| uL 25 ⟨gk1, 10, none⟩ (.slice da dl dk) (load_one ((HF.out.box 0 _ _ _ rfl).cell 10 |>.trans (by kernel_rfl)) U25 rfl) <| ?_
  try simp only [pS]
  refine uC 18 #[.slice (some ⟨gb, 0, none⟩) dl (dl + 5), .slice da dl dk] (back_l gb da dk dl zs wk7 hzl (by omega) HB.out (Nums.kept HD.out.row HF.out.kept (fun _ _ _ e => e))) ?_
  rintro e wk8 ⟨rfl, hk⟩
  have HO : Hid (OwI wk8 w.heap.size ⟨ga, n, gk⟩ gs) := HO.out.kept hk (fun k e f => Own.notBox HO.out.own (show Box _ gb 5 _ from HB.out) (by decide) ((show k = gb from f) ▸ e))
  have HM : Hid (Mch wk8 I m (newS false cl op ky gs rd sz zs)) := HM.out.kept hk (fun k e _ => ⟨fun f => by have : k = gb := f; have := hN1 k e; omega, e⟩)
  have hk2 : ∀ k, I k → k < wk8.heap.size := fun k e => by have := hN2 k e; have := hk.size; omega
  have hNW2 : N ≤ wk8.heap.size := by have := hk.size; omega
  have HF : Hid (Fq No w (wk8) [(gk1, 27, Aq.cells ⟨false, cl, op, ky, ⟨sa, n, sk⟩, rd, sz, ⟨da, dl, dk⟩⟩), (gk3, 34, #[.nilIface, .pointer none])]) := Fq.new HF.out hk (fun k e => by have : k = gb := e; omega) (by
    intro y hy e
    have e : y.1 = gb := e
    simp only [List.mem_cons, List.not_mem_nil, or_false] at hy
    rcases hy with rfl | rfl
    · exact box_ne HB.out (HF.out.box 0 _ _ _ rfl) (by decide) e.symm
    · exact box_ne HB.out (HF.out.box 1 _ _ _ rfl) (by decide) e.symm)
  clear hk HB hN2 hNW
  refine ⟨.bool true, rfl, ?_⟩
  try simp only [pS]
  refine uK (.bool true) <| WL.nil <| ?_
  try simp only [pS]
  go_upto_region 8 with fail
  refine WL.start <| uK (.int .i64 0) <| WL.nil <| ?_
  try simp only [pS]
  obtain ⟨NW, hNWd⟩ : ∃ NW, NW = wk8.heap.size := ⟨_, rfl⟩
  rw [← hNWd] at hk2 hNW2
  have HSz : Hid (NW ≤ wk8.heap.size) := Nat.le_of_eq hNWd
  clear hNWd
  go_wp2
  go_loopw [7, 8] (fun v7 v8 wr' => ∃ (i : Nat) (L : List Int), v7 = .bool true ∧ v8 = .int .i64 ((i : Nat) : Int) ∧ i ≤ n ∧ (∀ j, i ≤ j → L[j]? = gs[j]?) ∧ Hid (OwI wr' w.heap.size ⟨ga, n, gk⟩ L) ∧ Hid (Mch wr' I m (newS false cl op ky gs rd sz zs)) ∧ Hid (NW ≤ wr'.heap.size) ∧ Hid (Fq No w wr' [(gk1, 27, Aq.cells ⟨false, cl, op, ky, ⟨sa, n, sk⟩, rd, sz, ⟨da, dl, dk⟩⟩), (gk3, 34, #[.nilIface, .pointer none])])) (fun _ i _ => n - (intOf i).toNat)
  case atStart => exact ⟨0, gs, rfl, by go_num, by omega, fun _ _ => rfl, HO, HM, HSz, HF⟩
  case round =>
    rename World => wo
    clear HF HO HM HSz
    obtain ⟨i, L, rfl, rfl, hi, hL, HO, HM, HSz, HF⟩ := hrel
    by_cases hlt : i < n
    · skip
      obtain ⟨ab, aoff, rfl, hac⟩ := HG.out i (by omega)
      obtain ⟨z, hz⟩ : ∃ z, z = gs[i]?.getD 0 := ⟨_, rfl⟩
      rw [← hz] at hac
      have HAc : Hid (w.cell? ⟨ab, aoff + i * 1, none⟩ = some (.int .i64 z)) := by rw [Nat.mul_one]; exact hac
      obtain ⟨gg, rfl, hoc⟩ : ∃ g, ga = some ⟨g, 0, none⟩ ∧ wo.cell? ⟨g, 0 + i * 1, none⟩ = some (.int .i64 (L[i]?.getD 0)) := HO.out.at (i := i) hlt
      rw [hL i (Nat.le_refl _), ← hz] at hoc
      have HOc : Hid (wo.cell? ⟨gg, 0 + i * 1, none⟩ = some (.int .i64 z)) := hoc
      clear hac hz hoc
      go_upto_region 9 with fail
      refine WL.start <| uK (.int .i64 ((i : Nat) : Int)) <| uK (.slice (some ⟨gg, 0, none⟩) n gk) <| uK (.int .i64 ((n : Nat) : Int)) <| uB .lss 3 (.int .i64 ((i : Nat) : Int)) (.int .i64 ((n : Nat) : Int)) (.bool true) (by rw [b_lss, decide_eq_true (by omega)]) <| WL.nil <| ?_
      try simp only [pS]
      have HF0 := HF
      go_upto_region 11 with fail
      refine wp_region_held_drew (S := fun w' => Kept No wo w') rfl (Kept.refl No _).drew (fun hH => ?_)
      have HKq : Hid (Kept No wo (wo.drew)) := (Kept.refl No _).drew
      have HO : Hid (OwI (wo.drew) w.heap.size ⟨some ⟨gg, 0, none⟩, n, gk⟩ L) := HO.out.no (Kept.refl No _).drew
      have HM : Hid (Mch (wo.drew) I m (newS false cl op ky gs rd sz zs)) := HM.out.no (Kept.refl No _).drew
      have HF : Hid (Fq No w (wo.drew) [(gk1, 27, Aq.cells ⟨false, cl, op, ky, ⟨some ⟨ab, aoff, none⟩, n, sk⟩, rd, sz, ⟨da, dl, dk⟩⟩), (gk3, 34, #[.nilIface, .pointer none])]) := HF.out.drew
      generalize wo.drew = wk9 at HF HKq HO HM hH ⊢
      refine xV 0 52 (.bool true) hH <| xV 1 53 (.bool true) hH <| xV 2 54 (.slice (some ⟨gg, 0, none⟩) n gk) hH <| xV 3 55 (.int .i64 ((i : Nat) : Int)) hH <| xU 4 56 (.pointer (some ⟨gg, 0 + i * 1, none⟩)) (fun w' hw => exec_ixA 24 1 E24 F24 _ _ rfl gg 0 n gk i (by kernel_rfl) (by kernel_rfl) (by omega)) hH <| xL 5 57 3 ⟨gg, 0 + i * 1, none⟩ (.int .i64 z) (fun _ hw => load_one (hw.cell HOc.out (fun e => e)) U3 rfl) hH <| ?_
      try simp only [pS]
      refine xV 6 58 (.pointer (some ⟨gk1, 7, none⟩)) hH <| xL 7 59 24 ⟨gk1, 7, none⟩ (.slice (some ⟨ab, aoff, none⟩) n sk) (fun _ hw => load_one (((HF0.out.box 0 _ _ _ rfl).kept hw (fun e => e)).cell 7 |>.trans (by kernel_rfl)) U24 rfl) hH <| xV 8 60 (.int .i64 ((i : Nat) : Int)) hH <| xU 9 61 (.pointer (some ⟨ab, aoff + i * 1, none⟩)) (fun w' hw => exec_ixA 24 1 E24 F24 _ _ rfl ab aoff n sk i (by kernel_rfl) (by kernel_rfl) (by omega)) hH <| xL 10 62 3 ⟨ab, aoff + i * 1, none⟩ (.int .i64 z) (fun _ hw => load_one ((HF0.out.kept.then hw).cell HAc.out (fun e => e)) U3 rfl) hH <| xB 11 63 .eql 3 (.int .i64 z) (.int .i64 z) (.bool true) (fun _ _ => by rw [b_eql, beq_self_eq_true]) hH <| ?_
      try simp only [pS]
      refine xV 12 64 (.bool true) hH <| xV 13 7 (.bool true) hH <| ?_
      try simp only [pS]
      refine wpAnyH_done (by kernel_rfl) ?_ _
      try simp only [pS]
      clear hH
      clear HF0
      have HSz : Hid (NW ≤ wk9.heap.size) := Nat.le_trans HSz.out HKq.out.size
      go_upto_region 12 with fail
      refine WL.start <| uK (.slice (some ⟨gg, 0, none⟩) n gk) <| uK (.int .i64 ((i : Nat) : Int)) <| uW (.pointer (some ⟨gg, 0 + i * 1, none⟩)) (exec_ixA 24 1 E24 F24 _ _ rfl gg 0 n gk i (by kernel_rfl) (by kernel_rfl) (by omega)) <| ?_
      try simp only [pS]
      obtain ⟨cs', hrun, hO2⟩ := OwI.set HO.out hlt (-7)
      refine uT 3 ⟨gg, 0 + i * 1, none⟩ (.int .i64 (-7)) (wk9.setRow gg cs') hrun ?_
      try simp only [pS]
      have hga' : gg < N := hga gg ⟨_, rfl, rfl⟩
      have hgw' : w.heap.size ≤ gg := Own.base HO.out.own ⟨_, rfl, rfl⟩
      have HO2 : Hid (OwI (wk9.setRow gg cs') w.heap.size ⟨some ⟨gg, 0, none⟩, n, gk⟩ (L.set i (-7))) := hO2
      have HM2 : Hid (Mch (wk9.setRow gg cs') I m (newS false cl op ky gs rd sz zs)) := HM.out.kept (Kept.setRow _ _ _) (fun k e _ => ⟨fun f => by have : k = gg := f; have := hN1 k e; omega, e⟩)
      have HSz2 : Hid (NW ≤ (wk9.setRow gg cs').heap.size) := by have := (Kept.setRow wk9 gg cs').size; have := HSz.out; exact Nat.le_trans HSz.out (Kept.setRow wk9 gg cs').size
      have HF2 : Hid (Fq No w (wk9.setRow gg cs') [(gk1, 27, Aq.cells ⟨false, cl, op, ky, ⟨some ⟨ab, aoff, none⟩, n, sk⟩, rd, sz, ⟨da, dl, dk⟩⟩), (gk3, 34, #[.nilIface, .pointer none])]) := Fq.new HF.out (Kept.setRow _ gg _) (fun k e => by have : k = gg := e; omega) (by
        intro y hy e
        have e : y.1 = gg := e
        have ht : ¬ At (some ⟨gg, 0, none⟩) y.1 := by
          simp only [List.mem_cons, List.not_mem_nil, or_false] at hy
          rcases hy with rfl | rfl
          · exact Own.notBox HO.out.own (HF.out.box 0 _ _ _ rfl) (by decide)
          · exact Own.notBox HO.out.own (HF.out.box 1 _ _ _ rfl) (by decide)
        exact ht ⟨_, rfl, e.symm⟩)
      clear hO2 hrun
      generalize wk9.setRow gg cs' = wk10 at HO2 HM2 HF2 HSz2 ⊢
      refine WL.nil ?_
      try simp only [pS]
      have HF := HF2
      go_upto_region 10 with fail
      refine WL.start <| uK (.int .i64 ((i : Nat) : Int)) <| uB .add 3 (.int .i64 ((i : Nat) : Int)) (.int .i64 1) (.int .i64 (((i + 1) : Nat) : Int)) (b_addw _ _ _ (by rw [IntKind.wrap_i64]; omega) _) <| uK (.int .i64 (((i + 1) : Nat) : Int)) <| WL.nil <| ?_
      try simp only [pS]
      go_wp2
      go_roundw
      case rel => exact ⟨i + 1, L.set i (-7), rfl, by go_num, by omega, fun j hj => by rw [List.getElem?_set_ne (by omega)]; exact hL j (by omega), HO2, HM2, HSz2, HF2⟩
      case measure => simp [intOf]; omega
    · skip
      have hk3 : ∀ k, I k → k < wo.heap.size := fun k e => by have := hk2 k e; have := HSz.out; omega
      have hNM : N ≤ wo.heap.size := by have := HSz.out; omega
      go_upto_region 9 with fail
      refine WL.start <| uK (.int .i64 ((i : Nat) : Int)) <| uK (.slice ga n gk) <| uK (.int .i64 ((n : Nat) : Int)) <| uB .lss 3 (.int .i64 ((i : Nat) : Int)) (.int .i64 ((n : Nat) : Int)) (.bool false) (by rw [b_lss, decide_eq_false (by omega)]) <| WL.nil <| ?_
      try simp only [pS]
      go_upto_region 13 with fail
      refine WL.start <| uK (.pointer (some ⟨gk1, 0, none⟩)) <| uL 4 ⟨gk1, 0, none⟩ (.bool false) (load_one ((HF.out.box 0 _ _ _ rfl).cell 0 |>.trans (by kernel_rfl)) U4 rfl) <| uK (.pointer (some ⟨gk1, 1, none⟩)) <| uL 3 ⟨gk1, 1, none⟩ (.int .i64 cl) (load_one ((HF.out.box 0 _ _ _ rfl).cell 1 |>.trans (by kernel_rfl)) U3 rfl) <| uK (.pointer (some ⟨gk1, 2, none⟩)) <| uL 3 ⟨gk1, 2, none⟩ (.int .i64 op) (load_one ((HF.out.box 0 _ _ _ rfl).cell 2 |>.trans (by kernel_rfl)) U3 rfl) <| uK (.pointer (some ⟨gk1, 3, none⟩)) <| ?_
      try simp only [pS]
      refine uL 23 ⟨gk1, 3, none⟩ (.agg (Ky.cells ky)) (run_load_part (cs := Aq.cs ⟨false, cl, op, ky, ⟨sa, n, sk⟩, rd, sz, ⟨da, dl, dk⟩⟩) (sub := Ky.cs ky) (HF.out.box 0 _ _ _ rfl) (part_of (by kernel_rfl)) U23 rfl S23) <| uK (.pointer (some ⟨gk1, 7, none⟩)) <| uL 24 ⟨gk1, 7, none⟩ (.slice sa n sk) (load_one ((HF.out.box 0 _ _ _ rfl).cell 7 |>.trans (by kernel_rfl)) U24 rfl) <| uK (.pointer (some ⟨gk1, 8, none⟩)) <| uL 3 ⟨gk1, 8, none⟩ (.int .i64 rd) (load_one ((HF.out.box 0 _ _ _ rfl).cell 8 |>.trans (by kernel_rfl)) U3 rfl) <| uK (.pointer (some ⟨gk1, 9, none⟩)) <| uL 3 ⟨gk1, 9, none⟩ (.int .i64 sz) (load_one ((HF.out.box 0 _ _ _ rfl).cell 9 |>.trans (by kernel_rfl)) U3 rfl) <| uK (.pointer (some ⟨gk1, 10, none⟩)) <| ?_
      try simp only [pS]
      refine uL 25 ⟨gk1, 10, none⟩ (.slice da dl dk) (load_one ((HF.out.box 0 _ _ _ rfl).cell 10 |>.trans (by kernel_rfl)) U25 rfl) ?_
      try simp only [pS]
      refine uC 19 #[.bool false, .int .i64 cl, .int .i64 op, .agg (Ky.cells ky), .slice sa n sk, .int .i64 rd, .int .i64 sz, .slice da dl dk] (rNew false cl op ky sa n sk gs rd sz ⟨da, dl, dk⟩ wo ⟨Nums.kept HG.out HF.out.kept (fun _ _ _ e => e), hgl⟩ hn) ?_
      rintro e wk11 ⟨r, g, rfl, hR, hr0, hg1, hk⟩
      have HRf : Hid (RfG wk11 r (newR false cl op ky gs rd sz ⟨da, dl, dk⟩) g slZ slZ) := hR
      have HM : Hid (Mch wk11 I m (newS false cl op ky gs rd sz zs)) := HM.out.no hk
      have HF : Hid (Fq No w (wk11) [(gk1, 27, Aq.cells ⟨false, cl, op, ky, ⟨sa, n, sk⟩, rd, sz, ⟨da, dl, dk⟩⟩), (gk3, 34, #[.nilIface, .pointer none])]) := HF.out.no hk
      have hNW3 : wo.heap.size ≤ wk11.heap.size := hk.size
      clear hR hk HO
      obtain ⟨M, hMd⟩ : ∃ M, M = wo.heap.size := ⟨_, rfl⟩
      rw [← hMd] at hr0 hg1 hk3 hNM hNW3
      clear hMd
      refine ⟨.pointer (some ⟨r, 0, none⟩), rfl, ?_⟩
      try simp only [pS]
      refine uK (.pointer (some ⟨r, 0, none⟩)) <| WL.nil <| ?_
      try simp only [pS]
      go_upto_region 14 with fail
      refine wp_region_held_drew (S := fun w' => Fq No w w' [(gk1, 27, Aq.cells ⟨false, cl, op, ky, ⟨sa, n, sk⟩, rd, sz, ⟨da, dl, dk⟩⟩)]) rfl (Fq.front (l := [(gk1, 27, Aq.cells ⟨false, cl, op, ky, ⟨sa, n, sk⟩, rd, sz, ⟨da, dl, dk⟩⟩)]) (m := [(gk3, 34, #[.nilIface, .pointer none])]) (HF.out.drew)) (fun hH => ?_)
      have HM : Hid (Mch (wk11.drew) I m (newS false cl op ky gs rd sz zs)) := HM.out.no (Kept.refl No _).drew
      have HRf : Hid (RfG (wk11.drew) r (newR false cl op ky gs rd sz ⟨da, dl, dk⟩) g slZ slZ) := HRf.out.no (Kept.refl No _).drew
      have HF : Hid (Fq No w (wk11.drew) [(gk1, 27, Aq.cells ⟨false, cl, op, ky, ⟨sa, n, sk⟩, rd, sz, ⟨da, dl, dk⟩⟩), (gk3, 34, #[.nilIface, .pointer none])]) := HF.out.drew
      generalize wk11.drew = wk12 at HF HM HRf hH ⊢
      refine xV 0 85 (.iface 84 (.pointer (some ⟨m, 0, none⟩))) hH <| xV 1 86 (.pointer (some ⟨r, 0, none⟩)) hH <| xU 2 87 (.agg #[.iface 84 (.pointer (some ⟨m, 0, none⟩)), .pointer (some ⟨r, 0, none⟩)]) (fun w' hw => exec_build 34 _ rfl (#[.iface 84 (.pointer (some ⟨m, 0, none⟩)), .pointer (some ⟨r, 0, none⟩)]) (by kernel_rfl)) hH <| xV 3 88 (.bool true) hH <| xV 4 89 (.bool true) hH <| xV 5 90 (.iface 84 (.pointer (some ⟨m, 0, none⟩))) hH <| ?_
      try simp only [pS]
      refine xB 6 91 .neq 31 (.iface 84 (.pointer (some ⟨m, 0, none⟩))) (.nilIface) (.bool true) (fun _ _ => nilne _ _) hH <| xV 7 92 (.bool true) hH <| ?_
      try simp only [pS]
      refine xS 8 34 ⟨gk3, 0, none⟩ (.agg #[.iface 84 (.pointer (some ⟨m, 0, none⟩)), .pointer (some ⟨r, 0, none⟩)]) (w' := wk12.setRow gk3 (#[.iface 84 (.pointer (some ⟨m, 0, none⟩)), .pointer (some ⟨r, 0, none⟩)])) (rs ([.nilIface, .pointer none]) ([.iface 84 (.pointer (some ⟨m, 0, none⟩)), .pointer (some ⟨r, 0, none⟩)]) ([.iface 84 (.pointer (some ⟨m, 0, none⟩)), .pointer (some ⟨r, 0, none⟩)]) (HF.out.box 1 _ _ _ rfl) S34 (by simp [Value.oneCell'])) (Fq.front (l := [(gk1, 27, Aq.cells ⟨false, cl, op, ky, ⟨sa, n, sk⟩, rd, sz, ⟨da, dl, dk⟩⟩)]) (m := [(gk3, 34, #[.iface 84 (.pointer (some ⟨m, 0, none⟩)), .pointer (some ⟨r, 0, none⟩)])]) (HF.out.set 1 rfl _)) (fun hH => ?_)
      try simp only [pS]
      have HM : Hid (Mch (wk12.setRow gk3 (#[.iface 84 (.pointer (some ⟨m, 0, none⟩)), .pointer (some ⟨r, 0, none⟩)])) I m (newS false cl op ky gs rd sz zs)) := HM.out.kept (Kept.setRow _ _ _) (fun k e _ => ⟨fun f => by have : k = gk3 := f; have := hN1 k e; have := hfl _ (List.mem_of_getElem? (i := 1) rfl); dsimp only at this; omega, e⟩)
      have HRf : Hid (RfG (wk12.setRow gk3 (#[.iface 84 (.pointer (some ⟨m, 0, none⟩)), .pointer (some ⟨r, 0, none⟩)])) r (newR false cl op ky gs rd sz ⟨da, dl, dk⟩) g slZ slZ) := HRf.out.kept (Kept.setRow _ _ _) (fun e => box_ne HRf.out.box (HF.out.box 1 _ _ _ rfl) (by decide) e) (fun k e f => Own.notBox HRf.out.gr.own (HF.out.box 1 _ _ _ rfl) (by decide) ((show k = gk3 from f) ▸ e))
      have HF : Hid (Fq No w (wk12.setRow gk3 (#[.iface 84 (.pointer (some ⟨m, 0, none⟩)), .pointer (some ⟨r, 0, none⟩)])) [(gk1, 27, Aq.cells ⟨false, cl, op, ky, ⟨sa, n, sk⟩, rd, sz, ⟨da, dl, dk⟩⟩), (gk3, 34, #[.iface 84 (.pointer (some ⟨m, 0, none⟩)), .pointer (some ⟨r, 0, none⟩)])]) := HF.out.set 1 rfl _
      generalize wk12.setRow gk3 (#[.iface 84 (.pointer (some ⟨m, 0, none⟩)), .pointer (some ⟨r, 0, none⟩)]) = wk13 at HF HM HRf hH ⊢
      refine xV 9 3 (.bool true) hH ?_
      try simp only [pS]
      refine wpAnyH_done (by kernel_rfl) ?_ _
      try simp only [pS]
      clear hH
      go_wp2
      rw [HC.out]
      refine bodyPost_ret (results_row_tmp (by rfl) _ _ gk3 (#[.iface 84 (.pointer (some ⟨m, 0, none⟩)), .pointer (some ⟨r, 0, none⟩)]) (by rfl) (run_load_part (cs := [.iface 84 (.pointer (some ⟨m, 0, none⟩)), .pointer (some ⟨r, 0, none⟩)]) (sub := [.iface 84 (.pointer (some ⟨m, 0, none⟩)), .pointer (some ⟨r, 0, none⟩)]) (HF.out.box 1 _ _ _ rfl) (Part.all _) U34 rfl S34)) rfl ?_
      obtain ⟨h1, h2⟩ := mad_fin HF.out.kept HM.out (fun k e => ⟨by have := hN1 k e; omega, hk3 k e⟩) (by have := HRf.out.box.lt; omega) HRf.out hr0 hg1 (by omega) rfl (H := H)
      exact ⟨m, r, g, I, rfl, h1, new_rel false cl op ky gs rd sz ⟨da, dl, dk⟩ zs (h2 _ _ HD.out hl hoff)⟩

end Go.Proofs.Ythnecaejhnojfaa.Md
