import Derived.Test.YtpabpeppgpeaoaaPa
namespace Go.Proofs.Ytpabpeppgpeaoaa.Md
open Go.RowKit Gt
set_option linter.unusedVariables false
set_option linter.unusedSimpArgs false

set_option maxRecDepth 100000 in
set_option maxHeartbeats 4000000 in
theorem playsWalk (cl op : Int) (y : Ky) (g : Sl) (zs : List Int) (c : Cm) (ballot first : Int) (t : Sl) (xs : List Stp) (w : World) (hG : RdI w g zs) (hnn : g.l ≤ 1100000) (hbn : ballot ≤ 9223372036854775807) (hT : RdS w t xs) (htn : t.l ≤ 140737488351232) : Calls Try.prog 3 #[.int .i64 cl, .int .i64 op, .agg (Ky.cells y), g.v, .agg (Cm.cells c), .int .i64 ballot, .int .i64 first, t.v] w (fun e w' => e = .returned (.bool true) ∧ Kept No w w') := by
  obtain ⟨C, hC⟩ : ∃ C : Ending → World → Prop, C = (fun e w' => e = .returned (.bool true) ∧ Kept No w w') := ⟨_, rfl⟩
  have HC : Hid (C = (fun e w' => e = .returned (.bool true) ∧ Kept No w w')) := hC
  rw [← hC]
  clear hC
  have HG : Hid (RdI w g zs) := hG
  have hzl := hG.len
  have HT : Hid (RdS w t xs) := hT
  clear hG hT
  have HF : Hid (Fq No w w []) := Fq.start _ _
  go_enter Try.func3, Try.ntmps3
  go_upto_region 0 with fail
  refine WL.start ?_
  refine uR (pV w.heap.size 0) (w.alloc (.cells (Ky.cells y) 23)) (exec_box 23 _ rfl (Ky.cells y) (by kernel_rfl)) ?_
  try simp only [pS]
  have HF : Hid (Fq No w (w.alloc (.cells (Ky.cells y) 23)) [(w.heap.size, 23, Ky.cells y)]) := HF.out.alloc _ _
  generalize w.alloc (.cells (Ky.cells y) 23) = wk2 at HF ⊢
  generalize w.heap.size = gk1 at HF ⊢
  refine uR (pV wk2.heap.size 0) (wk2.alloc (.cells (Cm.cells c) 28)) (exec_box 28 _ rfl (Cm.cells c) (by kernel_rfl)) ?_
  try simp only [pS]
  have HF : Hid (Fq No w (wk2.alloc (.cells (Cm.cells c) 28)) [(gk1, 23, Ky.cells y), (wk2.heap.size, 28, Cm.cells c)]) := HF.out.alloc _ _
  generalize wk2.alloc (.cells (Cm.cells c) 28) = wk4 at HF ⊢
  generalize wk2.heap.size = gk3 at HF ⊢
  refine uK (.bool false) <| WL.nil <| ?_
  try simp only [pS]
  go_upto_region 1 with fail
  refine WL.start ?_
  refine uC 8 #[] (known_any _) ?_
  rintro e wk5 ⟨rfl, hk⟩
  have HF : Hid (Fq No w (wk5) [(gk1, 23, Ky.cells y), (gk3, 28, Cm.cells c)]) := HF.out.no hk
  clear hk
  refine ⟨.bool true, rfl, ?_⟩
  try simp only [pS]
  refine uK (.bool false) <| WL.nil <| ?_
  try simp only [pS]
  go_upto_region 3 with fail
  refine WL.start <| uK (g.v) <| uK (.int .i64 ((g.l : Nat) : Int)) <| uB .add 3 (.int .i64 ((g.l : Nat) : Int)) (.int .i64 9) (.int .i64 (((g.l + 9) : Nat) : Int)) (b_addw _ _ _ (by rw [IntKind.wrap_i64]; omega) _) <| ?_
  try simp only [pS]
  refine uR (.slice (some ⟨wk5.heap.size, 0, none⟩) (g.l + 9) (g.l + 9)) (wk5.alloc (.cells ((inL (List.replicate (g.l + 9) 0)).toArray) 3)) (exec_make 24 _ _ rfl _ _ (by kernel_rfl) (by kernel_rfl) (make_in _ (g.l + 9) (by omega))) ?_
  try simp only [pS]
  have HF : Hid (Fq No w (wk5.alloc (.cells ((inL (List.replicate (g.l + 9) 0)).toArray) 3)) [(gk1, 23, Ky.cells y), (gk3, 28, Cm.cells c), (wk5.heap.size, 3, (inL (List.replicate (g.l + 9) 0)).toArray)]) := HF.out.alloc _ _
  generalize wk5.alloc (.cells ((inL (List.replicate (g.l + 9) 0)).toArray) 3) = wk7 at HF ⊢
  generalize wk5.heap.size = gk6 at HF ⊢
  refine uK (.slice (some ⟨gk6, 0, none⟩) (g.l + 9) (g.l + 9)) <| WL.nil <| ?_
  try simp only [pS]
  go_upto_region 4 with fail
  refine WL.start <| uK (.slice (some ⟨gk6, 0, none⟩) (g.l + 9) (g.l + 9)) <| uK (g.v) <| ?_
  try simp only [pS]
  refine uR (goInt g.l) (wk7.setRow gk6 ((inL (mkI zs 0)).toArray)) (exec_copy _ _ 24 24 rfl _ _ (by kernel_rfl) (by kernel_rfl) (cpy_I _ (HF.out.box 2 _ _ _ rfl) (HG.out.no HF.out.kept))) ?_
  try simp only [pS]
  have HF : Hid (Fq No w (wk7.setRow gk6 ((inL (mkI zs 0)).toArray)) [(gk1, 23, Ky.cells y), (gk3, 28, Cm.cells c), (gk6, 3, (inL (mkI zs 0)).toArray)]) := HF.out.set 2 rfl _
  generalize wk7.setRow gk6 ((inL (mkI zs 0)).toArray) = wk8 at HF ⊢
  refine WL.nil ?_
  try simp only [pS]
  go_upto_region 5 with fail
  refine WL.start <| uK (g.v) <| uK (.int .i64 ((g.l : Nat) : Int)) <| uK (.int .i64 ((g.l : Nat) : Int)) <| WL.nil <| ?_
  try simp only [pS]
  go_wp2
  go_loopw [18] (fun v18 wr => ∃ (i : Nat), v18 = .int .i64 ((g.l + i : Nat) : Int) ∧ i ≤ 9 ∧ Hid (Fq No w wr [(gk1, 23, Ky.cells y), (gk3, 28, Cm.cells c), (gk6, 3, (inL (mkI zs i)).toArray)])) (fun i _ => g.l + 9 - (intOf i).toNat)
  case atStart => exact ⟨0, rfl, by omega, HF⟩
  case round =>
    clear HF
    obtain ⟨i, rfl, hi, HF⟩ := hrel
    by_cases hlt : i < 9
    · skip
      go_upto_region 6 with fail
      refine WL.start <| uK (.int .i64 ((g.l + i : Nat) : Int)) <| uK (.slice (some ⟨gk6, 0, none⟩) (g.l + 9) (g.l + 9)) <| uK (.int .i64 (((g.l + 9) : Nat) : Int)) <| uB .lss 3 (.int .i64 ((g.l + i : Nat) : Int)) (.int .i64 (((g.l + 9) : Nat) : Int)) (.bool true) (by rw [b_lss, decide_eq_true (by omega)]) <| WL.nil <| ?_
      try simp only [pS]
      go_upto_region 8 with fail
      refine WL.start <| uK (.slice (some ⟨gk6, 0, none⟩) (g.l + 9) (g.l + 9)) <| uK (.int .i64 ((g.l + i : Nat) : Int)) <| uW (pV gk6 (0 + (g.l + i) * 1)) (exec_ixA 24 1 E24 F24 _ _ rfl gk6 0 (g.l + 9) (g.l + 9) (g.l + i) (by kernel_rfl) (by kernel_rfl) (by omega)) <| ?_
      try simp only [pS]
      refine uT 3 ⟨gk6, 0 + (g.l + i) * 1, none⟩ (.int .i64 (-77)) (wr.setRow gk6 ((inL (mkI zs (i + 1))).toArray)) (lay_I (HF.out.box 2 _ _ _ rfl) hzl (by omega)) ?_
      try simp only [pS]
      have HF : Hid (Fq No w (wr.setRow gk6 ((inL (mkI zs (i + 1))).toArray)) [(gk1, 23, Ky.cells y), (gk3, 28, Cm.cells c), (gk6, 3, (inL (mkI zs (i + 1))).toArray)]) := HF.out.set 2 rfl _
      generalize wr.setRow gk6 ((inL (mkI zs (i + 1))).toArray) = wk9 at HF ⊢
      refine WL.nil ?_
      try simp only [pS]
      go_upto_region 7 with fail
      refine WL.start <| uK (.int .i64 ((g.l + i : Nat) : Int)) <| uB .add 3 (.int .i64 ((g.l + i : Nat) : Int)) (.int .i64 1) (.int .i64 ((((g.l + i) + 1) : Nat) : Int)) (b_addw _ _ _ (by rw [IntKind.wrap_i64]; omega) _) <| uK (.int .i64 ((((g.l + i) + 1) : Nat) : Int)) <| WL.nil <| ?_
      try simp only [pS]
      go_wp2
      go_roundw
      case rel => exact ⟨i + 1, rfl, by omega, HF⟩
      case measure => simp [intOf]; omega
    · obtain rfl : i = 9 := by omega
      go_upto_region 6 with fail
      refine WL.start <| uK (.int .i64 ((g.l + 9 : Nat) : Int)) <| uK (.slice (some ⟨gk6, 0, none⟩) (g.l + 9) (g.l + 9)) <| uK (.int .i64 (((g.l + 9) : Nat) : Int)) <| uB .lss 3 (.int .i64 ((g.l + 9 : Nat) : Int)) (.int .i64 (((g.l + 9) : Nat) : Int)) (.bool false) (by rw [b_lss, decide_eq_false (by omega)]) <| WL.nil <| ?_
      try simp only [pS]
      go_upto_region 9 with fail
      refine wp_region_held_drew (S := fun w' => Fq No w w' [(gk1, 23, Ky.cells y), (gk3, 28, Cm.cells c), (gk6, 3, (inL (mkI zs 9)).toArray)]) rfl (HF.out.drew) (fun hH => ?_)
      have HF : Hid (Fq No w (wr.drew) [(gk1, 23, Ky.cells y), (gk3, 28, Cm.cells c), (gk6, 3, (inL (mkI zs 9)).toArray)]) := HF.out.drew
      generalize wr.drew = wk10 at HF hH ⊢
      refine xV 0 43 (.int .i64 cl) hH <| xV 1 44 (.int .i64 op) hH <| xL 2 45 23 ⟨gk1, 0, none⟩ (.agg (Ky.cells y)) (fun _ hw => run_load_part (cs := Ky.cs y) (sub := Ky.cs y) (hw.box 0 _ _ _ rfl) (Part.all _) U23 rfl S23) hH <| xV 3 46 (.slice (some ⟨gk6, 0, none⟩) (g.l + 9) (g.l + 9)) hH <| xV 4 47 g.v hH <| xV 5 48 (.int .i64 ((g.l : Nat) : Int)) hH <| ?_
      try simp only [pS]
      refine xU 6 49 (.slice (some ⟨gk6, 0, none⟩) g.l (g.l + 9)) (fun w' hw => (exec_slH 24 _ _ rfl 1 E24 F24 (some ⟨gk6, 0, none⟩) (g.l + 9) (g.l + 9) g.l (by kernel_rfl) (by kernel_rfl) (by omega)).trans (by rw [sliced0 _ _ _ _ (by omega)])) hH <| xL 7 50 28 ⟨gk3, 0, none⟩ (.agg (Cm.cells c)) (fun _ hw => run_load_part (cs := Cm.cs c) (sub := Cm.cs c) (hw.box 1 _ _ _ rfl) (Part.all _) U28 rfl S28) hH <| xV 8 51 (.int .i64 ballot) hH <| xV 9 52 (.int .i64 first) hH <| ?_
      try simp only [pS]
      refine xC 10 53 9 #[.int .i64 cl, .int .i64 op, .agg (Ky.cells y), .slice (some ⟨gk6, 0, none⟩) g.l (g.l + 9), .agg (Cm.cells c), .int .i64 ballot, .int .i64 first] (new_P cl op (jK y) _ g.l _ zs (jC c) ballot first _ hzl (by omega) (mk_nums (hH.box 2 _ _ _ rfl))) ?_
      rintro e wk11 ⟨p, I, rfl, hP, hI, hk⟩
      have hH2 : Fq No w wk11 [(gk1, 23, Ky.cells y), (gk3, 28, Cm.cells c), (gk6, 3, (inL (mkI zs 9)).toArray)] := hH.no hk
      obtain ⟨s0, hs0⟩ : ∃ s0, s0 = newS cl op (jK y) zs (jC c) ballot first := ⟨_, rfl⟩
      rw [← hs0] at hP
      have HP : Hid (PrK w gk6 wk11 I p s0) := ⟨hP, fun k e => ⟨by have h1 := (HF.out.box 2 _ _ _ rfl).lt; have h2 := (hI k e).1; omega, by have h1 := HF.out.kept.size; have h2 := (hI k e).1; omega, (hI k e).2⟩⟩
      have HS0 : Hid (s0 = newS cl op (jK y) zs (jC c) ballot first) := hs0
      have HF : Hid (Fq No w (wk11) [(gk1, 23, Ky.cells y), (gk3, 28, Cm.cells c), (gk6, 3, (inL (mkI zs 9)).toArray)]) := HF.out.no hk
      clear hP hI hk hs0
      refine ⟨.pointer (some ⟨p, 0, none⟩), rfl, hH2, fun hH => ?_⟩
      clear hH2
      try simp only [pS]
      refine xV 11 19 (pV p 0) hH ?_
      try simp only [pS]
      refine wpAnyH_done (by kernel_rfl) ?_ _
      try simp only [pS]
      clear hH
      go_upto_region 10 with fail
      refine WL.start <| uK (pV p 0) <| uB .eql 31 (pV p 0) (.pointer none) (.bool false) (by kernel_rfl) <| WL.nil <| ?_
      try simp only [pS]
      go_upto_region 12 with fail
      refine WL.start <| uK (.int .i64 0) <| WL.nil <| ?_
      try simp only [pS]
      go_wp2
      go_loopw [20] (fun v20 wr => ∃ (i : Nat) (ms : List Int), v20 = .int .i64 ((i : Nat) : Int) ∧ i ≤ g.l + 9 ∧ Hid (Fq No w wr [(gk1, 23, Ky.cells y), (gk3, 28, Cm.cells c), (gk6, 3, (inL (ms)).toArray)]) ∧ Hid (MkR zs ms i) ∧ Hid (PrK w gk6 wr I p s0)) (fun i _ => g.l + 9 - (intOf i).toNat)
      case atStart => exact ⟨0, _, by go_num, by omega, HF, MkR.start zs, HP⟩
      case round =>
        clear HF HP
        obtain ⟨i, ms, rfl, hi, HF, HM, HP⟩ := hrel
        by_cases hlt : i < g.l + 9
        · by_cases hig : i < g.l
          · obtain ⟨gb, go, hga, hgc⟩ := HG.out.at hig
            obtain ⟨z, hz⟩ : ∃ z, z = zs[i]?.getD 0 := ⟨_, rfl⟩
            rw [← hz] at hgc
            have HGc : Hid (w.cell? ⟨gb, go + i * 1, none⟩ = some (.int .i64 z)) := hgc
            have hsl : g.v = .slice (some ⟨gb, go, none⟩) g.l g.k := by unfold Sl.v; rw [hga]
            have hms : ms[i]? = some z := by rw [hz]; exact HM.out.lo (by omega)
            clear hgc hz hga
            go_upto_region 13 with fail
            refine WL.start <| uK (.int .i64 ((i : Nat) : Int)) <| uK (.slice (some ⟨gk6, 0, none⟩) (g.l + 9) (g.l + 9)) <| uK (.int .i64 (((g.l + 9) : Nat) : Int)) <| uB .lss 3 (.int .i64 ((i : Nat) : Int)) (.int .i64 (((g.l + 9) : Nat) : Int)) (.bool true) (by rw [b_lss, decide_eq_true (by omega)]) <| WL.nil <| ?_
            try simp only [pS]
            go_upto_region 15 with fail
            refine wp_region_held_drew (S := fun w' => Fq No w w' [(gk1, 23, Ky.cells y), (gk3, 28, Cm.cells c), (gk6, 3, (inL (ms)).toArray)]) rfl (HF.out.drew) (fun hH => ?_)
            have HP : Hid (PrK w gk6 (wr.drew) I p s0) := HP.out.no (Kept.refl No _).drew
            have HF : Hid (Fq No w (wr.drew) [(gk1, 23, Ky.cells y), (gk3, 28, Cm.cells c), (gk6, 3, (inL (ms)).toArray)]) := HF.out.drew
            generalize wr.drew = wk12 at HF HP hH ⊢
            refine xV 0 62 (.int .i64 ((i : Nat) : Int)) hH <| xV 1 63 g.v hH <| xV 2 64 (.int .i64 ((g.l : Nat) : Int)) hH <| xB 3 65 .lss 3 (.int .i64 ((i : Nat) : Int)) (.int .i64 ((g.l : Nat) : Int)) (.bool true) (fun _ _ => by rw [b_lss, decide_eq_true (by omega)]) hH <| xV 4 66 (.bool true) hH <| xV 5 67 (.slice (some ⟨gk6, 0, none⟩) (g.l + 9) (g.l + 9)) hH <| ?_
            try simp only [pS]
            refine xV 6 68 (.int .i64 ((i : Nat) : Int)) hH <| xU 7 69 (pV gk6 (0 + i * 1)) (fun w' hw => exec_ixA 24 1 E24 F24 _ _ rfl gk6 0 (g.l + 9) (g.l + 9) i (by kernel_rfl) (by kernel_rfl) (by omega)) hH <| xL 8 70 3 ⟨gk6, 0 + i * 1, none⟩ (.int .i64 z) (fun _ hw => ld_I (hw.box 2 _ _ _ rfl) hms) hH <| xV 9 71 g.v hH <| xV 10 72 (.int .i64 ((i : Nat) : Int)) hH <| xU 11 73 (pV gb (go + i * 1)) (fun w' hw => exec_ixA 24 1 E24 F24 _ _ rfl gb go g.l g.k i (Eq.trans (b := g.v) (by kernel_rfl) hsl) (by kernel_rfl) (by omega)) hH <| ?_
            try simp only [pS]
            refine xL 12 74 3 ⟨gb, go + i * 1, none⟩ (.int .i64 z) (fun _ hw => load_one (hw.kept.cell HGc.out (fun e => e)) U3 rfl) hH <| xB 13 75 .neq 3 (.int .i64 z) (.int .i64 z) (.bool false) (fun _ _ => by rw [b_neq, beq_self_eq_true]; rfl) hH <| xV 14 76 (.bool false) hH <| xV 15 77 (.bool false) hH <| xV 16 78 (.int .i64 ((i : Nat) : Int)) hH <| xV 17 79 g.v hH <| ?_
            try simp only [pS]
            refine xV 18 80 (.int .i64 ((g.l : Nat) : Int)) hH <| xB 19 81 .geq 3 (.int .i64 ((i : Nat) : Int)) (.int .i64 ((g.l : Nat) : Int)) (.bool false) (fun _ _ => by rw [b_geq, decide_eq_false (by omega)]) hH <| xV 20 82 (.bool false) hH <| xZ 21 83 hH <| xZ 22 84 hH <| xZ 23 85 hH <| ?_
            try simp only [pS]
            refine xZ 24 86 hH <| xZ 25 87 hH <| xV 26 88 (.bool false) hH <| xV 27 89 (.bool false) hH <| ?_
            try simp only [pS]
            refine wpAnyH_done (by kernel_rfl) ?_ _
            try simp only [pS]
            clear hH
            go_upto_region 17 with fail
            refine WL.start <| uK (.slice (some ⟨gk6, 0, none⟩) (g.l + 9) (g.l + 9)) <| uK (.int .i64 ((i : Nat) : Int)) <| uW (pV gk6 (0 + i * 1)) (exec_ixA 24 1 E24 F24 _ _ rfl gk6 0 (g.l + 9) (g.l + 9) i (by kernel_rfl) (by kernel_rfl) (by omega)) <| ?_
            try simp only [pS]
            refine uT 3 ⟨gk6, 0 + i * 1, none⟩ (.int .i64 (-78)) (wk12.setRow gk6 ((inL (ms.set i (-78))).toArray)) (st_I (-78) (HF.out.box 2 _ _ _ rfl) (by rw [HM.out.1]; omega)) ?_
            try simp only [pS]
            have HP : Hid (PrK w gk6 (wk12.setRow gk6 ((inL (ms.set i (-78))).toArray)) I p s0) := HP.out.row _
            have HF : Hid (Fq No w (wk12.setRow gk6 ((inL (ms.set i (-78))).toArray)) [(gk1, 23, Ky.cells y), (gk3, 28, Cm.cells c), (gk6, 3, (inL (ms.set i (-78))).toArray)]) := HF.out.set 2 rfl _
            generalize wk12.setRow gk6 ((inL (ms.set i (-78))).toArray) = wk13 at HF HP ⊢
            refine WL.nil ?_
            try simp only [pS]
            go_upto_region 14 with fail
            refine WL.start <| uK (.int .i64 ((i : Nat) : Int)) <| uB .add 3 (.int .i64 ((i : Nat) : Int)) (.int .i64 1) (.int .i64 (((i + 1) : Nat) : Int)) (b_addw _ _ _ (by rw [IntKind.wrap_i64]; omega) _) <| uK (.int .i64 (((i + 1) : Nat) : Int)) <| WL.nil <| ?_
            try simp only [pS]
            go_wp2
            go_roundw
            case rel => exact ⟨i + 1, _, by go_num, by omega, HF, HM.out.next _, HP⟩
            case measure => simp [intOf]; omega
          · have hms : ms[i]? = some (-77) := HM.out.hi (by omega) (by omega)
            go_upto_region 13 with fail
            refine WL.start <| uK (.int .i64 ((i : Nat) : Int)) <| uK (.slice (some ⟨gk6, 0, none⟩) (g.l + 9) (g.l + 9)) <| uK (.int .i64 (((g.l + 9) : Nat) : Int)) <| uB .lss 3 (.int .i64 ((i : Nat) : Int)) (.int .i64 (((g.l + 9) : Nat) : Int)) (.bool true) (by rw [b_lss, decide_eq_true (by omega)]) <| WL.nil <| ?_
            try simp only [pS]
            go_upto_region 15 with fail
            refine wp_region_held_drew (S := fun w' => Fq No w w' [(gk1, 23, Ky.cells y), (gk3, 28, Cm.cells c), (gk6, 3, (inL (ms)).toArray)]) rfl (HF.out.drew) (fun hH => ?_)
            have HP : Hid (PrK w gk6 (wr.drew) I p s0) := HP.out.no (Kept.refl No _).drew
            have HF : Hid (Fq No w (wr.drew) [(gk1, 23, Ky.cells y), (gk3, 28, Cm.cells c), (gk6, 3, (inL (ms)).toArray)]) := HF.out.drew
            generalize wr.drew = wk14 at HF HP hH ⊢
            refine xV 0 62 (.int .i64 ((i : Nat) : Int)) hH <| xV 1 63 g.v hH <| xV 2 64 (.int .i64 ((g.l : Nat) : Int)) hH <| xB 3 65 .lss 3 (.int .i64 ((i : Nat) : Int)) (.int .i64 ((g.l : Nat) : Int)) (.bool false) (fun _ _ => by rw [b_lss, decide_eq_false (by omega)]) hH <| xV 4 66 (.bool false) hH <| xZ 5 67 hH <| ?_
            try simp only [pS]
            refine xZ 6 68 hH <| xZ 7 69 hH <| xZ 8 70 hH <| xZ 9 71 hH <| xZ 10 72 hH <| xZ 11 73 hH <| ?_
            try simp only [pS]
            refine xZ 12 74 hH <| xZ 13 75 hH <| xV 14 76 (.bool false) hH <| xV 15 77 (.bool false) hH <| xV 16 78 (.int .i64 ((i : Nat) : Int)) hH <| xV 17 79 g.v hH <| ?_
            try simp only [pS]
            refine xV 18 80 (.int .i64 ((g.l : Nat) : Int)) hH <| xB 19 81 .geq 3 (.int .i64 ((i : Nat) : Int)) (.int .i64 ((g.l : Nat) : Int)) (.bool true) (fun _ _ => by rw [b_geq, decide_eq_true (by omega)]) hH <| xV 20 82 (.bool true) hH <| xV 21 83 (.slice (some ⟨gk6, 0, none⟩) (g.l + 9) (g.l + 9)) hH <| xV 22 84 (.int .i64 ((i : Nat) : Int)) hH <| xU 23 85 (pV gk6 (0 + i * 1)) (fun w' hw => exec_ixA 24 1 E24 F24 _ _ rfl gk6 0 (g.l + 9) (g.l + 9) i (by kernel_rfl) (by kernel_rfl) (by omega)) hH <| ?_
            try simp only [pS]
            refine xL 24 86 3 ⟨gk6, 0 + i * 1, none⟩ (.int .i64 (-77)) (fun _ hw => ld_I (hw.box 2 _ _ _ rfl) hms) hH <| xB 25 87 .neq 3 (.int .i64 (-77)) (.int .i64 (-77)) (.bool false) (fun _ _ => by rw [b_neq, beq_self_eq_true]; rfl) hH <| xV 26 88 (.bool false) hH <| xV 27 89 (.bool false) hH <| ?_
            try simp only [pS]
            refine wpAnyH_done (by kernel_rfl) ?_ _
            try simp only [pS]
            clear hH
            go_upto_region 17 with fail
            refine WL.start <| uK (.slice (some ⟨gk6, 0, none⟩) (g.l + 9) (g.l + 9)) <| uK (.int .i64 ((i : Nat) : Int)) <| uW (pV gk6 (0 + i * 1)) (exec_ixA 24 1 E24 F24 _ _ rfl gk6 0 (g.l + 9) (g.l + 9) i (by kernel_rfl) (by kernel_rfl) (by omega)) <| ?_
            try simp only [pS]
            refine uT 3 ⟨gk6, 0 + i * 1, none⟩ (.int .i64 (-78)) (wk14.setRow gk6 ((inL (ms.set i (-78))).toArray)) (st_I (-78) (HF.out.box 2 _ _ _ rfl) (by rw [HM.out.1]; omega)) ?_
            try simp only [pS]
            have HP : Hid (PrK w gk6 (wk14.setRow gk6 ((inL (ms.set i (-78))).toArray)) I p s0) := HP.out.row _
            have HF : Hid (Fq No w (wk14.setRow gk6 ((inL (ms.set i (-78))).toArray)) [(gk1, 23, Ky.cells y), (gk3, 28, Cm.cells c), (gk6, 3, (inL (ms.set i (-78))).toArray)]) := HF.out.set 2 rfl _
            generalize wk14.setRow gk6 ((inL (ms.set i (-78))).toArray) = wk15 at HF HP ⊢
            refine WL.nil ?_
            try simp only [pS]
            go_upto_region 14 with fail
            refine WL.start <| uK (.int .i64 ((i : Nat) : Int)) <| uB .add 3 (.int .i64 ((i : Nat) : Int)) (.int .i64 1) (.int .i64 (((i + 1) : Nat) : Int)) (b_addw _ _ _ (by rw [IntKind.wrap_i64]; omega) _) <| uK (.int .i64 (((i + 1) : Nat) : Int)) <| WL.nil <| ?_
            try simp only [pS]
            go_wp2
            go_roundw
            case rel => exact ⟨i + 1, _, by go_num, by omega, HF, HM.out.next _, HP⟩
            case measure => simp [intOf]; omega
        · skip
          go_upto_region 13 with fail
          refine WL.start <| uK (.int .i64 ((i : Nat) : Int)) <| uK (.slice (some ⟨gk6, 0, none⟩) (g.l + 9) (g.l + 9)) <| uK (.int .i64 (((g.l + 9) : Nat) : Int)) <| uB .lss 3 (.int .i64 ((i : Nat) : Int)) (.int .i64 (((g.l + 9) : Nat) : Int)) (.bool false) (by rw [b_lss, decide_eq_false (by omega)]) <| WL.nil <| ?_
          try simp only [pS]
          go_upto_region 18 with fail
          refine WL.start <| uK (.int .i64 cl) <| uK (.int .i64 op) <| uL 23 ⟨gk1, 0, none⟩ (.agg (Ky.cells y)) (run_load_part (cs := Ky.cs y) (sub := Ky.cs y) (HF.out.box 0 _ _ _ rfl) (Part.all _) U23 rfl S23) <| uK (g.v) <| uL 28 ⟨gk3, 0, none⟩ (.agg (Cm.cells c)) (run_load_part (cs := Cm.cs c) (sub := Cm.cs c) (HF.out.box 1 _ _ _ rfl) (Part.all _) U28 rfl S28) <| uK (.int .i64 ballot) <| uK (.int .i64 first) <| ?_
          try simp only [pS]
          refine uC 10 #[.int .i64 cl, .int .i64 op, .agg (Ky.cells y), g.v, .agg (Cm.cells c), .int .i64 ballot, .int .i64 first] (rNew_any cl op y g zs c ballot first _ (HG.out.no HF.out.kept) (by omega)) ?_
          rintro e wk16 ⟨r, rfl, hR, hk⟩
          obtain ⟨I2, J2, hF⟩ := Wf.make HP.out.1 (fun k e => (HP.out.2 k e).2) HF.out.kept (Kept.refl No _) hR hk
          obtain ⟨x0, hx0⟩ : ∃ x0, x0 = newR cl op y zs c ballot first := ⟨_, rfl⟩
          rw [← hx0] at hF
          have HF : Hid (Wf w No No I2 J2 p r s0 x0 w (wk16) []) := hF
          have HR : Hid (Rel (Bw w) s0 x0) := by rw [HS0.out, hx0]; exact rel_new cl op y zs c ballot first hbn
          clear hF hR hk hx0 HP HS0
          refine ⟨.pointer (some ⟨r, 0, none⟩), rfl, ?_⟩
          try simp only [pS]
          refine uK (pV r 0) <| WL.nil <| ?_
          try simp only [pS]
          go_upto_region 19 with fail
          refine WL.start <| uK (.int .i64 0) <| WL.nil <| ?_
          try simp only [pS]
          go_wp2
          go_loopw [22] (fun v22 wr => ∃ (i : Nat) (I J : Nat → Prop) (s : PS) (x : Rs), v22 = .int .i64 ((i : Nat) : Int) ∧ i ≤ t.l ∧ Hid (Wf w No No I J p r s x w wr []) ∧ Hid (Rel (Bw w) s x)) (fun i _ => t.l - (intOf i).toNat)
          case atStart => exact ⟨0, I2, J2, s0, x0, by go_num, by omega, HF, HR⟩
          case round =>
            clear HF HR
            obtain ⟨i, I, J, s, x, rfl, hi, HF, HR⟩ := hrel
            by_cases hlt : i < t.l
            · obtain ⟨tb, tq, a, bs, es, ls, cs, hta, hA, hM, hN⟩ := HT.out.at hlt
              have htl : t.v = .slice (some ⟨tb, tq, none⟩) t.l t.k := by unfold Sl.v; rw [hta]
              have HA : Hid (∀ (j : Nat) v, (Stp.cs a)[j]? = some v → w.cell? ⟨tb, tq + i * 31 + j, none⟩ = some v) := show ∀ (j : Nat) v, (Stp.cs a)[j]? = some v → w.cell? ⟨tb, tq + i * 31 + j, none⟩ = some v from hA
              clear hta hA
              go_upto_region 20 with fail
              refine WL.start <| uK (.int .i64 ((i : Nat) : Int)) <| uK (t.v) <| uK (.int .i64 ((t.l : Nat) : Int)) <| uB .lss 3 (.int .i64 ((i : Nat) : Int)) (.int .i64 ((t.l : Nat) : Int)) (.bool true) (by rw [b_lss, decide_eq_true (by omega)]) <| WL.nil <| ?_
              try simp only [pS]
              go_upto_region 22 with fail
              refine WL.start <| uK (pV p 0) <| uK (pV r 0) <| uK (t.v) <| uK (.int .i64 ((i : Nat) : Int)) <| uW (pV tb (tq + i * 31)) (exec_ixA 29 31 E29 F29 _ _ rfl tb tq t.l t.k i (Eq.trans (b := t.v) (by kernel_rfl) htl) (by kernel_rfl) (by omega)) <| uL 49 ⟨tb, tq + i * 31, none⟩ (.agg (Stp.cells a)) (load_at (fun j v hv => HF.out.kept.cell (HA.out j v hv) (fun e => e.elim id id)) U49 rfl S49) <| ?_
              try simp only [pS]
              refine uC 11 #[pV p 0, pV r 0, .agg (Stp.cells a)] (step_any w I J p r s x a bs es ls cs _ HF.out.c HR.out hM hN (by rw [HR.out.s0.zs]; exact HF.out.c.a.len)) ?_
              rintro e wk17 ho
              obtain ⟨Ia, Ja, sa, xa, rfl, hF, hR, hz⟩ := HF.out.step ho
              have HF : Hid (Wf w No No Ia Ja p r sa xa w (wk17) []) := hF
              have HR : Hid (Rel (Bw w) sa xa) := hR
              clear ho hF hR hz
              refine ⟨.bool true, rfl, ?_⟩
              try simp only [pS]
              refine uK (.bool false) <| WL.nil <| ?_
              try simp only [pS]
              go_upto_region 21 with fail
              refine WL.start <| uK (.int .i64 ((i : Nat) : Int)) <| uB .add 3 (.int .i64 ((i : Nat) : Int)) (.int .i64 1) (.int .i64 (((i + 1) : Nat) : Int)) (b_addw _ _ _ (by rw [IntKind.wrap_i64]; omega) _) <| uK (.int .i64 (((i + 1) : Nat) : Int)) <| WL.nil <| ?_
              try simp only [pS]
              go_wp2
              go_roundw
              case rel => exact ⟨i + 1, _, _, _, _, by go_num, by omega, HF, HR⟩
              case measure => simp [intOf]; omega
            · skip
              go_upto_region 20 with fail
              refine WL.start <| uK (.int .i64 ((i : Nat) : Int)) <| uK (t.v) <| uK (.int .i64 ((t.l : Nat) : Int)) <| uB .lss 3 (.int .i64 ((i : Nat) : Int)) (.int .i64 ((t.l : Nat) : Int)) (.bool false) (by rw [b_lss, decide_eq_false (by omega)]) <| WL.nil <| ?_
              try simp only [pS]
              go_upto_region 24 with fail
              refine WL.start <| uK (pV p 0) <| uK (pV r 0) <| ?_
              try simp only [pS]
              refine uC 12 #[pV p 0, pV r 0] (shows_any w I J p r s x _ HF.out.c (rel_show HR.out)) ?_
              rintro e wk18 ⟨rfl, hk⟩
              have HF : Hid (Wf w No No I J p r s x w (wk18) []) := HF.out.no hk
              clear hk
              refine ⟨.bool true, rfl, ?_⟩
              try simp only [pS]
              refine uK (.bool true) <| uK (pV p 0) <| uK (pV r 0) <| ?_
              try simp only [pS]
              refine uC 12 #[pV p 0, pV r 0] (shows_any w I J p r s x _ HF.out.c (rel_show HR.out)) ?_
              rintro e wk19 ⟨rfl, hk⟩
              have HF : Hid (Wf w No No I J p r s x w (wk19) []) := HF.out.no hk
              clear hk
              refine ⟨.bool true, rfl, ?_⟩
              try simp only [pS]
              refine uK (.bool true) <| uK (.bool true) <| WL.nil <| ?_
              try simp only [pS]
              go_wp2
              rw [HC.out]
              exact ⟨rfl, HF.out.c.kp⟩

end Go.Proofs.Ytpabpeppgpeaoaa.Md
