import Derived.Test.YtpabpeppgpeaoaaHh
namespace Go.Proofs.Ytpabpeppgpeaoaa.Md
open Go.RowKit Gx
set_option linter.unusedVariables false
set_option linter.unusedSimpArgs false

theorem hits_step (m : Ms) (h : Pax.Hl) (i : Nat) : (List.range (i + 1)).foldl (Pax.hitsH m) h = Pax.hitsH m ((List.range i).foldl (Pax.hitsH m) h) i := by
  rw [List.range_succ, List.foldl_append]; rfl
theorem hits_no {m : Ms} {h : Pax.Hl} {i : Nat} {z : Int} (hz : h.zs[i]? = some z) (hne : ¬ z = m.ti) : Pax.hitsH m h i = h := by
  unfold Pax.hitsH; rw [if_neg (by rw [hz]; exact fun e => hne (Option.some.inj e))]
theorem hits_yes {m : Ms} {h : Pax.Hl} {i : Nat} {x : Ytpabpeppgpeaoaa.In} (hz : h.zs[i]? = some m.ti) (hx : h.ins[i]? = some x) : Pax.hitsH m h i = Pax.hitH h m i x := by
  unfold Pax.hitsH; rw [if_pos hz, hx]; rfl
set_option maxRecDepth 100000 in
set_option maxHeartbeats 4000000 in
theorem deliver_s (J : Nat → Prop) (hb : Nat) (v : Hv) (pp : List Nat) (h : Pax.Hl) (m : Ms) (w : World) (hH : Hal w J hb v pp h) (B : Nat) (hO : Pax.Hok B h) (hB : B ≤ 2000000) (hm : Pax.PlM m) (htc : m.tc = false) : Calls Try.prog 47 #[.pointer (some ⟨hb, 0, none⟩), .agg (Mg.cells (dM m))] w (HlO w J hb pp (Pax.deliverH h m)) := by
  refine hideC fun C HC => ?_
  have htc' : (dM m).too.cl = false := htc
  have HF : Hid (Hg w w J J hb v pp ((List.range 0).foldl (Pax.hitsH m) h) [] []) := Hg.start hH
  clear hH
  have hzn := hO.zs
  go_enter Try.func47, Try.ntmps47
  go_upto_region 0 with fail
  refine WL.start ?_
  refine uR (pV w.heap.size 0) (w.alloc (.cells (Mg.cells (dM m)) 47)) (exec_box 47 _ rfl (Mg.cells (dM m)) (by kernel_rfl)) ?_
  try simp only [pS]
  have HF : Hid (Hg w (w.alloc (.cells (Mg.cells (dM m)) 47)) J J hb v pp ((List.range 0).foldl (Pax.hitsH m) h) [(w.heap.size, 47, Mg.cells (dM m))] []) := HF.out.alloc _ _
  generalize w.alloc (.cells (Mg.cells (dM m)) 47) = wk2 at HF ⊢
  generalize w.heap.size = gk1 at HF ⊢
  refine WL.nil ?_
  try simp only [pS]
  go_upto_region 1 with fail
  refine WL.start <| uK (pV gk1 3) <| uK (pV gk1 3) <| uL 4 ⟨gk1, 3, none⟩ (.bool false) (load_one ((HF.out.box 0 _ _ _ rfl).cell 3 |>.trans ((by kernel_rfl : _ = some (.bool ((dM m).too).cl)).trans (by rw [htc']))) U4 rfl) <| WL.nil <| ?_
  try simp only [pS]
  go_upto_region 9 with fail
  refine WL.start <| uK (.int .i64 0) <| WL.nil <| ?_
  try simp only [pS]
  go_wp2
  go_loopw [5] (fun v5 wr => ∃ (i : Nat) (J1 : Nat → Prop) (v1 : Hv), v5 = .int .i64 ((i : Nat) : Int) ∧ i ≤ h.zs.length ∧ Hid (Hg w wr J J1 hb v1 pp ((List.range i).foldl (Pax.hitsH m) h) [(gk1, 47, Mg.cells (dM m))] [])) (fun i _ => h.zs.length - (intOf i).toNat)
  case atStart => exact ⟨0, J, v, by go_num, by omega, HF⟩
  case round =>
    clear HF
    obtain ⟨i, J1, v1, rfl, hi, HF⟩ := hrel
    have hO1 := Pax.Hok.hitsAll hm (List.range i) hO
    have hzz : ((List.range i).foldl (Pax.hitsH m) h).zs = h.zs := (Pax.hitsAll_zs m _ h).1
    have hgl := HF.out.gl
    rw [hzz] at hgl
    have hil := HF.out.il
    have hli := hO1.li
    rw [hzz] at hli
    by_cases hlt : i < v1.g.l
    · skip
      obtain ⟨z, hz⟩ : ∃ z, ((List.range i).foldl (Pax.hitsH m) h).zs[i]? = some z := ⟨_, List.getElem?_eq_getElem (by rw [hzz]; omega)⟩
      have hst := hits_step m h i
      obtain ⟨gg, hgg⟩ := HF.out.rG hlt
      by_cases hzt : z = ((dM m).too).id
      · skip
        have hzt' : z = m.ti := hzt
        rw [hzt'] at hz
        obtain ⟨x, hx⟩ : ∃ x, ((List.range i).foldl (Pax.hitsH m) h).ins[i]? = some x := ⟨_, List.getElem?_eq_getElem (by omega)⟩
        have hhit := hits_yes hz hx
        have hty : z = m.ti := hzt'
        rw [← hzt'] at hz
        obtain ⟨gi, hgi⟩ := HF.out.rI (i := i) (by omega)
        go_upto_region 10 with fail
        refine WL.start <| uK (.int .i64 ((i : Nat) : Int)) <| uK (pV hb 0) <| uK (pV hb 0) <| uK (pV hb 4) <| uL 24 ⟨hb, 4, none⟩ (v1.g.v) (load_one ((HF.out.hal.box).cell 4 |>.trans (by kernel_rfl)) U24 rfl) <| uK (.int .i64 ((v1.g.l : Nat) : Int)) <| uB .lss 3 (.int .i64 ((i : Nat) : Int)) (.int .i64 ((v1.g.l : Nat) : Int)) (.bool true) (by rw [b_lss, decide_eq_true (by omega)]) <| WL.nil <| ?_
        try simp only [pS]
        go_upto_region 12 with fail
        refine wp_region_held_drew (S := fun w' => Hg w w' J J1 hb v1 pp ((List.range i).foldl (Pax.hitsH m) h) [(gk1, 47, Mg.cells (dM m))] []) rfl (HF.out.drew) (fun hH => ?_)
        have HF : Hid (Hg w wr.drew J J1 hb v1 pp ((List.range i).foldl (Pax.hitsH m) h) [(gk1, 47, Mg.cells (dM m))] []) := HF.out.drew
        generalize wr.drew = wk3 at HF hH ⊢
        refine xV 0 81 (pV hb 0) hH <| xV 1 82 (pV hb 0) hH <| xV 2 83 (pV hb 4) hH <| xL 3 84 24 ⟨hb, 4, none⟩ v1.g.v (fun _ hw => load_one ((hw.hal.box).cell 4 |>.trans (by kernel_rfl)) U24 rfl) hH <| xV 4 85 (.int .i64 ((i : Nat) : Int)) hH <| xU 5 86 (pV gg (0 + i * 1)) (fun w' hw => exec_ixA 24 1 E24 F24 _ _ rfl gg 0 v1.g.l v1.g.k i (Eq.trans (b := v1.g.v) (by kernel_rfl) (sl_v (s := v1.g) hgg)) (by kernel_rfl) (by omega)) hH <| ?_
        try simp only [pS]
        refine xL 6 87 3 ⟨gg, 0 + i * 1, none⟩ (.int .i64 z) (fun _ hw => load_one (hw.cG hgg hz) U3 rfl) hH <| xV 7 88 (pV gk1 3) hH <| xV 8 89 (pV gk1 4) hH <| xL 9 90 3 ⟨gk1, 4, none⟩ (.int .i64 ((dM m).too).id) (fun _ hw => load_one ((hw.box 0 _ _ _ rfl).cell 4 |>.trans (by kernel_rfl)) U3 rfl) hH <| xB 10 91 .neq 3 (.int .i64 z) (.int .i64 ((dM m).too).id) (.bool false) (fun _ _ => by rw [b_neq, beq_iff_eq.2 (by omega)]; rfl) hH <| ?_
        try simp only [pS]
        refine wpAnyH_done (by kernel_rfl) ?_ _
        try simp only [pS]
        clear hH
        go_upto_region 13 with fail
        refine WL.start <| uW (.agg (Mg.cells mgZ)) (exec_build 47 _ rfl (Mg.cells mgZ) (by kernel_rfl)) <| ?_
        try simp only [pS]
        refine uR (pV wk3.heap.size 0) (wk3.alloc (.cells (Mg.cells mgZ) 47)) (exec_alloc 47 rfl (Mg.cells mgZ) Z47) ?_
        try simp only [pS]
        have HF : Hid (Hg w (wk3.alloc (.cells (Mg.cells mgZ) 47)) J J1 hb v1 pp ((List.range i).foldl (Pax.hitsH m) h) [(gk1, 47, Mg.cells (dM m)), (wk3.heap.size, 47, Mg.cells mgZ)] []) := HF.out.alloc _ _
        generalize wk3.alloc (.cells (Mg.cells mgZ) 47) = wk5 at HF ⊢
        generalize wk3.heap.size = gk4 at HF ⊢
        refine uT 47 ⟨gk4, 0, none⟩ (.agg (Mg.cells mgZ)) (wk5.setRow gk4 (Mg.cells mgZ)) (rs (Mg.cs mgZ) (Mg.cs mgZ) (Mg.cs mgZ) (HF.out.box 1 _ _ _ rfl) S47 (Mg.oneL _)) ?_
        try simp only [pS]
        have HF : Hid (Hg w (wk5.setRow gk4 (Mg.cells mgZ)) J J1 hb v1 pp ((List.range i).foldl (Pax.hitsH m) h) [(gk1, 47, Mg.cells (dM m)), (gk4, 47, Mg.cells mgZ)] []) := HF.out.set 1 rfl _
        generalize wk5.setRow gk4 (Mg.cells mgZ) = wk6 at HF ⊢
        refine WL.nil ?_
        try simp only [pS]
        go_upto_region 14 with fail
        refine WL.start <| uK (.bool true) <| WL.nil <| ?_
        try simp only [pS]
        go_upto_region 15 with fail
        refine WL.start <| uK (pV gk1 0) <| uL 3 ⟨gk1, 0, none⟩ (.int .i64 (dM m).k) (load_one ((HF.out.box 0 _ _ _ rfl).cell 0 |>.trans (by kernel_rfl)) U3 rfl) <| WL.nil <| ?_
        try simp only [pS]
        by_cases h3 : (dM m).k = 3
        ·skip
         go_upto_region 16 with fail
         refine WL.start <| uB .eql 3 (.int .i64 (dM m).k) (.int .i64 3) (.bool true) (by rw [b_eql, beq_iff_eq.2 (by omega)]) <| uK (.bool true) <| WL.nil <| ?_
         try simp only [pS]
         go_upto_region 17 with fail
         refine wp_region_held_drew (S := fun w' => Box w' hb 68 (Hv.cells v1) ∧ Box w' gk1 47 (Mg.cells (dM m))) rfl ⟨HF.out.drew.hal.box, HF.out.drew.box 0 _ _ _ rfl⟩ (fun hH => ?_)
         have HF : Hid (Hg w wk6.drew J J1 hb v1 pp ((List.range i).foldl (Pax.hitsH m) h) [(gk1, 47, Mg.cells (dM m)), (gk4, 47, Mg.cells mgZ)] []) := HF.out.drew
         generalize wk6.drew = wk7 at HF hH ⊢
         refine xV 0 98 (pV hb 0) hH <| xV 1 99 (pV hb 0) hH <| xV 2 100 (pV hb 5) hH <| xL 3 101 64 ⟨hb, 5, none⟩ v1.i.v (fun _ hw => load_one ((hw.1).cell 5 |>.trans (by kernel_rfl)) U64 rfl) hH <| xV 4 102 (.int .i64 ((i : Nat) : Int)) hH <| xV 5 103 (pV hb 0) hH <| ?_
         try simp only [pS]
         refine xV 6 104 (pV hb 0) hH <| xV 7 105 (pV hb 5) hH <| xL 8 106 64 ⟨hb, 5, none⟩ v1.i.v (fun _ hw => load_one ((hw.1).cell 5 |>.trans (by kernel_rfl)) U64 rfl) hH <| xV 9 107 (.int .i64 ((i : Nat) : Int)) hH <| xU 10 108 (pV gi (0 + i * 14)) (fun w' hw => exec_ixA 64 14 E64 F64 _ _ rfl gi 0 v1.i.l v1.i.k i (Eq.trans (b := v1.i.v) (by kernel_rfl) (sl_v (s := v1.i) hgi)) (by kernel_rfl) (by omega)) hH <| xV 12 110 (pV gk1 11) hH <| ?_
         try simp only [pS]
         refine xL 13 111 39 ⟨gk1, 11, none⟩ (.agg (Sp.cells ((dM m).st))) (fun _ hw => run_load_part (cs := Mg.cs (dM m)) (sub := Sp.cs ((dM m).st)) (hw.2) (part_of (by kernel_rfl)) U39 rfl S39) hH ?_
         try simp only [pS]
         refine xP 11 109 (.agg (In.cells (dI x))) (w' := wk7) (exec_load 142 _ rfl ⟨gi, 0 + i * 14, none⟩ (by kernel_rfl) (.agg (In.cells (dI x))) (ld_N (HF.out.cI hgi hx))) hH (fun hH => ?_)
         try simp only [pS]
         refine xC 14 112 69 #[.agg (In.cells (dI x)), .agg (Sp.cells ((dM m).st))] (prep_any x m _) ?_
         rintro e wk8 ⟨bx, rfl, hk⟩
         have hH2 : Box wk8 hb 68 (Hv.cells v1) ∧ Box wk8 gk1 47 (Mg.cells (dM m)) := ⟨hH.1.kept hk (fun e => e), hH.2.kept hk (fun e => e)⟩
         have HF : Hid (Hg w wk8 J J1 hb v1 pp ((List.range i).foldl (Pax.hitsH m) h) [(gk1, 47, Mg.cells (dM m)), (gk4, 47, Mg.cells mgZ)] []) := HF.out.no hk
         clear hk
         refine ⟨.tuple #[.agg (In.cells (dI (Pax.prepA x m).1)), .agg (Mg.cells (mq (Pax.prepA x m).2)), .bool bx], rfl, hH2, fun hH => ?_⟩
         clear hH2
         try simp only [pS]
         refine xV 15 97 (.tuple #[.agg (In.cells (dI (Pax.prepA x m).1)), .agg (Mg.cells (mq (Pax.prepA x m).2)), .bool bx]) hH <| xV 16 113 (.agg (In.cells (dI (Pax.prepA x m).1))) hH <| xV 17 114 (.agg (Mg.cells (mq (Pax.prepA x m).2))) hH <| xV 18 115 (.bool bx) hH <| xU 19 116 (pV gi (0 + i * 14)) (fun w' hw => exec_ixA 64 14 E64 F64 _ _ rfl gi 0 v1.i.l v1.i.k i (Eq.trans (b := v1.i.v) (by kernel_rfl) (sl_v (s := v1.i) hgi)) (by kernel_rfl) (by omega)) hH <| ?_
         try simp only [pS]
         obtain ⟨cs, hru, hG⟩ := HF.out.setI hgi (j := i) (by omega) (Pax.prepA x m).1
         refine xS 20 142 ⟨gi, 0 + i * 14, none⟩ (.agg (In.cells (dI (Pax.prepA x m).1))) (w' := wk8.setRow gi cs) hru (⟨hG.hal.box, hG.box 0 _ _ _ rfl⟩) (fun hH => ?_)
         try simp only [pS]
         have HF : Hid (Hg w (wk8.setRow gi cs) J J1 hb v1 pp ({ (List.range i).foldl (Pax.hitsH m) h with ins := ((List.range i).foldl (Pax.hitsH m) h).ins.set i (Pax.prepA x m).1 }) [(gk1, 47, Mg.cells (dM m)), (gk4, 47, Mg.cells mgZ)] []) := hG
         clear hG hru
         generalize wk8.setRow gi cs = wk9 at HF hH ⊢
         refine xS 21 47 ⟨gk4, 0, none⟩ (.agg (Mg.cells (mq (Pax.prepA x m).2))) (w' := wk9.setRow gk4 (Mg.cells (mq (Pax.prepA x m).2))) (rs (Mg.cs mgZ) (Mg.cs (mq (Pax.prepA x m).2)) (Mg.cs (mq (Pax.prepA x m).2)) (HF.out.box 1 _ _ _ rfl) S47 (Mg.oneL _)) (⟨hH.1.rowNe (HF.out.nehb 1 rfl) _, hH.2.rowNe (HF.out.ne 0 1 rfl rfl (by simp)) _⟩) (fun hH => ?_)
         try simp only [pS]
         have HF : Hid (Hg w (wk9.setRow gk4 (Mg.cells (mq (Pax.prepA x m).2))) J J1 hb v1 pp ({ (List.range i).foldl (Pax.hitsH m) h with ins := ((List.range i).foldl (Pax.hitsH m) h).ins.set i (Pax.prepA x m).1 }) [(gk1, 47, Mg.cells (dM m)), (gk4, 47, Mg.cells (mq (Pax.prepA x m).2))] []) := HF.out.set 1 rfl _
         generalize wk9.setRow gk4 (Mg.cells (mq (Pax.prepA x m).2)) = wk10 at HF hH ⊢
         refine wpAnyH_done (by kernel_rfl) ?_ _
         try simp only [pS]
         clear hH
         go_upto_region 23 with fail
         refine WL.start <| uK (.bool true) <| WL.nil <| ?_
         try simp only [pS]
         go_upto_region 24 with fail
         refine WL.start <| uK (pV gk1 3) <| uL 37 ⟨gk1, 3, none⟩ (.agg (Ad.cells ((dM m).too))) (run_load_part (cs := Mg.cs (dM m)) (sub := Ad.cs ((dM m).too)) (HF.out.box 0 _ _ _ rfl) (part_of (by kernel_rfl)) U37 rfl S37) <| uK (pV gk4 1) <| ?_
         try simp only [pS]
         refine uT 37 ⟨gk4, 1, none⟩ (.agg (Ad.cells ((dM m).too))) (wk10.setRow gk4 (Mg.cells ⟨((Pax.prepA x m).2.k), ((dM m).too), adZ, 0, 0, kyZ, ⟨(Pax.prepA x m).2.st.n, (Pax.prepA x m).2.st.c⟩, ⟨(Pax.prepA x m).2.hd.n, (Pax.prepA x m).2.hd.c⟩, slZ, (dC' (Pax.prepA x m).2.c), bvZ, slZ, false⟩)) (rs (Mg.cs (mq (Pax.prepA x m).2)) (Ad.cs ((dM m).too)) (Mg.cs ⟨((Pax.prepA x m).2.k), ((dM m).too), adZ, 0, 0, kyZ, ⟨(Pax.prepA x m).2.st.n, (Pax.prepA x m).2.st.c⟩, ⟨(Pax.prepA x m).2.hd.n, (Pax.prepA x m).2.hd.c⟩, slZ, (dC' (Pax.prepA x m).2.c), bvZ, slZ, false⟩) (HF.out.box 1 _ _ _ rfl) S37 (Ad.oneL _)) ?_
         try simp only [pS]
         have HF : Hid (Hg w (wk10.setRow gk4 (Mg.cells ⟨((Pax.prepA x m).2.k), ((dM m).too), adZ, 0, 0, kyZ, ⟨(Pax.prepA x m).2.st.n, (Pax.prepA x m).2.st.c⟩, ⟨(Pax.prepA x m).2.hd.n, (Pax.prepA x m).2.hd.c⟩, slZ, (dC' (Pax.prepA x m).2.c), bvZ, slZ, false⟩)) J J1 hb v1 pp ({ (List.range i).foldl (Pax.hitsH m) h with ins := ((List.range i).foldl (Pax.hitsH m) h).ins.set i (Pax.prepA x m).1 }) [(gk1, 47, Mg.cells (dM m)), (gk4, 47, Mg.cells ⟨((Pax.prepA x m).2.k), ((dM m).too), adZ, 0, 0, kyZ, ⟨(Pax.prepA x m).2.st.n, (Pax.prepA x m).2.st.c⟩, ⟨(Pax.prepA x m).2.hd.n, (Pax.prepA x m).2.hd.c⟩, slZ, (dC' (Pax.prepA x m).2.c), bvZ, slZ, false⟩)] []) := HF.out.set 1 rfl _
         generalize wk10.setRow gk4 (Mg.cells ⟨((Pax.prepA x m).2.k), ((dM m).too), adZ, 0, 0, kyZ, ⟨(Pax.prepA x m).2.st.n, (Pax.prepA x m).2.st.c⟩, ⟨(Pax.prepA x m).2.hd.n, (Pax.prepA x m).2.hd.c⟩, slZ, (dC' (Pax.prepA x m).2.c), bvZ, slZ, false⟩) = wk11 at HF ⊢
         refine WL.nil ?_
         try simp only [pS]
         go_upto_region 25 with fail
         refine WL.start <| uK (pV gk1 1) <| uL 37 ⟨gk1, 1, none⟩ (.agg (Ad.cells ((dM m).fr))) (run_load_part (cs := Mg.cs (dM m)) (sub := Ad.cs ((dM m).fr)) (HF.out.box 0 _ _ _ rfl) (part_of (by kernel_rfl)) U37 rfl S37) <| uK (pV gk4 3) <| ?_
         try simp only [pS]
         refine uT 37 ⟨gk4, 3, none⟩ (.agg (Ad.cells ((dM m).fr))) (wk11.setRow gk4 (Mg.cells ⟨((Pax.prepA x m).2.k), ((dM m).too), ((dM m).fr), 0, 0, kyZ, ⟨(Pax.prepA x m).2.st.n, (Pax.prepA x m).2.st.c⟩, ⟨(Pax.prepA x m).2.hd.n, (Pax.prepA x m).2.hd.c⟩, slZ, (dC' (Pax.prepA x m).2.c), bvZ, slZ, false⟩)) (rs (Mg.cs ⟨((Pax.prepA x m).2.k), ((dM m).too), adZ, 0, 0, kyZ, ⟨(Pax.prepA x m).2.st.n, (Pax.prepA x m).2.st.c⟩, ⟨(Pax.prepA x m).2.hd.n, (Pax.prepA x m).2.hd.c⟩, slZ, (dC' (Pax.prepA x m).2.c), bvZ, slZ, false⟩) (Ad.cs ((dM m).fr)) (Mg.cs ⟨((Pax.prepA x m).2.k), ((dM m).too), ((dM m).fr), 0, 0, kyZ, ⟨(Pax.prepA x m).2.st.n, (Pax.prepA x m).2.st.c⟩, ⟨(Pax.prepA x m).2.hd.n, (Pax.prepA x m).2.hd.c⟩, slZ, (dC' (Pax.prepA x m).2.c), bvZ, slZ, false⟩) (HF.out.box 1 _ _ _ rfl) S37 (Ad.oneL _)) ?_
         try simp only [pS]
         have HF : Hid (Hg w (wk11.setRow gk4 (Mg.cells ⟨((Pax.prepA x m).2.k), ((dM m).too), ((dM m).fr), 0, 0, kyZ, ⟨(Pax.prepA x m).2.st.n, (Pax.prepA x m).2.st.c⟩, ⟨(Pax.prepA x m).2.hd.n, (Pax.prepA x m).2.hd.c⟩, slZ, (dC' (Pax.prepA x m).2.c), bvZ, slZ, false⟩)) J J1 hb v1 pp ({ (List.range i).foldl (Pax.hitsH m) h with ins := ((List.range i).foldl (Pax.hitsH m) h).ins.set i (Pax.prepA x m).1 }) [(gk1, 47, Mg.cells (dM m)), (gk4, 47, Mg.cells ⟨((Pax.prepA x m).2.k), ((dM m).too), ((dM m).fr), 0, 0, kyZ, ⟨(Pax.prepA x m).2.st.n, (Pax.prepA x m).2.st.c⟩, ⟨(Pax.prepA x m).2.hd.n, (Pax.prepA x m).2.hd.c⟩, slZ, (dC' (Pax.prepA x m).2.c), bvZ, slZ, false⟩)] []) := HF.out.set 1 rfl _
         generalize wk11.setRow gk4 (Mg.cells ⟨((Pax.prepA x m).2.k), ((dM m).too), ((dM m).fr), 0, 0, kyZ, ⟨(Pax.prepA x m).2.st.n, (Pax.prepA x m).2.st.c⟩, ⟨(Pax.prepA x m).2.hd.n, (Pax.prepA x m).2.hd.c⟩, slZ, (dC' (Pax.prepA x m).2.c), bvZ, slZ, false⟩) = wk12 at HF ⊢
         refine WL.nil ?_
         try simp only [pS]
         go_upto_region 26 with fail
         refine WL.start <| uK (pV gk1 5) <| uL 3 ⟨gk1, 5, none⟩ (.int .i64 (dM m).op) (load_one ((HF.out.box 0 _ _ _ rfl).cell 5 |>.trans (by kernel_rfl)) U3 rfl) <| uK (pV gk4 5) <| ?_
         try simp only [pS]
         refine uT 3 ⟨gk4, 5, none⟩ (.int .i64 (dM m).op) (wk12.setRow gk4 (Mg.cells ⟨((Pax.prepA x m).2.k), ((dM m).too), ((dM m).fr), ((dM m).op), 0, kyZ, ⟨(Pax.prepA x m).2.st.n, (Pax.prepA x m).2.st.c⟩, ⟨(Pax.prepA x m).2.hd.n, (Pax.prepA x m).2.hd.c⟩, slZ, (dC' (Pax.prepA x m).2.c), bvZ, slZ, false⟩)) (rs (Mg.cs ⟨((Pax.prepA x m).2.k), ((dM m).too), ((dM m).fr), 0, 0, kyZ, ⟨(Pax.prepA x m).2.st.n, (Pax.prepA x m).2.st.c⟩, ⟨(Pax.prepA x m).2.hd.n, (Pax.prepA x m).2.hd.c⟩, slZ, (dC' (Pax.prepA x m).2.c), bvZ, slZ, false⟩) ([.int .i64 (dM m).op]) (Mg.cs ⟨((Pax.prepA x m).2.k), ((dM m).too), ((dM m).fr), ((dM m).op), 0, kyZ, ⟨(Pax.prepA x m).2.st.n, (Pax.prepA x m).2.st.c⟩, ⟨(Pax.prepA x m).2.hd.n, (Pax.prepA x m).2.hd.c⟩, slZ, (dC' (Pax.prepA x m).2.c), bvZ, slZ, false⟩) (HF.out.box 1 _ _ _ rfl) S3 (by simp [Value.oneCell', Sl.v])) ?_
         try simp only [pS]
         have HF : Hid (Hg w (wk12.setRow gk4 (Mg.cells ⟨((Pax.prepA x m).2.k), ((dM m).too), ((dM m).fr), ((dM m).op), 0, kyZ, ⟨(Pax.prepA x m).2.st.n, (Pax.prepA x m).2.st.c⟩, ⟨(Pax.prepA x m).2.hd.n, (Pax.prepA x m).2.hd.c⟩, slZ, (dC' (Pax.prepA x m).2.c), bvZ, slZ, false⟩)) J J1 hb v1 pp ({ (List.range i).foldl (Pax.hitsH m) h with ins := ((List.range i).foldl (Pax.hitsH m) h).ins.set i (Pax.prepA x m).1 }) [(gk1, 47, Mg.cells (dM m)), (gk4, 47, Mg.cells ⟨((Pax.prepA x m).2.k), ((dM m).too), ((dM m).fr), ((dM m).op), 0, kyZ, ⟨(Pax.prepA x m).2.st.n, (Pax.prepA x m).2.st.c⟩, ⟨(Pax.prepA x m).2.hd.n, (Pax.prepA x m).2.hd.c⟩, slZ, (dC' (Pax.prepA x m).2.c), bvZ, slZ, false⟩)] []) := HF.out.set 1 rfl _
         generalize wk12.setRow gk4 (Mg.cells ⟨((Pax.prepA x m).2.k), ((dM m).too), ((dM m).fr), ((dM m).op), 0, kyZ, ⟨(Pax.prepA x m).2.st.n, (Pax.prepA x m).2.st.c⟩, ⟨(Pax.prepA x m).2.hd.n, (Pax.prepA x m).2.hd.c⟩, slZ, (dC' (Pax.prepA x m).2.c), bvZ, slZ, false⟩) = wk13 at HF ⊢
         refine WL.nil ?_
         try simp only [pS]
         go_upto_region 27 with fail
         refine WL.start <| uK (pV gk1 6) <| uL 3 ⟨gk1, 6, none⟩ (.int .i64 (dM m).rd) (load_one ((HF.out.box 0 _ _ _ rfl).cell 6 |>.trans (by kernel_rfl)) U3 rfl) <| uK (pV gk4 6) <| ?_
         try simp only [pS]
         refine uT 3 ⟨gk4, 6, none⟩ (.int .i64 (dM m).rd) (wk13.setRow gk4 (Mg.cells ⟨((Pax.prepA x m).2.k), ((dM m).too), ((dM m).fr), ((dM m).op), ((dM m).rd), kyZ, ⟨(Pax.prepA x m).2.st.n, (Pax.prepA x m).2.st.c⟩, ⟨(Pax.prepA x m).2.hd.n, (Pax.prepA x m).2.hd.c⟩, slZ, (dC' (Pax.prepA x m).2.c), bvZ, slZ, false⟩)) (rs (Mg.cs ⟨((Pax.prepA x m).2.k), ((dM m).too), ((dM m).fr), ((dM m).op), 0, kyZ, ⟨(Pax.prepA x m).2.st.n, (Pax.prepA x m).2.st.c⟩, ⟨(Pax.prepA x m).2.hd.n, (Pax.prepA x m).2.hd.c⟩, slZ, (dC' (Pax.prepA x m).2.c), bvZ, slZ, false⟩) ([.int .i64 (dM m).rd]) (Mg.cs ⟨((Pax.prepA x m).2.k), ((dM m).too), ((dM m).fr), ((dM m).op), ((dM m).rd), kyZ, ⟨(Pax.prepA x m).2.st.n, (Pax.prepA x m).2.st.c⟩, ⟨(Pax.prepA x m).2.hd.n, (Pax.prepA x m).2.hd.c⟩, slZ, (dC' (Pax.prepA x m).2.c), bvZ, slZ, false⟩) (HF.out.box 1 _ _ _ rfl) S3 (by simp [Value.oneCell', Sl.v])) ?_
         try simp only [pS]
         have HF : Hid (Hg w (wk13.setRow gk4 (Mg.cells ⟨((Pax.prepA x m).2.k), ((dM m).too), ((dM m).fr), ((dM m).op), ((dM m).rd), kyZ, ⟨(Pax.prepA x m).2.st.n, (Pax.prepA x m).2.st.c⟩, ⟨(Pax.prepA x m).2.hd.n, (Pax.prepA x m).2.hd.c⟩, slZ, (dC' (Pax.prepA x m).2.c), bvZ, slZ, false⟩)) J J1 hb v1 pp ({ (List.range i).foldl (Pax.hitsH m) h with ins := ((List.range i).foldl (Pax.hitsH m) h).ins.set i (Pax.prepA x m).1 }) [(gk1, 47, Mg.cells (dM m)), (gk4, 47, Mg.cells ⟨((Pax.prepA x m).2.k), ((dM m).too), ((dM m).fr), ((dM m).op), ((dM m).rd), kyZ, ⟨(Pax.prepA x m).2.st.n, (Pax.prepA x m).2.st.c⟩, ⟨(Pax.prepA x m).2.hd.n, (Pax.prepA x m).2.hd.c⟩, slZ, (dC' (Pax.prepA x m).2.c), bvZ, slZ, false⟩)] []) := HF.out.set 1 rfl _
         generalize wk13.setRow gk4 (Mg.cells ⟨((Pax.prepA x m).2.k), ((dM m).too), ((dM m).fr), ((dM m).op), ((dM m).rd), kyZ, ⟨(Pax.prepA x m).2.st.n, (Pax.prepA x m).2.st.c⟩, ⟨(Pax.prepA x m).2.hd.n, (Pax.prepA x m).2.hd.c⟩, slZ, (dC' (Pax.prepA x m).2.c), bvZ, slZ, false⟩) = wk14 at HF ⊢
         refine WL.nil ?_
         try simp only [pS]
         go_upto_region 28 with fail
         refine WL.start <| uK (pV gk1 7) <| uL 23 ⟨gk1, 7, none⟩ (.agg (Ky.cells ((dM m).ky))) (run_load_part (cs := Mg.cs (dM m)) (sub := Ky.cs ((dM m).ky)) (HF.out.box 0 _ _ _ rfl) (part_of (by kernel_rfl)) U23 rfl S23) <| uK (pV gk4 7) <| ?_
         try simp only [pS]
         refine uT 23 ⟨gk4, 7, none⟩ (.agg (Ky.cells ((dM m).ky))) (wk14.setRow gk4 (Mg.cells ⟨((Pax.prepA x m).2.k), ((dM m).too), ((dM m).fr), ((dM m).op), ((dM m).rd), ((dM m).ky), ⟨(Pax.prepA x m).2.st.n, (Pax.prepA x m).2.st.c⟩, ⟨(Pax.prepA x m).2.hd.n, (Pax.prepA x m).2.hd.c⟩, slZ, (dC' (Pax.prepA x m).2.c), bvZ, slZ, false⟩)) (rs (Mg.cs ⟨((Pax.prepA x m).2.k), ((dM m).too), ((dM m).fr), ((dM m).op), ((dM m).rd), kyZ, ⟨(Pax.prepA x m).2.st.n, (Pax.prepA x m).2.st.c⟩, ⟨(Pax.prepA x m).2.hd.n, (Pax.prepA x m).2.hd.c⟩, slZ, (dC' (Pax.prepA x m).2.c), bvZ, slZ, false⟩) (Ky.cs ((dM m).ky)) (Mg.cs ⟨((Pax.prepA x m).2.k), ((dM m).too), ((dM m).fr), ((dM m).op), ((dM m).rd), ((dM m).ky), ⟨(Pax.prepA x m).2.st.n, (Pax.prepA x m).2.st.c⟩, ⟨(Pax.prepA x m).2.hd.n, (Pax.prepA x m).2.hd.c⟩, slZ, (dC' (Pax.prepA x m).2.c), bvZ, slZ, false⟩) (HF.out.box 1 _ _ _ rfl) S23 (Ky.oneL _)) ?_
         try simp only [pS]
         have HF : Hid (Hg w (wk14.setRow gk4 (Mg.cells ⟨((Pax.prepA x m).2.k), ((dM m).too), ((dM m).fr), ((dM m).op), ((dM m).rd), ((dM m).ky), ⟨(Pax.prepA x m).2.st.n, (Pax.prepA x m).2.st.c⟩, ⟨(Pax.prepA x m).2.hd.n, (Pax.prepA x m).2.hd.c⟩, slZ, (dC' (Pax.prepA x m).2.c), bvZ, slZ, false⟩)) J J1 hb v1 pp ({ (List.range i).foldl (Pax.hitsH m) h with ins := ((List.range i).foldl (Pax.hitsH m) h).ins.set i (Pax.prepA x m).1 }) [(gk1, 47, Mg.cells (dM m)), (gk4, 47, Mg.cells ⟨((Pax.prepA x m).2.k), ((dM m).too), ((dM m).fr), ((dM m).op), ((dM m).rd), ((dM m).ky), ⟨(Pax.prepA x m).2.st.n, (Pax.prepA x m).2.st.c⟩, ⟨(Pax.prepA x m).2.hd.n, (Pax.prepA x m).2.hd.c⟩, slZ, (dC' (Pax.prepA x m).2.c), bvZ, slZ, false⟩)] []) := HF.out.set 1 rfl _
         generalize wk14.setRow gk4 (Mg.cells ⟨((Pax.prepA x m).2.k), ((dM m).too), ((dM m).fr), ((dM m).op), ((dM m).rd), ((dM m).ky), ⟨(Pax.prepA x m).2.st.n, (Pax.prepA x m).2.st.c⟩, ⟨(Pax.prepA x m).2.hd.n, (Pax.prepA x m).2.hd.c⟩, slZ, (dC' (Pax.prepA x m).2.c), bvZ, slZ, false⟩) = wk15 at HF ⊢
         refine WL.nil ?_
         try simp only [pS]
         go_upto_region 29 with fail
         refine WL.start <| uK (pV hb 0) <| uL 47 ⟨gk4, 0, none⟩ (.agg (Mg.cells ⟨((Pax.prepA x m).2.k), ((dM m).too), ((dM m).fr), ((dM m).op), ((dM m).rd), ((dM m).ky), ⟨(Pax.prepA x m).2.st.n, (Pax.prepA x m).2.st.c⟩, ⟨(Pax.prepA x m).2.hd.n, (Pax.prepA x m).2.hd.c⟩, slZ, (dC' (Pax.prepA x m).2.c), bvZ, slZ, false⟩)) (run_load_part (cs := Mg.cs ⟨((Pax.prepA x m).2.k), ((dM m).too), ((dM m).fr), ((dM m).op), ((dM m).rd), ((dM m).ky), ⟨(Pax.prepA x m).2.st.n, (Pax.prepA x m).2.st.c⟩, ⟨(Pax.prepA x m).2.hd.n, (Pax.prepA x m).2.hd.c⟩, slZ, (dC' (Pax.prepA x m).2.c), bvZ, slZ, false⟩) (sub := Mg.cs ⟨((Pax.prepA x m).2.k), ((dM m).too), ((dM m).fr), ((dM m).op), ((dM m).rd), ((dM m).ky), ⟨(Pax.prepA x m).2.st.n, (Pax.prepA x m).2.st.c⟩, ⟨(Pax.prepA x m).2.hd.n, (Pax.prepA x m).2.hd.c⟩, slZ, (dC' (Pax.prepA x m).2.c), bvZ, slZ, false⟩) (HF.out.box 1 _ _ _ rfl) (Part.all _) U47 rfl S47) <| ?_
         try simp only [pS]
         refine uR (.slice (some ⟨wk15.heap.size, 0, none⟩) 1 1) (wk15.alloc (.cells (Mg.cells ⟨((Pax.prepA x m).2.k), ((dM m).too), ((dM m).fr), ((dM m).op), ((dM m).rd), ((dM m).ky), ⟨(Pax.prepA x m).2.st.n, (Pax.prepA x m).2.st.c⟩, ⟨(Pax.prepA x m).2.hd.n, (Pax.prepA x m).2.hd.c⟩, slZ, (dC' (Pax.prepA x m).2.c), bvZ, slZ, false⟩) 47)) (exec_slice2 66 47 _ rfl (Mg.cells ⟨((Pax.prepA x m).2.k), ((dM m).too), ((dM m).fr), ((dM m).op), ((dM m).rd), ((dM m).ky), ⟨(Pax.prepA x m).2.st.n, (Pax.prepA x m).2.st.c⟩, ⟨(Pax.prepA x m).2.hd.n, (Pax.prepA x m).2.hd.c⟩, slZ, (dC' (Pax.prepA x m).2.c), bvZ, slZ, false⟩) (.agg (Mg.cells ⟨((Pax.prepA x m).2.k), ((dM m).too), ((dM m).fr), ((dM m).op), ((dM m).rd), ((dM m).ky), ⟨(Pax.prepA x m).2.st.n, (Pax.prepA x m).2.st.c⟩, ⟨(Pax.prepA x m).2.hd.n, (Pax.prepA x m).2.hd.c⟩, slZ, (dC' (Pax.prepA x m).2.c), bvZ, slZ, false⟩)) (by kernel_rfl) (by kernel_rfl)) ?_
         try simp only [pS]
         have HF : Hid (Hg w (wk15.alloc (.cells (Mg.cells ⟨((Pax.prepA x m).2.k), ((dM m).too), ((dM m).fr), ((dM m).op), ((dM m).rd), ((dM m).ky), ⟨(Pax.prepA x m).2.st.n, (Pax.prepA x m).2.st.c⟩, ⟨(Pax.prepA x m).2.hd.n, (Pax.prepA x m).2.hd.c⟩, slZ, (dC' (Pax.prepA x m).2.c), bvZ, slZ, false⟩) 47)) J J1 hb v1 pp ({ (List.range i).foldl (Pax.hitsH m) h with ins := ((List.range i).foldl (Pax.hitsH m) h).ins.set i (Pax.prepA x m).1 }) [(gk1, 47, Mg.cells (dM m)), (gk4, 47, Mg.cells ⟨((Pax.prepA x m).2.k), ((dM m).too), ((dM m).fr), ((dM m).op), ((dM m).rd), ((dM m).ky), ⟨(Pax.prepA x m).2.st.n, (Pax.prepA x m).2.st.c⟩, ⟨(Pax.prepA x m).2.hd.n, (Pax.prepA x m).2.hd.c⟩, slZ, (dC' (Pax.prepA x m).2.c), bvZ, slZ, false⟩), (wk15.heap.size, 47, Mg.cells ⟨((Pax.prepA x m).2.k), ((dM m).too), ((dM m).fr), ((dM m).op), ((dM m).rd), ((dM m).ky), ⟨(Pax.prepA x m).2.st.n, (Pax.prepA x m).2.st.c⟩, ⟨(Pax.prepA x m).2.hd.n, (Pax.prepA x m).2.hd.c⟩, slZ, (dC' (Pax.prepA x m).2.c), bvZ, slZ, false⟩)] []) := HF.out.alloc _ _
         generalize wk15.alloc (.cells (Mg.cells ⟨((Pax.prepA x m).2.k), ((dM m).too), ((dM m).fr), ((dM m).op), ((dM m).rd), ((dM m).ky), ⟨(Pax.prepA x m).2.st.n, (Pax.prepA x m).2.st.c⟩, ⟨(Pax.prepA x m).2.hd.n, (Pax.prepA x m).2.hd.c⟩, slZ, (dC' (Pax.prepA x m).2.c), bvZ, slZ, false⟩) 47) = wk17 at HF ⊢
         generalize wk15.heap.size = gk16 at HF ⊢
         have hOne : OwM wk17 0 ⟨some ⟨gk16, 0, none⟩, 1, 1⟩ ([(Pax.prepA x m).2].map dM) := by
           show OwM _ 0 _ [dM (Pax.prepA x m).2]
           rw [prepA_g]
           exact OwM.one (HF.out.box 2 _ _ _ rfl)
         refine uC 46 #[pV hb 0, .slice (some ⟨gk16, 0, none⟩) 1 1] (send_any J1 hb v1 pp _ ⟨some ⟨gk16, 0, none⟩, 1, 1⟩ [(Pax.prepA x m).2] _ HF.out.hal hOne (fun k e f => HF.out.li 2 _ _ _ rfl (by obtain ⟨ad, e, rfl⟩ := e; cases e; exact f)) (Nat.le_trans hO1.way hB) (by simp)) ?_
         rintro e wk18 ho
         obtain ⟨J3, v3, rfl, hG⟩ := HF.out.hcall ho
         have HF : Hid (Hg w wk18 J J3 hb v3 pp (Pax.sendH ({ (List.range i).foldl (Pax.hitsH m) h with ins := ((List.range i).foldl (Pax.hitsH m) h).ins.set i (Pax.prepA x m).1 }) [(Pax.prepA x m).2]) [(gk1, 47, Mg.cells (dM m)), (gk4, 47, Mg.cells ⟨((Pax.prepA x m).2.k), ((dM m).too), ((dM m).fr), ((dM m).op), ((dM m).rd), ((dM m).ky), ⟨(Pax.prepA x m).2.st.n, (Pax.prepA x m).2.st.c⟩, ⟨(Pax.prepA x m).2.hd.n, (Pax.prepA x m).2.hd.c⟩, slZ, (dC' (Pax.prepA x m).2.c), bvZ, slZ, false⟩), (gk16, 47, Mg.cells ⟨((Pax.prepA x m).2.k), ((dM m).too), ((dM m).fr), ((dM m).op), ((dM m).rd), ((dM m).ky), ⟨(Pax.prepA x m).2.st.n, (Pax.prepA x m).2.st.c⟩, ⟨(Pax.prepA x m).2.hd.n, (Pax.prepA x m).2.hd.c⟩, slZ, (dC' (Pax.prepA x m).2.c), bvZ, slZ, false⟩)] []) := hG
         clear ho hG hOne
         refine ⟨.tuple #[], rfl, ?_⟩
         try simp only [pS]
         refine WL.nil ?_
         try simp only [pS]
         have HF : Hid (Hg w wk18 J J3 hb v3 pp ((List.range (i + 1)).foldl (Pax.hitsH m) h) [(gk1, 47, Mg.cells (dM m)), (gk4, 47, Mg.cells ⟨((Pax.prepA x m).2.k), ((dM m).too), ((dM m).fr), ((dM m).op), ((dM m).rd), ((dM m).ky), ⟨(Pax.prepA x m).2.st.n, (Pax.prepA x m).2.st.c⟩, ⟨(Pax.prepA x m).2.hd.n, (Pax.prepA x m).2.hd.c⟩, slZ, (dC' (Pax.prepA x m).2.c), bvZ, slZ, false⟩), (gk16, 47, Mg.cells ⟨((Pax.prepA x m).2.k), ((dM m).too), ((dM m).fr), ((dM m).op), ((dM m).rd), ((dM m).ky), ⟨(Pax.prepA x m).2.st.n, (Pax.prepA x m).2.st.c⟩, ⟨(Pax.prepA x m).2.hd.n, (Pax.prepA x m).2.hd.c⟩, slZ, (dC' (Pax.prepA x m).2.c), bvZ, slZ, false⟩)] []) := by
           have e : (List.range (i + 1)).foldl (Pax.hitsH m) h = Pax.sendH ({ (List.range i).foldl (Pax.hitsH m) h with ins := ((List.range i).foldl (Pax.hitsH m) h).ins.set i (Pax.prepA x m).1 }) [(Pax.prepA x m).2] := by
             rw [hst, hhit]; unfold Pax.hitH; rw [if_pos (show m.k = 3 from h3)]
           rw [e]
           exact HF
         have HF : Hid (Hg w wk18 J J3 hb v3 pp ((List.range (i + 1)).foldl (Pax.hitsH m) h) [(gk1, 47, Mg.cells (dM m))] []) := Hg.front (l := [(gk1, 47, Mg.cells (dM m))]) HF.out
         go_upto_region 11 with fail
         refine WL.start <| uK (.int .i64 ((i : Nat) : Int)) <| uB .add 3 (.int .i64 ((i : Nat) : Int)) (.int .i64 1) (.int .i64 (((i + 1) : Nat) : Int)) (b_addw _ _ _ (by rw [IntKind.wrap_i64]; omega) _) <| uK (.int .i64 (((i + 1) : Nat) : Int)) <| WL.nil <| ?_
         try simp only [pS]
         go_wp2
         go_roundw
         case rel => exact ⟨i + 1, J3, v3, by go_num, by omega, HF⟩
         case measure => simp [intOf]; omega
        ·skip
         by_cases h4 : (dM m).k = 4
         ·skip
          go_upto_region 16 with fail
          refine WL.start <| uB .eql 3 (.int .i64 (dM m).k) (.int .i64 3) (.bool false) (by rw [b_eql, beq_eq_false_iff_ne.2 (by omega)]) <| uK (.bool false) <| WL.nil <| ?_
          try simp only [pS]
          go_upto_region 18 with fail
          refine WL.start <| uB .eql 3 (.int .i64 (dM m).k) (.int .i64 4) (.bool true) (by rw [b_eql, beq_iff_eq.2 (by omega)]) <| uK (.bool true) <| WL.nil <| ?_
          try simp only [pS]
          go_upto_region 19 with fail
          refine wp_region_held_drew (S := fun w' => Box w' hb 68 (Hv.cells v1) ∧ Box w' gk1 47 (Mg.cells (dM m))) rfl ⟨HF.out.drew.hal.box, HF.out.drew.box 0 _ _ _ rfl⟩ (fun hH => ?_)
          have HF : Hid (Hg w wk6.drew J J1 hb v1 pp ((List.range i).foldl (Pax.hitsH m) h) [(gk1, 47, Mg.cells (dM m)), (gk4, 47, Mg.cells mgZ)] []) := HF.out.drew
          generalize wk6.drew = wk19 at HF hH ⊢
          refine xV 0 120 (pV hb 0) hH <| xV 1 121 (pV hb 0) hH <| xV 2 122 (pV hb 5) hH <| xL 3 123 64 ⟨hb, 5, none⟩ v1.i.v (fun _ hw => load_one ((hw.1).cell 5 |>.trans (by kernel_rfl)) U64 rfl) hH <| xV 4 124 (.int .i64 ((i : Nat) : Int)) hH <| xV 5 125 (pV hb 0) hH <| ?_
          try simp only [pS]
          refine xV 6 126 (pV hb 0) hH <| xV 7 127 (pV hb 5) hH <| xL 8 128 64 ⟨hb, 5, none⟩ v1.i.v (fun _ hw => load_one ((hw.1).cell 5 |>.trans (by kernel_rfl)) U64 rfl) hH <| xV 9 129 (.int .i64 ((i : Nat) : Int)) hH <| xU 10 130 (pV gi (0 + i * 14)) (fun w' hw => exec_ixA 64 14 E64 F64 _ _ rfl gi 0 v1.i.l v1.i.k i (Eq.trans (b := v1.i.v) (by kernel_rfl) (sl_v (s := v1.i) hgi)) (by kernel_rfl) (by omega)) hH <| xV 12 132 (pV gk1 11) hH <| ?_
          try simp only [pS]
          refine xL 13 133 39 ⟨gk1, 11, none⟩ (.agg (Sp.cells ((dM m).st))) (fun _ hw => run_load_part (cs := Mg.cs (dM m)) (sub := Sp.cs ((dM m).st)) (hw.2) (part_of (by kernel_rfl)) U39 rfl S39) hH <| xV 14 134 (pV gk1 16) hH <| xL 15 135 28 ⟨gk1, 16, none⟩ (.agg (Cm.cells ((dM m).c))) (fun _ hw => run_load_part (cs := Mg.cs (dM m)) (sub := Cm.cs ((dM m).c)) (hw.2) (part_of (by kernel_rfl)) U28 rfl S28) hH <| ?_
          try simp only [pS]
          refine xP 11 131 (.agg (In.cells (dI x))) (w' := wk19) (exec_load 142 _ rfl ⟨gi, 0 + i * 14, none⟩ (by kernel_rfl) (.agg (In.cells (dI x))) (ld_N (HF.out.cI hgi hx))) hH (fun hH => ?_)
          try simp only [pS]
          refine xC 16 136 70 #[.agg (In.cells (dI x)), .agg (Sp.cells ((dM m).st)), .agg (Cm.cells ((dM m).c))] (acc_any x m _) ?_
          rintro e wk20 ⟨bx, rfl, hk⟩
          have hH2 : Box wk20 hb 68 (Hv.cells v1) ∧ Box wk20 gk1 47 (Mg.cells (dM m)) := ⟨hH.1.kept hk (fun e => e), hH.2.kept hk (fun e => e)⟩
          have HF : Hid (Hg w wk20 J J1 hb v1 pp ((List.range i).foldl (Pax.hitsH m) h) [(gk1, 47, Mg.cells (dM m)), (gk4, 47, Mg.cells mgZ)] []) := HF.out.no hk
          clear hk
          refine ⟨.tuple #[.agg (In.cells (dI (Pax.accA x m).1)), .agg (Mg.cells (mq (Pax.accA x m).2)), .bool bx], rfl, hH2, fun hH => ?_⟩
          clear hH2
          try simp only [pS]
          refine xV 17 119 (.tuple #[.agg (In.cells (dI (Pax.accA x m).1)), .agg (Mg.cells (mq (Pax.accA x m).2)), .bool bx]) hH <| xV 18 137 (.agg (In.cells (dI (Pax.accA x m).1))) hH <| xV 19 138 (.agg (Mg.cells (mq (Pax.accA x m).2))) hH <| xV 20 139 (.bool bx) hH <| xU 21 140 (pV gi (0 + i * 14)) (fun w' hw => exec_ixA 64 14 E64 F64 _ _ rfl gi 0 v1.i.l v1.i.k i (Eq.trans (b := v1.i.v) (by kernel_rfl) (sl_v (s := v1.i) hgi)) (by kernel_rfl) (by omega)) hH <| ?_
          try simp only [pS]
          obtain ⟨cs, hru, hG⟩ := HF.out.setI hgi (j := i) (by omega) (Pax.accA x m).1
          refine xS 22 142 ⟨gi, 0 + i * 14, none⟩ (.agg (In.cells (dI (Pax.accA x m).1))) (w' := wk20.setRow gi cs) hru (⟨hG.hal.box, hG.box 0 _ _ _ rfl⟩) (fun hH => ?_)
          try simp only [pS]
          have HF : Hid (Hg w (wk20.setRow gi cs) J J1 hb v1 pp ({ (List.range i).foldl (Pax.hitsH m) h with ins := ((List.range i).foldl (Pax.hitsH m) h).ins.set i (Pax.accA x m).1 }) [(gk1, 47, Mg.cells (dM m)), (gk4, 47, Mg.cells mgZ)] []) := hG
          clear hG hru
          generalize wk20.setRow gi cs = wk21 at HF hH ⊢
          refine xS 23 47 ⟨gk4, 0, none⟩ (.agg (Mg.cells (mq (Pax.accA x m).2))) (w' := wk21.setRow gk4 (Mg.cells (mq (Pax.accA x m).2))) (rs (Mg.cs mgZ) (Mg.cs (mq (Pax.accA x m).2)) (Mg.cs (mq (Pax.accA x m).2)) (HF.out.box 1 _ _ _ rfl) S47 (Mg.oneL _)) (⟨hH.1.rowNe (HF.out.nehb 1 rfl) _, hH.2.rowNe (HF.out.ne 0 1 rfl rfl (by simp)) _⟩) (fun hH => ?_)
          try simp only [pS]
          have HF : Hid (Hg w (wk21.setRow gk4 (Mg.cells (mq (Pax.accA x m).2))) J J1 hb v1 pp ({ (List.range i).foldl (Pax.hitsH m) h with ins := ((List.range i).foldl (Pax.hitsH m) h).ins.set i (Pax.accA x m).1 }) [(gk1, 47, Mg.cells (dM m)), (gk4, 47, Mg.cells (mq (Pax.accA x m).2))] []) := HF.out.set 1 rfl _
          generalize wk21.setRow gk4 (Mg.cells (mq (Pax.accA x m).2)) = wk22 at HF hH ⊢
          refine wpAnyH_done (by kernel_rfl) ?_ _
          try simp only [pS]
          clear hH
          go_upto_region 23 with fail
          refine WL.start <| uK (.bool true) <| WL.nil <| ?_
          try simp only [pS]
          go_upto_region 24 with fail
          refine WL.start <| uK (pV gk1 3) <| uL 37 ⟨gk1, 3, none⟩ (.agg (Ad.cells ((dM m).too))) (run_load_part (cs := Mg.cs (dM m)) (sub := Ad.cs ((dM m).too)) (HF.out.box 0 _ _ _ rfl) (part_of (by kernel_rfl)) U37 rfl S37) <| uK (pV gk4 1) <| ?_
          try simp only [pS]
          refine uT 37 ⟨gk4, 1, none⟩ (.agg (Ad.cells ((dM m).too))) (wk22.setRow gk4 (Mg.cells ⟨((Pax.accA x m).2.k), ((dM m).too), adZ, 0, 0, kyZ, ⟨(Pax.accA x m).2.st.n, (Pax.accA x m).2.st.c⟩, ⟨(Pax.accA x m).2.hd.n, (Pax.accA x m).2.hd.c⟩, slZ, (dC' (Pax.accA x m).2.c), bvZ, slZ, false⟩)) (rs (Mg.cs (mq (Pax.accA x m).2)) (Ad.cs ((dM m).too)) (Mg.cs ⟨((Pax.accA x m).2.k), ((dM m).too), adZ, 0, 0, kyZ, ⟨(Pax.accA x m).2.st.n, (Pax.accA x m).2.st.c⟩, ⟨(Pax.accA x m).2.hd.n, (Pax.accA x m).2.hd.c⟩, slZ, (dC' (Pax.accA x m).2.c), bvZ, slZ, false⟩) (HF.out.box 1 _ _ _ rfl) S37 (Ad.oneL _)) ?_
          try simp only [pS]
          have HF : Hid (Hg w (wk22.setRow gk4 (Mg.cells ⟨((Pax.accA x m).2.k), ((dM m).too), adZ, 0, 0, kyZ, ⟨(Pax.accA x m).2.st.n, (Pax.accA x m).2.st.c⟩, ⟨(Pax.accA x m).2.hd.n, (Pax.accA x m).2.hd.c⟩, slZ, (dC' (Pax.accA x m).2.c), bvZ, slZ, false⟩)) J J1 hb v1 pp ({ (List.range i).foldl (Pax.hitsH m) h with ins := ((List.range i).foldl (Pax.hitsH m) h).ins.set i (Pax.accA x m).1 }) [(gk1, 47, Mg.cells (dM m)), (gk4, 47, Mg.cells ⟨((Pax.accA x m).2.k), ((dM m).too), adZ, 0, 0, kyZ, ⟨(Pax.accA x m).2.st.n, (Pax.accA x m).2.st.c⟩, ⟨(Pax.accA x m).2.hd.n, (Pax.accA x m).2.hd.c⟩, slZ, (dC' (Pax.accA x m).2.c), bvZ, slZ, false⟩)] []) := HF.out.set 1 rfl _
          generalize wk22.setRow gk4 (Mg.cells ⟨((Pax.accA x m).2.k), ((dM m).too), adZ, 0, 0, kyZ, ⟨(Pax.accA x m).2.st.n, (Pax.accA x m).2.st.c⟩, ⟨(Pax.accA x m).2.hd.n, (Pax.accA x m).2.hd.c⟩, slZ, (dC' (Pax.accA x m).2.c), bvZ, slZ, false⟩) = wk23 at HF ⊢
          refine WL.nil ?_
          try simp only [pS]
          go_upto_region 25 with fail
          refine WL.start <| uK (pV gk1 1) <| uL 37 ⟨gk1, 1, none⟩ (.agg (Ad.cells ((dM m).fr))) (run_load_part (cs := Mg.cs (dM m)) (sub := Ad.cs ((dM m).fr)) (HF.out.box 0 _ _ _ rfl) (part_of (by kernel_rfl)) U37 rfl S37) <| uK (pV gk4 3) <| ?_
          try simp only [pS]
          refine uT 37 ⟨gk4, 3, none⟩ (.agg (Ad.cells ((dM m).fr))) (wk23.setRow gk4 (Mg.cells ⟨((Pax.accA x m).2.k), ((dM m).too), ((dM m).fr), 0, 0, kyZ, ⟨(Pax.accA x m).2.st.n, (Pax.accA x m).2.st.c⟩, ⟨(Pax.accA x m).2.hd.n, (Pax.accA x m).2.hd.c⟩, slZ, (dC' (Pax.accA x m).2.c), bvZ, slZ, false⟩)) (rs (Mg.cs ⟨((Pax.accA x m).2.k), ((dM m).too), adZ, 0, 0, kyZ, ⟨(Pax.accA x m).2.st.n, (Pax.accA x m).2.st.c⟩, ⟨(Pax.accA x m).2.hd.n, (Pax.accA x m).2.hd.c⟩, slZ, (dC' (Pax.accA x m).2.c), bvZ, slZ, false⟩) (Ad.cs ((dM m).fr)) (Mg.cs ⟨((Pax.accA x m).2.k), ((dM m).too), ((dM m).fr), 0, 0, kyZ, ⟨(Pax.accA x m).2.st.n, (Pax.accA x m).2.st.c⟩, ⟨(Pax.accA x m).2.hd.n, (Pax.accA x m).2.hd.c⟩, slZ, (dC' (Pax.accA x m).2.c), bvZ, slZ, false⟩) (HF.out.box 1 _ _ _ rfl) S37 (Ad.oneL _)) ?_
          try simp only [pS]
          have HF : Hid (Hg w (wk23.setRow gk4 (Mg.cells ⟨((Pax.accA x m).2.k), ((dM m).too), ((dM m).fr), 0, 0, kyZ, ⟨(Pax.accA x m).2.st.n, (Pax.accA x m).2.st.c⟩, ⟨(Pax.accA x m).2.hd.n, (Pax.accA x m).2.hd.c⟩, slZ, (dC' (Pax.accA x m).2.c), bvZ, slZ, false⟩)) J J1 hb v1 pp ({ (List.range i).foldl (Pax.hitsH m) h with ins := ((List.range i).foldl (Pax.hitsH m) h).ins.set i (Pax.accA x m).1 }) [(gk1, 47, Mg.cells (dM m)), (gk4, 47, Mg.cells ⟨((Pax.accA x m).2.k), ((dM m).too), ((dM m).fr), 0, 0, kyZ, ⟨(Pax.accA x m).2.st.n, (Pax.accA x m).2.st.c⟩, ⟨(Pax.accA x m).2.hd.n, (Pax.accA x m).2.hd.c⟩, slZ, (dC' (Pax.accA x m).2.c), bvZ, slZ, false⟩)] []) := HF.out.set 1 rfl _
          generalize wk23.setRow gk4 (Mg.cells ⟨((Pax.accA x m).2.k), ((dM m).too), ((dM m).fr), 0, 0, kyZ, ⟨(Pax.accA x m).2.st.n, (Pax.accA x m).2.st.c⟩, ⟨(Pax.accA x m).2.hd.n, (Pax.accA x m).2.hd.c⟩, slZ, (dC' (Pax.accA x m).2.c), bvZ, slZ, false⟩) = wk24 at HF ⊢
          refine WL.nil ?_
          try simp only [pS]
          go_upto_region 26 with fail
          refine WL.start <| uK (pV gk1 5) <| uL 3 ⟨gk1, 5, none⟩ (.int .i64 (dM m).op) (load_one ((HF.out.box 0 _ _ _ rfl).cell 5 |>.trans (by kernel_rfl)) U3 rfl) <| uK (pV gk4 5) <| ?_
          try simp only [pS]
          refine uT 3 ⟨gk4, 5, none⟩ (.int .i64 (dM m).op) (wk24.setRow gk4 (Mg.cells ⟨((Pax.accA x m).2.k), ((dM m).too), ((dM m).fr), ((dM m).op), 0, kyZ, ⟨(Pax.accA x m).2.st.n, (Pax.accA x m).2.st.c⟩, ⟨(Pax.accA x m).2.hd.n, (Pax.accA x m).2.hd.c⟩, slZ, (dC' (Pax.accA x m).2.c), bvZ, slZ, false⟩)) (rs (Mg.cs ⟨((Pax.accA x m).2.k), ((dM m).too), ((dM m).fr), 0, 0, kyZ, ⟨(Pax.accA x m).2.st.n, (Pax.accA x m).2.st.c⟩, ⟨(Pax.accA x m).2.hd.n, (Pax.accA x m).2.hd.c⟩, slZ, (dC' (Pax.accA x m).2.c), bvZ, slZ, false⟩) ([.int .i64 (dM m).op]) (Mg.cs ⟨((Pax.accA x m).2.k), ((dM m).too), ((dM m).fr), ((dM m).op), 0, kyZ, ⟨(Pax.accA x m).2.st.n, (Pax.accA x m).2.st.c⟩, ⟨(Pax.accA x m).2.hd.n, (Pax.accA x m).2.hd.c⟩, slZ, (dC' (Pax.accA x m).2.c), bvZ, slZ, false⟩) (HF.out.box 1 _ _ _ rfl) S3 (by simp [Value.oneCell', Sl.v])) ?_
          try simp only [pS]
          have HF : Hid (Hg w (wk24.setRow gk4 (Mg.cells ⟨((Pax.accA x m).2.k), ((dM m).too), ((dM m).fr), ((dM m).op), 0, kyZ, ⟨(Pax.accA x m).2.st.n, (Pax.accA x m).2.st.c⟩, ⟨(Pax.accA x m).2.hd.n, (Pax.accA x m).2.hd.c⟩, slZ, (dC' (Pax.accA x m).2.c), bvZ, slZ, false⟩)) J J1 hb v1 pp ({ (List.range i).foldl (Pax.hitsH m) h with ins := ((List.range i).foldl (Pax.hitsH m) h).ins.set i (Pax.accA x m).1 }) [(gk1, 47, Mg.cells (dM m)), (gk4, 47, Mg.cells ⟨((Pax.accA x m).2.k), ((dM m).too), ((dM m).fr), ((dM m).op), 0, kyZ, ⟨(Pax.accA x m).2.st.n, (Pax.accA x m).2.st.c⟩, ⟨(Pax.accA x m).2.hd.n, (Pax.accA x m).2.hd.c⟩, slZ, (dC' (Pax.accA x m).2.c), bvZ, slZ, false⟩)] []) := HF.out.set 1 rfl _
          generalize wk24.setRow gk4 (Mg.cells ⟨((Pax.accA x m).2.k), ((dM m).too), ((dM m).fr), ((dM m).op), 0, kyZ, ⟨(Pax.accA x m).2.st.n, (Pax.accA x m).2.st.c⟩, ⟨(Pax.accA x m).2.hd.n, (Pax.accA x m).2.hd.c⟩, slZ, (dC' (Pax.accA x m).2.c), bvZ, slZ, false⟩) = wk25 at HF ⊢
          refine WL.nil ?_
          try simp only [pS]
          go_upto_region 27 with fail
          refine WL.start <| uK (pV gk1 6) <| uL 3 ⟨gk1, 6, none⟩ (.int .i64 (dM m).rd) (load_one ((HF.out.box 0 _ _ _ rfl).cell 6 |>.trans (by kernel_rfl)) U3 rfl) <| uK (pV gk4 6) <| ?_
          try simp only [pS]
          refine uT 3 ⟨gk4, 6, none⟩ (.int .i64 (dM m).rd) (wk25.setRow gk4 (Mg.cells ⟨((Pax.accA x m).2.k), ((dM m).too), ((dM m).fr), ((dM m).op), ((dM m).rd), kyZ, ⟨(Pax.accA x m).2.st.n, (Pax.accA x m).2.st.c⟩, ⟨(Pax.accA x m).2.hd.n, (Pax.accA x m).2.hd.c⟩, slZ, (dC' (Pax.accA x m).2.c), bvZ, slZ, false⟩)) (rs (Mg.cs ⟨((Pax.accA x m).2.k), ((dM m).too), ((dM m).fr), ((dM m).op), 0, kyZ, ⟨(Pax.accA x m).2.st.n, (Pax.accA x m).2.st.c⟩, ⟨(Pax.accA x m).2.hd.n, (Pax.accA x m).2.hd.c⟩, slZ, (dC' (Pax.accA x m).2.c), bvZ, slZ, false⟩) ([.int .i64 (dM m).rd]) (Mg.cs ⟨((Pax.accA x m).2.k), ((dM m).too), ((dM m).fr), ((dM m).op), ((dM m).rd), kyZ, ⟨(Pax.accA x m).2.st.n, (Pax.accA x m).2.st.c⟩, ⟨(Pax.accA x m).2.hd.n, (Pax.accA x m).2.hd.c⟩, slZ, (dC' (Pax.accA x m).2.c), bvZ, slZ, false⟩) (HF.out.box 1 _ _ _ rfl) S3 (by simp [Value.oneCell', Sl.v])) ?_
          try simp only [pS]
          have HF : Hid (Hg w (wk25.setRow gk4 (Mg.cells ⟨((Pax.accA x m).2.k), ((dM m).too), ((dM m).fr), ((dM m).op), ((dM m).rd), kyZ, ⟨(Pax.accA x m).2.st.n, (Pax.accA x m).2.st.c⟩, ⟨(Pax.accA x m).2.hd.n, (Pax.accA x m).2.hd.c⟩, slZ, (dC' (Pax.accA x m).2.c), bvZ, slZ, false⟩)) J J1 hb v1 pp ({ (List.range i).foldl (Pax.hitsH m) h with ins := ((List.range i).foldl (Pax.hitsH m) h).ins.set i (Pax.accA x m).1 }) [(gk1, 47, Mg.cells (dM m)), (gk4, 47, Mg.cells ⟨((Pax.accA x m).2.k), ((dM m).too), ((dM m).fr), ((dM m).op), ((dM m).rd), kyZ, ⟨(Pax.accA x m).2.st.n, (Pax.accA x m).2.st.c⟩, ⟨(Pax.accA x m).2.hd.n, (Pax.accA x m).2.hd.c⟩, slZ, (dC' (Pax.accA x m).2.c), bvZ, slZ, false⟩)] []) := HF.out.set 1 rfl _
          generalize wk25.setRow gk4 (Mg.cells ⟨((Pax.accA x m).2.k), ((dM m).too), ((dM m).fr), ((dM m).op), ((dM m).rd), kyZ, ⟨(Pax.accA x m).2.st.n, (Pax.accA x m).2.st.c⟩, ⟨(Pax.accA x m).2.hd.n, (Pax.accA x m).2.hd.c⟩, slZ, (dC' (Pax.accA x m).2.c), bvZ, slZ, false⟩) = wk26 at HF ⊢
          refine WL.nil ?_
          try simp only [pS]
          go_upto_region 28 with fail
          refine WL.start <| uK (pV gk1 7) <| uL 23 ⟨gk1, 7, none⟩ (.agg (Ky.cells ((dM m).ky))) (run_load_part (cs := Mg.cs (dM m)) (sub := Ky.cs ((dM m).ky)) (HF.out.box 0 _ _ _ rfl) (part_of (by kernel_rfl)) U23 rfl S23) <| uK (pV gk4 7) <| ?_
          try simp only [pS]
          refine uT 23 ⟨gk4, 7, none⟩ (.agg (Ky.cells ((dM m).ky))) (wk26.setRow gk4 (Mg.cells ⟨((Pax.accA x m).2.k), ((dM m).too), ((dM m).fr), ((dM m).op), ((dM m).rd), ((dM m).ky), ⟨(Pax.accA x m).2.st.n, (Pax.accA x m).2.st.c⟩, ⟨(Pax.accA x m).2.hd.n, (Pax.accA x m).2.hd.c⟩, slZ, (dC' (Pax.accA x m).2.c), bvZ, slZ, false⟩)) (rs (Mg.cs ⟨((Pax.accA x m).2.k), ((dM m).too), ((dM m).fr), ((dM m).op), ((dM m).rd), kyZ, ⟨(Pax.accA x m).2.st.n, (Pax.accA x m).2.st.c⟩, ⟨(Pax.accA x m).2.hd.n, (Pax.accA x m).2.hd.c⟩, slZ, (dC' (Pax.accA x m).2.c), bvZ, slZ, false⟩) (Ky.cs ((dM m).ky)) (Mg.cs ⟨((Pax.accA x m).2.k), ((dM m).too), ((dM m).fr), ((dM m).op), ((dM m).rd), ((dM m).ky), ⟨(Pax.accA x m).2.st.n, (Pax.accA x m).2.st.c⟩, ⟨(Pax.accA x m).2.hd.n, (Pax.accA x m).2.hd.c⟩, slZ, (dC' (Pax.accA x m).2.c), bvZ, slZ, false⟩) (HF.out.box 1 _ _ _ rfl) S23 (Ky.oneL _)) ?_
          try simp only [pS]
          have HF : Hid (Hg w (wk26.setRow gk4 (Mg.cells ⟨((Pax.accA x m).2.k), ((dM m).too), ((dM m).fr), ((dM m).op), ((dM m).rd), ((dM m).ky), ⟨(Pax.accA x m).2.st.n, (Pax.accA x m).2.st.c⟩, ⟨(Pax.accA x m).2.hd.n, (Pax.accA x m).2.hd.c⟩, slZ, (dC' (Pax.accA x m).2.c), bvZ, slZ, false⟩)) J J1 hb v1 pp ({ (List.range i).foldl (Pax.hitsH m) h with ins := ((List.range i).foldl (Pax.hitsH m) h).ins.set i (Pax.accA x m).1 }) [(gk1, 47, Mg.cells (dM m)), (gk4, 47, Mg.cells ⟨((Pax.accA x m).2.k), ((dM m).too), ((dM m).fr), ((dM m).op), ((dM m).rd), ((dM m).ky), ⟨(Pax.accA x m).2.st.n, (Pax.accA x m).2.st.c⟩, ⟨(Pax.accA x m).2.hd.n, (Pax.accA x m).2.hd.c⟩, slZ, (dC' (Pax.accA x m).2.c), bvZ, slZ, false⟩)] []) := HF.out.set 1 rfl _
          generalize wk26.setRow gk4 (Mg.cells ⟨((Pax.accA x m).2.k), ((dM m).too), ((dM m).fr), ((dM m).op), ((dM m).rd), ((dM m).ky), ⟨(Pax.accA x m).2.st.n, (Pax.accA x m).2.st.c⟩, ⟨(Pax.accA x m).2.hd.n, (Pax.accA x m).2.hd.c⟩, slZ, (dC' (Pax.accA x m).2.c), bvZ, slZ, false⟩) = wk27 at HF ⊢
          refine WL.nil ?_
          try simp only [pS]
          go_upto_region 29 with fail
          refine WL.start <| uK (pV hb 0) <| uL 47 ⟨gk4, 0, none⟩ (.agg (Mg.cells ⟨((Pax.accA x m).2.k), ((dM m).too), ((dM m).fr), ((dM m).op), ((dM m).rd), ((dM m).ky), ⟨(Pax.accA x m).2.st.n, (Pax.accA x m).2.st.c⟩, ⟨(Pax.accA x m).2.hd.n, (Pax.accA x m).2.hd.c⟩, slZ, (dC' (Pax.accA x m).2.c), bvZ, slZ, false⟩)) (run_load_part (cs := Mg.cs ⟨((Pax.accA x m).2.k), ((dM m).too), ((dM m).fr), ((dM m).op), ((dM m).rd), ((dM m).ky), ⟨(Pax.accA x m).2.st.n, (Pax.accA x m).2.st.c⟩, ⟨(Pax.accA x m).2.hd.n, (Pax.accA x m).2.hd.c⟩, slZ, (dC' (Pax.accA x m).2.c), bvZ, slZ, false⟩) (sub := Mg.cs ⟨((Pax.accA x m).2.k), ((dM m).too), ((dM m).fr), ((dM m).op), ((dM m).rd), ((dM m).ky), ⟨(Pax.accA x m).2.st.n, (Pax.accA x m).2.st.c⟩, ⟨(Pax.accA x m).2.hd.n, (Pax.accA x m).2.hd.c⟩, slZ, (dC' (Pax.accA x m).2.c), bvZ, slZ, false⟩) (HF.out.box 1 _ _ _ rfl) (Part.all _) U47 rfl S47) <| ?_
          try simp only [pS]
          refine uR (.slice (some ⟨wk27.heap.size, 0, none⟩) 1 1) (wk27.alloc (.cells (Mg.cells ⟨((Pax.accA x m).2.k), ((dM m).too), ((dM m).fr), ((dM m).op), ((dM m).rd), ((dM m).ky), ⟨(Pax.accA x m).2.st.n, (Pax.accA x m).2.st.c⟩, ⟨(Pax.accA x m).2.hd.n, (Pax.accA x m).2.hd.c⟩, slZ, (dC' (Pax.accA x m).2.c), bvZ, slZ, false⟩) 47)) (exec_slice2 66 47 _ rfl (Mg.cells ⟨((Pax.accA x m).2.k), ((dM m).too), ((dM m).fr), ((dM m).op), ((dM m).rd), ((dM m).ky), ⟨(Pax.accA x m).2.st.n, (Pax.accA x m).2.st.c⟩, ⟨(Pax.accA x m).2.hd.n, (Pax.accA x m).2.hd.c⟩, slZ, (dC' (Pax.accA x m).2.c), bvZ, slZ, false⟩) (.agg (Mg.cells ⟨((Pax.accA x m).2.k), ((dM m).too), ((dM m).fr), ((dM m).op), ((dM m).rd), ((dM m).ky), ⟨(Pax.accA x m).2.st.n, (Pax.accA x m).2.st.c⟩, ⟨(Pax.accA x m).2.hd.n, (Pax.accA x m).2.hd.c⟩, slZ, (dC' (Pax.accA x m).2.c), bvZ, slZ, false⟩)) (by kernel_rfl) (by kernel_rfl)) ?_
          try simp only [pS]
          have HF : Hid (Hg w (wk27.alloc (.cells (Mg.cells ⟨((Pax.accA x m).2.k), ((dM m).too), ((dM m).fr), ((dM m).op), ((dM m).rd), ((dM m).ky), ⟨(Pax.accA x m).2.st.n, (Pax.accA x m).2.st.c⟩, ⟨(Pax.accA x m).2.hd.n, (Pax.accA x m).2.hd.c⟩, slZ, (dC' (Pax.accA x m).2.c), bvZ, slZ, false⟩) 47)) J J1 hb v1 pp ({ (List.range i).foldl (Pax.hitsH m) h with ins := ((List.range i).foldl (Pax.hitsH m) h).ins.set i (Pax.accA x m).1 }) [(gk1, 47, Mg.cells (dM m)), (gk4, 47, Mg.cells ⟨((Pax.accA x m).2.k), ((dM m).too), ((dM m).fr), ((dM m).op), ((dM m).rd), ((dM m).ky), ⟨(Pax.accA x m).2.st.n, (Pax.accA x m).2.st.c⟩, ⟨(Pax.accA x m).2.hd.n, (Pax.accA x m).2.hd.c⟩, slZ, (dC' (Pax.accA x m).2.c), bvZ, slZ, false⟩), (wk27.heap.size, 47, Mg.cells ⟨((Pax.accA x m).2.k), ((dM m).too), ((dM m).fr), ((dM m).op), ((dM m).rd), ((dM m).ky), ⟨(Pax.accA x m).2.st.n, (Pax.accA x m).2.st.c⟩, ⟨(Pax.accA x m).2.hd.n, (Pax.accA x m).2.hd.c⟩, slZ, (dC' (Pax.accA x m).2.c), bvZ, slZ, false⟩)] []) := HF.out.alloc _ _
          generalize wk27.alloc (.cells (Mg.cells ⟨((Pax.accA x m).2.k), ((dM m).too), ((dM m).fr), ((dM m).op), ((dM m).rd), ((dM m).ky), ⟨(Pax.accA x m).2.st.n, (Pax.accA x m).2.st.c⟩, ⟨(Pax.accA x m).2.hd.n, (Pax.accA x m).2.hd.c⟩, slZ, (dC' (Pax.accA x m).2.c), bvZ, slZ, false⟩) 47) = wk29 at HF ⊢
          generalize wk27.heap.size = gk28 at HF ⊢
          have hOne : OwM wk29 0 ⟨some ⟨gk28, 0, none⟩, 1, 1⟩ ([(Pax.accA x m).2].map dM) := by
            show OwM _ 0 _ [dM (Pax.accA x m).2]
            rw [accA_g]
            exact OwM.one (HF.out.box 2 _ _ _ rfl)
          refine uC 46 #[pV hb 0, .slice (some ⟨gk28, 0, none⟩) 1 1] (send_any J1 hb v1 pp _ ⟨some ⟨gk28, 0, none⟩, 1, 1⟩ [(Pax.accA x m).2] _ HF.out.hal hOne (fun k e f => HF.out.li 2 _ _ _ rfl (by obtain ⟨ad, e, rfl⟩ := e; cases e; exact f)) (Nat.le_trans hO1.way hB) (by simp)) ?_
          rintro e wk30 ho
          obtain ⟨J3, v3, rfl, hG⟩ := HF.out.hcall ho
          have HF : Hid (Hg w wk30 J J3 hb v3 pp (Pax.sendH ({ (List.range i).foldl (Pax.hitsH m) h with ins := ((List.range i).foldl (Pax.hitsH m) h).ins.set i (Pax.accA x m).1 }) [(Pax.accA x m).2]) [(gk1, 47, Mg.cells (dM m)), (gk4, 47, Mg.cells ⟨((Pax.accA x m).2.k), ((dM m).too), ((dM m).fr), ((dM m).op), ((dM m).rd), ((dM m).ky), ⟨(Pax.accA x m).2.st.n, (Pax.accA x m).2.st.c⟩, ⟨(Pax.accA x m).2.hd.n, (Pax.accA x m).2.hd.c⟩, slZ, (dC' (Pax.accA x m).2.c), bvZ, slZ, false⟩), (gk28, 47, Mg.cells ⟨((Pax.accA x m).2.k), ((dM m).too), ((dM m).fr), ((dM m).op), ((dM m).rd), ((dM m).ky), ⟨(Pax.accA x m).2.st.n, (Pax.accA x m).2.st.c⟩, ⟨(Pax.accA x m).2.hd.n, (Pax.accA x m).2.hd.c⟩, slZ, (dC' (Pax.accA x m).2.c), bvZ, slZ, false⟩)] []) := hG
          clear ho hG hOne
          refine ⟨.tuple #[], rfl, ?_⟩
          try simp only [pS]
          refine WL.nil ?_
          try simp only [pS]
          have HF : Hid (Hg w wk30 J J3 hb v3 pp ((List.range (i + 1)).foldl (Pax.hitsH m) h) [(gk1, 47, Mg.cells (dM m)), (gk4, 47, Mg.cells ⟨((Pax.accA x m).2.k), ((dM m).too), ((dM m).fr), ((dM m).op), ((dM m).rd), ((dM m).ky), ⟨(Pax.accA x m).2.st.n, (Pax.accA x m).2.st.c⟩, ⟨(Pax.accA x m).2.hd.n, (Pax.accA x m).2.hd.c⟩, slZ, (dC' (Pax.accA x m).2.c), bvZ, slZ, false⟩), (gk28, 47, Mg.cells ⟨((Pax.accA x m).2.k), ((dM m).too), ((dM m).fr), ((dM m).op), ((dM m).rd), ((dM m).ky), ⟨(Pax.accA x m).2.st.n, (Pax.accA x m).2.st.c⟩, ⟨(Pax.accA x m).2.hd.n, (Pax.accA x m).2.hd.c⟩, slZ, (dC' (Pax.accA x m).2.c), bvZ, slZ, false⟩)] []) := by
            have e : (List.range (i + 1)).foldl (Pax.hitsH m) h = Pax.sendH ({ (List.range i).foldl (Pax.hitsH m) h with ins := ((List.range i).foldl (Pax.hitsH m) h).ins.set i (Pax.accA x m).1 }) [(Pax.accA x m).2] := by
              rw [hst, hhit]; unfold Pax.hitH; rw [if_neg (show ¬ m.k = 3 from h3), if_pos (show m.k = 4 from h4)]
            rw [e]
            exact HF
          have HF : Hid (Hg w wk30 J J3 hb v3 pp ((List.range (i + 1)).foldl (Pax.hitsH m) h) [(gk1, 47, Mg.cells (dM m))] []) := Hg.front (l := [(gk1, 47, Mg.cells (dM m))]) HF.out
          go_upto_region 11 with fail
          refine WL.start <| uK (.int .i64 ((i : Nat) : Int)) <| uB .add 3 (.int .i64 ((i : Nat) : Int)) (.int .i64 1) (.int .i64 (((i + 1) : Nat) : Int)) (b_addw _ _ _ (by rw [IntKind.wrap_i64]; omega) _) <| uK (.int .i64 (((i + 1) : Nat) : Int)) <| WL.nil <| ?_
          try simp only [pS]
          go_wp2
          go_roundw
          case rel => exact ⟨i + 1, J3, v3, by go_num, by omega, HF⟩
          case measure => simp [intOf]; omega
         ·skip
          by_cases h5 : (dM m).k = 5
          ·skip
           go_upto_region 16 with fail
           refine WL.start <| uB .eql 3 (.int .i64 (dM m).k) (.int .i64 3) (.bool false) (by rw [b_eql, beq_eq_false_iff_ne.2 (by omega)]) <| uK (.bool false) <| WL.nil <| ?_
           try simp only [pS]
           go_upto_region 18 with fail
           refine WL.start <| uB .eql 3 (.int .i64 (dM m).k) (.int .i64 4) (.bool false) (by rw [b_eql, beq_eq_false_iff_ne.2 (by omega)]) <| uK (.bool false) <| WL.nil <| ?_
           try simp only [pS]
           go_upto_region 20 with fail
           refine WL.start <| uB .eql 3 (.int .i64 (dM m).k) (.int .i64 5) (.bool true) (by rw [b_eql, beq_iff_eq.2 (by omega)]) <| uK (.bool true) <| WL.nil <| ?_
           try simp only [pS]
           go_upto_region 21 with fail
           refine wp_region_held_drew (S := fun w' => Box w' hb 68 (Hv.cells v1) ∧ Box w' gk1 47 (Mg.cells (dM m))) rfl ⟨HF.out.drew.hal.box, HF.out.drew.box 0 _ _ _ rfl⟩ (fun hH => ?_)
           have HF : Hid (Hg w wk6.drew J J1 hb v1 pp ((List.range i).foldl (Pax.hitsH m) h) [(gk1, 47, Mg.cells (dM m)), (gk4, 47, Mg.cells mgZ)] []) := HF.out.drew
           generalize wk6.drew = wk31 at HF hH ⊢
           refine xV 0 144 (pV hb 0) hH <| xV 1 145 (pV hb 0) hH <| xV 2 146 (pV hb 5) hH <| xL 3 147 64 ⟨hb, 5, none⟩ v1.i.v (fun _ hw => load_one ((hw.1).cell 5 |>.trans (by kernel_rfl)) U64 rfl) hH <| xV 4 148 (.int .i64 ((i : Nat) : Int)) hH <| xV 5 149 (pV hb 0) hH <| ?_
           try simp only [pS]
           refine xV 6 150 (pV hb 0) hH <| xV 7 151 (pV hb 5) hH <| xL 8 152 64 ⟨hb, 5, none⟩ v1.i.v (fun _ hw => load_one ((hw.1).cell 5 |>.trans (by kernel_rfl)) U64 rfl) hH <| xV 9 153 (.int .i64 ((i : Nat) : Int)) hH <| xU 10 154 (pV gi (0 + i * 14)) (fun w' hw => exec_ixA 64 14 E64 F64 _ _ rfl gi 0 v1.i.l v1.i.k i (Eq.trans (b := v1.i.v) (by kernel_rfl) (sl_v (s := v1.i) hgi)) (by kernel_rfl) (by omega)) hH <| xV 12 156 (pV gk1 16) hH <| ?_
           try simp only [pS]
           refine xL 13 157 28 ⟨gk1, 16, none⟩ (.agg (Cm.cells ((dM m).c))) (fun _ hw => run_load_part (cs := Mg.cs (dM m)) (sub := Cm.cs ((dM m).c)) (hw.2) (part_of (by kernel_rfl)) U28 rfl S28) hH ?_
           try simp only [pS]
           refine xP 11 155 (.agg (In.cells (dI x))) (w' := wk31) (exec_load 142 _ rfl ⟨gi, 0 + i * 14, none⟩ (by kernel_rfl) (.agg (In.cells (dI x))) (ld_N (HF.out.cI hgi hx))) hH (fun hH => ?_)
           try simp only [pS]
           refine xC 14 158 71 #[.agg (In.cells (dI x)), .agg (Cm.cells ((dM m).c))] (lrn_any x m _) ?_
           rintro e wk32 ⟨bx, rfl, hk⟩
           have hH2 : Box wk32 hb 68 (Hv.cells v1) ∧ Box wk32 gk1 47 (Mg.cells (dM m)) := ⟨hH.1.kept hk (fun e => e), hH.2.kept hk (fun e => e)⟩
           have HF : Hid (Hg w wk32 J J1 hb v1 pp ((List.range i).foldl (Pax.hitsH m) h) [(gk1, 47, Mg.cells (dM m)), (gk4, 47, Mg.cells mgZ)] []) := HF.out.no hk
           clear hk
           refine ⟨.tuple #[.agg (In.cells (dI (Pax.lrnA x m))), .bool bx], rfl, hH2, fun hH => ?_⟩
           clear hH2
           try simp only [pS]
           refine xV 15 143 (.tuple #[.agg (In.cells (dI (Pax.lrnA x m))), .bool bx]) hH <| xV 16 159 (.agg (In.cells (dI (Pax.lrnA x m)))) hH <| xV 17 160 (.bool bx) hH <| xU 18 161 (pV gi (0 + i * 14)) (fun w' hw => exec_ixA 64 14 E64 F64 _ _ rfl gi 0 v1.i.l v1.i.k i (Eq.trans (b := v1.i.v) (by kernel_rfl) (sl_v (s := v1.i) hgi)) (by kernel_rfl) (by omega)) hH <| ?_
           try simp only [pS]
           obtain ⟨cs, hru, hG⟩ := HF.out.setI hgi (j := i) (by omega) (Pax.lrnA x m)
           refine xS 19 142 ⟨gi, 0 + i * 14, none⟩ (.agg (In.cells (dI (Pax.lrnA x m)))) (w' := wk32.setRow gi cs) hru (⟨hG.hal.box, hG.box 0 _ _ _ rfl⟩) (fun hH => ?_)
           try simp only [pS]
           have HF : Hid (Hg w (wk32.setRow gi cs) J J1 hb v1 pp ({ (List.range i).foldl (Pax.hitsH m) h with ins := ((List.range i).foldl (Pax.hitsH m) h).ins.set i (Pax.lrnA x m) }) [(gk1, 47, Mg.cells (dM m)), (gk4, 47, Mg.cells mgZ)] []) := hG
           clear hG hru
           generalize wk32.setRow gi cs = wk33 at HF hH ⊢
           refine wpAnyH_done (by kernel_rfl) ?_ _
           try simp only [pS]
           clear hH
           go_upto_region 22 with fail
           refine WL.start <| uK (.bool false) <| WL.nil <| ?_
           try simp only [pS]
           go_upto_region 23 with fail
           refine WL.start <| uK (.bool false) <| WL.nil <| ?_
           try simp only [pS]
           have HF : Hid (Hg w wk33 J J1 hb v1 pp ((List.range (i + 1)).foldl (Pax.hitsH m) h) [(gk1, 47, Mg.cells (dM m)), (gk4, 47, Mg.cells mgZ)] []) := by
             have e : (List.range (i + 1)).foldl (Pax.hitsH m) h = { (List.range i).foldl (Pax.hitsH m) h with ins := ((List.range i).foldl (Pax.hitsH m) h).ins.set i (Pax.lrnA x m) } := by
               rw [hst, hhit]; unfold Pax.hitH; rw [if_neg (show ¬ m.k = 3 from h3), if_neg (show ¬ m.k = 4 from h4), if_pos (show m.k = 5 from h5)]
             rw [e]
             exact HF
           have HF : Hid (Hg w wk33 J J1 hb v1 pp ((List.range (i + 1)).foldl (Pax.hitsH m) h) [(gk1, 47, Mg.cells (dM m))] []) := Hg.front (l := [(gk1, 47, Mg.cells (dM m))]) HF.out
           go_upto_region 11 with fail
           refine WL.start <| uK (.int .i64 ((i : Nat) : Int)) <| uB .add 3 (.int .i64 ((i : Nat) : Int)) (.int .i64 1) (.int .i64 (((i + 1) : Nat) : Int)) (b_addw _ _ _ (by rw [IntKind.wrap_i64]; omega) _) <| uK (.int .i64 (((i + 1) : Nat) : Int)) <| WL.nil <| ?_
           try simp only [pS]
           go_wp2
           go_roundw
           case rel => exact ⟨i + 1, J1, v1, by go_num, by omega, HF⟩
           case measure => simp [intOf]; omega
          ·skip
           go_upto_region 16 with fail
           refine WL.start <| uB .eql 3 (.int .i64 (dM m).k) (.int .i64 3) (.bool false) (by rw [b_eql, beq_eq_false_iff_ne.2 (by omega)]) <| uK (.bool false) <| WL.nil <| ?_
           try simp only [pS]
           go_upto_region 18 with fail
           refine WL.start <| uB .eql 3 (.int .i64 (dM m).k) (.int .i64 4) (.bool false) (by rw [b_eql, beq_eq_false_iff_ne.2 (by omega)]) <| uK (.bool false) <| WL.nil <| ?_
           try simp only [pS]
           go_upto_region 20 with fail
           refine WL.start <| uB .eql 3 (.int .i64 (dM m).k) (.int .i64 5) (.bool false) (by rw [b_eql, beq_eq_false_iff_ne.2 (by omega)]) <| uK (.bool false) <| WL.nil <| ?_
           try simp only [pS]
           go_upto_region 23 with fail
           refine WL.start <| uK (.bool true) <| WL.nil <| ?_
           try simp only [pS]
           go_upto_region 24 with fail
           refine WL.start <| uK (pV gk1 3) <| uL 37 ⟨gk1, 3, none⟩ (.agg (Ad.cells ((dM m).too))) (run_load_part (cs := Mg.cs (dM m)) (sub := Ad.cs ((dM m).too)) (HF.out.box 0 _ _ _ rfl) (part_of (by kernel_rfl)) U37 rfl S37) <| uK (pV gk4 1) <| ?_
           try simp only [pS]
           refine uT 37 ⟨gk4, 1, none⟩ (.agg (Ad.cells ((dM m).too))) (wk6.setRow gk4 (Mg.cells ⟨0, ((dM m).too), adZ, 0, 0, kyZ, spZ, spZ, slZ, cZ, bvZ, slZ, false⟩)) (rs (Mg.cs mgZ) (Ad.cs ((dM m).too)) (Mg.cs ⟨0, ((dM m).too), adZ, 0, 0, kyZ, spZ, spZ, slZ, cZ, bvZ, slZ, false⟩) (HF.out.box 1 _ _ _ rfl) S37 (Ad.oneL _)) ?_
           try simp only [pS]
           have HF : Hid (Hg w (wk6.setRow gk4 (Mg.cells ⟨0, ((dM m).too), adZ, 0, 0, kyZ, spZ, spZ, slZ, cZ, bvZ, slZ, false⟩)) J J1 hb v1 pp ((List.range i).foldl (Pax.hitsH m) h) [(gk1, 47, Mg.cells (dM m)), (gk4, 47, Mg.cells ⟨0, ((dM m).too), adZ, 0, 0, kyZ, spZ, spZ, slZ, cZ, bvZ, slZ, false⟩)] []) := HF.out.set 1 rfl _
           generalize wk6.setRow gk4 (Mg.cells ⟨0, ((dM m).too), adZ, 0, 0, kyZ, spZ, spZ, slZ, cZ, bvZ, slZ, false⟩) = wk34 at HF ⊢
           refine WL.nil ?_
           try simp only [pS]
           go_upto_region 25 with fail
           refine WL.start <| uK (pV gk1 1) <| uL 37 ⟨gk1, 1, none⟩ (.agg (Ad.cells ((dM m).fr))) (run_load_part (cs := Mg.cs (dM m)) (sub := Ad.cs ((dM m).fr)) (HF.out.box 0 _ _ _ rfl) (part_of (by kernel_rfl)) U37 rfl S37) <| uK (pV gk4 3) <| ?_
           try simp only [pS]
           refine uT 37 ⟨gk4, 3, none⟩ (.agg (Ad.cells ((dM m).fr))) (wk34.setRow gk4 (Mg.cells ⟨0, ((dM m).too), ((dM m).fr), 0, 0, kyZ, spZ, spZ, slZ, cZ, bvZ, slZ, false⟩)) (rs (Mg.cs ⟨0, ((dM m).too), adZ, 0, 0, kyZ, spZ, spZ, slZ, cZ, bvZ, slZ, false⟩) (Ad.cs ((dM m).fr)) (Mg.cs ⟨0, ((dM m).too), ((dM m).fr), 0, 0, kyZ, spZ, spZ, slZ, cZ, bvZ, slZ, false⟩) (HF.out.box 1 _ _ _ rfl) S37 (Ad.oneL _)) ?_
           try simp only [pS]
           have HF : Hid (Hg w (wk34.setRow gk4 (Mg.cells ⟨0, ((dM m).too), ((dM m).fr), 0, 0, kyZ, spZ, spZ, slZ, cZ, bvZ, slZ, false⟩)) J J1 hb v1 pp ((List.range i).foldl (Pax.hitsH m) h) [(gk1, 47, Mg.cells (dM m)), (gk4, 47, Mg.cells ⟨0, ((dM m).too), ((dM m).fr), 0, 0, kyZ, spZ, spZ, slZ, cZ, bvZ, slZ, false⟩)] []) := HF.out.set 1 rfl _
           generalize wk34.setRow gk4 (Mg.cells ⟨0, ((dM m).too), ((dM m).fr), 0, 0, kyZ, spZ, spZ, slZ, cZ, bvZ, slZ, false⟩) = wk35 at HF ⊢
           refine WL.nil ?_
           try simp only [pS]
           go_upto_region 26 with fail
           refine WL.start <| uK (pV gk1 5) <| uL 3 ⟨gk1, 5, none⟩ (.int .i64 (dM m).op) (load_one ((HF.out.box 0 _ _ _ rfl).cell 5 |>.trans (by kernel_rfl)) U3 rfl) <| uK (pV gk4 5) <| ?_
           try simp only [pS]
           refine uT 3 ⟨gk4, 5, none⟩ (.int .i64 (dM m).op) (wk35.setRow gk4 (Mg.cells ⟨0, ((dM m).too), ((dM m).fr), ((dM m).op), 0, kyZ, spZ, spZ, slZ, cZ, bvZ, slZ, false⟩)) (rs (Mg.cs ⟨0, ((dM m).too), ((dM m).fr), 0, 0, kyZ, spZ, spZ, slZ, cZ, bvZ, slZ, false⟩) ([.int .i64 (dM m).op]) (Mg.cs ⟨0, ((dM m).too), ((dM m).fr), ((dM m).op), 0, kyZ, spZ, spZ, slZ, cZ, bvZ, slZ, false⟩) (HF.out.box 1 _ _ _ rfl) S3 (by simp [Value.oneCell', Sl.v])) ?_
           try simp only [pS]
           have HF : Hid (Hg w (wk35.setRow gk4 (Mg.cells ⟨0, ((dM m).too), ((dM m).fr), ((dM m).op), 0, kyZ, spZ, spZ, slZ, cZ, bvZ, slZ, false⟩)) J J1 hb v1 pp ((List.range i).foldl (Pax.hitsH m) h) [(gk1, 47, Mg.cells (dM m)), (gk4, 47, Mg.cells ⟨0, ((dM m).too), ((dM m).fr), ((dM m).op), 0, kyZ, spZ, spZ, slZ, cZ, bvZ, slZ, false⟩)] []) := HF.out.set 1 rfl _
           generalize wk35.setRow gk4 (Mg.cells ⟨0, ((dM m).too), ((dM m).fr), ((dM m).op), 0, kyZ, spZ, spZ, slZ, cZ, bvZ, slZ, false⟩) = wk36 at HF ⊢
           refine WL.nil ?_
           try simp only [pS]
           go_upto_region 27 with fail
           refine WL.start <| uK (pV gk1 6) <| uL 3 ⟨gk1, 6, none⟩ (.int .i64 (dM m).rd) (load_one ((HF.out.box 0 _ _ _ rfl).cell 6 |>.trans (by kernel_rfl)) U3 rfl) <| uK (pV gk4 6) <| ?_
           try simp only [pS]
           refine uT 3 ⟨gk4, 6, none⟩ (.int .i64 (dM m).rd) (wk36.setRow gk4 (Mg.cells ⟨0, ((dM m).too), ((dM m).fr), ((dM m).op), ((dM m).rd), kyZ, spZ, spZ, slZ, cZ, bvZ, slZ, false⟩)) (rs (Mg.cs ⟨0, ((dM m).too), ((dM m).fr), ((dM m).op), 0, kyZ, spZ, spZ, slZ, cZ, bvZ, slZ, false⟩) ([.int .i64 (dM m).rd]) (Mg.cs ⟨0, ((dM m).too), ((dM m).fr), ((dM m).op), ((dM m).rd), kyZ, spZ, spZ, slZ, cZ, bvZ, slZ, false⟩) (HF.out.box 1 _ _ _ rfl) S3 (by simp [Value.oneCell', Sl.v])) ?_
           try simp only [pS]
           have HF : Hid (Hg w (wk36.setRow gk4 (Mg.cells ⟨0, ((dM m).too), ((dM m).fr), ((dM m).op), ((dM m).rd), kyZ, spZ, spZ, slZ, cZ, bvZ, slZ, false⟩)) J J1 hb v1 pp ((List.range i).foldl (Pax.hitsH m) h) [(gk1, 47, Mg.cells (dM m)), (gk4, 47, Mg.cells ⟨0, ((dM m).too), ((dM m).fr), ((dM m).op), ((dM m).rd), kyZ, spZ, spZ, slZ, cZ, bvZ, slZ, false⟩)] []) := HF.out.set 1 rfl _
           generalize wk36.setRow gk4 (Mg.cells ⟨0, ((dM m).too), ((dM m).fr), ((dM m).op), ((dM m).rd), kyZ, spZ, spZ, slZ, cZ, bvZ, slZ, false⟩) = wk37 at HF ⊢
           refine WL.nil ?_
           try simp only [pS]
           go_upto_region 28 with fail
           refine WL.start <| uK (pV gk1 7) <| uL 23 ⟨gk1, 7, none⟩ (.agg (Ky.cells ((dM m).ky))) (run_load_part (cs := Mg.cs (dM m)) (sub := Ky.cs ((dM m).ky)) (HF.out.box 0 _ _ _ rfl) (part_of (by kernel_rfl)) U23 rfl S23) <| uK (pV gk4 7) <| ?_
           try simp only [pS]
           refine uT 23 ⟨gk4, 7, none⟩ (.agg (Ky.cells ((dM m).ky))) (wk37.setRow gk4 (Mg.cells ⟨0, ((dM m).too), ((dM m).fr), ((dM m).op), ((dM m).rd), ((dM m).ky), spZ, spZ, slZ, cZ, bvZ, slZ, false⟩)) (rs (Mg.cs ⟨0, ((dM m).too), ((dM m).fr), ((dM m).op), ((dM m).rd), kyZ, spZ, spZ, slZ, cZ, bvZ, slZ, false⟩) (Ky.cs ((dM m).ky)) (Mg.cs ⟨0, ((dM m).too), ((dM m).fr), ((dM m).op), ((dM m).rd), ((dM m).ky), spZ, spZ, slZ, cZ, bvZ, slZ, false⟩) (HF.out.box 1 _ _ _ rfl) S23 (Ky.oneL _)) ?_
           try simp only [pS]
           have HF : Hid (Hg w (wk37.setRow gk4 (Mg.cells ⟨0, ((dM m).too), ((dM m).fr), ((dM m).op), ((dM m).rd), ((dM m).ky), spZ, spZ, slZ, cZ, bvZ, slZ, false⟩)) J J1 hb v1 pp ((List.range i).foldl (Pax.hitsH m) h) [(gk1, 47, Mg.cells (dM m)), (gk4, 47, Mg.cells ⟨0, ((dM m).too), ((dM m).fr), ((dM m).op), ((dM m).rd), ((dM m).ky), spZ, spZ, slZ, cZ, bvZ, slZ, false⟩)] []) := HF.out.set 1 rfl _
           generalize wk37.setRow gk4 (Mg.cells ⟨0, ((dM m).too), ((dM m).fr), ((dM m).op), ((dM m).rd), ((dM m).ky), spZ, spZ, slZ, cZ, bvZ, slZ, false⟩) = wk38 at HF ⊢
           refine WL.nil ?_
           try simp only [pS]
           go_upto_region 29 with fail
           refine WL.start <| uK (pV hb 0) <| uL 47 ⟨gk4, 0, none⟩ (.agg (Mg.cells ⟨0, ((dM m).too), ((dM m).fr), ((dM m).op), ((dM m).rd), ((dM m).ky), spZ, spZ, slZ, cZ, bvZ, slZ, false⟩)) (run_load_part (cs := Mg.cs ⟨0, ((dM m).too), ((dM m).fr), ((dM m).op), ((dM m).rd), ((dM m).ky), spZ, spZ, slZ, cZ, bvZ, slZ, false⟩) (sub := Mg.cs ⟨0, ((dM m).too), ((dM m).fr), ((dM m).op), ((dM m).rd), ((dM m).ky), spZ, spZ, slZ, cZ, bvZ, slZ, false⟩) (HF.out.box 1 _ _ _ rfl) (Part.all _) U47 rfl S47) <| ?_
           try simp only [pS]
           refine uR (.slice (some ⟨wk38.heap.size, 0, none⟩) 1 1) (wk38.alloc (.cells (Mg.cells ⟨0, ((dM m).too), ((dM m).fr), ((dM m).op), ((dM m).rd), ((dM m).ky), spZ, spZ, slZ, cZ, bvZ, slZ, false⟩) 47)) (exec_slice2 66 47 _ rfl (Mg.cells ⟨0, ((dM m).too), ((dM m).fr), ((dM m).op), ((dM m).rd), ((dM m).ky), spZ, spZ, slZ, cZ, bvZ, slZ, false⟩) (.agg (Mg.cells ⟨0, ((dM m).too), ((dM m).fr), ((dM m).op), ((dM m).rd), ((dM m).ky), spZ, spZ, slZ, cZ, bvZ, slZ, false⟩)) (by kernel_rfl) (by kernel_rfl)) ?_
           try simp only [pS]
           have HF : Hid (Hg w (wk38.alloc (.cells (Mg.cells ⟨0, ((dM m).too), ((dM m).fr), ((dM m).op), ((dM m).rd), ((dM m).ky), spZ, spZ, slZ, cZ, bvZ, slZ, false⟩) 47)) J J1 hb v1 pp ((List.range i).foldl (Pax.hitsH m) h) [(gk1, 47, Mg.cells (dM m)), (gk4, 47, Mg.cells ⟨0, ((dM m).too), ((dM m).fr), ((dM m).op), ((dM m).rd), ((dM m).ky), spZ, spZ, slZ, cZ, bvZ, slZ, false⟩), (wk38.heap.size, 47, Mg.cells ⟨0, ((dM m).too), ((dM m).fr), ((dM m).op), ((dM m).rd), ((dM m).ky), spZ, spZ, slZ, cZ, bvZ, slZ, false⟩)] []) := HF.out.alloc _ _
           generalize wk38.alloc (.cells (Mg.cells ⟨0, ((dM m).too), ((dM m).fr), ((dM m).op), ((dM m).rd), ((dM m).ky), spZ, spZ, slZ, cZ, bvZ, slZ, false⟩) 47) = wk40 at HF ⊢
           generalize wk38.heap.size = gk39 at HF ⊢
           have hOne : OwM wk40 0 ⟨some ⟨gk39, 0, none⟩, 1, 1⟩ ([(Pax.ans m 0 Ytpabpeppgpeaoaa.sZ Ytpabpeppgpeaoaa.sZ Ytpabpeppgpeaoaa.cZ)].map dM) := by
             show OwM _ 0 _ [dM (Pax.ans m 0 Ytpabpeppgpeaoaa.sZ Ytpabpeppgpeaoaa.sZ Ytpabpeppgpeaoaa.cZ)]
             rw [ans_g]
             exact OwM.one (HF.out.box 2 _ _ _ rfl)
           refine uC 46 #[pV hb 0, .slice (some ⟨gk39, 0, none⟩) 1 1] (send_any J1 hb v1 pp _ ⟨some ⟨gk39, 0, none⟩, 1, 1⟩ [(Pax.ans m 0 Ytpabpeppgpeaoaa.sZ Ytpabpeppgpeaoaa.sZ Ytpabpeppgpeaoaa.cZ)] _ HF.out.hal hOne (fun k e f => HF.out.li 2 _ _ _ rfl (by obtain ⟨ad, e, rfl⟩ := e; cases e; exact f)) (Nat.le_trans hO1.way hB) (by simp)) ?_
           rintro e wk41 ho
           obtain ⟨J3, v3, rfl, hG⟩ := HF.out.hcall ho
           have HF : Hid (Hg w wk41 J J3 hb v3 pp (Pax.sendH ((List.range i).foldl (Pax.hitsH m) h) [(Pax.ans m 0 Ytpabpeppgpeaoaa.sZ Ytpabpeppgpeaoaa.sZ Ytpabpeppgpeaoaa.cZ)]) [(gk1, 47, Mg.cells (dM m)), (gk4, 47, Mg.cells ⟨0, ((dM m).too), ((dM m).fr), ((dM m).op), ((dM m).rd), ((dM m).ky), spZ, spZ, slZ, cZ, bvZ, slZ, false⟩), (gk39, 47, Mg.cells ⟨0, ((dM m).too), ((dM m).fr), ((dM m).op), ((dM m).rd), ((dM m).ky), spZ, spZ, slZ, cZ, bvZ, slZ, false⟩)] []) := hG
           clear ho hG hOne
           refine ⟨.tuple #[], rfl, ?_⟩
           try simp only [pS]
           refine WL.nil ?_
           try simp only [pS]
           have HF : Hid (Hg w wk41 J J3 hb v3 pp ((List.range (i + 1)).foldl (Pax.hitsH m) h) [(gk1, 47, Mg.cells (dM m)), (gk4, 47, Mg.cells ⟨0, ((dM m).too), ((dM m).fr), ((dM m).op), ((dM m).rd), ((dM m).ky), spZ, spZ, slZ, cZ, bvZ, slZ, false⟩), (gk39, 47, Mg.cells ⟨0, ((dM m).too), ((dM m).fr), ((dM m).op), ((dM m).rd), ((dM m).ky), spZ, spZ, slZ, cZ, bvZ, slZ, false⟩)] []) := by
             have e : (List.range (i + 1)).foldl (Pax.hitsH m) h = Pax.sendH ((List.range i).foldl (Pax.hitsH m) h) [(Pax.ans m 0 Ytpabpeppgpeaoaa.sZ Ytpabpeppgpeaoaa.sZ Ytpabpeppgpeaoaa.cZ)] := by
               rw [hst, hhit]; unfold Pax.hitH; rw [if_neg (show ¬ m.k = 3 from h3), if_neg (show ¬ m.k = 4 from h4), if_neg (show ¬ m.k = 5 from h5)]
             rw [e]
             exact HF
           have HF : Hid (Hg w wk41 J J3 hb v3 pp ((List.range (i + 1)).foldl (Pax.hitsH m) h) [(gk1, 47, Mg.cells (dM m))] []) := Hg.front (l := [(gk1, 47, Mg.cells (dM m))]) HF.out
           go_upto_region 11 with fail
           refine WL.start <| uK (.int .i64 ((i : Nat) : Int)) <| uB .add 3 (.int .i64 ((i : Nat) : Int)) (.int .i64 1) (.int .i64 (((i + 1) : Nat) : Int)) (b_addw _ _ _ (by rw [IntKind.wrap_i64]; omega) _) <| uK (.int .i64 (((i + 1) : Nat) : Int)) <| WL.nil <| ?_
           try simp only [pS]
           go_wp2
           go_roundw
           case rel => exact ⟨i + 1, J3, v3, by go_num, by omega, HF⟩
           case measure => simp [intOf]; omega
      · skip
        go_upto_region 10 with fail
        refine WL.start <| uK (.int .i64 ((i : Nat) : Int)) <| uK (pV hb 0) <| uK (pV hb 0) <| uK (pV hb 4) <| uL 24 ⟨hb, 4, none⟩ (v1.g.v) (load_one ((HF.out.hal.box).cell 4 |>.trans (by kernel_rfl)) U24 rfl) <| uK (.int .i64 ((v1.g.l : Nat) : Int)) <| uB .lss 3 (.int .i64 ((i : Nat) : Int)) (.int .i64 ((v1.g.l : Nat) : Int)) (.bool true) (by rw [b_lss, decide_eq_true (by omega)]) <| WL.nil <| ?_
        try simp only [pS]
        go_upto_region 12 with fail
        refine wp_region_held_drew (S := fun w' => Hg w w' J J1 hb v1 pp ((List.range i).foldl (Pax.hitsH m) h) [(gk1, 47, Mg.cells (dM m))] []) rfl (HF.out.drew) (fun hH => ?_)
        have HF : Hid (Hg w wr.drew J J1 hb v1 pp ((List.range i).foldl (Pax.hitsH m) h) [(gk1, 47, Mg.cells (dM m))] []) := HF.out.drew
        generalize wr.drew = wk42 at HF hH ⊢
        refine xV 0 81 (pV hb 0) hH <| xV 1 82 (pV hb 0) hH <| xV 2 83 (pV hb 4) hH <| xL 3 84 24 ⟨hb, 4, none⟩ v1.g.v (fun _ hw => load_one ((hw.hal.box).cell 4 |>.trans (by kernel_rfl)) U24 rfl) hH <| xV 4 85 (.int .i64 ((i : Nat) : Int)) hH <| xU 5 86 (pV gg (0 + i * 1)) (fun w' hw => exec_ixA 24 1 E24 F24 _ _ rfl gg 0 v1.g.l v1.g.k i (Eq.trans (b := v1.g.v) (by kernel_rfl) (sl_v (s := v1.g) hgg)) (by kernel_rfl) (by omega)) hH <| ?_
        try simp only [pS]
        refine xL 6 87 3 ⟨gg, 0 + i * 1, none⟩ (.int .i64 z) (fun _ hw => load_one (hw.cG hgg hz) U3 rfl) hH <| xV 7 88 (pV gk1 3) hH <| xV 8 89 (pV gk1 4) hH <| xL 9 90 3 ⟨gk1, 4, none⟩ (.int .i64 ((dM m).too).id) (fun _ hw => load_one ((hw.box 0 _ _ _ rfl).cell 4 |>.trans (by kernel_rfl)) U3 rfl) hH <| xB 10 91 .neq 3 (.int .i64 z) (.int .i64 ((dM m).too).id) (.bool true) (fun _ _ => by rw [b_neq, beq_eq_false_iff_ne.2 (by omega)]; rfl) hH <| ?_
        try simp only [pS]
        refine wpAnyH_done (by kernel_rfl) ?_ _
        try simp only [pS]
        clear hH
        have HF : Hid (Hg w wk42 J J1 hb v1 pp ((List.range (i + 1)).foldl (Pax.hitsH m) h) [(gk1, 47, Mg.cells (dM m))] []) := by
          have e : (List.range (i + 1)).foldl (Pax.hitsH m) h = ((List.range i).foldl (Pax.hitsH m) h) := by
            rw [hst, hits_no hz hzt]
          rw [e]
          exact HF
        have HF : Hid (Hg w wk42 J J1 hb v1 pp ((List.range (i + 1)).foldl (Pax.hitsH m) h) [(gk1, 47, Mg.cells (dM m))] []) := Hg.front (l := [(gk1, 47, Mg.cells (dM m))]) HF.out
        go_upto_region 11 with fail
        refine WL.start <| uK (.int .i64 ((i : Nat) : Int)) <| uB .add 3 (.int .i64 ((i : Nat) : Int)) (.int .i64 1) (.int .i64 (((i + 1) : Nat) : Int)) (b_addw _ _ _ (by rw [IntKind.wrap_i64]; omega) _) <| uK (.int .i64 (((i + 1) : Nat) : Int)) <| WL.nil <| ?_
        try simp only [pS]
        go_wp2
        go_roundw
        case rel => exact ⟨i + 1, J1, v1, by go_num, by omega, HF⟩
        case measure => simp [intOf]; omega
    · skip
      go_upto_region 10 with fail
      refine WL.start <| uK (.int .i64 ((i : Nat) : Int)) <| uK (pV hb 0) <| uK (pV hb 0) <| uK (pV hb 4) <| uL 24 ⟨hb, 4, none⟩ (v1.g.v) (load_one ((HF.out.hal.box).cell 4 |>.trans (by kernel_rfl)) U24 rfl) <| uK (.int .i64 ((v1.g.l : Nat) : Int)) <| uB .lss 3 (.int .i64 ((i : Nat) : Int)) (.int .i64 ((v1.g.l : Nat) : Int)) (.bool false) (by rw [b_lss, decide_eq_false (by omega)]) <| WL.nil <| ?_
      try simp only [pS]
      go_wp2
      rw [HC.out]
      have e : Pax.deliverH h m = (List.range i).foldl (Pax.hitsH m) h := by unfold Pax.deliverH; rw [if_neg (by rw [htc]; decide), show h.zs.length = i by omega]
      rw [e]
      refine bodyPost_end (v := .tuple #[]) (by kernel_rfl) rfl ⟨rfl, HF.out.out⟩
theorem deliver_any (J : Nat → Prop) (hb : Nat) (v : Hv) (pp : List Nat) (h : Pax.Hl) (m : Ms) (w : World) (hH : Hal w J hb v pp h) (B : Nat) (hO : Pax.Hok B h) (hB : B ≤ 2000000) (hm : Pax.PlM m) : Calls Try.prog 47 #[.pointer (some ⟨hb, 0, none⟩), .agg (Mg.cells (dM m))] w (HlO w J hb pp (Pax.deliverH h m)) := by
  cases htc : m.tc
  · exact deliver_s J hb v pp h m w hH B hO hB hm htc
  · exact deliver_c J hb v pp h m w hH B hO hB hm htc

end Go.Proofs.Ytpabpeppgpeaoaa.Md
