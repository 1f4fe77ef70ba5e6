import Derived.Test.YtpabpeppgpeaoaaHj
namespace Go.Proofs.Ytpabpeppgpeaoaa.Md
open Go.RowKit Gx
set_option linter.unusedVariables false
set_option linter.unusedSimpArgs false

theorem results_ctt {fn : Func} {p q u : Tmp} {t : TypeId} (h : fn.results = #[.cell q t, .tmp p, .tmp u]) (tmps : Array Value) (w : World) (g : Nat) (cs : Array Value) (hq : tmps.getD q undef = .pointer (some ⟨g, 0, none⟩)) (hrun : (loadVar t ⟨g, 0, none⟩).run Try.prog w = .ok (.agg cs) w) :
    (results fn tmps).run Try.prog w = .ok (.tuple #[.agg cs, tmps.getD p undef, tmps.getD u undef]) w := by
  have hq' : tmps[q]?.getD undef = .pointer (some ⟨g, 0, none⟩) := by simpa using hq
  simp [results, h, hq', asAddr, hrun, Sem.run_bind, Result.andThen]
set_option maxRecDepth 100000 in
set_option maxHeartbeats 4000000 in
theorem agree_any (J : Nat → Prop) (hb : Nat) (v : Hv) (pp : List Nat) (h : Pax.Hl) (f c0 : Ytpabpeppgpeaoaa.Cm) (b : Bool) (w : World) (hH : Hal w J hb v pp h) (hd : h.dec.length ≤ 50) (hall : ∀ c, c ∈ h.dec → c = c0) (hf : b = true → f = c0) (h1 : h.dec ≠ [] → 1 ≤ c0.cl) (h2 : h.dec ≠ [] → c0.cl ≤ h.ps.length) (h3 : h.dec ≠ [] → cmdOf c0.cl = c0) : Calls Try.prog 17 #[.pointer (some ⟨hb, 0, none⟩), .agg (Cm.cells (dC' f)), .bool b] w (fun e w' => ∃ f' : Ytpabpeppgpeaoaa.Cm, ∃ b' : Bool, e = .returned (.tuple #[.agg (Cm.cells (dC' f')), .bool b', .bool true]) ∧ (b' = true → f' = c0) ∧ (h.dec ≠ [] → b' = true) ∧ (h.dec = [] → b' = b) ∧ Kept No w w') := by
  refine hideC fun C HC => ?_
  have HF : Hid (Hg w w J J hb v pp h [] []) := Hg.start hH
  clear hH
  have hpl := HF.out.pl
  have hdl := HF.out.dl
  go_enter Try.func17, Try.ntmps17
  have HK : Hid (Kept No w w) := Kept.refl _ _
  go_upto_region 0 with fail
  refine WL.start ?_
  refine uR (pV w.heap.size 0) (w.alloc (.cells (Cm.cells (dC' f)) 28)) (exec_box 28 _ rfl (Cm.cells (dC' f)) (by kernel_rfl)) ?_
  try simp only [pS]
  have HK : Hid (Kept No w (w.alloc (.cells (Cm.cells (dC' f)) 28))) := HK.out.alloc _
  have HF : Hid (Hg w (w.alloc (.cells (Cm.cells (dC' f)) 28)) J J hb v pp h [(w.heap.size, 28, Cm.cells (dC' f))] []) := HF.out.alloc _ _
  generalize w.alloc (.cells (Cm.cells (dC' f)) 28) = wk2 at HF HK ⊢
  generalize w.heap.size = gk1 at HF ⊢
  refine uR (pV wk2.heap.size 0) (wk2.alloc (.cells (Cm.cells cZ) 28)) (exec_alloc 28 rfl (Cm.cells cZ) Z28) ?_
  try simp only [pS]
  have HK : Hid (Kept No w (wk2.alloc (.cells (Cm.cells cZ) 28))) := HK.out.alloc _
  have HF : Hid (Hg w (wk2.alloc (.cells (Cm.cells cZ) 28)) J J hb v pp h [(gk1, 28, Cm.cells (dC' f)), (wk2.heap.size, 28, Cm.cells cZ)] []) := HF.out.alloc _ _
  generalize wk2.alloc (.cells (Cm.cells cZ) 28) = wk4 at HF HK ⊢
  generalize wk2.heap.size = gk3 at HF ⊢
  refine uK (.bool false) <| uK (.bool false) <| WL.nil <| ?_
  try simp only [pS]
  go_upto_region 1 with fail
  refine WL.start <| uK (.int .i64 0) <| WL.nil <| ?_
  try simp only [pS]
  go_wp2
  go_loopw [2, 9] (fun v2 v9 wr => ∃ (i : Nat) (f1 : Ytpabpeppgpeaoaa.Cm) (b1 : Bool), v2 = .bool b1 ∧ v9 = .int .i64 ((i : Nat) : Int) ∧ i ≤ v.d.l ∧ (b1 = true → f1 = c0) ∧ (0 < i → b1 = true) ∧ (i = 0 → b1 = b) ∧ Hid (Hg w wr J J hb v pp h [(gk1, 28, Cm.cells (dC' f1)), (gk3, 28, Cm.cells cZ)] []) ∧ Hid (Kept No w wr)) (fun _ i _ => v.d.l - (intOf i).toNat)
  case atStart => exact ⟨0, f, b, rfl, by go_num, by omega, hf, fun e => absurd e (by omega), fun _ => rfl, HF, HK⟩
  case round =>
    clear HF HK
    obtain ⟨i, f1, b1, rfl, rfl, hi, hf1, hb1, hb0, HF, HK⟩ := hrel
    by_cases hlt : i < v.d.l
    · skip
      have hne : h.dec ≠ [] := fun e => by rw [e] at hdl; simp at hdl; omega
      have hci : h.dec[i]? = some c0 := by
        have hm : h.dec[i]'(by omega) ∈ h.dec := List.getElem_mem _
        rw [List.getElem?_eq_getElem (by omega), hall _ hm]
      have h1' : 1 ≤ (dC' c0).cl := h1 hne
      have h2' : (dC' c0).cl ≤ h.ps.length := h2 hne
      have h3' : cmdOf (dC' c0).cl = c0 := h3 hne
      obtain ⟨gd, od, hgd⟩ := HF.out.rD hlt
      cases b1
      ·skip
       go_upto_region 2 with fail
       refine WL.start <| uK (.int .i64 ((i : Nat) : Int)) <| uK (pV hb 0) <| uK (pV hb 0) <| uK (pV hb 8) <| uL 45 ⟨hb, 8, none⟩ (v.d.v) (load_one ((HF.out.hal.box).cell 8 |>.trans (by kernel_rfl)) U45 rfl) <| uK (.int .i64 ((v.d.l : Nat) : Int)) <| uB .lss 3 (.int .i64 ((i : Nat) : Int)) (.int .i64 ((v.d.l : Nat) : Int)) (.bool true) (by rw [b_lss, decide_eq_true (by omega)]) <| WL.nil <| ?_
       try simp only [pS]
       go_upto_region 4 with fail
       refine WL.start <| uK (.bool false) <| uK (.bool true) <| WL.nil <| ?_
       try simp only [pS]
       go_upto_region 5 with fail
       refine WL.start <| uK (pV hb 0) <| uK (pV hb 0) <| uK (pV hb 8) <| uL 45 ⟨hb, 8, none⟩ (v.d.v) (load_one ((HF.out.hal.box).cell 8 |>.trans (by kernel_rfl)) U45 rfl) <| uK (.int .i64 ((i : Nat) : Int)) <| uW (pV gd (od + i * 9)) (exec_ixA 45 9 E45 F45 _ _ rfl gd od v.d.l v.d.k i (Eq.trans (b := v.d.v) (by kernel_rfl) (sl_v (s := v.d) hgd)) (by kernel_rfl) (by omega)) <| uL 28 ⟨gd, od + i * 9, none⟩ (.agg (Cm.cells (dC' c0))) (ld_D (HF.out.cD hgd hci)) <| ?_
       try simp only [pS]
       refine uT 28 ⟨gk1, 0, none⟩ (.agg (Cm.cells (dC' c0))) (wr.setRow gk1 (Cm.cells (dC' c0))) (rs (Cm.cs (dC' f1)) (Cm.cs (dC' c0)) (Cm.cs (dC' c0)) (HF.out.box 0 _ _ _ rfl) S28 (Cm.oneL _)) ?_
       try simp only [pS]
       have HK : Hid (Kept No w (wr.setRow gk1 (Cm.cells (dC' c0)))) := HK.out.newRow (HF.out.lo 0 _ _ _ rfl) _
       have HF : Hid (Hg w (wr.setRow gk1 (Cm.cells (dC' c0))) J J hb v pp h [(gk1, 28, Cm.cells (dC' c0)), (gk3, 28, Cm.cells cZ)] []) := HF.out.set 0 rfl _
       generalize wr.setRow gk1 (Cm.cells (dC' c0)) = wk5 at HF HK ⊢
       refine WL.nil ?_
       try simp only [pS]
       go_upto_region 6 with fail
       refine WL.start <| uK (.bool true) <| WL.nil <| ?_
       try simp only [pS]
       go_upto_region 7 with fail
       refine wp_region_held_drew (S := fun w' => Hg w w' J J hb v pp h [(gk1, 28, Cm.cells (dC' c0)), (gk3, 28, Cm.cells cZ)] []) rfl (HF.out.drew) (fun hH => ?_)
       have HK : Hid (Kept No w (wk5.drew)) := HK.out.drew
       have HF : Hid (Hg w wk5.drew J J hb v pp h [(gk1, 28, Cm.cells (dC' c0)), (gk3, 28, Cm.cells cZ)] []) := HF.out.drew
       generalize wk5.drew = wk6 at HF HK hH ⊢
       refine xV 0 28 (pV hb 0) hH <| xV 1 29 (pV hb 0) hH <| xV 2 30 (pV hb 8) hH <| xL 3 31 45 ⟨hb, 8, none⟩ v.d.v (fun _ hw => load_one ((hw.hal.box).cell 8 |>.trans (by kernel_rfl)) U45 rfl) hH <| xV 4 32 (.int .i64 ((i : Nat) : Int)) hH <| xU 5 33 (pV gd (od + i * 9)) (fun w' hw => exec_ixA 45 9 E45 F45 _ _ rfl gd od v.d.l v.d.k i (Eq.trans (b := v.d.v) (by kernel_rfl) (sl_v (s := v.d) hgd)) (by kernel_rfl) (by omega)) hH <| ?_
       try simp only [pS]
       refine xL 6 34 28 ⟨gd, od + i * 9, none⟩ (.agg (Cm.cells (dC' c0))) (fun _ hw => ld_D (hw.cD hgd hci)) hH <| xL 7 35 28 ⟨gk1, 0, none⟩ (.agg (Cm.cells (dC' c0))) (fun _ hw => run_load_part (cs := Cm.cs (dC' c0)) (sub := Cm.cs (dC' c0)) (hw.box 0 _ _ _ rfl) (Part.all _) U28 rfl S28) hH <| xB 8 36 .neq 28 (.agg (Cm.cells (dC' c0))) (.agg (Cm.cells (dC' c0))) (.bool false) (fun _ _ => by rw [eqC_neq, eqC_refl]; rfl) hH <| xV 9 37 (.bool false) hH <| xV 10 38 (pV gk1 1) hH <| xL 11 39 3 ⟨gk1, 1, none⟩ (.int .i64 (dC' c0).cl) (fun _ hw => load_one ((hw.box 0 _ _ _ rfl).cell 1 |>.trans (by kernel_rfl)) U3 rfl) hH <| ?_
       try simp only [pS]
       refine xB 12 40 .lss 3 (.int .i64 (dC' c0).cl) (.int .i64 1) (.bool false) (fun _ _ => by rw [b_lss, decide_eq_false (by omega)]) hH <| xV 13 41 (.bool false) hH <| xV 14 42 (.bool false) hH <| xV 15 43 (pV gk1 1) hH <| xL 16 44 3 ⟨gk1, 1, none⟩ (.int .i64 (dC' c0).cl) (fun _ hw => load_one ((hw.box 0 _ _ _ rfl).cell 1 |>.trans (by kernel_rfl)) U3 rfl) hH <| xV 17 45 (pV hb 0) hH <| ?_
       try simp only [pS]
       refine xV 18 46 (pV hb 0) hH <| xV 19 47 (pV hb 6) hH <| xL 20 48 65 ⟨hb, 6, none⟩ v.p.v (fun _ hw => load_one ((hw.hal.box).cell 6 |>.trans (by kernel_rfl)) U65 rfl) hH <| xV 21 49 (.int .i64 ((v.p.l : Nat) : Int)) hH <| xB 22 50 .gtr 3 (.int .i64 (dC' c0).cl) (.int .i64 ((v.p.l : Nat) : Int)) (.bool false) (fun _ _ => by rw [b_gtr, decide_eq_false (by omega)]) hH <| xV 23 51 (.bool false) hH <| ?_
       try simp only [pS]
       refine xV 24 52 (.bool false) hH <| xL 25 53 28 ⟨gk1, 0, none⟩ (.agg (Cm.cells (dC' c0))) (fun _ hw => run_load_part (cs := Cm.cs (dC' c0)) (sub := Cm.cs (dC' c0)) (hw.box 0 _ _ _ rfl) (Part.all _) U28 rfl S28) hH <| xV 26 54 (pV gk1 1) hH <| xL 27 55 3 ⟨gk1, 1, none⟩ (.int .i64 (dC' c0).cl) (fun _ hw => load_one ((hw.box 0 _ _ _ rfl).cell 1 |>.trans (by kernel_rfl)) U3 rfl) hH <| ?_
       try simp only [pS]
       refine xC 28 56 24 #[.int .i64 (dC' c0).cl] (command_any _ _) ?_
       rintro e wk7 ⟨rfl, hk⟩
       have hH2 : Hg w wk7 J J hb v pp h [(gk1, 28, Cm.cells (dC' c0)), (gk3, 28, Cm.cells cZ)] [] := (hH.no hk)
       have HK : Hid (Kept No w (wk7)) := HK.out.then hk
       have HF : Hid (Hg w wk7 J J hb v pp h [(gk1, 28, Cm.cells (dC' c0)), (gk3, 28, Cm.cells cZ)] []) := HF.out.no hk
       clear hk
       refine ⟨(.agg (Cm.cells (dC' c0))), by rw [h3']; rfl, hH2, fun hH => ?_⟩
       clear hH2
       try simp only [pS]
       refine xB 29 57 .neq 28 (.agg (Cm.cells (dC' c0))) ((.agg (Cm.cells (dC' c0)))) (.bool false) (fun _ _ => by rw [eqC_neq, eqC_refl]; rfl) hH <| xV 30 58 (.bool false) hH <| ?_
       try simp only [pS]
       refine wpAnyH_done (by kernel_rfl) ?_ _
       try simp only [pS]
       clear hH
       go_upto_region 3 with fail
       refine WL.start <| uK (.int .i64 ((i : Nat) : Int)) <| uB .add 3 (.int .i64 ((i : Nat) : Int)) (.int .i64 1) (.int .i64 (((i + 1) : Nat) : Int)) (b_addw _ _ _ (by rw [IntKind.wrap_i64]; omega) _) <| uK (.int .i64 (((i + 1) : Nat) : Int)) <| WL.nil <| ?_
       try simp only [pS]
       go_wp2
       go_roundw
       case rel => exact ⟨i + 1, c0, true, rfl, by go_num, by omega, fun _ => rfl, fun _ => rfl, fun e => absurd e (by omega), HF, HK⟩
       case measure => simp [intOf]; omega
      ·skip
       cases hf1 rfl
       go_upto_region 2 with fail
       refine WL.start <| uK (.int .i64 ((i : Nat) : Int)) <| uK (pV hb 0) <| uK (pV hb 0) <| uK (pV hb 8) <| uL 45 ⟨hb, 8, none⟩ (v.d.v) (load_one ((HF.out.hal.box).cell 8 |>.trans (by kernel_rfl)) U45 rfl) <| uK (.int .i64 ((v.d.l : Nat) : Int)) <| uB .lss 3 (.int .i64 ((i : Nat) : Int)) (.int .i64 ((v.d.l : Nat) : Int)) (.bool true) (by rw [b_lss, decide_eq_true (by omega)]) <| WL.nil <| ?_
       try simp only [pS]
       go_upto_region 4 with fail
       refine WL.start <| uK (.bool true) <| uK (.bool false) <| WL.nil <| ?_
       try simp only [pS]
       go_upto_region 7 with fail
       refine wp_region_held_drew (S := fun w' => Hg w w' J J hb v pp h [(gk1, 28, Cm.cells (dC' c0)), (gk3, 28, Cm.cells cZ)] []) rfl (HF.out.drew) (fun hH => ?_)
       have HK : Hid (Kept No w (wr.drew)) := HK.out.drew
       have HF : Hid (Hg w wr.drew J J hb v pp h [(gk1, 28, Cm.cells (dC' c0)), (gk3, 28, Cm.cells cZ)] []) := HF.out.drew
       generalize wr.drew = wk8 at HF HK hH ⊢
       refine xV 0 28 (pV hb 0) hH <| xV 1 29 (pV hb 0) hH <| xV 2 30 (pV hb 8) hH <| xL 3 31 45 ⟨hb, 8, none⟩ v.d.v (fun _ hw => load_one ((hw.hal.box).cell 8 |>.trans (by kernel_rfl)) U45 rfl) hH <| xV 4 32 (.int .i64 ((i : Nat) : Int)) hH <| xU 5 33 (pV gd (od + i * 9)) (fun w' hw => exec_ixA 45 9 E45 F45 _ _ rfl gd od v.d.l v.d.k i (Eq.trans (b := v.d.v) (by kernel_rfl) (sl_v (s := v.d) hgd)) (by kernel_rfl) (by omega)) hH <| ?_
       try simp only [pS]
       refine xL 6 34 28 ⟨gd, od + i * 9, none⟩ (.agg (Cm.cells (dC' c0))) (fun _ hw => ld_D (hw.cD hgd hci)) hH <| xL 7 35 28 ⟨gk1, 0, none⟩ (.agg (Cm.cells (dC' c0))) (fun _ hw => run_load_part (cs := Cm.cs (dC' c0)) (sub := Cm.cs (dC' c0)) (hw.box 0 _ _ _ rfl) (Part.all _) U28 rfl S28) hH <| xB 8 36 .neq 28 (.agg (Cm.cells (dC' c0))) (.agg (Cm.cells (dC' c0))) (.bool false) (fun _ _ => by rw [eqC_neq, eqC_refl]; rfl) hH <| xV 9 37 (.bool false) hH <| xV 10 38 (pV gk1 1) hH <| xL 11 39 3 ⟨gk1, 1, none⟩ (.int .i64 (dC' c0).cl) (fun _ hw => load_one ((hw.box 0 _ _ _ rfl).cell 1 |>.trans (by kernel_rfl)) U3 rfl) hH <| ?_
       try simp only [pS]
       refine xB 12 40 .lss 3 (.int .i64 (dC' c0).cl) (.int .i64 1) (.bool false) (fun _ _ => by rw [b_lss, decide_eq_false (by omega)]) hH <| xV 13 41 (.bool false) hH <| xV 14 42 (.bool false) hH <| xV 15 43 (pV gk1 1) hH <| xL 16 44 3 ⟨gk1, 1, none⟩ (.int .i64 (dC' c0).cl) (fun _ hw => load_one ((hw.box 0 _ _ _ rfl).cell 1 |>.trans (by kernel_rfl)) U3 rfl) hH <| xV 17 45 (pV hb 0) hH <| ?_
       try simp only [pS]
       refine xV 18 46 (pV hb 0) hH <| xV 19 47 (pV hb 6) hH <| xL 20 48 65 ⟨hb, 6, none⟩ v.p.v (fun _ hw => load_one ((hw.hal.box).cell 6 |>.trans (by kernel_rfl)) U65 rfl) hH <| xV 21 49 (.int .i64 ((v.p.l : Nat) : Int)) hH <| xB 22 50 .gtr 3 (.int .i64 (dC' c0).cl) (.int .i64 ((v.p.l : Nat) : Int)) (.bool false) (fun _ _ => by rw [b_gtr, decide_eq_false (by omega)]) hH <| xV 23 51 (.bool false) hH <| ?_
       try simp only [pS]
       refine xV 24 52 (.bool false) hH <| xL 25 53 28 ⟨gk1, 0, none⟩ (.agg (Cm.cells (dC' c0))) (fun _ hw => run_load_part (cs := Cm.cs (dC' c0)) (sub := Cm.cs (dC' c0)) (hw.box 0 _ _ _ rfl) (Part.all _) U28 rfl S28) hH <| xV 26 54 (pV gk1 1) hH <| xL 27 55 3 ⟨gk1, 1, none⟩ (.int .i64 (dC' c0).cl) (fun _ hw => load_one ((hw.box 0 _ _ _ rfl).cell 1 |>.trans (by kernel_rfl)) U3 rfl) hH <| ?_
       try simp only [pS]
       refine xC 28 56 24 #[.int .i64 (dC' c0).cl] (command_any _ _) ?_
       rintro e wk9 ⟨rfl, hk⟩
       have hH2 : Hg w wk9 J J hb v pp h [(gk1, 28, Cm.cells (dC' c0)), (gk3, 28, Cm.cells cZ)] [] := (hH.no hk)
       have HK : Hid (Kept No w (wk9)) := HK.out.then hk
       have HF : Hid (Hg w wk9 J J hb v pp h [(gk1, 28, Cm.cells (dC' c0)), (gk3, 28, Cm.cells cZ)] []) := HF.out.no hk
       clear hk
       refine ⟨(.agg (Cm.cells (dC' c0))), by rw [h3']; rfl, hH2, fun hH => ?_⟩
       clear hH2
       try simp only [pS]
       refine xB 29 57 .neq 28 (.agg (Cm.cells (dC' c0))) ((.agg (Cm.cells (dC' c0)))) (.bool false) (fun _ _ => by rw [eqC_neq, eqC_refl]; rfl) hH <| xV 30 58 (.bool false) hH <| ?_
       try simp only [pS]
       refine wpAnyH_done (by kernel_rfl) ?_ _
       try simp only [pS]
       clear hH
       go_upto_region 3 with fail
       refine WL.start <| uK (.int .i64 ((i : Nat) : Int)) <| uB .add 3 (.int .i64 ((i : Nat) : Int)) (.int .i64 1) (.int .i64 (((i + 1) : Nat) : Int)) (b_addw _ _ _ (by rw [IntKind.wrap_i64]; omega) _) <| uK (.int .i64 (((i + 1) : Nat) : Int)) <| WL.nil <| ?_
       try simp only [pS]
       go_wp2
       go_roundw
       case rel => exact ⟨i + 1, c0, true, rfl, by go_num, by omega, fun _ => rfl, fun _ => rfl, fun e => absurd e (by omega), HF, HK⟩
       case measure => simp [intOf]; omega
    · skip
      go_upto_region 2 with fail
      refine WL.start <| uK (.int .i64 ((i : Nat) : Int)) <| uK (pV hb 0) <| uK (pV hb 0) <| uK (pV hb 8) <| uL 45 ⟨hb, 8, none⟩ (v.d.v) (load_one ((HF.out.hal.box).cell 8 |>.trans (by kernel_rfl)) U45 rfl) <| uK (.int .i64 ((v.d.l : Nat) : Int)) <| uB .lss 3 (.int .i64 ((i : Nat) : Int)) (.int .i64 ((v.d.l : Nat) : Int)) (.bool false) (by rw [b_lss, decide_eq_false (by omega)]) <| WL.nil <| ?_
      try simp only [pS]
      go_upto_region 9 with fail
      refine WL.start <| uL 28 ⟨gk1, 0, none⟩ (.agg (Cm.cells (dC' f1))) (run_load_part (cs := Cm.cs (dC' f1)) (sub := Cm.cs (dC' f1)) (HF.out.box 0 _ _ _ rfl) (Part.all _) U28 rfl S28) <| uK (.bool b1) <| ?_
      try simp only [pS]
      refine uT 28 ⟨gk3, 0, none⟩ (.agg (Cm.cells (dC' f1))) (wr.setRow gk3 (Cm.cells (dC' f1))) (rs (Cm.cs cZ) (Cm.cs (dC' f1)) (Cm.cs (dC' f1)) (HF.out.box 1 _ _ _ rfl) S28 (Cm.oneL _)) ?_
      try simp only [pS]
      have HK : Hid (Kept No w (wr.setRow gk3 (Cm.cells (dC' f1)))) := HK.out.newRow (HF.out.lo 1 _ _ _ rfl) _
      have HF : Hid (Hg w (wr.setRow gk3 (Cm.cells (dC' f1))) J J hb v pp h [(gk1, 28, Cm.cells (dC' f1)), (gk3, 28, Cm.cells (dC' f1))] []) := HF.out.set 1 rfl _
      generalize wr.setRow gk3 (Cm.cells (dC' f1)) = wk10 at HF HK ⊢
      refine uK (.bool b1) <| uK (.bool true) <| WL.nil <| ?_
      try simp only [pS]
      go_wp2
      rw [HC.out]
      refine bodyPost_ret (results_ctt (by rfl) _ _ gk3 (Cm.cells (dC' f1)) (by rfl) (run_load_part (cs := Cm.cs (dC' f1)) (sub := Cm.cs (dC' f1)) (HF.out.box 1 _ _ _ rfl) (Part.all _) U28 rfl S28)) rfl ?_
      refine ⟨f1, b1, rfl, hf1, fun e => hb1 ?_, fun e => hb0 ?_, HK.out⟩
      · have := List.length_pos_iff.2 e; omega
      · rw [e] at hdl; simp at hdl; omega

end Go.Proofs.Ytpabpeppgpeaoaa.Md
namespace Go.Proofs.Ytpabpeppgpeaoaa.Md
open Go.RowKit Gx
set_option linter.unusedVariables false
set_option linter.unusedSimpArgs false

theorem pow_small {k : Nat} (hk : k < 62) : 2 ^ k < 4611686018427387904 := by
  have : 2 ^ k < 2 ^ 62 := Nat.pow_lt_pow_right (by decide) hk
  exact this
theorem b_shl (k : Nat) (hk : k < 62) (w : World) : (binOp .shl 3 (.int .i64 1) (.int .i64 (k : Int))).run Try.prog w = .ok (.int .i64 ((2 ^ k : Nat) : Int)) w := by
  rw [binOp_shl]
  unfold Op.shift
  rw [if_neg (by omega)]
  show Result.ok (Value.int .i64 (IntKind.i64.wrap (1 * 2 ^ (min (k : Int).toNat 64)))) w = _
  have e : (1 : Int) * 2 ^ (min (k : Int).toNat 64) = ((2 ^ k : Nat) : Int) := by
    rw [Int.toNat_natCast, Nat.min_eq_left (by omega), Int.one_mul]
    norm_cast
  have h2 := pow_small hk
  rw [e]
  generalize 2 ^ k = p at h2 ⊢
  rw [show IntKind.i64.wrap (p : Int) = (p : Int) by rw [IntKind.wrap_i64]; omega]
theorem wraps_i64 (n : Int) (h₀ : 0 ≤ n) (h₁ : n < 2 ^ 62) : IntKind.i64.wrap n = n := by rw [IntKind.wrap_i64]; omega
theorem b_andN (a b : Nat) (ha : a < 4611686018427387904) (hb : b < 4611686018427387904) (w : World) : (binOp .and 3 (.int .i64 (a : Int)) (.int .i64 (b : Int))).run Try.prog w = .ok (.int .i64 ((a &&& b : Nat) : Int)) w := by
  rw [binOp_and]
  have := (bits_nat .i64 62 (by decide) wraps_i64 a b ha hb).1
  rw [← this]
  rfl
theorem from_eq (m : Ms) (j : Nat) : eqA (dM m).fr ⟨true, ((j + 1 : Nat) : Int)⟩ = Pax.fromJ j m := by
  show (m.fc == true && m.fi == ((j + 1 : Nat) : Int)) = (m.fc && decide (m.fi = (j : Int) + 1))
  rw [show ((j + 1 : Nat) : Int) = (j : Int) + 1 by omega]
  cases m.fc <;> simp
  by_cases e : m.fi = (j : Int) + 1 <;> simp [e]
section
variable {w W W2 : World} {J0 J J2 S : Nat → Prop} {hb : Nat} {v v2 : Hv} {pp pp2 : List Nat} {h h2 : Pax.Hl} {l l2 : List (Nat × TypeId × Array Value)} {T T' : List (Sl × List Mg)}
/-- A list of one's own grows. -/
theorem Hg.growT {t : Sl} {ms : List Mg} (H : Hg w W J0 J hb v pp h l ((t, ms) :: T)) (hb0 : ∀ k, At t.a k → w.heap.size ≤ k) {xa : Option Addr} {n cc : Nat} {news : List Mg} (hl : news.length = n) (hx0 : xa = none → cc = 0) (hnews : ∀ j u, (mgL news)[j]? = some u → ∃ ad, xa = some ad ∧ W.cell? (ad.add j) = some u) (hn : t.l + n ≤ 4000000) :
    ∃ a' k' W2, (Builtin.append_ #[66, 66] 66 #[t.v, .slice xa n cc]).run Try.prog W = .ok (.slice a' (t.l + n) k') W2 ∧ (∀ k, At a' k → w.heap.size ≤ k) ∧ Hg w W2 J0 J hb v pp h l [(⟨a', t.l + n, k'⟩, ms ++ news)] := by
  have ho := H.tl 0 _ rfl
  obtain ⟨a', k', W2, hrun, hO, hk, hat⟩ := run_appN (w := W) 66 66 47 30 312 (.agg mgZ.cells) U66 I47 rfl (by omega) 0 t.l t.k t.a (mgL ms) ho.own xa n cc (mgL news) (by rw [mgL_len, hl]) hx0 hnews (mgL_one _) (by omega) (by omega) (Nat.zero_le _)
  have hsz := H.fr.kept.size
  refine ⟨a', k', W2, hrun, fun k e => (hat k e).elim (hb0 k) (fun e => by omega), ⟨H.hal.kept hk (fun k e f => H.tj 0 _ k rfl f e), ⟨H.fr.kept.trans hk (fun _ e => e) (fun k hk' e => absurd (hb0 k e) (by omega)), fun i g ty cs hi => (H.fr.box i g ty cs hi).kept hk (H.tb 0 i _ g ty cs rfl hi), H.fr.low, H.fr.inj⟩, H.ja, H.li, H.lo, fun i x hx => ?_, fun i x k hx e => ?_, fun i j x g ty cs hx hj e => ?_⟩⟩
  · have hx' := List.mem_of_getElem? hx
    rw [List.mem_singleton] at hx'
    subst hx'
    exact ⟨by rw [mgL_app]; exact hO, by rw [List.length_append, ho.len, hl]⟩
  · have hx' := List.mem_of_getElem? hx
    rw [List.mem_singleton] at hx'
    subst hx'
    rcases hat k e with e | e
    · exact H.tj 0 _ k rfl e
    · intro f; have := H.hal.jl k f; omega
  · have hx' := List.mem_of_getElem? hx
    rw [List.mem_singleton] at hx'
    subst hx'
    rcases hat g e with e | e
    · exact H.tb 0 j _ g ty cs rfl hj e
    · have := (H.fr.box j g ty cs hj).lt; omega
theorem rd_src {W : World} {s : Sl} {ms : List Mg} (h : OwM W 0 s ms) : (s.a = none → s.k = 0) ∧ ∀ j u, (mgL ms)[j]? = some u → ∃ ad, s.a = some ad ∧ W.cell? (ad.add j) = some u := by
  refine ⟨fun e => h.own.cap0 e, fun j u hj => ?_⟩
  have h0 : 0 < s.l := by
    have := (List.getElem?_eq_some_iff.1 hj).1
    rw [mgL_len, h.len] at this
    omega
  obtain ⟨g, ea⟩ := Own.sm h.own h0
  exact ⟨⟨g, 0, none⟩, ea, World.ownsRow.cells (by have := h.own; rw [ea] at this; exact this) (by rfl) j u hj⟩
/-- What is under way is taken away from the hall, as a list of one's own. -/
theorem Hg.takeY (H : Hg w W J0 J hb v pp h l T) : ∃ J2, Hg w (W.setRow hb (Hv.cells ⟨v.ky, v.g, v.i, v.p, slZ, v.d, v.a, v.b⟩)) J0 J2 hb ⟨v.ky, v.g, v.i, v.p, slZ, v.d, v.a, v.b⟩ pp { h with way := [] } l (T ++ [(v.y, h.way.map dM)]) := by
  obtain ⟨I, A⟩ := H.hal
  have hk2 : Kept (Only hb) W (W.setRow hb (Hv.cells ⟨v.ky, v.g, v.i, v.p, slZ, v.d, v.a, v.b⟩)) := Kept.setRow W hb _
  have off : ∀ {k : Nat} {t : TypeId}, (∃ cs, Box W k t cs) → t ≠ 68 → ¬ Only hb k := fun ht h2 e => by
    have e : _ = hb := e
    subst e
    exact no_ty ht ⟨_, A.box⟩ h2
  have yo : ∀ {k : Nat} {t : TypeId}, (∃ cs, Box W k t cs) → t ≠ 47 → ¬ At v.y.a k := fun ht h2 e => no_ty ht (A.tyY e) h2
  have hI : ∀ j k, I j k → ¬ Only hb k := fun j k e f => A.ri j k e (.inl f)
  have hal : Hal (W.setRow hb (Hv.cells ⟨v.ky, v.g, v.i, v.p, slZ, v.d, v.a, v.b⟩)) (fun k => J k ∧ ¬ At v.y.a k) hb ⟨v.ky, v.g, v.i, v.p, slZ, v.d, v.a, v.b⟩ pp { h with way := [] } := by
    refine ⟨I, Box.setRow A.box _, A.gr.kept hk2 (fun k e => off (A.tyG e) (by decide)), A.ins.kept hk2 (fun k e => off (A.tyI e) (by decide)), A.prs.kept hk2 (fun k e => off (A.tyP e) (by decide)), OwM.nil _ _, A.dec.kept hk2 (fun k e => off (A.tyD e) (by decide)), A.nkd.kept hk2 (fun k e => off (A.tyA e) (by decide)), A.nks.kept hk2 (fun k e => off (A.tyB e) (by decide)), A.pl, fun j s k hs hp => (A.pr j s k hs hp).kept hk2 (fun q e _ _ => ⟨hI j q e, e⟩), A.ii, fun j k e => notM_kept (A.im j k e) hk2 (A.jl k (A.ij j k e)) (hI j k e), fun j k e => ?_, A.ga, A.gb, A.ab, fun j k e => ⟨A.ij j k e, fun f => A.ri j k e (.inr (.inr (.inr (.inr (.inl f)))))⟩, fun k e => ?_, fun k e => Nat.lt_of_lt_of_le (A.jl k e.1) hk2.size⟩
    · rintro (f | f | f | f | f | f | f | f)
      · exact A.ri j k e (.inl f)
      · exact A.ri j k e (.inr (.inl f))
      · exact A.ri j k e (.inr (.inr (.inl f)))
      · exact A.ri j k e (.inr (.inr (.inr (.inl f))))
      · exact At.none f
      · exact A.ri j k e (.inr (.inr (.inr (.inr (.inr (.inl f))))))
      · exact A.ri j k e (.inr (.inr (.inr (.inr (.inr (.inr (.inl f)))))))
      · exact A.ri j k e (.inr (.inr (.inr (.inr (.inr (.inr (.inr f)))))))
    · rcases e with e | e | e | e | e | e | e | e
      · exact ⟨A.rj k (.inl e), by have e : k = hb := e; rw [e]; exact yo ⟨_, A.box⟩ (by decide)⟩
      · exact ⟨A.rj k (.inr (.inl e)), yo (A.tyG e) (by decide)⟩
      · exact ⟨A.rj k (.inr (.inr (.inl e))), yo (A.tyI e) (by decide)⟩
      · exact ⟨A.rj k (.inr (.inr (.inr (.inl e)))), yo (A.tyP e) (by decide)⟩
      · exact absurd e At.none
      · exact ⟨A.rj k (.inr (.inr (.inr (.inr (.inr (.inl e)))))), yo (A.tyD e) (by decide)⟩
      · exact ⟨A.rj k (.inr (.inr (.inr (.inr (.inr (.inr (.inl e))))))), yo (A.tyA e) (by decide)⟩
      · exact ⟨A.rj k (.inr (.inr (.inr (.inr (.inr (.inr (.inr e))))))), yo (A.tyB e) (by decide)⟩
  refine ⟨_, (H.upd hal ⟨fun k e => .inl e.1, hk2.mono (fun k _ e => (show k = hb from e) ▸ A.rj hb (.inl rfl))⟩).add (A.way.kept hk2 (fun k e => off (A.tyY e) (by decide))) (fun k e f => f.2 e) (fun j g ty cs hj e => H.li j g ty cs hj (A.rj g (.inr (.inr (.inr (.inr (.inl e)))))))⟩
end
theorem relay_step (up : Nat → Bool) (m : Ms) (h : Pax.Hl) (k : Nat) : (List.range (k + 1)).foldl (Pax.relayH up m) h = Pax.relayH up m ((List.range k).foldl (Pax.relayH up m) h) k := by
  rw [List.range_succ, List.foldl_append]; rfl
theorem relay_zs (up : Nat → Bool) (m : Ms) : ∀ (l : List Nat) (h : Pax.Hl), (l.foldl (Pax.relayH up m) h).zs = h.zs
  | [], h => rfl
  | k :: l, h => by
    rw [List.foldl_cons, relay_zs up m l]
    unfold Pax.relayH
    split
    · exact Pax.deliver_zs h m
    · rfl
theorem relay_ok {B : Nat} (up : Nat → Bool) {m : Ms} (hm : Pax.PlM m) : ∀ (l : List Nat) {h : Pax.Hl}, Pax.Hok B h → Pax.Hok B (l.foldl (Pax.relayH up m) h)
  | [], _, k => k
  | i :: l, _, k => by
    refine relay_ok up hm l ?_
    unfold Pax.relayH
    split
    · exact k.deliver hm
    · exact k
theorem relays_ok {B : Nat} (up : Nat → Bool) : ∀ (l : List Ms) {h : Pax.Hl}, Pax.Hok B h → (∀ m, m ∈ l → Pax.PlM m) → Pax.Hok B (l.foldl (Pax.relays up) h)
  | [], _, k, _ => k
  | m :: l, _, k, hl => relays_ok up l (relay_ok up (hl m List.mem_cons_self) _ k) (fun x hx => hl x (List.mem_cons_of_mem _ hx))
theorem relays_zs (up : Nat → Bool) : ∀ (l : List Ms) (h : Pax.Hl), (l.foldl (Pax.relays up) h).zs = h.zs
  | [], h => rfl
  | m :: l, h => by rw [List.foldl_cons, relays_zs up l]; exact relay_zs up m _ h
theorem fold_step {α β : Type} (f : α → β → α) {l : List β} {h : α} {i : Nat} {m : β} (hm : l[i]? = some m) : (l.take (i + 1)).foldl f h = f ((l.take i).foldl f h) m := by
  rw [List.take_add_one, hm, List.foldl_append]; rfl
theorem filter_step {p : Ms → Bool} {l : List Ms} {i : Nat} {m : Ms} (hm : l[i]? = some m) : (l.take (i + 1)).filter p = (l.take i).filter p ++ if p m then [m] else [] := by
  rw [List.take_add_one, hm, List.filter_append]
  congr 1
  show List.filter p [m] = _
  rw [List.filter_cons]
  split <;> rfl
end Go.Proofs.Ytpabpeppgpeaoaa.Md
