import Derived.Test.YtpabpeppgpeaoaaHf
import Derived.Test.YtpabpeppgpeaoaaAu
namespace Go.Proofs.Ytpabpeppgpeaoaa.Md
open Go.RowKit Gx
set_option linter.unusedVariables false
set_option linter.unusedSimpArgs false

/-- A server's answer as the acceptor makes it, and as it goes out. -/
def mq (a : Ms) : Mg := mM a.k ⟨a.st.n, a.st.c⟩ ⟨a.hd.n, a.hd.c⟩ (dC' a.c)
def ansG (m q : Mg) : Mg := ⟨q.k, m.too, m.fr, m.op, m.rd, m.ky, q.st, q.hd, q.bl, q.c, q.bk, q.cm, q.mo⟩
theorem ans_g (m : Ms) (k : Int) (st hd : Ytpabpeppgpeaoaa.Sp) (c : Ytpabpeppgpeaoaa.Cm) : dM (Pax.ans m k st hd c) = ansG (dM m) (mq (Pax.ans m k st hd c)) := rfl
theorem prepA_g (x : Ytpabpeppgpeaoaa.In) (m : Ms) : dM (Pax.prepA x m).2 = ansG (dM m) (mq (Pax.prepA x m).2) := by obtain ⟨_, _, _, _, e⟩ := Pax.prepA_ans x m; rw [e]; rfl
theorem accA_g (x : Ytpabpeppgpeaoaa.In) (m : Ms) : dM (Pax.accA x m).2 = ansG (dM m) (mq (Pax.accA x m).2) := by obtain ⟨_, _, _, _, e⟩ := Pax.accA_ans x m; rw [e]; rfl
theorem prep_any (x : Ytpabpeppgpeaoaa.In) (m : Ms) (w : World) : Calls Try.prog 69 #[.agg (In.cells (dI x)), .agg (Sp.cells (dM m).st)] w (fun e w' => ∃ b, e = .returned (.tuple #[.agg (In.cells (dI (Pax.prepA x m).1)), .agg (Mg.cells (mq (Pax.prepA x m).2)), .bool b]) ∧ Kept No w w') := by
  obtain ⟨⟨pn, pc⟩, ⟨an, ac⟩, c, d⟩ := x
  unfold Pax.prepA
  cases d
  · cases hl : Pax.ltS m.st ⟨pn, pc⟩
    · exact prep_n ⟨pn, pc⟩ ⟨an, ac⟩ (dC' c) (dM m).st w hl
    · exact prep_l ⟨pn, pc⟩ ⟨an, ac⟩ (dC' c) (dM m).st w hl
  · exact prep_d ⟨pn, pc⟩ ⟨an, ac⟩ (dC' c) (dM m).st w
theorem acc_any (x : Ytpabpeppgpeaoaa.In) (m : Ms) (w : World) : Calls Try.prog 70 #[.agg (In.cells (dI x)), .agg (Sp.cells (dM m).st), .agg (Cm.cells (dM m).c)] w (fun e w' => ∃ b, e = .returned (.tuple #[.agg (In.cells (dI (Pax.accA x m).1)), .agg (Mg.cells (mq (Pax.accA x m).2)), .bool b]) ∧ Kept No w w') := by
  obtain ⟨⟨pn, pc⟩, ⟨an, ac⟩, c, d⟩ := x
  unfold Pax.accA
  cases d
  · cases hl : Pax.ltS m.st ⟨pn, pc⟩
    · exact acc_n ⟨pn, pc⟩ ⟨an, ac⟩ (dC' c) (dM m).st (dM m).c w hl
    · exact acc_l ⟨pn, pc⟩ ⟨an, ac⟩ (dC' c) (dM m).st (dM m).c w hl
  · exact acc_d ⟨pn, pc⟩ ⟨an, ac⟩ (dC' c) (dM m).st (dM m).c w
theorem lrn_any (x : Ytpabpeppgpeaoaa.In) (m : Ms) (w : World) : Calls Try.prog 71 #[.agg (In.cells (dI x)), .agg (Cm.cells (dM m).c)] w (fun e w' => ∃ b, e = .returned (.tuple #[.agg (In.cells (dI (Pax.lrnA x m))), .bool b]) ∧ Kept No w w') := by
  obtain ⟨⟨pn, pc⟩, ⟨an, ac⟩, c, d⟩ := x
  unfold Pax.lrnA
  cases d
  · exact lrn_n ⟨pn, pc⟩ ⟨an, ac⟩ (dC' c) (dM m).c w
  · exact lrn_d ⟨pn, pc⟩ ⟨an, ac⟩ (dC' c) (dM m).c w
theorem meet1 {J : World → Prop} {G : World → Prop} {g : Prop} (h : (∀ W, J W → G W) → g) (t : ∀ W, J W → G W) : g := h t
theorem OwM.one {W : World} {g : Nat} {m : Mg} (hb : Box W g 47 (Mg.cells m)) : OwM W 0 ⟨some ⟨g, 0, none⟩, 1, 1⟩ [m] := by
  refine ⟨⟨by rw [mgL_1]; rfl, .inr ⟨g, 1, _, rfl, Nat.zero_le _, hb, Nat.le_refl _, by unfold maxLen; omega, rfl, by rw [mgL_1]; rfl⟩⟩, rfl⟩
set_option maxRecDepth 100000 in
set_option maxHeartbeats 4000000 in
theorem deliver_c (J : Nat → Prop) (hb : Nat) (v : Hv) (pp : List Nat) (h : Pax.Hl) (m : Ms) (w : World) (hH : Hal w J hb v pp h) (B : Nat) (hO : Pax.Hok B h) (hB : B ≤ 2000000) (hm : Pax.PlM m) (htc : m.tc = true) : Calls Try.prog 47 #[.pointer (some ⟨hb, 0, none⟩), .agg (Mg.cells (dM m))] w (HlO w J hb pp (Pax.deliverH h m)) := by
  refine hideC fun C HC => ?_
  have htc' : (dM m).too.cl = true := htc
  have HF : Hid (Hg w w J J hb v pp h [] []) := Hg.start hH
  clear hH
  go_enter Try.func47, Try.ntmps47
  go_upto_region 0 with fail
  refine WL.start ?_
  refine uR (pV w.heap.size 0) (w.alloc (.cells (Mg.cells (dM m)) 47)) (exec_box 47 _ rfl (Mg.cells (dM m)) (by kernel_rfl)) ?_
  try simp only [pS]
  have HF : Hid (Hg w (w.alloc (.cells (Mg.cells (dM m)) 47)) J J hb v pp h [(w.heap.size, 47, Mg.cells (dM m))] []) := HF.out.alloc _ _
  generalize w.alloc (.cells (Mg.cells (dM m)) 47) = wk2 at HF ⊢
  generalize w.heap.size = gk1 at HF ⊢
  refine WL.nil ?_
  try simp only [pS]
  go_upto_region 1 with fail
  refine WL.start <| uK (pV gk1 3) <| uK (pV gk1 3) <| uL 4 ⟨gk1, 3, none⟩ (.bool true) (load_one ((HF.out.box 0 _ _ _ rfl).cell 3 |>.trans ((by kernel_rfl : _ = some (.bool ((dM m).too).cl)).trans (by rw [htc']))) U4 rfl) <| WL.nil <| ?_
  try simp only [pS]
  by_cases hj : 1 ≤ m.ti ∧ m.ti ≤ h.ps.length
  ·skip
   obtain ⟨j, hjj⟩ : ∃ j : Nat, m.ti = (j : Int) + 1 := ⟨(m.ti - 1).toNat, by omega⟩
   have hjl : j < h.ps.length := by omega
   have hpl := HF.out.pl
   have hal := HF.out.al
   have hbl := HF.out.bl
   have hln := hO.ln
   have hpn := hO.ps
   have hls := hO.ls
   have hti : (dM m).too.id = (j : Int) + 1 := hjj
   obtain ⟨s, hs⟩ : ∃ s, h.ps[j]? = some s := ⟨_, List.getElem?_eq_getElem hjl⟩
   have hpt := Pax.pl_tak (hO.pr s (List.mem_of_getElem? hs)) m
   have hdl : Pax.deliverH h m = Pax.lookH (Pax.playH (Pax.nackH h j m s) j (taksS s m [] [])) := by
     unfold Pax.deliverH
     have ej : (m.ti - 1).toNat = j := by rw [hjj]; omega
     rw [if_pos htc, ej, hs]
     show (if 1 ≤ m.ti then _ else h) = _
     rw [if_pos (by omega)]
   obtain ⟨k, Ij, hpk, hP, _⟩ := HF.out.ask hs
   have hn1 := hO.nack j m s
   go_upto_region 2 with fail
   refine WL.start <| uK (pV gk1 3) <| uK (pV gk1 4) <| uL 3 ⟨gk1, 4, none⟩ (.int .i64 ((dM m).too).id) (load_one ((HF.out.box 0 _ _ _ rfl).cell 4 |>.trans (by kernel_rfl)) U3 rfl) <| uB .sub 3 (.int .i64 ((dM m).too).id) (.int .i64 1) (.int .i64 ((j : Nat) : Int)) (b_subw _ _ _ (by rw [IntKind.wrap_i64] <;> omega) _) <| uK (.int .i64 ((j : Nat) : Int)) <| WL.nil <| ?_
   try simp only [pS]
   go_upto_region 3 with fail
   refine WL.start <| uK (.int .i64 ((j : Nat) : Int)) <| uB .geq 3 (.int .i64 ((j : Nat) : Int)) (.int .i64 0) (.bool true) (by rw [b_geq, decide_eq_true (by omega)]) <| uK (.bool true) <| uK (.int .i64 ((j : Nat) : Int)) <| uK (pV hb 0) <| uK (pV hb 0) <| uK (pV hb 6) <| ?_
   try simp only [pS]
   refine uL 65 ⟨hb, 6, none⟩ (v.p.v) (load_one ((HF.out.hal.box).cell 6 |>.trans (by kernel_rfl)) U65 rfl) <| uK (.int .i64 ((v.p.l : Nat) : Int)) <| uB .lss 3 (.int .i64 ((j : Nat) : Int)) (.int .i64 ((v.p.l : Nat) : Int)) (.bool true) (by rw [b_lss, decide_eq_true (by omega)]) <| uK (.bool true) <| WL.nil <| ?_
   try simp only [pS]
   obtain ⟨gp, hgp⟩ := HF.out.rP (i := j) (by omega)
   by_cases h14 : (dM m).k = 14
   ·skip
    by_cases hrd : (dM m).rd = s.rd
    ·skip
     go_upto_region 4 with fail
     refine wp_region_held_drew (S := fun w' => Hg w w' J J hb v pp h [(gk1, 47, Mg.cells (dM m))] []) rfl (HF.out.drew) (fun hH => ?_)
     have HF : Hid (Hg w wk2.drew J J hb v pp h [(gk1, 47, Mg.cells (dM m))] []) := HF.out.drew
     generalize wk2.drew = wk3 at HF hH ⊢
     refine xV 0 26 (pV gk1 0) hH <| xL 1 27 3 ⟨gk1, 0, none⟩ (.int .i64 (dM m).k) (fun _ hw => load_one ((hw.box 0 _ _ _ rfl).cell 0 |>.trans (by kernel_rfl)) U3 rfl) hH <| xB 2 28 .eql 3 (.int .i64 (dM m).k) (.int .i64 14) (.bool true) (fun _ _ => by rw [b_eql, beq_iff_eq.2 (by omega)]) hH <| xV 3 29 (.bool true) hH <| xV 4 30 (pV gk1 6) hH <| xL 5 31 3 ⟨gk1, 6, none⟩ (.int .i64 (dM m).rd) (fun _ hw => load_one ((hw.box 0 _ _ _ rfl).cell 6 |>.trans (by kernel_rfl)) U3 rfl) hH <| ?_
     try simp only [pS]
     refine xV 6 32 (pV hb 0) hH <| xV 7 33 (pV hb 0) hH <| xV 8 34 (pV hb 6) hH <| xL 9 35 65 ⟨hb, 6, none⟩ v.p.v (fun _ hw => load_one ((hw.hal.box).cell 6 |>.trans (by kernel_rfl)) U65 rfl) hH <| xV 10 36 (.int .i64 ((j : Nat) : Int)) hH <| xU 11 37 (pV gp (0 + j * 1)) (fun w' hw => exec_ixA 65 1 E65 F65 _ _ rfl gp 0 v.p.l v.p.k j (Eq.trans (b := v.p.v) (by kernel_rfl) (sl_v (s := v.p) hgp)) (by kernel_rfl) (by omega)) hH <| ?_
     try simp only [pS]
     refine xL 12 38 31 ⟨gp, 0 + j * 1, none⟩ (pV k 0) (fun _ hw => load_one (hw.cP hgp hpk) U31 rfl) hH ?_
     try simp only [pS]
     obtain ⟨k9, I9, hpk9, hP9, _⟩ := HF.out.ask hs
     cases Option.some.inj (hpk.symm.trans hpk9)
     refine xC 13 39 22 #[pV k 0] (round_P hP9) ?_
     rintro e wq ⟨rfl, hwq⟩
     rw [hwq]
     clear hwq wq
     refine ⟨.int .i64 s.rd, rfl, hH, fun hH => ?_⟩
     try simp only [pS]
     refine xB 14 40 .eql 3 (.int .i64 (dM m).rd) (.int .i64 s.rd) (.bool true) (fun _ _ => by rw [b_eql, beq_iff_eq.2 (by omega)]) hH <| xV 15 41 (.bool true) hH <| ?_
     try simp only [pS]
     refine wpAnyH_done (by kernel_rfl) ?_ _
     try simp only [pS]
     clear hH
     obtain ⟨ga, hga⟩ := HF.out.rA (i := j) (by omega)
     go_upto_region 5 with fail
     refine wp_region_held_drew (S := fun w' => Box w' hb 68 (Hv.cells v) ∧ Box w' gk1 47 (Mg.cells (dM m))) rfl ⟨HF.out.drew.hal.box, HF.out.drew.box 0 _ _ _ rfl⟩ (fun hH => ?_)
     have HF : Hid (Hg w wk3.drew J J hb v pp h [(gk1, 47, Mg.cells (dM m))] []) := HF.out.drew
     generalize wk3.drew = wk4 at HF hH ⊢
     refine xV 0 42 (pV hb 0) hH <| xV 1 43 (pV hb 0) hH <| xV 2 44 (pV hb 9) hH <| xL 3 45 24 ⟨hb, 9, none⟩ v.a.v (fun _ hw => load_one ((hw.1).cell 9 |>.trans (by kernel_rfl)) U24 rfl) hH <| xV 4 46 (.int .i64 ((j : Nat) : Int)) hH <| xV 5 47 (pV gk1 6) hH <| ?_
     try simp only [pS]
     refine xL 6 48 3 ⟨gk1, 6, none⟩ (.int .i64 (dM m).rd) (fun _ hw => load_one ((hw.2).cell 6 |>.trans (by kernel_rfl)) U3 rfl) hH <| xU 7 49 (pV ga (0 + j * 1)) (fun w' hw => exec_ixA 24 1 E24 F24 _ _ rfl ga 0 v.a.l v.a.k j (Eq.trans (b := v.a.v) (by kernel_rfl) (sl_v (s := v.a) hga)) (by kernel_rfl) (by omega)) hH <| ?_
     try simp only [pS]
     obtain ⟨cs, hru, hG⟩ := HF.out.setA hga (j := j) (by omega) (dM m).rd
     refine xS 8 3 ⟨ga, 0 + j * 1, none⟩ (.int .i64 (dM m).rd) (w' := wk4.setRow ga cs) hru (⟨hG.hal.box, hG.box 0 _ _ _ rfl⟩) (fun hH => ?_)
     try simp only [pS]
     have HF : Hid (Hg w (wk4.setRow ga cs) J J hb v pp ({ h with nkd := h.nkd.set j (dM m).rd }) [(gk1, 47, Mg.cells (dM m))] []) := hG
     clear hG hru
     generalize wk4.setRow ga cs = wk5 at HF hH ⊢
     refine wpAnyH_done (by kernel_rfl) ?_ _
     try simp only [pS]
     clear hH
     obtain ⟨gb, hgb⟩ := HF.out.rB (i := j) (by omega)
     obtain ⟨nb, hnb⟩ : ∃ nb, h.nks[j]? = some nb := ⟨_, List.getElem?_eq_getElem (by omega)⟩
     go_upto_region 6 with fail
     refine WL.start <| uK (pV hb 0) <| uK (pV hb 0) <| uK (pV hb 10) <| uL 24 ⟨hb, 10, none⟩ (v.b.v) (load_one ((HF.out.hal.box).cell 10 |>.trans (by kernel_rfl)) U24 rfl) <| uK (.int .i64 ((j : Nat) : Int)) <| uW (pV gb (0 + j * 1)) (exec_ixA 24 1 E24 F24 _ _ rfl gb 0 v.b.l v.b.k j (Eq.trans (b := v.b.v) (by kernel_rfl) (sl_v (s := v.b) hgb)) (by kernel_rfl) (by omega)) <| uL 3 ⟨gb, 0 + j * 1, none⟩ (.int .i64 nb) (load_one (HF.out.cB hgb hnb) U3 rfl) <| ?_
     try simp only [pS]
     refine uB .add 3 (.int .i64 nb) (.int .i64 1) (.int .i64 (wr1 nb)) (b_addw _ _ _ rfl _) <| uW (pV gb (0 + j * 1)) (exec_ixA 24 1 E24 F24 _ _ rfl gb 0 v.b.l v.b.k j (Eq.trans (b := v.b.v) (by kernel_rfl) (sl_v (s := v.b) hgb)) (by kernel_rfl) (by omega)) <| ?_
     try simp only [pS]
     obtain ⟨cs, hru, hG⟩ := HF.out.setB hgb (j := j) (by omega) (wr1 nb)
     refine uT 3 ⟨gb, 0 + j * 1, none⟩ (.int .i64 (wr1 nb)) (wk5.setRow gb cs) hru ?_
     try simp only [pS]
     have HF : Hid (Hg w (wk5.setRow gb cs) J J hb v pp ({ h with nkd := h.nkd.set j (dM m).rd, nks := h.nks.set j (wr1 nb) }) [(gk1, 47, Mg.cells (dM m))] []) := hG
     clear hG hru
     generalize wk5.setRow gb cs = wk6 at HF ⊢
     refine WL.nil ?_
     try simp only [pS]
     have HF : Hid (Hg w wk6 J J hb v pp (Pax.nackH h j m s) [(gk1, 47, Mg.cells (dM m))] []) := by
       have e : Pax.nackH h j m s = { h with nkd := h.nkd.set j (dM m).rd, nks := h.nks.set j (wr1 nb) } := by unfold Pax.nackH; rw [if_pos ⟨h14, hrd⟩, hnb]; rfl
       rw [e]
       exact HF
     have hs' : (Pax.nackH h j m s).ps[j]? = some s := by rw [Pax.nack_ps]; exact hs
     go_upto_region 7 with fail
     refine wp_region_held_drew (S := fun w' => Box w' gk1 47 (Mg.cells (dM m))) rfl (HF.out.drew.box 0 _ _ _ rfl) (fun hH => ?_)
     have HF : Hid (Hg w wk6.drew J J hb v pp (Pax.nackH h j m s) [(gk1, 47, Mg.cells (dM m))] []) := HF.out.drew
     generalize wk6.drew = wk7 at HF hH ⊢
     refine xV 0 59 (pV hb 0) hH <| xV 1 60 (pV hb 0) hH <| xV 2 61 (pV hb 0) hH <| xV 3 62 (pV hb 6) hH <| xV 5 64 (.int .i64 ((j : Nat) : Int)) hH <| xL 8 67 47 ⟨gk1, 0, none⟩ (.agg (Mg.cells (dM m))) (fun _ hw => run_load_part (cs := Mg.cs (dM m)) (sub := Mg.cs (dM m)) (hw) (Part.all _) U47 rfl S47) hH <| ?_
     try simp only [pS]
     refine xP 4 63 v.p.v (w' := wk7) (exec_load 65 _ rfl ⟨hb, 6, none⟩ (by kernel_rfl) (v.p.v) (load_one ((HF.out.hal.box).cell 6 |>.trans (by kernel_rfl)) U65 rfl)) hH (fun hH => ?_)
     try simp only [pS]
     refine xU 6 65 (pV gp (0 + j * 1)) (fun w' hw => exec_ixA 65 1 E65 F65 _ _ rfl gp 0 v.p.l v.p.k j (Eq.trans (b := v.p.v) (by kernel_rfl) (sl_v (s := v.p) hgp)) (by kernel_rfl) (by omega)) hH ?_
     try simp only [pS]
     refine xP 7 66 (pV k 0) (w' := wk7) (exec_load 31 _ rfl ⟨gp, 0 + j * 1, none⟩ (by kernel_rfl) (pV k 0) (load_one (HF.out.cP hgp hpk) U31 rfl)) hH (fun hH => ?_)
     try simp only [pS]
     obtain ⟨k2, I2, hpk2, hP2, hask⟩ := HF.out.ask hs'
     cases Option.some.inj (hpk.symm.trans hpk2)
     refine xC 9 68 28 #[pV k 0, .agg (Mg.cells (dM m))] (take_P hP2 m [] [] (by rw [hm.en]; exact Nat.zero_le _) (by rw [hm.la]; exact Nat.zero_le _) (by rw [hm.en]; exact ⟨Ytpabpeppgpeaoaa.RowsAt.nil _ _ _, rfl, fun _ => rfl⟩) (by rw [hm.la]; exact ⟨Ytpabpeppgpeaoaa.RowsAt.nil _ _ _, rfl, fun _ => rfl⟩)) ?_
     rintro e wk8 ho
     obtain ⟨la, lc, J2, rfl, hG⟩ := hask _ _ _ _ ho
     have HF : Hid (Hg w wk8 J J2 hb v pp ({ Pax.nackH h j m s with ps := (Pax.nackH h j m s).ps.set j (taksS s m [] []).1 }) [(gk1, 47, Mg.cells (dM m))] [(⟨la, (taksS s m [] []).2.length, lc⟩, (taksS s m [] []).2.map dM)]) := hG
     clear ho hG hask
     have hH2 : Box wk8 gk1 47 (Mg.cells (dM m)) := HF.out.box 0 _ _ _ rfl
     refine ⟨.slice la (taksS s m [] []).2.length lc, rfl, hH2, fun hH => ?_⟩
     clear hH2
     try simp only [pS]
     refine xC 10 69 46 #[pV hb 0, .slice la (taksS s m [] []).2.length lc] (send_any J2 hb v pp _ ⟨la, (taksS s m [] []).2.length, lc⟩ (taksS s m [] []).2 _ HF.out.hal (HF.out.tl 0 _ rfl) (fun k e => HF.out.tj 0 _ k rfl e) (Nat.le_trans hn1.way hB) (Nat.le_trans hpt.n (by decide))) ?_
     rintro e wk9 ho
     obtain ⟨J3, v3, rfl, hG⟩ := HF.out.hcall ho
     have HF : Hid (Hg w wk9 J J3 hb v3 pp (Pax.playH (Pax.nackH h j m s) j (taksS s m [] [])) [(gk1, 47, Mg.cells (dM m))] []) := hG.pick (by simp)
     clear ho hG
     have hH2 : Box wk9 gk1 47 (Mg.cells (dM m)) := HF.out.box 0 _ _ _ rfl
     refine ⟨.tuple #[], rfl, hH2, fun hH => ?_⟩
     clear hH2
     try simp only [pS]
     refine wpAnyH_done (by kernel_rfl) ?_ _
     try simp only [pS]
     clear hH
     go_upto_region 8 with fail
     refine WL.start <| uK (pV hb 0) <| ?_
     try simp only [pS]
     refine uC 20 #[pV hb 0] (look_any J3 hb v3 pp _ _ HF.out.hal (hn1.play j hpt).dec (hn1.play j hpt).ps) ?_
     rintro e wk10 ho
     obtain ⟨J4, v4, rfl, hG⟩ := HF.out.hcall ho
     have HF : Hid (Hg w wk10 J J4 hb v4 pp (Pax.lookH (Pax.playH (Pax.nackH h j m s) j (taksS s m [] []))) [(gk1, 47, Mg.cells (dM m))] []) := hG
     clear ho hG
     refine ⟨.tuple #[], rfl, ?_⟩
     try simp only [pS]
     refine WL.nil ?_
     try simp only [pS]
     go_wp2
     rw [HC.out]
     rw [hdl]
     refine bodyPost_ret (results_none rfl _ _ _) rfl ⟨rfl, HF.out.out⟩
    ·skip
     go_upto_region 4 with fail
     refine wp_region_held_drew (S := fun w' => Hg w w' J J hb v pp h [(gk1, 47, Mg.cells (dM m))] []) rfl (HF.out.drew) (fun hH => ?_)
     have HF : Hid (Hg w wk2.drew J J hb v pp h [(gk1, 47, Mg.cells (dM m))] []) := HF.out.drew
     generalize wk2.drew = wk11 at HF hH ⊢
     refine xV 0 26 (pV gk1 0) hH <| xL 1 27 3 ⟨gk1, 0, none⟩ (.int .i64 (dM m).k) (fun _ hw => load_one ((hw.box 0 _ _ _ rfl).cell 0 |>.trans (by kernel_rfl)) U3 rfl) hH <| xB 2 28 .eql 3 (.int .i64 (dM m).k) (.int .i64 14) (.bool true) (fun _ _ => by rw [b_eql, beq_iff_eq.2 (by omega)]) hH <| xV 3 29 (.bool true) hH <| xV 4 30 (pV gk1 6) hH <| xL 5 31 3 ⟨gk1, 6, none⟩ (.int .i64 (dM m).rd) (fun _ hw => load_one ((hw.box 0 _ _ _ rfl).cell 6 |>.trans (by kernel_rfl)) U3 rfl) hH <| ?_
     try simp only [pS]
     refine xV 6 32 (pV hb 0) hH <| xV 7 33 (pV hb 0) hH <| xV 8 34 (pV hb 6) hH <| xL 9 35 65 ⟨hb, 6, none⟩ v.p.v (fun _ hw => load_one ((hw.hal.box).cell 6 |>.trans (by kernel_rfl)) U65 rfl) hH <| xV 10 36 (.int .i64 ((j : Nat) : Int)) hH <| xU 11 37 (pV gp (0 + j * 1)) (fun w' hw => exec_ixA 65 1 E65 F65 _ _ rfl gp 0 v.p.l v.p.k j (Eq.trans (b := v.p.v) (by kernel_rfl) (sl_v (s := v.p) hgp)) (by kernel_rfl) (by omega)) hH <| ?_
     try simp only [pS]
     refine xL 12 38 31 ⟨gp, 0 + j * 1, none⟩ (pV k 0) (fun _ hw => load_one (hw.cP hgp hpk) U31 rfl) hH ?_
     try simp only [pS]
     obtain ⟨k9, I9, hpk9, hP9, _⟩ := HF.out.ask hs
     cases Option.some.inj (hpk.symm.trans hpk9)
     refine xC 13 39 22 #[pV k 0] (round_P hP9) ?_
     rintro e wq ⟨rfl, hwq⟩
     rw [hwq]
     clear hwq wq
     refine ⟨.int .i64 s.rd, rfl, hH, fun hH => ?_⟩
     try simp only [pS]
     refine xB 14 40 .eql 3 (.int .i64 (dM m).rd) (.int .i64 s.rd) (.bool false) (fun _ _ => by rw [b_eql, beq_eq_false_iff_ne.2 (by omega)]) hH <| xV 15 41 (.bool false) hH <| ?_
     try simp only [pS]
     refine wpAnyH_done (by kernel_rfl) ?_ _
     try simp only [pS]
     clear hH
     have HF : Hid (Hg w wk11 J J hb v pp (Pax.nackH h j m s) [(gk1, 47, Mg.cells (dM m))] []) := by
       have e : Pax.nackH h j m s = h := by unfold Pax.nackH; rw [if_neg (fun e => hrd e.2)]
       rw [e]
       exact HF
     have hs' : (Pax.nackH h j m s).ps[j]? = some s := by rw [Pax.nack_ps]; exact hs
     go_upto_region 7 with fail
     refine wp_region_held_drew (S := fun w' => Box w' gk1 47 (Mg.cells (dM m))) rfl (HF.out.drew.box 0 _ _ _ rfl) (fun hH => ?_)
     have HF : Hid (Hg w wk11.drew J J hb v pp (Pax.nackH h j m s) [(gk1, 47, Mg.cells (dM m))] []) := HF.out.drew
     generalize wk11.drew = wk12 at HF hH ⊢
     refine xV 0 59 (pV hb 0) hH <| xV 1 60 (pV hb 0) hH <| xV 2 61 (pV hb 0) hH <| xV 3 62 (pV hb 6) hH <| xV 5 64 (.int .i64 ((j : Nat) : Int)) hH <| xL 8 67 47 ⟨gk1, 0, none⟩ (.agg (Mg.cells (dM m))) (fun _ hw => run_load_part (cs := Mg.cs (dM m)) (sub := Mg.cs (dM m)) (hw) (Part.all _) U47 rfl S47) hH <| ?_
     try simp only [pS]
     refine xP 4 63 v.p.v (w' := wk12) (exec_load 65 _ rfl ⟨hb, 6, none⟩ (by kernel_rfl) (v.p.v) (load_one ((HF.out.hal.box).cell 6 |>.trans (by kernel_rfl)) U65 rfl)) hH (fun hH => ?_)
     try simp only [pS]
     refine xU 6 65 (pV gp (0 + j * 1)) (fun w' hw => exec_ixA 65 1 E65 F65 _ _ rfl gp 0 v.p.l v.p.k j (Eq.trans (b := v.p.v) (by kernel_rfl) (sl_v (s := v.p) hgp)) (by kernel_rfl) (by omega)) hH ?_
     try simp only [pS]
     refine xP 7 66 (pV k 0) (w' := wk12) (exec_load 31 _ rfl ⟨gp, 0 + j * 1, none⟩ (by kernel_rfl) (pV k 0) (load_one (HF.out.cP hgp hpk) U31 rfl)) hH (fun hH => ?_)
     try simp only [pS]
     obtain ⟨k2, I2, hpk2, hP2, hask⟩ := HF.out.ask hs'
     cases Option.some.inj (hpk.symm.trans hpk2)
     refine xC 9 68 28 #[pV k 0, .agg (Mg.cells (dM m))] (take_P hP2 m [] [] (by rw [hm.en]; exact Nat.zero_le _) (by rw [hm.la]; exact Nat.zero_le _) (by rw [hm.en]; exact ⟨Ytpabpeppgpeaoaa.RowsAt.nil _ _ _, rfl, fun _ => rfl⟩) (by rw [hm.la]; exact ⟨Ytpabpeppgpeaoaa.RowsAt.nil _ _ _, rfl, fun _ => rfl⟩)) ?_
     rintro e wk13 ho
     obtain ⟨la, lc, J2, rfl, hG⟩ := hask _ _ _ _ ho
     have HF : Hid (Hg w wk13 J J2 hb v pp ({ Pax.nackH h j m s with ps := (Pax.nackH h j m s).ps.set j (taksS s m [] []).1 }) [(gk1, 47, Mg.cells (dM m))] [(⟨la, (taksS s m [] []).2.length, lc⟩, (taksS s m [] []).2.map dM)]) := hG
     clear ho hG hask
     have hH2 : Box wk13 gk1 47 (Mg.cells (dM m)) := HF.out.box 0 _ _ _ rfl
     refine ⟨.slice la (taksS s m [] []).2.length lc, rfl, hH2, fun hH => ?_⟩
     clear hH2
     try simp only [pS]
     refine xC 10 69 46 #[pV hb 0, .slice la (taksS s m [] []).2.length lc] (send_any J2 hb v pp _ ⟨la, (taksS s m [] []).2.length, lc⟩ (taksS s m [] []).2 _ HF.out.hal (HF.out.tl 0 _ rfl) (fun k e => HF.out.tj 0 _ k rfl e) (Nat.le_trans hn1.way hB) (Nat.le_trans hpt.n (by decide))) ?_
     rintro e wk14 ho
     obtain ⟨J3, v3, rfl, hG⟩ := HF.out.hcall ho
     have HF : Hid (Hg w wk14 J J3 hb v3 pp (Pax.playH (Pax.nackH h j m s) j (taksS s m [] [])) [(gk1, 47, Mg.cells (dM m))] []) := hG.pick (by simp)
     clear ho hG
     have hH2 : Box wk14 gk1 47 (Mg.cells (dM m)) := HF.out.box 0 _ _ _ rfl
     refine ⟨.tuple #[], rfl, hH2, fun hH => ?_⟩
     clear hH2
     try simp only [pS]
     refine wpAnyH_done (by kernel_rfl) ?_ _
     try simp only [pS]
     clear hH
     go_upto_region 8 with fail
     refine WL.start <| uK (pV hb 0) <| ?_
     try simp only [pS]
     refine uC 20 #[pV hb 0] (look_any J3 hb v3 pp _ _ HF.out.hal (hn1.play j hpt).dec (hn1.play j hpt).ps) ?_
     rintro e wk15 ho
     obtain ⟨J4, v4, rfl, hG⟩ := HF.out.hcall ho
     have HF : Hid (Hg w wk15 J J4 hb v4 pp (Pax.lookH (Pax.playH (Pax.nackH h j m s) j (taksS s m [] []))) [(gk1, 47, Mg.cells (dM m))] []) := hG
     clear ho hG
     refine ⟨.tuple #[], rfl, ?_⟩
     try simp only [pS]
     refine WL.nil ?_
     try simp only [pS]
     go_wp2
     rw [HC.out]
     rw [hdl]
     refine bodyPost_ret (results_none rfl _ _ _) rfl ⟨rfl, HF.out.out⟩
   ·skip
    go_upto_region 4 with fail
    refine wp_region_held_drew (S := fun w' => Hg w w' J J hb v pp h [(gk1, 47, Mg.cells (dM m))] []) rfl (HF.out.drew) (fun hH => ?_)
    have HF : Hid (Hg w wk2.drew J J hb v pp h [(gk1, 47, Mg.cells (dM m))] []) := HF.out.drew
    generalize wk2.drew = wk16 at HF hH ⊢
    refine xV 0 26 (pV gk1 0) hH <| xL 1 27 3 ⟨gk1, 0, none⟩ (.int .i64 (dM m).k) (fun _ hw => load_one ((hw.box 0 _ _ _ rfl).cell 0 |>.trans (by kernel_rfl)) U3 rfl) hH <| xB 2 28 .eql 3 (.int .i64 (dM m).k) (.int .i64 14) (.bool false) (fun _ _ => by rw [b_eql, beq_eq_false_iff_ne.2 (by omega)]) hH <| xV 3 29 (.bool false) hH <| xZ 4 30 hH <| xZ 5 31 hH <| ?_
    try simp only [pS]
    refine xZ 6 32 hH <| xZ 7 33 hH <| xZ 8 34 hH <| xZ 9 35 hH <| xZ 10 36 hH <| xZ 11 37 hH <| ?_
    try simp only [pS]
    refine xZ 12 38 hH <| xZ 13 39 hH <| xZ 14 40 hH <| xV 15 41 (.bool false) hH <| ?_
    try simp only [pS]
    refine wpAnyH_done (by kernel_rfl) ?_ _
    try simp only [pS]
    clear hH
    have HF : Hid (Hg w wk16 J J hb v pp (Pax.nackH h j m s) [(gk1, 47, Mg.cells (dM m))] []) := by
      have e : Pax.nackH h j m s = h := by unfold Pax.nackH; rw [if_neg (fun e => h14 e.1)]
      rw [e]
      exact HF
    have hs' : (Pax.nackH h j m s).ps[j]? = some s := by rw [Pax.nack_ps]; exact hs
    go_upto_region 7 with fail
    refine wp_region_held_drew (S := fun w' => Box w' gk1 47 (Mg.cells (dM m))) rfl (HF.out.drew.box 0 _ _ _ rfl) (fun hH => ?_)
    have HF : Hid (Hg w wk16.drew J J hb v pp (Pax.nackH h j m s) [(gk1, 47, Mg.cells (dM m))] []) := HF.out.drew
    generalize wk16.drew = wk17 at HF hH ⊢
    refine xV 0 59 (pV hb 0) hH <| xV 1 60 (pV hb 0) hH <| xV 2 61 (pV hb 0) hH <| xV 3 62 (pV hb 6) hH <| xV 5 64 (.int .i64 ((j : Nat) : Int)) hH <| xL 8 67 47 ⟨gk1, 0, none⟩ (.agg (Mg.cells (dM m))) (fun _ hw => run_load_part (cs := Mg.cs (dM m)) (sub := Mg.cs (dM m)) (hw) (Part.all _) U47 rfl S47) hH <| ?_
    try simp only [pS]
    refine xP 4 63 v.p.v (w' := wk17) (exec_load 65 _ rfl ⟨hb, 6, none⟩ (by kernel_rfl) (v.p.v) (load_one ((HF.out.hal.box).cell 6 |>.trans (by kernel_rfl)) U65 rfl)) hH (fun hH => ?_)
    try simp only [pS]
    refine xU 6 65 (pV gp (0 + j * 1)) (fun w' hw => exec_ixA 65 1 E65 F65 _ _ rfl gp 0 v.p.l v.p.k j (Eq.trans (b := v.p.v) (by kernel_rfl) (sl_v (s := v.p) hgp)) (by kernel_rfl) (by omega)) hH ?_
    try simp only [pS]
    refine xP 7 66 (pV k 0) (w' := wk17) (exec_load 31 _ rfl ⟨gp, 0 + j * 1, none⟩ (by kernel_rfl) (pV k 0) (load_one (HF.out.cP hgp hpk) U31 rfl)) hH (fun hH => ?_)
    try simp only [pS]
    obtain ⟨k2, I2, hpk2, hP2, hask⟩ := HF.out.ask hs'
    cases Option.some.inj (hpk.symm.trans hpk2)
    refine xC 9 68 28 #[pV k 0, .agg (Mg.cells (dM m))] (take_P hP2 m [] [] (by rw [hm.en]; exact Nat.zero_le _) (by rw [hm.la]; exact Nat.zero_le _) (by rw [hm.en]; exact ⟨Ytpabpeppgpeaoaa.RowsAt.nil _ _ _, rfl, fun _ => rfl⟩) (by rw [hm.la]; exact ⟨Ytpabpeppgpeaoaa.RowsAt.nil _ _ _, rfl, fun _ => rfl⟩)) ?_
    rintro e wk18 ho
    obtain ⟨la, lc, J2, rfl, hG⟩ := hask _ _ _ _ ho
    have HF : Hid (Hg w wk18 J J2 hb v pp ({ Pax.nackH h j m s with ps := (Pax.nackH h j m s).ps.set j (taksS s m [] []).1 }) [(gk1, 47, Mg.cells (dM m))] [(⟨la, (taksS s m [] []).2.length, lc⟩, (taksS s m [] []).2.map dM)]) := hG
    clear ho hG hask
    have hH2 : Box wk18 gk1 47 (Mg.cells (dM m)) := HF.out.box 0 _ _ _ rfl
    refine ⟨.slice la (taksS s m [] []).2.length lc, rfl, hH2, fun hH => ?_⟩
    clear hH2
    try simp only [pS]
    refine xC 10 69 46 #[pV hb 0, .slice la (taksS s m [] []).2.length lc] (send_any J2 hb v pp _ ⟨la, (taksS s m [] []).2.length, lc⟩ (taksS s m [] []).2 _ HF.out.hal (HF.out.tl 0 _ rfl) (fun k e => HF.out.tj 0 _ k rfl e) (Nat.le_trans hn1.way hB) (Nat.le_trans hpt.n (by decide))) ?_
    rintro e wk19 ho
    obtain ⟨J3, v3, rfl, hG⟩ := HF.out.hcall ho
    have HF : Hid (Hg w wk19 J J3 hb v3 pp (Pax.playH (Pax.nackH h j m s) j (taksS s m [] [])) [(gk1, 47, Mg.cells (dM m))] []) := hG.pick (by simp)
    clear ho hG
    have hH2 : Box wk19 gk1 47 (Mg.cells (dM m)) := HF.out.box 0 _ _ _ rfl
    refine ⟨.tuple #[], rfl, hH2, fun hH => ?_⟩
    clear hH2
    try simp only [pS]
    refine wpAnyH_done (by kernel_rfl) ?_ _
    try simp only [pS]
    clear hH
    go_upto_region 8 with fail
    refine WL.start <| uK (pV hb 0) <| ?_
    try simp only [pS]
    refine uC 20 #[pV hb 0] (look_any J3 hb v3 pp _ _ HF.out.hal (hn1.play j hpt).dec (hn1.play j hpt).ps) ?_
    rintro e wk20 ho
    obtain ⟨J4, v4, rfl, hG⟩ := HF.out.hcall ho
    have HF : Hid (Hg w wk20 J J4 hb v4 pp (Pax.lookH (Pax.playH (Pax.nackH h j m s) j (taksS s m [] []))) [(gk1, 47, Mg.cells (dM m))] []) := hG
    clear ho hG
    refine ⟨.tuple #[], rfl, ?_⟩
    try simp only [pS]
    refine WL.nil ?_
    try simp only [pS]
    go_wp2
    rw [HC.out]
    rw [hdl]
    refine bodyPost_ret (results_none rfl _ _ _) rfl ⟨rfl, HF.out.out⟩
  ·skip
   have hdl : Pax.deliverH h m = h := by
     unfold Pax.deliverH
     rw [if_pos htc]
     split
     · next s hs =>
       have := (List.getElem?_eq_some_iff.1 hs).1
       have := hm.t0
       rw [if_neg (by omega)]
     · rfl
   have hpl := HF.out.pl
   have ht0 := hm.t0
   have ht1 := hm.t1
   obtain ⟨z, hz⟩ : ∃ z : Int, z = m.ti - 1 := ⟨_, rfl⟩
   have hti : (dM m).too.id = z + 1 := by show m.ti = z + 1; omega
   by_cases hz0 : z < 0
   ·skip
    go_upto_region 2 with fail
    refine WL.start <| uK (pV gk1 3) <| uK (pV gk1 4) <| uL 3 ⟨gk1, 4, none⟩ (.int .i64 ((dM m).too).id) (load_one ((HF.out.box 0 _ _ _ rfl).cell 4 |>.trans (by kernel_rfl)) U3 rfl) <| uB .sub 3 (.int .i64 ((dM m).too).id) (.int .i64 1) (.int .i64 z) (b_subw _ _ _ (by rw [IntKind.wrap_i64] <;> omega) _) <| uK (.int .i64 z) <| WL.nil <| ?_
    try simp only [pS]
    go_upto_region 3 with fail
    refine WL.start <| uK (.int .i64 z) <| uB .geq 3 (.int .i64 z) (.int .i64 0) (.bool false) (by rw [b_geq, decide_eq_false (by omega)]) <| uK (.bool false) <| uZ <| uZ <| uZ <| uZ <| ?_
    try simp only [pS]
    refine uZ <| uZ <| uZ <| uK (.bool false) <| WL.nil <| ?_
    try simp only [pS]
    go_wp2
    rw [HC.out]
    rw [hdl]
    refine bodyPost_ret (results_none rfl _ _ _) rfl ⟨rfl, HF.out.out⟩
   ·skip
    go_upto_region 2 with fail
    refine WL.start <| uK (pV gk1 3) <| uK (pV gk1 4) <| uL 3 ⟨gk1, 4, none⟩ (.int .i64 ((dM m).too).id) (load_one ((HF.out.box 0 _ _ _ rfl).cell 4 |>.trans (by kernel_rfl)) U3 rfl) <| uB .sub 3 (.int .i64 ((dM m).too).id) (.int .i64 1) (.int .i64 z) (b_subw _ _ _ (by rw [IntKind.wrap_i64] <;> omega) _) <| uK (.int .i64 z) <| WL.nil <| ?_
    try simp only [pS]
    go_upto_region 3 with fail
    refine WL.start <| uK (.int .i64 z) <| uB .geq 3 (.int .i64 z) (.int .i64 0) (.bool true) (by rw [b_geq, decide_eq_true (by omega)]) <| uK (.bool true) <| uK (.int .i64 z) <| uK (pV hb 0) <| uK (pV hb 0) <| uK (pV hb 6) <| ?_
    try simp only [pS]
    refine uL 65 ⟨hb, 6, none⟩ (v.p.v) (load_one ((HF.out.hal.box).cell 6 |>.trans (by kernel_rfl)) U65 rfl) <| uK (.int .i64 ((v.p.l : Nat) : Int)) <| uB .lss 3 (.int .i64 z) (.int .i64 ((v.p.l : Nat) : Int)) (.bool false) (by rw [b_lss, decide_eq_false (by omega)]) <| uK (.bool false) <| WL.nil <| ?_
    try simp only [pS]
    go_wp2
    rw [HC.out]
    rw [hdl]
    refine bodyPost_ret (results_none rfl _ _ _) rfl ⟨rfl, HF.out.out⟩

end Go.Proofs.Ytpabpeppgpeaoaa.Md
