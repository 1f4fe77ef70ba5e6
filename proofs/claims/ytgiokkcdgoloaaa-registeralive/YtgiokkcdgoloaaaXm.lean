import Derived.Test.YtgiokkcdgoloaaaXl
namespace Go.Proofs.Ytgiokkcdgoloaaa.Md
open Go.RowKit
set_option linter.unusedVariables false
set_option linter.unusedSimpArgs false
theorem wdG_len (x : Wd) : (wdG x).length = x.n := by simp [wdG]
theorem upN_upN {α : Type} (f : Nat → α) (c : Nat) (a b : α) : upN (upN f c a) c b = upN f c b := by
 funext k
 unfold upN
 split <;> rfl
theorem upN_at {α : Type} (f : Nat → α) (c : Nat) (a : α) : upN f c a c = a := by unfold upN; rw [if_pos rfl]
theorem write_W {w : World} {n0 : Nat} {g s : Sl} {gs z : List Int} (cl op rd : Int) (hg : Nums .i64 w g.a gs) (hl : gs.length = g.l) (hn : g.l ≤ 100) (nd : gs.Nodup) (hs : By w n0 s z) :
 Calls Try.prog 23 #[.int .i64 cl, .int .i64 op, .agg (Ky.cells keyW), g.v, .int .i64 rd, s.v] w (NewM w ⟨cl, op, keyW, gs, rd, .wr z, .fresh⟩) := by
 have h1 := hs.le
 have h2 := hs.rd.len
 have := write_M cl op keyW g.a g.l g.k rd s.a s.l s.k gs z w hg hl hn hs.rd.row h2 (by omega)
 rw [uq_nd nd] at this
 exact this
theorem read_W {w : World} {g : Sl} {gs : List Int} (cl op rd : Int) (hg : Nums .i64 w g.a gs) (hl : gs.length = g.l) (hn : g.l ≤ 100) (nd : gs.Nodup) :
 Calls Try.prog 24 #[.int .i64 cl, .int .i64 op, .agg (Ky.cells keyW), g.v, .int .i64 rd, .int .i64 3] w (NewM w ⟨cl, op, keyW, gs, rd, .rd 3, .fresh⟩) := by
 have := read_M cl op keyW g.a g.l g.k rd 3 gs w hg hl hn
 rw [uq_nd nd] at this
 exact this
theorem neq31_f (m : Nat) (w : World) : (binOp .neq 31 (.iface 115 (.pointer (some ⟨m, 0, none⟩))) .nilIface).run Try.prog w = .ok (.bool true) w := by kernel_rfl
theorem neq31_t (w : World) : (binOp .neq 31 .nilIface .nilIface).run Try.prog w = .ok (.bool false) w := by kernel_rfl
theorem begW_busy {x : Wd} {c : Nat} {wr : Bool} {z : List Int} {s : RM} (h : x.m c = some s) : begW x c wr z = x := by unfold begW; rw [h]; rfl
theorem begW_gone {x : Wd} {c : Nat} {wr : Bool} {z : List Int} (h : x.gone c = true) : begW x c wr z = x := by unfold begW; rw [h, Bool.or_true]; rfl
theorem begW_some {x : Wd} {c : Nat} {wr : Bool} {z : List Int} (h : x.m c = none) (hg : x.gone c = false) : begW x c wr z = lookW (sendW { x with m := upN x.m c (some (begP (machW x c wr z)).1), now := x.now + 1, at' := upN x.at' c x.ds.length, ds := x.ds ++ [⟨wr, (c : Int) + 1, x.now + 1, 0, z, 0, spZ, []⟩] } (outs (begP (machW x c wr z)))) c := by
 unfold begW
 rw [h, hg]
 rfl
theorem Wg.gpn {w W : World} {n0 : Nat} {J0 J : Nat → Prop} {b : Nat} {v : Wv} {x : Wd} {mp : Nat → Option Nat} {I : Nat → Nat → Prop} {H : List Bl} {U : List Mg} {D : List Dv} {L : List Lv} {l : List (Nat × TypeId × Array Value)} {T : List Rowx} {Q : List (Sl × List Int)} (G : Wg w W n0 J0 J b v x mp I H U D L l T Q) : Nums .i64 W v.gp.a (wdG x) ∧ (wdG x).length = v.gp.l := by
 have h := G.wa.gp
 have hl : (wdG x).length = v.gp.l := by have := h.1; unfold itL at this; rw [List.length_map] at this; omega
 exact ⟨Own.nums h hl, hl⟩
set_option maxRecDepth 100000 in
set_option maxHeartbeats 4000000 in
theorem begin_w (n0 : Nat) (J : Nat → Prop) (b : Nat) (x : Wd) (c : Nat) (s : Sl) (z : List Int) (w : World) (hW : WAt w n0 J b x) (hc : c < 4) (hz : By w n0 s z) (hnow : 0 ≤ x.now ∧ x.now ≤ 900000000) (hl : x.ls.length ≤ 900000) (hdl : x.ds.length ≤ 900000) (hn : x.n ≤ 100) (hrd : -1000000000 ≤ x.rd c ∧ x.rd c ≤ 9000000000000000) : Calls Try.prog 21 #[.pointer (some ⟨b, 0, none⟩), .int .i64 ((c : Nat) : Int), .bool true, s.v] w (WOut w n0 J b (begW x c true z)) := by
 refine hideC fun C HC => ?_
 obtain ⟨v, mp, I, H, U, D, L, hA⟩ := hW
 have hml := hA.ml
 have hgl := hA.gl
 have hal := hA.al
 have hrl := hA.rl
 have hvn := hA.now
 have hvb := hA.br
 have hxd : x.ds.length = v.ds.l := by rw [hA.pt.ds.1, hA.dl]
 obtain ⟨gm, hgm⟩ := own_at hA.mm (by omega)
 obtain ⟨gg, hgg⟩ := own_at hA.gn (by omega)
 obtain ⟨ga, hga⟩ := own_at hA.aa (by omega)
 obtain ⟨gr, hgr⟩ := own_at hA.rr (by omega)
 have HF : Hid (Wg w w n0 J J b v x mp I H U D L [] [] [(s, z)]) := (Wg.start hA).byt (Q := []) (Q' := [(s, z)]) (by simpa using hz)
 clear hA hz
 go_enter Try.func21, Try.ntmps21
 cases hm : x.m c with
 | some u =>
  obtain ⟨m, hmp, hM⟩ := HF.out.wa.wl.mc c u hm
  clear hM
  go_upto_region 0 with fail
  refine WL.start <| uK (pV b 0) <| uK (pV b 0) <| uK (pV b 2) <| uL 69 ⟨b, 2, none⟩ (v.mm.v) (ld1 HF.out.wbox 2 U69 rfl) <| uK (.int .i64 ((c : Nat) : Int)) <| uW (pV gm (0 + c * 1)) (exec_ixS 69 1 E69 F69 _ _ rfl hgm (by omega)) <| uL 31 ⟨gm, 0 + c * 1, none⟩ (.iface 115 (pV m 0)) (load_one ((HF.out.wa.mmc hgm hc).trans (by rw [hmp]; rfl)) U31 V31) <| uB .neq 31 (.iface 115 (pV m 0)) (.nilIface) (.bool true) (neq31_f _ _) <| uK (.bool true) <| uZ <| uZ <| uZ <| uZ <| uZ <| uZ <| uZ <| uK (.bool true) <| WL.nil <| ?_
  try simp only [pS]
  go_wp2
  rw [HC.out, begW_busy hm]
  refine bodyPost_ret (v := .tuple #[]) (by kernel_rfl) rfl ⟨rfl, HF.out.out⟩
 | none =>
  have hmp : mp c = none := HF.out.wa.wl.mn c hm
  have hsl : (outs (begP (machW x c true z))).length ≤ 100 := by
   have h1 := ss_beg (machW x c true z)
   have h2 : (machW x c true z).zs.length = x.n := wdG_len x
   unfold outs
   rw [List.length_map]
   omega
  cases hgo : x.gone c with
  | true =>
   go_upto_region 0 with fail
   refine WL.start <| uK (pV b 0) <| uK (pV b 0) <| uK (pV b 2) <| uL 69 ⟨b, 2, none⟩ (v.mm.v) (ld1 HF.out.wbox 2 U69 rfl) <| uK (.int .i64 ((c : Nat) : Int)) <| uW (pV gm (0 + c * 1)) (exec_ixS 69 1 E69 F69 _ _ rfl hgm (by omega)) <| uL 31 ⟨gm, 0 + c * 1, none⟩ (.nilIface) (load_one ((HF.out.wa.mmc hgm hc).trans (by rw [hmp]; rfl)) U31 V31) <| uB .neq 31 (.nilIface) (.nilIface) (.bool false) (neq31_t _) <| uK (.bool false) <| uK (pV b 0) <| uK (pV b 0) <| uK (pV b 5) <| uL 70 ⟨b, 5, none⟩ (v.gn.v) (ld1 HF.out.wbox 5 U70 rfl) <| uK (.int .i64 ((c : Nat) : Int)) <| uW (pV gg (0 + c * 1)) (exec_ixS 70 1 E70 F70 _ _ rfl hgg (by omega)) <| uL 4 ⟨gg, 0 + c * 1, none⟩ (.bool true) (load_one ((HF.out.wa.gnc hgg hc).trans (by rw [hgo])) U4 rfl) <| uK (.bool true) <| WL.nil <| ?_
   try simp only [pS]
   go_wp2
   rw [HC.out, begW_gone hgo]
   refine bodyPost_ret (v := .tuple #[]) (by kernel_rfl) rfl ⟨rfl, HF.out.out⟩
  | false =>
   go_upto_region 0 with fail
   refine WL.start <| uK (pV b 0) <| uK (pV b 0) <| uK (pV b 2) <| uL 69 ⟨b, 2, none⟩ (v.mm.v) (ld1 HF.out.wbox 2 U69 rfl) <| uK (.int .i64 ((c : Nat) : Int)) <| uW (pV gm (0 + c * 1)) (exec_ixS 69 1 E69 F69 _ _ rfl hgm (by omega)) <| uL 31 ⟨gm, 0 + c * 1, none⟩ (.nilIface) (load_one ((HF.out.wa.mmc hgm hc).trans (by rw [hmp]; rfl)) U31 V31) <| uB .neq 31 (.nilIface) (.nilIface) (.bool false) (neq31_t _) <| uK (.bool false) <| uK (pV b 0) <| uK (pV b 0) <| uK (pV b 5) <| uL 70 ⟨b, 5, none⟩ (v.gn.v) (ld1 HF.out.wbox 5 U70 rfl) <| uK (.int .i64 ((c : Nat) : Int)) <| uW (pV gg (0 + c * 1)) (exec_ixS 70 1 E70 F70 _ _ rfl hgg (by omega)) <| uL 4 ⟨gg, 0 + c * 1, none⟩ (.bool false) (load_one ((HF.out.wa.gnc hgg hc).trans (by rw [hgo])) U4 rfl) <| uK (.bool false) <| WL.nil <| ?_
   try simp only [pS]
   go_upto_region 1 with fail
   refine WL.start <| uW (.agg (Ky.cells ⟨1, 1, 1, 0⟩)) (exec_build 23 _ rfl (Ky.cells ⟨1, 1, 1, 0⟩) (by kernel_rfl)) <| ?_
   try simp only [pS]
   refine uR (pV w.heap.size 0) (w.alloc (.cells (Ky.cells kyZ) 23)) (exec_alloc 23 rfl (Ky.cells kyZ) Z23) ?_
   try simp only [pS]
   have HF : Hid _ := HF.out.alloc 23 (Ky.cells kyZ)
   generalize w.alloc (.cells (Ky.cells kyZ) 23) = wk2 at HF ⊢
   generalize w.heap.size = gk1 at HF ⊢
   refine uT 23 ⟨gk1, 0, none⟩ (.agg (Ky.cells ⟨1, 1, 1, 0⟩)) (wk2.setRow gk1 (Ky.cells ⟨1, 1, 1, 0⟩)) (rs (Ky.cs kyZ) (Ky.cs ⟨1, 1, 1, 0⟩) (Ky.cs ⟨1, 1, 1, 0⟩) (HF.out.box 0 _ _ _ rfl) S23 (Ky.oneL _)) ?_
   try simp only [pS]
   have HF : Hid _ := HF.out.set 0 rfl (Ky.cells ⟨1, 1, 1, 0⟩)
   generalize wk2.setRow gk1 (Ky.cells ⟨1, 1, 1, 0⟩) = wk3 at HF ⊢
   refine WL.nil ?_
   try simp only [pS]
   go_upto_region 2 with fail
   refine WL.start <| uK (.bool true) <| WL.nil <| ?_
   try simp only [pS]
   go_upto_region 3 with fail
   refine wp_region_held_drew (S := fun w' => Box w' b 75 (Wv.cells v) ∧ Box w' gk1 23 (Ky.cells ⟨1, 1, 1, 0⟩)) rfl ⟨HF.out.drew.wbox, HF.out.drew.box 0 _ _ _ rfl⟩ (fun hH => ?_)
   have HF : Hid _ := HF.out.drew
   generalize wk3.drew = wk4 at HF hH ⊢
   refine xV 0 29 (pV b 0) hH <| xV 1 30 (pV b 0) hH <| xV 2 31 (pV b 2) hH <| xL 3 32 69 ⟨b, 2, none⟩ v.mm.v (fun _ hw => ld1 hw.1 2 U69 rfl) hH <| xV 4 33 (.int .i64 ((c : Nat) : Int)) hH <| xV 5 34 (.int .i64 ((c : Nat) : Int)) hH <| xB 6 35 .add 3 (.int .i64 ((c : Nat) : Int)) (.int .i64 1) (.int .i64 ((c : Int) + 1)) (fun _ _ => b_addw _ _ _ (by rw [IntKind.wrap_i64]; omega) _) hH <| xV 7 36 (pV b 0) hH <| xV 8 37 (pV b 0) hH <| xV 9 38 (pV b 7) hH <| xL 10 39 72 ⟨b, 7, none⟩ v.ds.v (fun _ hw => ld1 hw.1 7 U72 rfl) hH <| xV 11 40 (.int .i64 ((v.ds.l : Nat) : Int)) hH <| xB 12 41 .add 3 (.int .i64 ((v.ds.l : Nat) : Int)) (.int .i64 1) (.int .i64 ((v.ds.l : Int) + 1)) (fun _ _ => b_addw _ _ _ (by rw [IntKind.wrap_i64]; omega) _) hH <| xL 13 42 23 ⟨gk1, 0, none⟩ (.agg (Ky.cells ⟨1, 1, 1, 0⟩)) (fun _ hw => run_load_part (cs := Ky.cs ⟨1, 1, 1, 0⟩) (sub := Ky.cs ⟨1, 1, 1, 0⟩) (hw.2) (Part.all _) U23 rfl S23) hH <| xV 14 43 (pV b 0) hH <| xV 15 44 (pV b 0) hH <| ?_
   try simp only [pS]
   refine xV 16 45 (pV b 0) hH <| xL 17 46 24 ⟨b, 0, none⟩ v.gp.v (fun _ hw => ld1 hw.1 0 U24 rfl) hH <| xV 18 47 (pV b 0) hH <| xV 19 48 (pV b 0) hH <| xV 20 49 (pV b 4) hH <| xL 21 50 24 ⟨b, 4, none⟩ v.rr.v (fun _ hw => ld1 hw.1 4 U24 rfl) hH <| xV 22 51 (.int .i64 ((c : Nat) : Int)) hH <| xU 23 52 (pV gr (0 + c * 1)) (fun w' hw => exec_ixS 24 1 E24 F24 _ _ rfl hgr (by omega)) hH <| xV 26 55 s.v hH <| ?_
   try simp only [pS]
   refine xP 24 53 (.int .i64 (x.rd c)) (w' := wk4) (exec_load 3 _ rfl ⟨gr, 0 + c * 1, none⟩ (by kernel_rfl) (.int .i64 (x.rd c)) (load_one (HF.out.wa.rrc hgr hc) U3 rfl)) hH (fun hH => ?_)
   try simp only [pS]
   refine xB 25 54 .add 3 (.int .i64 (x.rd c)) (.int .i64 1) (.int .i64 ((x.rd c) + 1)) (fun _ _ => b_addw _ _ _ (by rw [IntKind.wrap_i64]; omega) _) hH ?_
   try simp only [pS]
   refine xC 27 56 23 #[.int .i64 ((c : Int) + 1), .int .i64 ((v.ds.l : Int) + 1), .agg (Ky.cells ⟨1, 1, 1, 0⟩), v.gp.v, .int .i64 ((x.rd c) + 1), s.v] (write_W _ _ _ HF.out.gpn.1 HF.out.gpn.2 (by have := HF.out.gpn.2; rw [wdG_len] at this; omega) (wdG_nd x) (HF.out.qs 0 _ rfl)) ?_
   intro e wk5 hN
   obtain ⟨m, I2, J2, rfl, hW2, hup⟩ := HF.out.wa.wl.make hm (show NewM wk4 (machW x c true z) e wk5 from by unfold machW; rw [hxd]; exact hN)
   have hH2 : Box wk5 b 75 (Wv.cells v) ∧ Box wk5 gk1 23 (Ky.cells ⟨1, 1, 1, 0⟩) := ⟨hW2.box, HF.out.boxJ (Kept.five hup.kept) 0 rfl⟩
   refine ⟨.iface 115 (.pointer (some ⟨m, 0, none⟩)), rfl, hH2, fun hH => ?_⟩
   clear hH2
   try simp only [pS]
   refine xU 28 57 (pV gm (0 + c * 1)) (fun w' hw => exec_ixS 69 1 E69 F69 _ _ rfl hgm (by omega)) hH ?_
   try simp only [pS]
   obtain ⟨csm, J3, hst, hG⟩ := HF.out.born hgm hc hW2 hup
   refine xS 29 31 ⟨gm, 0 + c * 1, none⟩ (.iface 115 (pV m 0)) (w' := wk5.setRow gm csm) hst (⟨hG.wbox, hG.box 0 _ _ _ rfl⟩) (fun hH => ?_)
   try simp only [pS]
   have HF : Hid (Wg w (wk5.setRow gm csm) n0 J J3 b v ({ x with m := upN x.m c (some (machW x c true z)) }) (upN mp c (some m)) I2 H U D L [(gk1, 23, Ky.cells ⟨1, 1, 1, 0⟩)] [] [(s, z)]) := hG
   clear hG hst
   generalize wk5.setRow gm csm = wk6 at HF hH ⊢
   clear hW2 hup
   have hmp1 : upN mp c (some m) c = some m := upN_at _ _ _
   refine wpAnyH_done (by kernel_rfl) ?_ _
   try simp only [pS]
   clear hH
   go_upto_region 5 with fail
   refine WL.start <| uK (pV b 0) <| uK (pV b 0) <| uK (pV b 2) <| uL 69 ⟨b, 2, none⟩ (v.mm.v) (ld1 HF.out.wbox 2 U69 rfl) <| uK (.int .i64 ((c : Nat) : Int)) <| uW (pV gm (0 + c * 1)) (exec_ixS 69 1 E69 F69 _ _ rfl hgm (by omega)) <| uL 31 ⟨gm, 0 + c * 1, none⟩ (.iface 115 (pV m 0)) (load_one ((HF.out.wa.mmc hgm hc).trans (by rw [hmp1]; rfl)) U31 V31) <| uB .eql 31 (.iface 115 (pV m 0)) (.nilIface) (.bool false) (eql31_f _ _) <| WL.nil <| ?_
   try simp only [pS]
   go_upto_region 7 with fail
   refine WL.start <| uK (pV b 0) <| uK (pV b 0) <| uK (pV b 9) <| uL 3 ⟨b, 9, none⟩ (.int .i64 v.now) (ld1 HF.out.wbox 9 U3 rfl) <| uB .add 3 (.int .i64 v.now) (.int .i64 1) (.int .i64 (v.now + 1)) (b_addw _ _ _ (by rw [IntKind.wrap_i64]; omega) _) <| uK (pV b 0) <| uK (pV b 9) <| ?_
   try simp only [pS]
   have hG := HF.out.flag (v.now + 1) v.br
   refine uT 3 ⟨b, 9, none⟩ (.int .i64 (v.now + 1)) (wk6.setRow b (Wv.cells ⟨v.gp, v.hd, v.mm, v.aa, v.rr, v.gn, v.un, v.ds, v.ls, v.now + 1, v.br⟩)) (rs (Wv.cs v) ([.int .i64 (v.now + 1)]) (Wv.cs ⟨v.gp, v.hd, v.mm, v.aa, v.rr, v.gn, v.un, v.ds, v.ls, v.now + 1, v.br⟩) (HF.out.wbox) S3 (by simp [Value.oneCell', Sl.v])) ?_
   try simp only [pS]
   have HF : Hid (Wg w (wk6.setRow b (Wv.cells ⟨v.gp, v.hd, v.mm, v.aa, v.rr, v.gn, v.un, v.ds, v.ls, v.now + 1, v.br⟩)) n0 J J3 b ⟨v.gp, v.hd, v.mm, v.aa, v.rr, v.gn, v.un, v.ds, v.ls, v.now + 1, v.br⟩ ({ x with m := upN x.m c (some (machW x c true z)), now := v.now + 1, br := v.br }) (upN mp c (some m)) I2 H U D L [(gk1, 23, Ky.cells ⟨1, 1, 1, 0⟩)] [] [(s, z)]) := hG
   try clear hG
   generalize wk6.setRow b (Wv.cells ⟨v.gp, v.hd, v.mm, v.aa, v.rr, v.gn, v.un, v.ds, v.ls, v.now + 1, v.br⟩) = wk7 at HF ⊢
   refine WL.nil ?_
   try simp only [pS]
   go_upto_region 8 with fail
   refine wp_region_held_drew (S := fun w' => Box w' b 75 (Wv.cells ⟨v.gp, v.hd, v.mm, v.aa, v.rr, v.gn, v.un, v.ds, v.ls, v.now + 1, v.br⟩)) rfl (HF.out.drew.wbox) (fun hH => ?_)
   have HF : Hid _ := HF.out.drew
   generalize wk7.drew = wk8 at HF hH ⊢
   refine xV 0 104 (pV b 0) hH <| xV 1 105 (pV b 0) hH <| xV 2 106 (pV b 3) hH <| xL 3 107 24 ⟨b, 3, none⟩ v.aa.v (fun _ hw => ld1 hw 3 U24 rfl) hH <| xV 4 108 (.int .i64 ((c : Nat) : Int)) hH <| xV 5 109 (pV b 0) hH <| xV 6 110 (pV b 0) hH <| xV 7 111 (pV b 7) hH <| xL 8 112 72 ⟨b, 7, none⟩ v.ds.v (fun _ hw => ld1 hw 7 U72 rfl) hH <| xV 9 113 (.int .i64 ((v.ds.l : Nat) : Int)) hH <| xU 10 114 (pV ga (0 + c * 1)) (fun w' hw => exec_ixS 24 1 E24 F24 _ _ rfl hga (by omega)) hH <| ?_
   try simp only [pS]
   obtain ⟨csa, J4, hst, hG⟩ := HF.out.setA hga hc v.ds.l
   refine xS 11 3 ⟨ga, 0 + c * 1, none⟩ (.int .i64 ((v.ds.l : Nat) : Int)) (w' := wk8.setRow ga csa) hst ((hG.wbox)) (fun hH => ?_)
   try simp only [pS]
   have HF : Hid (Wg w (wk8.setRow ga csa) n0 J J4 b ⟨v.gp, v.hd, v.mm, v.aa, v.rr, v.gn, v.un, v.ds, v.ls, v.now + 1, v.br⟩ ({ x with m := upN x.m c (some (machW x c true z)), now := v.now + 1, br := v.br, at' := upN x.at' c v.ds.l }) (upN mp c (some m)) I2 H U D L [(gk1, 23, Ky.cells ⟨1, 1, 1, 0⟩)] [] [(s, z)]) := hG
   clear hG hst
   generalize wk8.setRow ga csa = wk9 at HF hH ⊢
   refine wpAnyH_done (by kernel_rfl) ?_ _
   try simp only [pS]
   clear hH
   go_upto_region 9 with fail
   refine wp_region_held_drew (S := fun w' => True) rfl trivial (fun hH => ?_)
   have HF : Hid _ := HF.out.drew
   generalize wk9.drew = wk10 at HF hH ⊢
   refine xV 0 115 (pV b 0) hH <| xV 1 116 (pV b 0) hH <| xV 2 117 (pV b 0) hH <| xV 3 118 (pV b 7) hH <| xV 5 120 (.bool true) hH <| xV 6 121 (.int .i64 ((c : Nat) : Int)) hH <| xB 7 122 .add 3 (.int .i64 ((c : Nat) : Int)) (.int .i64 1) (.int .i64 ((c : Int) + 1)) (fun _ _ => b_addw _ _ _ (by rw [IntKind.wrap_i64]; omega) _) hH <| xV 8 123 (pV b 0) hH <| xV 9 124 (pV b 0) hH <| xV 10 125 (pV b 9) hH <| xV 12 127 s.v hH <| ?_
   try simp only [pS]
   refine any_pick (rs := [4, 11]) (by kernel_rfl) (by simp) ?_
   intro i hi
   rcases pick2 hi with rfl | rfl
   ·skip
    clear hi
    refine step_run (i := 4) (o := { dst := some 119, op := Op.load 72 (Operand.tmp 118), type := 72, pos := "world.go:141", after := #[{ on := 3, ground := Ground.data }], guard := none }) (v := v.ds.v) (w' := wk10) rfl (by kernel_rfl) (exec_load 72 _ rfl ⟨b, 7, none⟩ (by kernel_rfl) (v.ds.v) (ld1 HF.out.wbox 7 U72 rfl)) trivial (fun hH => ?_)
    try simp only [pS]
    refine xP 11 126 (.int .i64 (v.now + 1)) (w' := wk10) (exec_load 3 _ rfl ⟨b, 9, none⟩ (by kernel_rfl) (.int .i64 (v.now + 1)) (ld1 HF.out.wbox 9 U3 rfl)) trivial (fun hH => ?_)
    try simp only [pS]
    refine xU 13 128 (.agg (Dv.cells ⟨true, ((c : Int) + 1), (v.now + 1), 0, s, rzZ⟩)) (fun w' hw => exec_build 109 _ rfl (Dv.cells ⟨true, ((c : Int) + 1), (v.now + 1), 0, s, rzZ⟩) (by kernel_rfl)) hH ?_
    try simp only [pS]
    refine any_step (i := 14) (o := { dst := some 129, op := Op.buildSlice 72 1 #[(0, Operand.tmp 128)], type := 72, pos := "world.go:141", after := #[{ on := 13, ground := Ground.data }], guard := none }) rfl (by kernel_rfl) (by kernel_rfl) (exec_slice2 72 109 _ rfl (Dv.cells ⟨true, ((c : Int) + 1), (v.now + 1), 0, s, rzZ⟩) (.agg (Dv.cells ⟨true, ((c : Int) + 1), (v.now + 1), 0, s, rzZ⟩)) (by kernel_rfl) (by kernel_rfl)) (trivial) (fun hH => ?_)
    try simp only [pS]
    have HF : Hid _ := HF.out.alloc 109 (Dv.cells ⟨true, ((c : Int) + 1), (v.now + 1), 0, s, rzZ⟩)
    generalize wk10.alloc (.cells (Dv.cells ⟨true, ((c : Int) + 1), (v.now + 1), 0, s, rzZ⟩) 109) = wk12 at HF hH ⊢
    generalize wk10.heap.size = gk11 at HF ⊢
    obtain ⟨a1, k1, W2, hap, hkJ, hbY, J5, hG⟩ := HF.out.pushD (e := ⟨true, (c : Int) + 1, v.now + 1, 0, z, 0, spZ, []⟩) (y := ⟨true, ((c : Int) + 1), (v.now + 1), 0, s, rzZ⟩) (g := gk11) (cc := 1) (by dsimp only; omega) ⟨rfl, HF.out.qs 0 _ rfl, By.nil _ _⟩ (fun j u hj => by rw [addr_add, Nat.zero_add, (HF.out.box 1 _ _ _ rfl).cell]; simpa [Dv.cells] using hj)
    refine xP 15 130 (.slice a1 (v.ds.l + 1) k1) (w' := W2) (exec_appN _ _ 72 72 rfl _ _ (by kernel_rfl) (by kernel_rfl) hap) (trivial) (fun hH => ?_)
    try simp only [pS]
    refine xV 16 131 (pV b 0) hH <| xV 17 132 (pV b 7) hH <| ?_
    try simp only [pS]
    refine xS 18 72 ⟨b, 7, none⟩ (.slice a1 (v.ds.l + 1) k1) (w' := W2.setRow b (Wv.cells ⟨v.gp, v.hd, v.mm, v.aa, v.rr, v.gn, v.un, ⟨a1, v.ds.l + 1, k1⟩, v.ls, v.now + 1, v.br⟩)) (rs (Wv.cs ⟨v.gp, v.hd, v.mm, v.aa, v.rr, v.gn, v.un, v.ds, v.ls, v.now + 1, v.br⟩) ([.slice a1 (v.ds.l + 1) k1]) (Wv.cs ⟨v.gp, v.hd, v.mm, v.aa, v.rr, v.gn, v.un, ⟨a1, v.ds.l + 1, k1⟩, v.ls, v.now + 1, v.br⟩) (hbY) S72 (by simp [Value.oneCell', Sl.v])) (trivial) (fun hH => ?_)
    try simp only [pS]
    have HF : Hid (Wg w (W2.setRow b (Wv.cells ⟨v.gp, v.hd, v.mm, v.aa, v.rr, v.gn, v.un, ⟨a1, v.ds.l + 1, k1⟩, v.ls, v.now + 1, v.br⟩)) n0 J J5 b ⟨v.gp, v.hd, v.mm, v.aa, v.rr, v.gn, v.un, ⟨a1, v.ds.l + 1, k1⟩, v.ls, v.now + 1, v.br⟩ ({ x with m := upN x.m c (some (machW x c true z)), now := v.now + 1, br := v.br, at' := upN x.at' c v.ds.l, ds := x.ds ++ [⟨true, (c : Int) + 1, v.now + 1, 0, z, 0, spZ, []⟩] }) (upN mp c (some m)) I2 H U (D ++ [⟨true, ((c : Int) + 1), (v.now + 1), 0, s, rzZ⟩]) L [(gk1, 23, Ky.cells ⟨1, 1, 1, 0⟩), (gk11, 109, Dv.cells ⟨true, ((c : Int) + 1), (v.now + 1), 0, s, rzZ⟩)] [] [(s, z)]) := hG
    try clear hG
    generalize W2.setRow b (Wv.cells ⟨v.gp, v.hd, v.mm, v.aa, v.rr, v.gn, v.un, ⟨a1, v.ds.l + 1, k1⟩, v.ls, v.now + 1, v.br⟩) = wk13 at HF hH ⊢
    refine wpAnyH_done (by kernel_rfl) ?_ _
    try simp only [pS]
    clear hH
    go_upto_region 10 with fail
    refine WL.start <| uK (pV b 0) <| uK (pV b 0) <| uK (pV b 2) <| uL 69 ⟨b, 2, none⟩ (v.mm.v) (ld1 HF.out.wbox 2 U69 rfl) <| uK (.int .i64 ((c : Nat) : Int)) <| uW (pV gm (0 + c * 1)) (exec_ixS 69 1 E69 F69 _ _ rfl hgm (by omega)) <| uL 31 ⟨gm, 0 + c * 1, none⟩ (.iface 115 (pV m 0)) (load_one ((HF.out.wa.mmc hgm hc).trans (by rw [hmp1]; rfl)) U31 V31) <| ?_
    try simp only [pS]
    refine uC 82 #[pV m 0] (begin_M5 (HF.out.mch (c := c) (s := (machW x c true z)) (upN_at _ _ _) hmp1)) ?_
    rintro e wk14 hO
    obtain ⟨la, lc, ms, I3, J6, rfl, hL, hU2, hJ2, hG⟩ := HF.out.tell hmp1 hO (toOk_beg _)
    have HF : Hid (Wg w wk14 n0 J J6 b ⟨v.gp, v.hd, v.mm, v.aa, v.rr, v.gn, v.un, ⟨a1, v.ds.l + 1, k1⟩, v.ls, v.now + 1, v.br⟩ ({ x with m := upN (upN x.m c (some (machW x c true z))) c (some (begP (machW x c true z)).1), now := v.now + 1, br := v.br, at' := upN x.at' c v.ds.l, ds := x.ds ++ [⟨true, (c : Int) + 1, v.now + 1, 0, z, 0, spZ, []⟩] }) (upN mp c (some m)) I3 H U (D ++ [⟨true, ((c : Int) + 1), (v.now + 1), 0, s, rzZ⟩]) L [(gk1, 23, Ky.cells ⟨1, 1, 1, 0⟩), (gk11, 109, Dv.cells ⟨true, ((c : Int) + 1), (v.now + 1), 0, s, rzZ⟩)] [] [(s, z)]) := hG
    clear hG hO
    refine ⟨.slice la ms.length lc, rfl, ?_⟩
    try simp only [pS]
    refine uK (.slice la ms.length lc) <| WL.nil <| ?_
    try simp only [pS]
    go_upto_region 11 with fail
    refine WL.start <| uK (pV b 0) <| uK (.slice la ms.length lc) <| ?_
    try simp only [pS]
    refine uC 45 #[pV b 0, .slice la ms.length lc] (send_any n0 J6 b _ ⟨la, ms.length, lc⟩ (outs (begP (machW x c true z))) ms _ ⟨_, _, _, _, _, _, _, HF.out.wa⟩ hL hJ2 hU2 (by have := hsl; dsimp only; omega)) ?_
    rintro e wk15 ⟨rfl, J7, ⟨v3, mp3, I4, H3, U3, D3, L3, hA3⟩, hup⟩
    have HF : Hid _ := HF.out.upd hA3 hup
    clear hA3 hup hL hU2 hJ2
    have hsm := sendW_same (outs (begP (machW x c true z))) ({ x with m := upN (upN x.m c (some (machW x c true z))) c (some (begP (machW x c true z)).1), now := v.now + 1, br := v.br, at' := upN x.at' c v.ds.l, ds := x.ds ++ [⟨true, (c : Int) + 1, v.now + 1, 0, z, 0, spZ, []⟩] })
    refine ⟨.tuple #[], rfl, ?_⟩
    try simp only [pS]
    refine WL.nil ?_
    try simp only [pS]
    go_upto_region 12 with fail
    refine WL.start <| uK (pV b 0) <| uK (.int .i64 ((c : Nat) : Int)) <| ?_
    try simp only [pS]
    refine uC 46 #[pV b 0, .int .i64 ((c : Nat) : Int)] (look_any_w n0 J7 b _ c _ ⟨_, _, _, _, _, _, _, HF.out.wa⟩ hc (fun t _ => by rw [hsm.2.1, hsm.2.2.1]; dsimp only; rw [upN_at, List.length_append, hxd]; exact Nat.lt_succ_self _) (by rw [hsm.2.2.2.1]; dsimp only; omega)) ?_
    rintro e wk16 ⟨rfl, J8, ⟨v4, mp4, I5, H4, U4, D4, L4, hA4⟩, hup⟩
    have HF : Hid _ := HF.out.upd hA4 hup
    clear hA4 hup
    refine ⟨.tuple #[], rfl, ?_⟩
    try simp only [pS]
    refine WL.nil ?_
    try simp only [pS]
    go_wp2
    rw [HC.out, begW_some hm hgo]
    have e1 : (lookW (sendW ({ x with m := upN (upN x.m c (some (machW x c true z))) c (some (begP (machW x c true z)).1), now := v.now + 1, br := v.br, at' := upN x.at' c v.ds.l, ds := x.ds ++ [⟨true, (c : Int) + 1, v.now + 1, 0, z, 0, spZ, []⟩] }) (outs (begP (machW x c true z)))) c) = lookW (sendW { x with m := upN x.m c (some (begP (machW x c true z)).1), now := x.now + 1, at' := upN x.at' c x.ds.length, ds := x.ds ++ [⟨true, (c : Int) + 1, x.now + 1, 0, z, 0, spZ, []⟩] } (outs (begP (machW x c true z)))) c := by
     rw [upN_upN, hvn, hvb, hxd]
    rw [← e1]
    refine bodyPost_end (v := .tuple #[]) (by kernel_rfl) rfl ⟨rfl, HF.out.out⟩
   ·skip
    clear hi
    refine step_run (i := 11) (o := { dst := some 126, op := Op.load 3 (Operand.tmp 125), type := 3, pos := "world.go:141", after := #[{ on := 10, ground := Ground.data }], guard := none }) (v := .int .i64 (v.now + 1)) (w' := wk10) rfl (by kernel_rfl) (exec_load 3 _ rfl ⟨b, 9, none⟩ (by kernel_rfl) (.int .i64 (v.now + 1)) (ld1 HF.out.wbox 9 U3 rfl)) trivial (fun hH => ?_)
    try simp only [pS]
    refine xU 13 128 (.agg (Dv.cells ⟨true, ((c : Int) + 1), (v.now + 1), 0, s, rzZ⟩)) (fun w' hw => exec_build 109 _ rfl (Dv.cells ⟨true, ((c : Int) + 1), (v.now + 1), 0, s, rzZ⟩) (by kernel_rfl)) hH ?_
    try simp only [pS]
    refine any_pick (rs := [4, 14]) (by kernel_rfl) (by simp) ?_
    intro i hi
    rcases pick2 hi with rfl | rfl
    ·skip
     clear hi
     refine step_run (i := 4) (o := { dst := some 119, op := Op.load 72 (Operand.tmp 118), type := 72, pos := "world.go:141", after := #[{ on := 3, ground := Ground.data }], guard := none }) (v := v.ds.v) (w' := wk10) rfl (by kernel_rfl) (exec_load 72 _ rfl ⟨b, 7, none⟩ (by kernel_rfl) (v.ds.v) (ld1 HF.out.wbox 7 U72 rfl)) trivial (fun hH => ?_)
     try simp only [pS]
     refine any_step (i := 14) (o := { dst := some 129, op := Op.buildSlice 72 1 #[(0, Operand.tmp 128)], type := 72, pos := "world.go:141", after := #[{ on := 13, ground := Ground.data }], guard := none }) rfl (by kernel_rfl) (by kernel_rfl) (exec_slice2 72 109 _ rfl (Dv.cells ⟨true, ((c : Int) + 1), (v.now + 1), 0, s, rzZ⟩) (.agg (Dv.cells ⟨true, ((c : Int) + 1), (v.now + 1), 0, s, rzZ⟩)) (by kernel_rfl) (by kernel_rfl)) (trivial) (fun hH => ?_)
     try simp only [pS]
     have HF : Hid _ := HF.out.alloc 109 (Dv.cells ⟨true, ((c : Int) + 1), (v.now + 1), 0, s, rzZ⟩)
     generalize wk10.alloc (.cells (Dv.cells ⟨true, ((c : Int) + 1), (v.now + 1), 0, s, rzZ⟩) 109) = wk18 at HF hH ⊢
     generalize wk10.heap.size = gk17 at HF ⊢
     obtain ⟨a1, k1, W2, hap, hkJ, hbY, J5, hG⟩ := HF.out.pushD (e := ⟨true, (c : Int) + 1, v.now + 1, 0, z, 0, spZ, []⟩) (y := ⟨true, ((c : Int) + 1), (v.now + 1), 0, s, rzZ⟩) (g := gk17) (cc := 1) (by dsimp only; omega) ⟨rfl, HF.out.qs 0 _ rfl, By.nil _ _⟩ (fun j u hj => by rw [addr_add, Nat.zero_add, (HF.out.box 1 _ _ _ rfl).cell]; simpa [Dv.cells] using hj)
     refine xP 15 130 (.slice a1 (v.ds.l + 1) k1) (w' := W2) (exec_appN _ _ 72 72 rfl _ _ (by kernel_rfl) (by kernel_rfl) hap) (trivial) (fun hH => ?_)
     try simp only [pS]
     refine xV 16 131 (pV b 0) hH <| xV 17 132 (pV b 7) hH <| ?_
     try simp only [pS]
     refine xS 18 72 ⟨b, 7, none⟩ (.slice a1 (v.ds.l + 1) k1) (w' := W2.setRow b (Wv.cells ⟨v.gp, v.hd, v.mm, v.aa, v.rr, v.gn, v.un, ⟨a1, v.ds.l + 1, k1⟩, v.ls, v.now + 1, v.br⟩)) (rs (Wv.cs ⟨v.gp, v.hd, v.mm, v.aa, v.rr, v.gn, v.un, v.ds, v.ls, v.now + 1, v.br⟩) ([.slice a1 (v.ds.l + 1) k1]) (Wv.cs ⟨v.gp, v.hd, v.mm, v.aa, v.rr, v.gn, v.un, ⟨a1, v.ds.l + 1, k1⟩, v.ls, v.now + 1, v.br⟩) (hbY) S72 (by simp [Value.oneCell', Sl.v])) (trivial) (fun hH => ?_)
     try simp only [pS]
     have HF : Hid (Wg w (W2.setRow b (Wv.cells ⟨v.gp, v.hd, v.mm, v.aa, v.rr, v.gn, v.un, ⟨a1, v.ds.l + 1, k1⟩, v.ls, v.now + 1, v.br⟩)) n0 J J5 b ⟨v.gp, v.hd, v.mm, v.aa, v.rr, v.gn, v.un, ⟨a1, v.ds.l + 1, k1⟩, v.ls, v.now + 1, v.br⟩ ({ x with m := upN x.m c (some (machW x c true z)), now := v.now + 1, br := v.br, at' := upN x.at' c v.ds.l, ds := x.ds ++ [⟨true, (c : Int) + 1, v.now + 1, 0, z, 0, spZ, []⟩] }) (upN mp c (some m)) I2 H U (D ++ [⟨true, ((c : Int) + 1), (v.now + 1), 0, s, rzZ⟩]) L [(gk1, 23, Ky.cells ⟨1, 1, 1, 0⟩), (gk17, 109, Dv.cells ⟨true, ((c : Int) + 1), (v.now + 1), 0, s, rzZ⟩)] [] [(s, z)]) := hG
     try clear hG
     generalize W2.setRow b (Wv.cells ⟨v.gp, v.hd, v.mm, v.aa, v.rr, v.gn, v.un, ⟨a1, v.ds.l + 1, k1⟩, v.ls, v.now + 1, v.br⟩) = wk19 at HF hH ⊢
     refine wpAnyH_done (by kernel_rfl) ?_ _
     try simp only [pS]
     clear hH
     go_upto_region 10 with fail
     refine WL.start <| uK (pV b 0) <| uK (pV b 0) <| uK (pV b 2) <| uL 69 ⟨b, 2, none⟩ (v.mm.v) (ld1 HF.out.wbox 2 U69 rfl) <| uK (.int .i64 ((c : Nat) : Int)) <| uW (pV gm (0 + c * 1)) (exec_ixS 69 1 E69 F69 _ _ rfl hgm (by omega)) <| uL 31 ⟨gm, 0 + c * 1, none⟩ (.iface 115 (pV m 0)) (load_one ((HF.out.wa.mmc hgm hc).trans (by rw [hmp1]; rfl)) U31 V31) <| ?_
     try simp only [pS]
     refine uC 82 #[pV m 0] (begin_M5 (HF.out.mch (c := c) (s := (machW x c true z)) (upN_at _ _ _) hmp1)) ?_
     rintro e wk20 hO
     obtain ⟨la, lc, ms, I3, J6, rfl, hL, hU2, hJ2, hG⟩ := HF.out.tell hmp1 hO (toOk_beg _)
     have HF : Hid (Wg w wk20 n0 J J6 b ⟨v.gp, v.hd, v.mm, v.aa, v.rr, v.gn, v.un, ⟨a1, v.ds.l + 1, k1⟩, v.ls, v.now + 1, v.br⟩ ({ x with m := upN (upN x.m c (some (machW x c true z))) c (some (begP (machW x c true z)).1), now := v.now + 1, br := v.br, at' := upN x.at' c v.ds.l, ds := x.ds ++ [⟨true, (c : Int) + 1, v.now + 1, 0, z, 0, spZ, []⟩] }) (upN mp c (some m)) I3 H U (D ++ [⟨true, ((c : Int) + 1), (v.now + 1), 0, s, rzZ⟩]) L [(gk1, 23, Ky.cells ⟨1, 1, 1, 0⟩), (gk17, 109, Dv.cells ⟨true, ((c : Int) + 1), (v.now + 1), 0, s, rzZ⟩)] [] [(s, z)]) := hG
     clear hG hO
     refine ⟨.slice la ms.length lc, rfl, ?_⟩
     try simp only [pS]
     refine uK (.slice la ms.length lc) <| WL.nil <| ?_
     try simp only [pS]
     go_upto_region 11 with fail
     refine WL.start <| uK (pV b 0) <| uK (.slice la ms.length lc) <| ?_
     try simp only [pS]
     refine uC 45 #[pV b 0, .slice la ms.length lc] (send_any n0 J6 b _ ⟨la, ms.length, lc⟩ (outs (begP (machW x c true z))) ms _ ⟨_, _, _, _, _, _, _, HF.out.wa⟩ hL hJ2 hU2 (by have := hsl; dsimp only; omega)) ?_
     rintro e wk21 ⟨rfl, J7, ⟨v3, mp3, I4, H3, U3, D3, L3, hA3⟩, hup⟩
     have HF : Hid _ := HF.out.upd hA3 hup
     clear hA3 hup hL hU2 hJ2
     have hsm := sendW_same (outs (begP (machW x c true z))) ({ x with m := upN (upN x.m c (some (machW x c true z))) c (some (begP (machW x c true z)).1), now := v.now + 1, br := v.br, at' := upN x.at' c v.ds.l, ds := x.ds ++ [⟨true, (c : Int) + 1, v.now + 1, 0, z, 0, spZ, []⟩] })
     refine ⟨.tuple #[], rfl, ?_⟩
     try simp only [pS]
     refine WL.nil ?_
     try simp only [pS]
     go_upto_region 12 with fail
     refine WL.start <| uK (pV b 0) <| uK (.int .i64 ((c : Nat) : Int)) <| ?_
     try simp only [pS]
     refine uC 46 #[pV b 0, .int .i64 ((c : Nat) : Int)] (look_any_w n0 J7 b _ c _ ⟨_, _, _, _, _, _, _, HF.out.wa⟩ hc (fun t _ => by rw [hsm.2.1, hsm.2.2.1]; dsimp only; rw [upN_at, List.length_append, hxd]; exact Nat.lt_succ_self _) (by rw [hsm.2.2.2.1]; dsimp only; omega)) ?_
     rintro e wk22 ⟨rfl, J8, ⟨v4, mp4, I5, H4, U4, D4, L4, hA4⟩, hup⟩
     have HF : Hid _ := HF.out.upd hA4 hup
     clear hA4 hup
     refine ⟨.tuple #[], rfl, ?_⟩
     try simp only [pS]
     refine WL.nil ?_
     try simp only [pS]
     go_wp2
     rw [HC.out, begW_some hm hgo]
     have e1 : (lookW (sendW ({ x with m := upN (upN x.m c (some (machW x c true z))) c (some (begP (machW x c true z)).1), now := v.now + 1, br := v.br, at' := upN x.at' c v.ds.l, ds := x.ds ++ [⟨true, (c : Int) + 1, v.now + 1, 0, z, 0, spZ, []⟩] }) (outs (begP (machW x c true z)))) c) = lookW (sendW { x with m := upN x.m c (some (begP (machW x c true z)).1), now := x.now + 1, at' := upN x.at' c x.ds.length, ds := x.ds ++ [⟨true, (c : Int) + 1, x.now + 1, 0, z, 0, spZ, []⟩] } (outs (begP (machW x c true z)))) c := by
      rw [upN_upN, hvn, hvb, hxd]
     rw [← e1]
     refine bodyPost_end (v := .tuple #[]) (by kernel_rfl) rfl ⟨rfl, HF.out.out⟩
    ·skip
     clear hi
     refine step_run (i := 14) (o := { dst := some 129, op := Op.buildSlice 72 1 #[(0, Operand.tmp 128)], type := 72, pos := "world.go:141", after := #[{ on := 13, ground := Ground.data }], guard := none }) rfl (by kernel_rfl) (exec_slice2 72 109 _ rfl (Dv.cells ⟨true, ((c : Int) + 1), (v.now + 1), 0, s, rzZ⟩) (.agg (Dv.cells ⟨true, ((c : Int) + 1), (v.now + 1), 0, s, rzZ⟩)) (by kernel_rfl) (by kernel_rfl)) (trivial) (fun hH => ?_)
     try simp only [pS]
     have HF : Hid _ := HF.out.alloc 109 (Dv.cells ⟨true, ((c : Int) + 1), (v.now + 1), 0, s, rzZ⟩)
     generalize wk10.alloc (.cells (Dv.cells ⟨true, ((c : Int) + 1), (v.now + 1), 0, s, rzZ⟩) 109) = wk24 at HF hH ⊢
     generalize wk10.heap.size = gk23 at HF ⊢
     refine xP 4 119 v.ds.v (w' := wk24) (exec_load 72 _ rfl ⟨b, 7, none⟩ (by kernel_rfl) (v.ds.v) (ld1 HF.out.wbox 7 U72 rfl)) trivial (fun hH => ?_)
     try simp only [pS]
     obtain ⟨a1, k1, W2, hap, hkJ, hbY, J5, hG⟩ := HF.out.pushD (e := ⟨true, (c : Int) + 1, v.now + 1, 0, z, 0, spZ, []⟩) (y := ⟨true, ((c : Int) + 1), (v.now + 1), 0, s, rzZ⟩) (g := gk23) (cc := 1) (by dsimp only; omega) ⟨rfl, HF.out.qs 0 _ rfl, By.nil _ _⟩ (fun j u hj => by rw [addr_add, Nat.zero_add, (HF.out.box 1 _ _ _ rfl).cell]; simpa [Dv.cells] using hj)
     refine xP 15 130 (.slice a1 (v.ds.l + 1) k1) (w' := W2) (exec_appN _ _ 72 72 rfl _ _ (by kernel_rfl) (by kernel_rfl) hap) (trivial) (fun hH => ?_)
     try simp only [pS]
     refine xV 16 131 (pV b 0) hH <| xV 17 132 (pV b 7) hH <| ?_
     try simp only [pS]
     refine xS 18 72 ⟨b, 7, none⟩ (.slice a1 (v.ds.l + 1) k1) (w' := W2.setRow b (Wv.cells ⟨v.gp, v.hd, v.mm, v.aa, v.rr, v.gn, v.un, ⟨a1, v.ds.l + 1, k1⟩, v.ls, v.now + 1, v.br⟩)) (rs (Wv.cs ⟨v.gp, v.hd, v.mm, v.aa, v.rr, v.gn, v.un, v.ds, v.ls, v.now + 1, v.br⟩) ([.slice a1 (v.ds.l + 1) k1]) (Wv.cs ⟨v.gp, v.hd, v.mm, v.aa, v.rr, v.gn, v.un, ⟨a1, v.ds.l + 1, k1⟩, v.ls, v.now + 1, v.br⟩) (hbY) S72 (by simp [Value.oneCell', Sl.v])) (trivial) (fun hH => ?_)
     try simp only [pS]
     have HF : Hid (Wg w (W2.setRow b (Wv.cells ⟨v.gp, v.hd, v.mm, v.aa, v.rr, v.gn, v.un, ⟨a1, v.ds.l + 1, k1⟩, v.ls, v.now + 1, v.br⟩)) n0 J J5 b ⟨v.gp, v.hd, v.mm, v.aa, v.rr, v.gn, v.un, ⟨a1, v.ds.l + 1, k1⟩, v.ls, v.now + 1, v.br⟩ ({ x with m := upN x.m c (some (machW x c true z)), now := v.now + 1, br := v.br, at' := upN x.at' c v.ds.l, ds := x.ds ++ [⟨true, (c : Int) + 1, v.now + 1, 0, z, 0, spZ, []⟩] }) (upN mp c (some m)) I2 H U (D ++ [⟨true, ((c : Int) + 1), (v.now + 1), 0, s, rzZ⟩]) L [(gk1, 23, Ky.cells ⟨1, 1, 1, 0⟩), (gk23, 109, Dv.cells ⟨true, ((c : Int) + 1), (v.now + 1), 0, s, rzZ⟩)] [] [(s, z)]) := hG
     try clear hG
     generalize W2.setRow b (Wv.cells ⟨v.gp, v.hd, v.mm, v.aa, v.rr, v.gn, v.un, ⟨a1, v.ds.l + 1, k1⟩, v.ls, v.now + 1, v.br⟩) = wk25 at HF hH ⊢
     refine wpAnyH_done (by kernel_rfl) ?_ _
     try simp only [pS]
     clear hH
     go_upto_region 10 with fail
     refine WL.start <| uK (pV b 0) <| uK (pV b 0) <| uK (pV b 2) <| uL 69 ⟨b, 2, none⟩ (v.mm.v) (ld1 HF.out.wbox 2 U69 rfl) <| uK (.int .i64 ((c : Nat) : Int)) <| uW (pV gm (0 + c * 1)) (exec_ixS 69 1 E69 F69 _ _ rfl hgm (by omega)) <| uL 31 ⟨gm, 0 + c * 1, none⟩ (.iface 115 (pV m 0)) (load_one ((HF.out.wa.mmc hgm hc).trans (by rw [hmp1]; rfl)) U31 V31) <| ?_
     try simp only [pS]
     refine uC 82 #[pV m 0] (begin_M5 (HF.out.mch (c := c) (s := (machW x c true z)) (upN_at _ _ _) hmp1)) ?_
     rintro e wk26 hO
     obtain ⟨la, lc, ms, I3, J6, rfl, hL, hU2, hJ2, hG⟩ := HF.out.tell hmp1 hO (toOk_beg _)
     have HF : Hid (Wg w wk26 n0 J J6 b ⟨v.gp, v.hd, v.mm, v.aa, v.rr, v.gn, v.un, ⟨a1, v.ds.l + 1, k1⟩, v.ls, v.now + 1, v.br⟩ ({ x with m := upN (upN x.m c (some (machW x c true z))) c (some (begP (machW x c true z)).1), now := v.now + 1, br := v.br, at' := upN x.at' c v.ds.l, ds := x.ds ++ [⟨true, (c : Int) + 1, v.now + 1, 0, z, 0, spZ, []⟩] }) (upN mp c (some m)) I3 H U (D ++ [⟨true, ((c : Int) + 1), (v.now + 1), 0, s, rzZ⟩]) L [(gk1, 23, Ky.cells ⟨1, 1, 1, 0⟩), (gk23, 109, Dv.cells ⟨true, ((c : Int) + 1), (v.now + 1), 0, s, rzZ⟩)] [] [(s, z)]) := hG
     clear hG hO
     refine ⟨.slice la ms.length lc, rfl, ?_⟩
     try simp only [pS]
     refine uK (.slice la ms.length lc) <| WL.nil <| ?_
     try simp only [pS]
     go_upto_region 11 with fail
     refine WL.start <| uK (pV b 0) <| uK (.slice la ms.length lc) <| ?_
     try simp only [pS]
     refine uC 45 #[pV b 0, .slice la ms.length lc] (send_any n0 J6 b _ ⟨la, ms.length, lc⟩ (outs (begP (machW x c true z))) ms _ ⟨_, _, _, _, _, _, _, HF.out.wa⟩ hL hJ2 hU2 (by have := hsl; dsimp only; omega)) ?_
     rintro e wk27 ⟨rfl, J7, ⟨v3, mp3, I4, H3, U3, D3, L3, hA3⟩, hup⟩
     have HF : Hid _ := HF.out.upd hA3 hup
     clear hA3 hup hL hU2 hJ2
     have hsm := sendW_same (outs (begP (machW x c true z))) ({ x with m := upN (upN x.m c (some (machW x c true z))) c (some (begP (machW x c true z)).1), now := v.now + 1, br := v.br, at' := upN x.at' c v.ds.l, ds := x.ds ++ [⟨true, (c : Int) + 1, v.now + 1, 0, z, 0, spZ, []⟩] })
     refine ⟨.tuple #[], rfl, ?_⟩
     try simp only [pS]
     refine WL.nil ?_
     try simp only [pS]
     go_upto_region 12 with fail
     refine WL.start <| uK (pV b 0) <| uK (.int .i64 ((c : Nat) : Int)) <| ?_
     try simp only [pS]
     refine uC 46 #[pV b 0, .int .i64 ((c : Nat) : Int)] (look_any_w n0 J7 b _ c _ ⟨_, _, _, _, _, _, _, HF.out.wa⟩ hc (fun t _ => by rw [hsm.2.1, hsm.2.2.1]; dsimp only; rw [upN_at, List.length_append, hxd]; exact Nat.lt_succ_self _) (by rw [hsm.2.2.2.1]; dsimp only; omega)) ?_
     rintro e wk28 ⟨rfl, J8, ⟨v4, mp4, I5, H4, U4, D4, L4, hA4⟩, hup⟩
     have HF : Hid _ := HF.out.upd hA4 hup
     clear hA4 hup
     refine ⟨.tuple #[], rfl, ?_⟩
     try simp only [pS]
     refine WL.nil ?_
     try simp only [pS]
     go_wp2
     rw [HC.out, begW_some hm hgo]
     have e1 : (lookW (sendW ({ x with m := upN (upN x.m c (some (machW x c true z))) c (some (begP (machW x c true z)).1), now := v.now + 1, br := v.br, at' := upN x.at' c v.ds.l, ds := x.ds ++ [⟨true, (c : Int) + 1, v.now + 1, 0, z, 0, spZ, []⟩] }) (outs (begP (machW x c true z)))) c) = lookW (sendW { x with m := upN x.m c (some (begP (machW x c true z)).1), now := x.now + 1, at' := upN x.at' c x.ds.length, ds := x.ds ++ [⟨true, (c : Int) + 1, x.now + 1, 0, z, 0, spZ, []⟩] } (outs (begP (machW x c true z)))) c := by
      rw [upN_upN, hvn, hvb, hxd]
     rw [← e1]
     refine bodyPost_end (v := .tuple #[]) (by kernel_rfl) rfl ⟨rfl, HF.out.out⟩
set_option maxRecDepth 100000 in
set_option maxHeartbeats 4000000 in
theorem begin_r (n0 : Nat) (J : Nat → Prop) (b : Nat) (x : Wd) (c : Nat)  (w : World) (hW : WAt w n0 J b x) (hc : c < 4) (hnow : 0 ≤ x.now ∧ x.now ≤ 900000000) (hl : x.ls.length ≤ 900000) (hdl : x.ds.length ≤ 900000) (hn : x.n ≤ 100) (hrd : -1000000000 ≤ x.rd c ∧ x.rd c ≤ 9000000000000000) : Calls Try.prog 21 #[.pointer (some ⟨b, 0, none⟩), .int .i64 ((c : Nat) : Int), .bool false, .slice none 0 0] w (WOut w n0 J b (begW x c false [])) := by
 refine hideC fun C HC => ?_
 obtain ⟨v, mp, I, H, U, D, L, hA⟩ := hW
 have hml := hA.ml
 have hgl := hA.gl
 have hal := hA.al
 have hrl := hA.rl
 have hvn := hA.now
 have hvb := hA.br
 have hxd : x.ds.length = v.ds.l := by rw [hA.pt.ds.1, hA.dl]
 obtain ⟨gm, hgm⟩ := own_at hA.mm (by omega)
 obtain ⟨gg, hgg⟩ := own_at hA.gn (by omega)
 obtain ⟨ga, hga⟩ := own_at hA.aa (by omega)
 obtain ⟨gr, hgr⟩ := own_at hA.rr (by omega)
 have HF : Hid (Wg w w n0 J J b v x mp I H U D L [] [] []) := Wg.start hA
 clear hA
 go_enter Try.func21, Try.ntmps21
 cases hm : x.m c with
 | some u =>
  obtain ⟨m, hmp, hM⟩ := HF.out.wa.wl.mc c u hm
  clear hM
  go_upto_region 0 with fail
  refine WL.start <| uK (pV b 0) <| uK (pV b 0) <| uK (pV b 2) <| uL 69 ⟨b, 2, none⟩ (v.mm.v) (ld1 HF.out.wbox 2 U69 rfl) <| uK (.int .i64 ((c : Nat) : Int)) <| uW (pV gm (0 + c * 1)) (exec_ixS 69 1 E69 F69 _ _ rfl hgm (by omega)) <| uL 31 ⟨gm, 0 + c * 1, none⟩ (.iface 115 (pV m 0)) (load_one ((HF.out.wa.mmc hgm hc).trans (by rw [hmp]; rfl)) U31 V31) <| uB .neq 31 (.iface 115 (pV m 0)) (.nilIface) (.bool true) (neq31_f _ _) <| uK (.bool true) <| uZ <| uZ <| uZ <| uZ <| uZ <| uZ <| uZ <| uK (.bool true) <| WL.nil <| ?_
  try simp only [pS]
  go_wp2
  rw [HC.out, begW_busy hm]
  refine bodyPost_ret (v := .tuple #[]) (by kernel_rfl) rfl ⟨rfl, HF.out.out⟩
 | none =>
  have hmp : mp c = none := HF.out.wa.wl.mn c hm
  have hsl : (outs (begP (machW x c false []))).length ≤ 100 := by
   have h1 := ss_beg (machW x c false [])
   have h2 : (machW x c false []).zs.length = x.n := wdG_len x
   unfold outs
   rw [List.length_map]
   omega
  cases hgo : x.gone c with
  | true =>
   go_upto_region 0 with fail
   refine WL.start <| uK (pV b 0) <| uK (pV b 0) <| uK (pV b 2) <| uL 69 ⟨b, 2, none⟩ (v.mm.v) (ld1 HF.out.wbox 2 U69 rfl) <| uK (.int .i64 ((c : Nat) : Int)) <| uW (pV gm (0 + c * 1)) (exec_ixS 69 1 E69 F69 _ _ rfl hgm (by omega)) <| uL 31 ⟨gm, 0 + c * 1, none⟩ (.nilIface) (load_one ((HF.out.wa.mmc hgm hc).trans (by rw [hmp]; rfl)) U31 V31) <| uB .neq 31 (.nilIface) (.nilIface) (.bool false) (neq31_t _) <| uK (.bool false) <| uK (pV b 0) <| uK (pV b 0) <| uK (pV b 5) <| uL 70 ⟨b, 5, none⟩ (v.gn.v) (ld1 HF.out.wbox 5 U70 rfl) <| uK (.int .i64 ((c : Nat) : Int)) <| uW (pV gg (0 + c * 1)) (exec_ixS 70 1 E70 F70 _ _ rfl hgg (by omega)) <| uL 4 ⟨gg, 0 + c * 1, none⟩ (.bool true) (load_one ((HF.out.wa.gnc hgg hc).trans (by rw [hgo])) U4 rfl) <| uK (.bool true) <| WL.nil <| ?_
   try simp only [pS]
   go_wp2
   rw [HC.out, begW_gone hgo]
   refine bodyPost_ret (v := .tuple #[]) (by kernel_rfl) rfl ⟨rfl, HF.out.out⟩
  | false =>
   go_upto_region 0 with fail
   refine WL.start <| uK (pV b 0) <| uK (pV b 0) <| uK (pV b 2) <| uL 69 ⟨b, 2, none⟩ (v.mm.v) (ld1 HF.out.wbox 2 U69 rfl) <| uK (.int .i64 ((c : Nat) : Int)) <| uW (pV gm (0 + c * 1)) (exec_ixS 69 1 E69 F69 _ _ rfl hgm (by omega)) <| uL 31 ⟨gm, 0 + c * 1, none⟩ (.nilIface) (load_one ((HF.out.wa.mmc hgm hc).trans (by rw [hmp]; rfl)) U31 V31) <| uB .neq 31 (.nilIface) (.nilIface) (.bool false) (neq31_t _) <| uK (.bool false) <| uK (pV b 0) <| uK (pV b 0) <| uK (pV b 5) <| uL 70 ⟨b, 5, none⟩ (v.gn.v) (ld1 HF.out.wbox 5 U70 rfl) <| uK (.int .i64 ((c : Nat) : Int)) <| uW (pV gg (0 + c * 1)) (exec_ixS 70 1 E70 F70 _ _ rfl hgg (by omega)) <| uL 4 ⟨gg, 0 + c * 1, none⟩ (.bool false) (load_one ((HF.out.wa.gnc hgg hc).trans (by rw [hgo])) U4 rfl) <| uK (.bool false) <| WL.nil <| ?_
   try simp only [pS]
   go_upto_region 1 with fail
   refine WL.start <| uW (.agg (Ky.cells ⟨1, 1, 1, 0⟩)) (exec_build 23 _ rfl (Ky.cells ⟨1, 1, 1, 0⟩) (by kernel_rfl)) <| ?_
   try simp only [pS]
   refine uR (pV w.heap.size 0) (w.alloc (.cells (Ky.cells kyZ) 23)) (exec_alloc 23 rfl (Ky.cells kyZ) Z23) ?_
   try simp only [pS]
   have HF : Hid _ := HF.out.alloc 23 (Ky.cells kyZ)
   generalize w.alloc (.cells (Ky.cells kyZ) 23) = wk2 at HF ⊢
   generalize w.heap.size = gk1 at HF ⊢
   refine uT 23 ⟨gk1, 0, none⟩ (.agg (Ky.cells ⟨1, 1, 1, 0⟩)) (wk2.setRow gk1 (Ky.cells ⟨1, 1, 1, 0⟩)) (rs (Ky.cs kyZ) (Ky.cs ⟨1, 1, 1, 0⟩) (Ky.cs ⟨1, 1, 1, 0⟩) (HF.out.box 0 _ _ _ rfl) S23 (Ky.oneL _)) ?_
   try simp only [pS]
   have HF : Hid _ := HF.out.set 0 rfl (Ky.cells ⟨1, 1, 1, 0⟩)
   generalize wk2.setRow gk1 (Ky.cells ⟨1, 1, 1, 0⟩) = wk3 at HF ⊢
   refine WL.nil ?_
   try simp only [pS]
   go_upto_region 2 with fail
   refine WL.start <| uK (.bool false) <| WL.nil <| ?_
   try simp only [pS]
   go_upto_region 4 with fail
   refine wp_region_held_drew (S := fun w' => Box w' b 75 (Wv.cells v) ∧ Box w' gk1 23 (Ky.cells ⟨1, 1, 1, 0⟩)) rfl ⟨HF.out.drew.wbox, HF.out.drew.box 0 _ _ _ rfl⟩ (fun hH => ?_)
   have HF : Hid _ := HF.out.drew
   generalize wk3.drew = wk4 at HF hH ⊢
   refine xV 0 58 (pV b 0) hH <| xV 1 59 (pV b 0) hH <| xV 2 60 (pV b 2) hH <| xL 3 61 69 ⟨b, 2, none⟩ v.mm.v (fun _ hw => ld1 hw.1 2 U69 rfl) hH <| xV 4 62 (.int .i64 ((c : Nat) : Int)) hH <| xV 5 63 (.int .i64 ((c : Nat) : Int)) hH <| xB 6 64 .add 3 (.int .i64 ((c : Nat) : Int)) (.int .i64 1) (.int .i64 ((c : Int) + 1)) (fun _ _ => b_addw _ _ _ (by rw [IntKind.wrap_i64]; omega) _) hH <| xV 7 65 (pV b 0) hH <| xV 8 66 (pV b 0) hH <| xV 9 67 (pV b 7) hH <| xL 10 68 72 ⟨b, 7, none⟩ v.ds.v (fun _ hw => ld1 hw.1 7 U72 rfl) hH <| xV 11 69 (.int .i64 ((v.ds.l : Nat) : Int)) hH <| xB 12 70 .add 3 (.int .i64 ((v.ds.l : Nat) : Int)) (.int .i64 1) (.int .i64 ((v.ds.l : Int) + 1)) (fun _ _ => b_addw _ _ _ (by rw [IntKind.wrap_i64]; omega) _) hH <| xL 13 71 23 ⟨gk1, 0, none⟩ (.agg (Ky.cells ⟨1, 1, 1, 0⟩)) (fun _ hw => run_load_part (cs := Ky.cs ⟨1, 1, 1, 0⟩) (sub := Ky.cs ⟨1, 1, 1, 0⟩) (hw.2) (Part.all _) U23 rfl S23) hH <| xV 14 72 (pV b 0) hH <| xV 15 73 (pV b 0) hH <| ?_
   try simp only [pS]
   refine xV 16 74 (pV b 0) hH <| xL 17 75 24 ⟨b, 0, none⟩ v.gp.v (fun _ hw => ld1 hw.1 0 U24 rfl) hH <| xV 18 76 (pV b 0) hH <| xV 19 77 (pV b 0) hH <| xV 20 78 (pV b 4) hH <| xL 21 79 24 ⟨b, 4, none⟩ v.rr.v (fun _ hw => ld1 hw.1 4 U24 rfl) hH <| xV 22 80 (.int .i64 ((c : Nat) : Int)) hH <| xU 23 81 (pV gr (0 + c * 1)) (fun w' hw => exec_ixS 24 1 E24 F24 _ _ rfl hgr (by omega)) hH <| ?_
   try simp only [pS]
   refine xP 24 82 (.int .i64 (x.rd c)) (w' := wk4) (exec_load 3 _ rfl ⟨gr, 0 + c * 1, none⟩ (by kernel_rfl) (.int .i64 (x.rd c)) (load_one (HF.out.wa.rrc hgr hc) U3 rfl)) hH (fun hH => ?_)
   try simp only [pS]
   refine xB 25 83 .add 3 (.int .i64 (x.rd c)) (.int .i64 1) (.int .i64 ((x.rd c) + 1)) (fun _ _ => b_addw _ _ _ (by rw [IntKind.wrap_i64]; omega) _) hH ?_
   try simp only [pS]
   refine xC 26 84 24 #[.int .i64 ((c : Int) + 1), .int .i64 ((v.ds.l : Int) + 1), .agg (Ky.cells ⟨1, 1, 1, 0⟩), v.gp.v, .int .i64 ((x.rd c) + 1), .int .i64 3] (read_W _ _ _ HF.out.gpn.1 HF.out.gpn.2 (by have := HF.out.gpn.2; rw [wdG_len] at this; omega) (wdG_nd x)) ?_
   intro e wk5 hN
   obtain ⟨m, I2, J2, rfl, hW2, hup⟩ := HF.out.wa.wl.make hm (show NewM wk4 (machW x c false []) e wk5 from by unfold machW; rw [hxd]; exact hN)
   have hH2 : Box wk5 b 75 (Wv.cells v) ∧ Box wk5 gk1 23 (Ky.cells ⟨1, 1, 1, 0⟩) := ⟨hW2.box, HF.out.boxJ (Kept.five hup.kept) 0 rfl⟩
   refine ⟨.iface 115 (.pointer (some ⟨m, 0, none⟩)), rfl, hH2, fun hH => ?_⟩
   clear hH2
   try simp only [pS]
   refine xU 27 85 (pV gm (0 + c * 1)) (fun w' hw => exec_ixS 69 1 E69 F69 _ _ rfl hgm (by omega)) hH ?_
   try simp only [pS]
   obtain ⟨csm, J3, hst, hG⟩ := HF.out.born hgm hc hW2 hup
   refine xS 28 31 ⟨gm, 0 + c * 1, none⟩ (.iface 115 (pV m 0)) (w' := wk5.setRow gm csm) hst (⟨hG.wbox, hG.box 0 _ _ _ rfl⟩) (fun hH => ?_)
   try simp only [pS]
   have HF : Hid (Wg w (wk5.setRow gm csm) n0 J J3 b v ({ x with m := upN x.m c (some (machW x c false [])) }) (upN mp c (some m)) I2 H U D L [(gk1, 23, Ky.cells ⟨1, 1, 1, 0⟩)] [] []) := hG
   clear hG hst
   generalize wk5.setRow gm csm = wk6 at HF hH ⊢
   clear hW2 hup
   have hmp1 : upN mp c (some m) c = some m := upN_at _ _ _
   refine wpAnyH_done (by kernel_rfl) ?_ _
   try simp only [pS]
   clear hH
   go_upto_region 5 with fail
   refine WL.start <| uK (pV b 0) <| uK (pV b 0) <| uK (pV b 2) <| uL 69 ⟨b, 2, none⟩ (v.mm.v) (ld1 HF.out.wbox 2 U69 rfl) <| uK (.int .i64 ((c : Nat) : Int)) <| uW (pV gm (0 + c * 1)) (exec_ixS 69 1 E69 F69 _ _ rfl hgm (by omega)) <| uL 31 ⟨gm, 0 + c * 1, none⟩ (.iface 115 (pV m 0)) (load_one ((HF.out.wa.mmc hgm hc).trans (by rw [hmp1]; rfl)) U31 V31) <| uB .eql 31 (.iface 115 (pV m 0)) (.nilIface) (.bool false) (eql31_f _ _) <| WL.nil <| ?_
   try simp only [pS]
   go_upto_region 7 with fail
   refine WL.start <| uK (pV b 0) <| uK (pV b 0) <| uK (pV b 9) <| uL 3 ⟨b, 9, none⟩ (.int .i64 v.now) (ld1 HF.out.wbox 9 U3 rfl) <| uB .add 3 (.int .i64 v.now) (.int .i64 1) (.int .i64 (v.now + 1)) (b_addw _ _ _ (by rw [IntKind.wrap_i64]; omega) _) <| uK (pV b 0) <| uK (pV b 9) <| ?_
   try simp only [pS]
   have hG := HF.out.flag (v.now + 1) v.br
   refine uT 3 ⟨b, 9, none⟩ (.int .i64 (v.now + 1)) (wk6.setRow b (Wv.cells ⟨v.gp, v.hd, v.mm, v.aa, v.rr, v.gn, v.un, v.ds, v.ls, v.now + 1, v.br⟩)) (rs (Wv.cs v) ([.int .i64 (v.now + 1)]) (Wv.cs ⟨v.gp, v.hd, v.mm, v.aa, v.rr, v.gn, v.un, v.ds, v.ls, v.now + 1, v.br⟩) (HF.out.wbox) S3 (by simp [Value.oneCell', Sl.v])) ?_
   try simp only [pS]
   have HF : Hid (Wg w (wk6.setRow b (Wv.cells ⟨v.gp, v.hd, v.mm, v.aa, v.rr, v.gn, v.un, v.ds, v.ls, v.now + 1, v.br⟩)) n0 J J3 b ⟨v.gp, v.hd, v.mm, v.aa, v.rr, v.gn, v.un, v.ds, v.ls, v.now + 1, v.br⟩ ({ x with m := upN x.m c (some (machW x c false [])), now := v.now + 1, br := v.br }) (upN mp c (some m)) I2 H U D L [(gk1, 23, Ky.cells ⟨1, 1, 1, 0⟩)] [] []) := hG
   try clear hG
   generalize wk6.setRow b (Wv.cells ⟨v.gp, v.hd, v.mm, v.aa, v.rr, v.gn, v.un, v.ds, v.ls, v.now + 1, v.br⟩) = wk7 at HF ⊢
   refine WL.nil ?_
   try simp only [pS]
   go_upto_region 8 with fail
   refine wp_region_held_drew (S := fun w' => Box w' b 75 (Wv.cells ⟨v.gp, v.hd, v.mm, v.aa, v.rr, v.gn, v.un, v.ds, v.ls, v.now + 1, v.br⟩)) rfl (HF.out.drew.wbox) (fun hH => ?_)
   have HF : Hid _ := HF.out.drew
   generalize wk7.drew = wk8 at HF hH ⊢
   refine xV 0 104 (pV b 0) hH <| xV 1 105 (pV b 0) hH <| xV 2 106 (pV b 3) hH <| xL 3 107 24 ⟨b, 3, none⟩ v.aa.v (fun _ hw => ld1 hw 3 U24 rfl) hH <| xV 4 108 (.int .i64 ((c : Nat) : Int)) hH <| xV 5 109 (pV b 0) hH <| xV 6 110 (pV b 0) hH <| xV 7 111 (pV b 7) hH <| xL 8 112 72 ⟨b, 7, none⟩ v.ds.v (fun _ hw => ld1 hw 7 U72 rfl) hH <| xV 9 113 (.int .i64 ((v.ds.l : Nat) : Int)) hH <| xU 10 114 (pV ga (0 + c * 1)) (fun w' hw => exec_ixS 24 1 E24 F24 _ _ rfl hga (by omega)) hH <| ?_
   try simp only [pS]
   obtain ⟨csa, J4, hst, hG⟩ := HF.out.setA hga hc v.ds.l
   refine xS 11 3 ⟨ga, 0 + c * 1, none⟩ (.int .i64 ((v.ds.l : Nat) : Int)) (w' := wk8.setRow ga csa) hst ((hG.wbox)) (fun hH => ?_)
   try simp only [pS]
   have HF : Hid (Wg w (wk8.setRow ga csa) n0 J J4 b ⟨v.gp, v.hd, v.mm, v.aa, v.rr, v.gn, v.un, v.ds, v.ls, v.now + 1, v.br⟩ ({ x with m := upN x.m c (some (machW x c false [])), now := v.now + 1, br := v.br, at' := upN x.at' c v.ds.l }) (upN mp c (some m)) I2 H U D L [(gk1, 23, Ky.cells ⟨1, 1, 1, 0⟩)] [] []) := hG
   clear hG hst
   generalize wk8.setRow ga csa = wk9 at HF hH ⊢
   refine wpAnyH_done (by kernel_rfl) ?_ _
   try simp only [pS]
   clear hH
   go_upto_region 9 with fail
   refine wp_region_held_drew (S := fun w' => True) rfl trivial (fun hH => ?_)
   have HF : Hid _ := HF.out.drew
   generalize wk9.drew = wk10 at HF hH ⊢
   refine xV 0 115 (pV b 0) hH <| xV 1 116 (pV b 0) hH <| xV 2 117 (pV b 0) hH <| xV 3 118 (pV b 7) hH <| xV 5 120 (.bool false) hH <| xV 6 121 (.int .i64 ((c : Nat) : Int)) hH <| xB 7 122 .add 3 (.int .i64 ((c : Nat) : Int)) (.int .i64 1) (.int .i64 ((c : Int) + 1)) (fun _ _ => b_addw _ _ _ (by rw [IntKind.wrap_i64]; omega) _) hH <| xV 8 123 (pV b 0) hH <| xV 9 124 (pV b 0) hH <| xV 10 125 (pV b 9) hH <| xV 12 127 (.slice none 0 0) hH <| ?_
   try simp only [pS]
   refine any_pick (rs := [4, 11]) (by kernel_rfl) (by simp) ?_
   intro i hi
   rcases pick2 hi with rfl | rfl
   ·skip
    clear hi
    refine step_run (i := 4) (o := { dst := some 119, op := Op.load 72 (Operand.tmp 118), type := 72, pos := "world.go:141", after := #[{ on := 3, ground := Ground.data }], guard := none }) (v := v.ds.v) (w' := wk10) rfl (by kernel_rfl) (exec_load 72 _ rfl ⟨b, 7, none⟩ (by kernel_rfl) (v.ds.v) (ld1 HF.out.wbox 7 U72 rfl)) trivial (fun hH => ?_)
    try simp only [pS]
    refine xP 11 126 (.int .i64 (v.now + 1)) (w' := wk10) (exec_load 3 _ rfl ⟨b, 9, none⟩ (by kernel_rfl) (.int .i64 (v.now + 1)) (ld1 HF.out.wbox 9 U3 rfl)) trivial (fun hH => ?_)
    try simp only [pS]
    refine xU 13 128 (.agg (Dv.cells ⟨false, ((c : Int) + 1), (v.now + 1), 0, slZ, rzZ⟩)) (fun w' hw => exec_build 109 _ rfl (Dv.cells ⟨false, ((c : Int) + 1), (v.now + 1), 0, slZ, rzZ⟩) (by kernel_rfl)) hH ?_
    try simp only [pS]
    refine any_step (i := 14) (o := { dst := some 129, op := Op.buildSlice 72 1 #[(0, Operand.tmp 128)], type := 72, pos := "world.go:141", after := #[{ on := 13, ground := Ground.data }], guard := none }) rfl (by kernel_rfl) (by kernel_rfl) (exec_slice2 72 109 _ rfl (Dv.cells ⟨false, ((c : Int) + 1), (v.now + 1), 0, slZ, rzZ⟩) (.agg (Dv.cells ⟨false, ((c : Int) + 1), (v.now + 1), 0, slZ, rzZ⟩)) (by kernel_rfl) (by kernel_rfl)) (trivial) (fun hH => ?_)
    try simp only [pS]
    have HF : Hid _ := HF.out.alloc 109 (Dv.cells ⟨false, ((c : Int) + 1), (v.now + 1), 0, slZ, rzZ⟩)
    generalize wk10.alloc (.cells (Dv.cells ⟨false, ((c : Int) + 1), (v.now + 1), 0, slZ, rzZ⟩) 109) = wk12 at HF hH ⊢
    generalize wk10.heap.size = gk11 at HF ⊢
    obtain ⟨a1, k1, W2, hap, hkJ, hbY, J5, hG⟩ := HF.out.pushD (e := ⟨false, (c : Int) + 1, v.now + 1, 0, [], 0, spZ, []⟩) (y := ⟨false, ((c : Int) + 1), (v.now + 1), 0, slZ, rzZ⟩) (g := gk11) (cc := 1) (by dsimp only; omega) ⟨rfl, By.nil _ _, By.nil _ _⟩ (fun j u hj => by rw [addr_add, Nat.zero_add, (HF.out.box 1 _ _ _ rfl).cell]; simpa [Dv.cells] using hj)
    refine xP 15 130 (.slice a1 (v.ds.l + 1) k1) (w' := W2) (exec_appN _ _ 72 72 rfl _ _ (by kernel_rfl) (by kernel_rfl) hap) (trivial) (fun hH => ?_)
    try simp only [pS]
    refine xV 16 131 (pV b 0) hH <| xV 17 132 (pV b 7) hH <| ?_
    try simp only [pS]
    refine xS 18 72 ⟨b, 7, none⟩ (.slice a1 (v.ds.l + 1) k1) (w' := W2.setRow b (Wv.cells ⟨v.gp, v.hd, v.mm, v.aa, v.rr, v.gn, v.un, ⟨a1, v.ds.l + 1, k1⟩, v.ls, v.now + 1, v.br⟩)) (rs (Wv.cs ⟨v.gp, v.hd, v.mm, v.aa, v.rr, v.gn, v.un, v.ds, v.ls, v.now + 1, v.br⟩) ([.slice a1 (v.ds.l + 1) k1]) (Wv.cs ⟨v.gp, v.hd, v.mm, v.aa, v.rr, v.gn, v.un, ⟨a1, v.ds.l + 1, k1⟩, v.ls, v.now + 1, v.br⟩) (hbY) S72 (by simp [Value.oneCell', Sl.v])) (trivial) (fun hH => ?_)
    try simp only [pS]
    have HF : Hid (Wg w (W2.setRow b (Wv.cells ⟨v.gp, v.hd, v.mm, v.aa, v.rr, v.gn, v.un, ⟨a1, v.ds.l + 1, k1⟩, v.ls, v.now + 1, v.br⟩)) n0 J J5 b ⟨v.gp, v.hd, v.mm, v.aa, v.rr, v.gn, v.un, ⟨a1, v.ds.l + 1, k1⟩, v.ls, v.now + 1, v.br⟩ ({ x with m := upN x.m c (some (machW x c false [])), now := v.now + 1, br := v.br, at' := upN x.at' c v.ds.l, ds := x.ds ++ [⟨false, (c : Int) + 1, v.now + 1, 0, [], 0, spZ, []⟩] }) (upN mp c (some m)) I2 H U (D ++ [⟨false, ((c : Int) + 1), (v.now + 1), 0, slZ, rzZ⟩]) L [(gk1, 23, Ky.cells ⟨1, 1, 1, 0⟩), (gk11, 109, Dv.cells ⟨false, ((c : Int) + 1), (v.now + 1), 0, slZ, rzZ⟩)] [] []) := hG
    try clear hG
    generalize W2.setRow b (Wv.cells ⟨v.gp, v.hd, v.mm, v.aa, v.rr, v.gn, v.un, ⟨a1, v.ds.l + 1, k1⟩, v.ls, v.now + 1, v.br⟩) = wk13 at HF hH ⊢
    refine wpAnyH_done (by kernel_rfl) ?_ _
    try simp only [pS]
    clear hH
    go_upto_region 10 with fail
    refine WL.start <| uK (pV b 0) <| uK (pV b 0) <| uK (pV b 2) <| uL 69 ⟨b, 2, none⟩ (v.mm.v) (ld1 HF.out.wbox 2 U69 rfl) <| uK (.int .i64 ((c : Nat) : Int)) <| uW (pV gm (0 + c * 1)) (exec_ixS 69 1 E69 F69 _ _ rfl hgm (by omega)) <| uL 31 ⟨gm, 0 + c * 1, none⟩ (.iface 115 (pV m 0)) (load_one ((HF.out.wa.mmc hgm hc).trans (by rw [hmp1]; rfl)) U31 V31) <| ?_
    try simp only [pS]
    refine uC 82 #[pV m 0] (begin_M5 (HF.out.mch (c := c) (s := (machW x c false [])) (upN_at _ _ _) hmp1)) ?_
    rintro e wk14 hO
    obtain ⟨la, lc, ms, I3, J6, rfl, hL, hU2, hJ2, hG⟩ := HF.out.tell hmp1 hO (toOk_beg _)
    have HF : Hid (Wg w wk14 n0 J J6 b ⟨v.gp, v.hd, v.mm, v.aa, v.rr, v.gn, v.un, ⟨a1, v.ds.l + 1, k1⟩, v.ls, v.now + 1, v.br⟩ ({ x with m := upN (upN x.m c (some (machW x c false []))) c (some (begP (machW x c false [])).1), now := v.now + 1, br := v.br, at' := upN x.at' c v.ds.l, ds := x.ds ++ [⟨false, (c : Int) + 1, v.now + 1, 0, [], 0, spZ, []⟩] }) (upN mp c (some m)) I3 H U (D ++ [⟨false, ((c : Int) + 1), (v.now + 1), 0, slZ, rzZ⟩]) L [(gk1, 23, Ky.cells ⟨1, 1, 1, 0⟩), (gk11, 109, Dv.cells ⟨false, ((c : Int) + 1), (v.now + 1), 0, slZ, rzZ⟩)] [] []) := hG
    clear hG hO
    refine ⟨.slice la ms.length lc, rfl, ?_⟩
    try simp only [pS]
    refine uK (.slice la ms.length lc) <| WL.nil <| ?_
    try simp only [pS]
    go_upto_region 11 with fail
    refine WL.start <| uK (pV b 0) <| uK (.slice la ms.length lc) <| ?_
    try simp only [pS]
    refine uC 45 #[pV b 0, .slice la ms.length lc] (send_any n0 J6 b _ ⟨la, ms.length, lc⟩ (outs (begP (machW x c false []))) ms _ ⟨_, _, _, _, _, _, _, HF.out.wa⟩ hL hJ2 hU2 (by have := hsl; dsimp only; omega)) ?_
    rintro e wk15 ⟨rfl, J7, ⟨v3, mp3, I4, H3, U3, D3, L3, hA3⟩, hup⟩
    have HF : Hid _ := HF.out.upd hA3 hup
    clear hA3 hup hL hU2 hJ2
    have hsm := sendW_same (outs (begP (machW x c false []))) ({ x with m := upN (upN x.m c (some (machW x c false []))) c (some (begP (machW x c false [])).1), now := v.now + 1, br := v.br, at' := upN x.at' c v.ds.l, ds := x.ds ++ [⟨false, (c : Int) + 1, v.now + 1, 0, [], 0, spZ, []⟩] })
    refine ⟨.tuple #[], rfl, ?_⟩
    try simp only [pS]
    refine WL.nil ?_
    try simp only [pS]
    go_upto_region 12 with fail
    refine WL.start <| uK (pV b 0) <| uK (.int .i64 ((c : Nat) : Int)) <| ?_
    try simp only [pS]
    refine uC 46 #[pV b 0, .int .i64 ((c : Nat) : Int)] (look_any_w n0 J7 b _ c _ ⟨_, _, _, _, _, _, _, HF.out.wa⟩ hc (fun t _ => by rw [hsm.2.1, hsm.2.2.1]; dsimp only; rw [upN_at, List.length_append, hxd]; exact Nat.lt_succ_self _) (by rw [hsm.2.2.2.1]; dsimp only; omega)) ?_
    rintro e wk16 ⟨rfl, J8, ⟨v4, mp4, I5, H4, U4, D4, L4, hA4⟩, hup⟩
    have HF : Hid _ := HF.out.upd hA4 hup
    clear hA4 hup
    refine ⟨.tuple #[], rfl, ?_⟩
    try simp only [pS]
    refine WL.nil ?_
    try simp only [pS]
    go_wp2
    rw [HC.out, begW_some hm hgo]
    have e1 : (lookW (sendW ({ x with m := upN (upN x.m c (some (machW x c false []))) c (some (begP (machW x c false [])).1), now := v.now + 1, br := v.br, at' := upN x.at' c v.ds.l, ds := x.ds ++ [⟨false, (c : Int) + 1, v.now + 1, 0, [], 0, spZ, []⟩] }) (outs (begP (machW x c false [])))) c) = lookW (sendW { x with m := upN x.m c (some (begP (machW x c false [])).1), now := x.now + 1, at' := upN x.at' c x.ds.length, ds := x.ds ++ [⟨false, (c : Int) + 1, x.now + 1, 0, [], 0, spZ, []⟩] } (outs (begP (machW x c false [])))) c := by
     rw [upN_upN, hvn, hvb, hxd]
    rw [← e1]
    refine bodyPost_end (v := .tuple #[]) (by kernel_rfl) rfl ⟨rfl, HF.out.out⟩
   ·skip
    clear hi
    refine step_run (i := 11) (o := { dst := some 126, op := Op.load 3 (Operand.tmp 125), type := 3, pos := "world.go:141", after := #[{ on := 10, ground := Ground.data }], guard := none }) (v := .int .i64 (v.now + 1)) (w' := wk10) rfl (by kernel_rfl) (exec_load 3 _ rfl ⟨b, 9, none⟩ (by kernel_rfl) (.int .i64 (v.now + 1)) (ld1 HF.out.wbox 9 U3 rfl)) trivial (fun hH => ?_)
    try simp only [pS]
    refine xU 13 128 (.agg (Dv.cells ⟨false, ((c : Int) + 1), (v.now + 1), 0, slZ, rzZ⟩)) (fun w' hw => exec_build 109 _ rfl (Dv.cells ⟨false, ((c : Int) + 1), (v.now + 1), 0, slZ, rzZ⟩) (by kernel_rfl)) hH ?_
    try simp only [pS]
    refine any_pick (rs := [4, 14]) (by kernel_rfl) (by simp) ?_
    intro i hi
    rcases pick2 hi with rfl | rfl
    ·skip
     clear hi
     refine step_run (i := 4) (o := { dst := some 119, op := Op.load 72 (Operand.tmp 118), type := 72, pos := "world.go:141", after := #[{ on := 3, ground := Ground.data }], guard := none }) (v := v.ds.v) (w' := wk10) rfl (by kernel_rfl) (exec_load 72 _ rfl ⟨b, 7, none⟩ (by kernel_rfl) (v.ds.v) (ld1 HF.out.wbox 7 U72 rfl)) trivial (fun hH => ?_)
     try simp only [pS]
     refine any_step (i := 14) (o := { dst := some 129, op := Op.buildSlice 72 1 #[(0, Operand.tmp 128)], type := 72, pos := "world.go:141", after := #[{ on := 13, ground := Ground.data }], guard := none }) rfl (by kernel_rfl) (by kernel_rfl) (exec_slice2 72 109 _ rfl (Dv.cells ⟨false, ((c : Int) + 1), (v.now + 1), 0, slZ, rzZ⟩) (.agg (Dv.cells ⟨false, ((c : Int) + 1), (v.now + 1), 0, slZ, rzZ⟩)) (by kernel_rfl) (by kernel_rfl)) (trivial) (fun hH => ?_)
     try simp only [pS]
     have HF : Hid _ := HF.out.alloc 109 (Dv.cells ⟨false, ((c : Int) + 1), (v.now + 1), 0, slZ, rzZ⟩)
     generalize wk10.alloc (.cells (Dv.cells ⟨false, ((c : Int) + 1), (v.now + 1), 0, slZ, rzZ⟩) 109) = wk18 at HF hH ⊢
     generalize wk10.heap.size = gk17 at HF ⊢
     obtain ⟨a1, k1, W2, hap, hkJ, hbY, J5, hG⟩ := HF.out.pushD (e := ⟨false, (c : Int) + 1, v.now + 1, 0, [], 0, spZ, []⟩) (y := ⟨false, ((c : Int) + 1), (v.now + 1), 0, slZ, rzZ⟩) (g := gk17) (cc := 1) (by dsimp only; omega) ⟨rfl, By.nil _ _, By.nil _ _⟩ (fun j u hj => by rw [addr_add, Nat.zero_add, (HF.out.box 1 _ _ _ rfl).cell]; simpa [Dv.cells] using hj)
     refine xP 15 130 (.slice a1 (v.ds.l + 1) k1) (w' := W2) (exec_appN _ _ 72 72 rfl _ _ (by kernel_rfl) (by kernel_rfl) hap) (trivial) (fun hH => ?_)
     try simp only [pS]
     refine xV 16 131 (pV b 0) hH <| xV 17 132 (pV b 7) hH <| ?_
     try simp only [pS]
     refine xS 18 72 ⟨b, 7, none⟩ (.slice a1 (v.ds.l + 1) k1) (w' := W2.setRow b (Wv.cells ⟨v.gp, v.hd, v.mm, v.aa, v.rr, v.gn, v.un, ⟨a1, v.ds.l + 1, k1⟩, v.ls, v.now + 1, v.br⟩)) (rs (Wv.cs ⟨v.gp, v.hd, v.mm, v.aa, v.rr, v.gn, v.un, v.ds, v.ls, v.now + 1, v.br⟩) ([.slice a1 (v.ds.l + 1) k1]) (Wv.cs ⟨v.gp, v.hd, v.mm, v.aa, v.rr, v.gn, v.un, ⟨a1, v.ds.l + 1, k1⟩, v.ls, v.now + 1, v.br⟩) (hbY) S72 (by simp [Value.oneCell', Sl.v])) (trivial) (fun hH => ?_)
     try simp only [pS]
     have HF : Hid (Wg w (W2.setRow b (Wv.cells ⟨v.gp, v.hd, v.mm, v.aa, v.rr, v.gn, v.un, ⟨a1, v.ds.l + 1, k1⟩, v.ls, v.now + 1, v.br⟩)) n0 J J5 b ⟨v.gp, v.hd, v.mm, v.aa, v.rr, v.gn, v.un, ⟨a1, v.ds.l + 1, k1⟩, v.ls, v.now + 1, v.br⟩ ({ x with m := upN x.m c (some (machW x c false [])), now := v.now + 1, br := v.br, at' := upN x.at' c v.ds.l, ds := x.ds ++ [⟨false, (c : Int) + 1, v.now + 1, 0, [], 0, spZ, []⟩] }) (upN mp c (some m)) I2 H U (D ++ [⟨false, ((c : Int) + 1), (v.now + 1), 0, slZ, rzZ⟩]) L [(gk1, 23, Ky.cells ⟨1, 1, 1, 0⟩), (gk17, 109, Dv.cells ⟨false, ((c : Int) + 1), (v.now + 1), 0, slZ, rzZ⟩)] [] []) := hG
     try clear hG
     generalize W2.setRow b (Wv.cells ⟨v.gp, v.hd, v.mm, v.aa, v.rr, v.gn, v.un, ⟨a1, v.ds.l + 1, k1⟩, v.ls, v.now + 1, v.br⟩) = wk19 at HF hH ⊢
     refine wpAnyH_done (by kernel_rfl) ?_ _
     try simp only [pS]
     clear hH
     go_upto_region 10 with fail
     refine WL.start <| uK (pV b 0) <| uK (pV b 0) <| uK (pV b 2) <| uL 69 ⟨b, 2, none⟩ (v.mm.v) (ld1 HF.out.wbox 2 U69 rfl) <| uK (.int .i64 ((c : Nat) : Int)) <| uW (pV gm (0 + c * 1)) (exec_ixS 69 1 E69 F69 _ _ rfl hgm (by omega)) <| uL 31 ⟨gm, 0 + c * 1, none⟩ (.iface 115 (pV m 0)) (load_one ((HF.out.wa.mmc hgm hc).trans (by rw [hmp1]; rfl)) U31 V31) <| ?_
     try simp only [pS]
     refine uC 82 #[pV m 0] (begin_M5 (HF.out.mch (c := c) (s := (machW x c false [])) (upN_at _ _ _) hmp1)) ?_
     rintro e wk20 hO
     obtain ⟨la, lc, ms, I3, J6, rfl, hL, hU2, hJ2, hG⟩ := HF.out.tell hmp1 hO (toOk_beg _)
     have HF : Hid (Wg w wk20 n0 J J6 b ⟨v.gp, v.hd, v.mm, v.aa, v.rr, v.gn, v.un, ⟨a1, v.ds.l + 1, k1⟩, v.ls, v.now + 1, v.br⟩ ({ x with m := upN (upN x.m c (some (machW x c false []))) c (some (begP (machW x c false [])).1), now := v.now + 1, br := v.br, at' := upN x.at' c v.ds.l, ds := x.ds ++ [⟨false, (c : Int) + 1, v.now + 1, 0, [], 0, spZ, []⟩] }) (upN mp c (some m)) I3 H U (D ++ [⟨false, ((c : Int) + 1), (v.now + 1), 0, slZ, rzZ⟩]) L [(gk1, 23, Ky.cells ⟨1, 1, 1, 0⟩), (gk17, 109, Dv.cells ⟨false, ((c : Int) + 1), (v.now + 1), 0, slZ, rzZ⟩)] [] []) := hG
     clear hG hO
     refine ⟨.slice la ms.length lc, rfl, ?_⟩
     try simp only [pS]
     refine uK (.slice la ms.length lc) <| WL.nil <| ?_
     try simp only [pS]
     go_upto_region 11 with fail
     refine WL.start <| uK (pV b 0) <| uK (.slice la ms.length lc) <| ?_
     try simp only [pS]
     refine uC 45 #[pV b 0, .slice la ms.length lc] (send_any n0 J6 b _ ⟨la, ms.length, lc⟩ (outs (begP (machW x c false []))) ms _ ⟨_, _, _, _, _, _, _, HF.out.wa⟩ hL hJ2 hU2 (by have := hsl; dsimp only; omega)) ?_
     rintro e wk21 ⟨rfl, J7, ⟨v3, mp3, I4, H3, U3, D3, L3, hA3⟩, hup⟩
     have HF : Hid _ := HF.out.upd hA3 hup
     clear hA3 hup hL hU2 hJ2
     have hsm := sendW_same (outs (begP (machW x c false []))) ({ x with m := upN (upN x.m c (some (machW x c false []))) c (some (begP (machW x c false [])).1), now := v.now + 1, br := v.br, at' := upN x.at' c v.ds.l, ds := x.ds ++ [⟨false, (c : Int) + 1, v.now + 1, 0, [], 0, spZ, []⟩] })
     refine ⟨.tuple #[], rfl, ?_⟩
     try simp only [pS]
     refine WL.nil ?_
     try simp only [pS]
     go_upto_region 12 with fail
     refine WL.start <| uK (pV b 0) <| uK (.int .i64 ((c : Nat) : Int)) <| ?_
     try simp only [pS]
     refine uC 46 #[pV b 0, .int .i64 ((c : Nat) : Int)] (look_any_w n0 J7 b _ c _ ⟨_, _, _, _, _, _, _, HF.out.wa⟩ hc (fun t _ => by rw [hsm.2.1, hsm.2.2.1]; dsimp only; rw [upN_at, List.length_append, hxd]; exact Nat.lt_succ_self _) (by rw [hsm.2.2.2.1]; dsimp only; omega)) ?_
     rintro e wk22 ⟨rfl, J8, ⟨v4, mp4, I5, H4, U4, D4, L4, hA4⟩, hup⟩
     have HF : Hid _ := HF.out.upd hA4 hup
     clear hA4 hup
     refine ⟨.tuple #[], rfl, ?_⟩
     try simp only [pS]
     refine WL.nil ?_
     try simp only [pS]
     go_wp2
     rw [HC.out, begW_some hm hgo]
     have e1 : (lookW (sendW ({ x with m := upN (upN x.m c (some (machW x c false []))) c (some (begP (machW x c false [])).1), now := v.now + 1, br := v.br, at' := upN x.at' c v.ds.l, ds := x.ds ++ [⟨false, (c : Int) + 1, v.now + 1, 0, [], 0, spZ, []⟩] }) (outs (begP (machW x c false [])))) c) = lookW (sendW { x with m := upN x.m c (some (begP (machW x c false [])).1), now := x.now + 1, at' := upN x.at' c x.ds.length, ds := x.ds ++ [⟨false, (c : Int) + 1, x.now + 1, 0, [], 0, spZ, []⟩] } (outs (begP (machW x c false [])))) c := by
      rw [upN_upN, hvn, hvb, hxd]
     rw [← e1]
     refine bodyPost_end (v := .tuple #[]) (by kernel_rfl) rfl ⟨rfl, HF.out.out⟩
    ·skip
     clear hi
     refine step_run (i := 14) (o := { dst := some 129, op := Op.buildSlice 72 1 #[(0, Operand.tmp 128)], type := 72, pos := "world.go:141", after := #[{ on := 13, ground := Ground.data }], guard := none }) rfl (by kernel_rfl) (exec_slice2 72 109 _ rfl (Dv.cells ⟨false, ((c : Int) + 1), (v.now + 1), 0, slZ, rzZ⟩) (.agg (Dv.cells ⟨false, ((c : Int) + 1), (v.now + 1), 0, slZ, rzZ⟩)) (by kernel_rfl) (by kernel_rfl)) (trivial) (fun hH => ?_)
     try simp only [pS]
     have HF : Hid _ := HF.out.alloc 109 (Dv.cells ⟨false, ((c : Int) + 1), (v.now + 1), 0, slZ, rzZ⟩)
     generalize wk10.alloc (.cells (Dv.cells ⟨false, ((c : Int) + 1), (v.now + 1), 0, slZ, rzZ⟩) 109) = wk24 at HF hH ⊢
     generalize wk10.heap.size = gk23 at HF ⊢
     refine xP 4 119 v.ds.v (w' := wk24) (exec_load 72 _ rfl ⟨b, 7, none⟩ (by kernel_rfl) (v.ds.v) (ld1 HF.out.wbox 7 U72 rfl)) trivial (fun hH => ?_)
     try simp only [pS]
     obtain ⟨a1, k1, W2, hap, hkJ, hbY, J5, hG⟩ := HF.out.pushD (e := ⟨false, (c : Int) + 1, v.now + 1, 0, [], 0, spZ, []⟩) (y := ⟨false, ((c : Int) + 1), (v.now + 1), 0, slZ, rzZ⟩) (g := gk23) (cc := 1) (by dsimp only; omega) ⟨rfl, By.nil _ _, By.nil _ _⟩ (fun j u hj => by rw [addr_add, Nat.zero_add, (HF.out.box 1 _ _ _ rfl).cell]; simpa [Dv.cells] using hj)
     refine xP 15 130 (.slice a1 (v.ds.l + 1) k1) (w' := W2) (exec_appN _ _ 72 72 rfl _ _ (by kernel_rfl) (by kernel_rfl) hap) (trivial) (fun hH => ?_)
     try simp only [pS]
     refine xV 16 131 (pV b 0) hH <| xV 17 132 (pV b 7) hH <| ?_
     try simp only [pS]
     refine xS 18 72 ⟨b, 7, none⟩ (.slice a1 (v.ds.l + 1) k1) (w' := W2.setRow b (Wv.cells ⟨v.gp, v.hd, v.mm, v.aa, v.rr, v.gn, v.un, ⟨a1, v.ds.l + 1, k1⟩, v.ls, v.now + 1, v.br⟩)) (rs (Wv.cs ⟨v.gp, v.hd, v.mm, v.aa, v.rr, v.gn, v.un, v.ds, v.ls, v.now + 1, v.br⟩) ([.slice a1 (v.ds.l + 1) k1]) (Wv.cs ⟨v.gp, v.hd, v.mm, v.aa, v.rr, v.gn, v.un, ⟨a1, v.ds.l + 1, k1⟩, v.ls, v.now + 1, v.br⟩) (hbY) S72 (by simp [Value.oneCell', Sl.v])) (trivial) (fun hH => ?_)
     try simp only [pS]
     have HF : Hid (Wg w (W2.setRow b (Wv.cells ⟨v.gp, v.hd, v.mm, v.aa, v.rr, v.gn, v.un, ⟨a1, v.ds.l + 1, k1⟩, v.ls, v.now + 1, v.br⟩)) n0 J J5 b ⟨v.gp, v.hd, v.mm, v.aa, v.rr, v.gn, v.un, ⟨a1, v.ds.l + 1, k1⟩, v.ls, v.now + 1, v.br⟩ ({ x with m := upN x.m c (some (machW x c false [])), now := v.now + 1, br := v.br, at' := upN x.at' c v.ds.l, ds := x.ds ++ [⟨false, (c : Int) + 1, v.now + 1, 0, [], 0, spZ, []⟩] }) (upN mp c (some m)) I2 H U (D ++ [⟨false, ((c : Int) + 1), (v.now + 1), 0, slZ, rzZ⟩]) L [(gk1, 23, Ky.cells ⟨1, 1, 1, 0⟩), (gk23, 109, Dv.cells ⟨false, ((c : Int) + 1), (v.now + 1), 0, slZ, rzZ⟩)] [] []) := hG
     try clear hG
     generalize W2.setRow b (Wv.cells ⟨v.gp, v.hd, v.mm, v.aa, v.rr, v.gn, v.un, ⟨a1, v.ds.l + 1, k1⟩, v.ls, v.now + 1, v.br⟩) = wk25 at HF hH ⊢
     refine wpAnyH_done (by kernel_rfl) ?_ _
     try simp only [pS]
     clear hH
     go_upto_region 10 with fail
     refine WL.start <| uK (pV b 0) <| uK (pV b 0) <| uK (pV b 2) <| uL 69 ⟨b, 2, none⟩ (v.mm.v) (ld1 HF.out.wbox 2 U69 rfl) <| uK (.int .i64 ((c : Nat) : Int)) <| uW (pV gm (0 + c * 1)) (exec_ixS 69 1 E69 F69 _ _ rfl hgm (by omega)) <| uL 31 ⟨gm, 0 + c * 1, none⟩ (.iface 115 (pV m 0)) (load_one ((HF.out.wa.mmc hgm hc).trans (by rw [hmp1]; rfl)) U31 V31) <| ?_
     try simp only [pS]
     refine uC 82 #[pV m 0] (begin_M5 (HF.out.mch (c := c) (s := (machW x c false [])) (upN_at _ _ _) hmp1)) ?_
     rintro e wk26 hO
     obtain ⟨la, lc, ms, I3, J6, rfl, hL, hU2, hJ2, hG⟩ := HF.out.tell hmp1 hO (toOk_beg _)
     have HF : Hid (Wg w wk26 n0 J J6 b ⟨v.gp, v.hd, v.mm, v.aa, v.rr, v.gn, v.un, ⟨a1, v.ds.l + 1, k1⟩, v.ls, v.now + 1, v.br⟩ ({ x with m := upN (upN x.m c (some (machW x c false []))) c (some (begP (machW x c false [])).1), now := v.now + 1, br := v.br, at' := upN x.at' c v.ds.l, ds := x.ds ++ [⟨false, (c : Int) + 1, v.now + 1, 0, [], 0, spZ, []⟩] }) (upN mp c (some m)) I3 H U (D ++ [⟨false, ((c : Int) + 1), (v.now + 1), 0, slZ, rzZ⟩]) L [(gk1, 23, Ky.cells ⟨1, 1, 1, 0⟩), (gk23, 109, Dv.cells ⟨false, ((c : Int) + 1), (v.now + 1), 0, slZ, rzZ⟩)] [] []) := hG
     clear hG hO
     refine ⟨.slice la ms.length lc, rfl, ?_⟩
     try simp only [pS]
     refine uK (.slice la ms.length lc) <| WL.nil <| ?_
     try simp only [pS]
     go_upto_region 11 with fail
     refine WL.start <| uK (pV b 0) <| uK (.slice la ms.length lc) <| ?_
     try simp only [pS]
     refine uC 45 #[pV b 0, .slice la ms.length lc] (send_any n0 J6 b _ ⟨la, ms.length, lc⟩ (outs (begP (machW x c false []))) ms _ ⟨_, _, _, _, _, _, _, HF.out.wa⟩ hL hJ2 hU2 (by have := hsl; dsimp only; omega)) ?_
     rintro e wk27 ⟨rfl, J7, ⟨v3, mp3, I4, H3, U3, D3, L3, hA3⟩, hup⟩
     have HF : Hid _ := HF.out.upd hA3 hup
     clear hA3 hup hL hU2 hJ2
     have hsm := sendW_same (outs (begP (machW x c false []))) ({ x with m := upN (upN x.m c (some (machW x c false []))) c (some (begP (machW x c false [])).1), now := v.now + 1, br := v.br, at' := upN x.at' c v.ds.l, ds := x.ds ++ [⟨false, (c : Int) + 1, v.now + 1, 0, [], 0, spZ, []⟩] })
     refine ⟨.tuple #[], rfl, ?_⟩
     try simp only [pS]
     refine WL.nil ?_
     try simp only [pS]
     go_upto_region 12 with fail
     refine WL.start <| uK (pV b 0) <| uK (.int .i64 ((c : Nat) : Int)) <| ?_
     try simp only [pS]
     refine uC 46 #[pV b 0, .int .i64 ((c : Nat) : Int)] (look_any_w n0 J7 b _ c _ ⟨_, _, _, _, _, _, _, HF.out.wa⟩ hc (fun t _ => by rw [hsm.2.1, hsm.2.2.1]; dsimp only; rw [upN_at, List.length_append, hxd]; exact Nat.lt_succ_self _) (by rw [hsm.2.2.2.1]; dsimp only; omega)) ?_
     rintro e wk28 ⟨rfl, J8, ⟨v4, mp4, I5, H4, U4, D4, L4, hA4⟩, hup⟩
     have HF : Hid _ := HF.out.upd hA4 hup
     clear hA4 hup
     refine ⟨.tuple #[], rfl, ?_⟩
     try simp only [pS]
     refine WL.nil ?_
     try simp only [pS]
     go_wp2
     rw [HC.out, begW_some hm hgo]
     have e1 : (lookW (sendW ({ x with m := upN (upN x.m c (some (machW x c false []))) c (some (begP (machW x c false [])).1), now := v.now + 1, br := v.br, at' := upN x.at' c v.ds.l, ds := x.ds ++ [⟨false, (c : Int) + 1, v.now + 1, 0, [], 0, spZ, []⟩] }) (outs (begP (machW x c false [])))) c) = lookW (sendW { x with m := upN x.m c (some (begP (machW x c false [])).1), now := x.now + 1, at' := upN x.at' c x.ds.length, ds := x.ds ++ [⟨false, (c : Int) + 1, x.now + 1, 0, [], 0, spZ, []⟩] } (outs (begP (machW x c false [])))) c := by
      rw [upN_upN, hvn, hvb, hxd]
     rw [← e1]
     refine bodyPost_end (v := .tuple #[]) (by kernel_rfl) rfl ⟨rfl, HF.out.out⟩
end Go.Proofs.Ytgiokkcdgoloaaa.Md
