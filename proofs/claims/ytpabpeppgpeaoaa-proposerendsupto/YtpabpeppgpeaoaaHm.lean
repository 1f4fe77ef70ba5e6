import Derived.Test.YtpabpeppgpeaoaaHl
namespace Go.Proofs.Ytpabpeppgpeaoaa.Md
open Go.RowKit Gx
set_option linter.unusedVariables false
set_option linter.unusedSimpArgs false

theorem relay_yes {up : Nat → Bool} {m : Ms} {h : Pax.Hl} {k : Nat} (hz : h.zs[k]? = some m.ti) (hu : up k = true) : Pax.relayH up m h k = Pax.deliverH h m := if_pos ⟨hz, hu⟩
theorem relay_no {up : Nat → Bool} {m : Ms} {h : Pax.Hl} {k : Nat} (hn : ¬ (h.zs[k]? = some m.ti ∧ up k = true)) : Pax.relayH up m h k = h := if_neg hn
theorem eqA_eql (a b : Ad) (w : World) : (binOp .eql 37 (.agg a.cells) (.agg b.cells)).run Try.prog w = .ok (.bool (eqA a b)) w := by
 rw [run_eql_struct, eq43 9998]; rfl
theorem ld_A {w : World} {b off i : Nat} {m : Mg} (hc : ∀ (j : Nat) u, (Mg.cs m)[j]? = some u → w.cell? ⟨b, off + i * 30 + j, none⟩ = some u) : (loadVar 37 ⟨b, off + i * 30 + 1, none⟩).run Try.prog w = .ok (.agg (Ad.cells m.fr)) w := by
 have := load_at (n := 1) (w := w) (b := b) (off := off + i * 30) (i := 1) (it := Ad.cs m.fr) (t := 37) (fun j u hj => by
  rw [show off + i * 30 + 1 * 1 + j = off + i * 30 + (1 + j) by omega]
  refine hc (1 + j) u ?_
  have hj2 : j < 2 := (List.getElem?_eq_some_iff.1 hj).1
  rcases j with _ | _ | j
  · exact hj
  · exact hj
  · omega) U37 rfl S37
 rw [Nat.one_mul] at this
 exact this
set_option maxRecDepth 100000 in
set_option maxHeartbeats 4000000 in
theorem exch_any (J : Nat → Prop) (hb : Nat) (v : Hv) (pp : List Nat) (h : Pax.Hl) (j dead : Nat) (s : PS) (w : World) (hH : Hal w J hb v pp h) (B : Nat) (hO : Pax.Hok B h) (hB : B ≤ 1500000) (hs : h.ps[j]? = some s) (hde : dead < 100000) (hz60 : h.zs.length ≤ 60) : Calls Try.prog 19 #[.pointer (some ⟨hb, 0, none⟩), .int .i64 ((j : Nat) : Int), .int .i64 ((dead : Nat) : Int)] w (HlO w J hb pp (Pax.exchH (fun k => decide (dead &&& 2 ^ k = 0)) h j s)) := by
 refine hideC fun C HC => ?_
 have HF : Hid (Hg w w J J hb v pp h [] []) := Hg.start hH
 clear hH
 have hpl := HF.out.pl
 have hyl := HF.out.yl
 have hwb := hO.way
 have hpn := hO.ps
 have hjl : j < h.ps.length := (List.getElem?_eq_some_iff.1 hs).1
 go_enter Try.func19, Try.ntmps19
 go_upto_region 0 with fail
 refine WL.start <| uK (.int .i64 ((j : Nat) : Int)) <| uB .add 3 (.int .i64 ((j : Nat) : Int)) (.int .i64 1) (.int .i64 (((j + 1) : Nat) : Int)) (b_addw _ _ _ (by rw [IntKind.wrap_i64]; omega) _) <| uW (.agg (Ad.cells ⟨true, ((j + 1 : Nat) : Int)⟩)) (exec_build 37 _ rfl (Ad.cells ⟨true, ((j + 1 : Nat) : Int)⟩) (by kernel_rfl)) <| ?_
 try simp only [pS]
 refine uR (pV w.heap.size 0) (w.alloc (.cells (Ad.cells adZ) 37)) (exec_alloc 37 rfl (Ad.cells adZ) Z37) ?_
 try simp only [pS]
 have HF : Hid (Hg w (w.alloc (.cells (Ad.cells adZ) 37)) J J hb v pp h [(w.heap.size, 37, Ad.cells adZ)] []) := HF.out.alloc _ _
 generalize w.alloc (.cells (Ad.cells adZ) 37) = wk2 at HF ⊢
 generalize w.heap.size = gk1 at HF ⊢
 refine uT 37 ⟨gk1, 0, none⟩ (.agg (Ad.cells ⟨true, ((j + 1 : Nat) : Int)⟩)) (wk2.setRow gk1 (Ad.cells ⟨true, ((j + 1 : Nat) : Int)⟩)) (rs (Ad.cs adZ) (Ad.cs ⟨true, ((j + 1 : Nat) : Int)⟩) (Ad.cs ⟨true, ((j + 1 : Nat) : Int)⟩) (HF.out.box 0 _ _ _ rfl) S37 (Ad.oneL _)) ?_
 try simp only [pS]
 have HF : Hid (Hg w (wk2.setRow gk1 (Ad.cells ⟨true, ((j + 1 : Nat) : Int)⟩)) J J hb v pp h [(gk1, 37, Ad.cells ⟨true, ((j + 1 : Nat) : Int)⟩)] []) := HF.out.set 0 rfl _
 generalize wk2.setRow gk1 (Ad.cells ⟨true, ((j + 1 : Nat) : Int)⟩) = wk3 at HF ⊢
 refine WL.nil ?_
 try simp only [pS]
 go_upto_region 1 with fail
 refine WL.start <| uK (.slice none 0 0) <| WL.nil <| ?_
 try simp only [pS]
 go_upto_region 2 with fail
 refine WL.start <| uK (.int .i64 0) <| WL.nil <| ?_
 try simp only [pS]
 go_wp2
 go_loopw [7, 8] (fun v7 v8 wr => ∃ (i : Nat) (oa : Option Addr) (on oc : Nat), v7 = .slice oa on oc ∧ v8 = .int .i64 ((i : Nat) : Int) ∧ i ≤ v.y.l ∧ Hid (∀ k, At oa k → w.heap.size ≤ k) ∧ Hid (Hg w wr J J hb v pp h [(gk1, 37, Ad.cells ⟨true, ((j + 1 : Nat) : Int)⟩)] [(⟨oa, on, oc⟩, ((h.way.take i).filter (Pax.fromJ j)).map dM)])) (fun _ i _ => v.y.l - (intOf i).toNat)
 case atStart => exact ⟨0, none, 0, 0, rfl, by go_num, by omega, fun k e => absurd e At.none, HF.out.add (b := 0) (t := slZ) (ms := []) (OwM.nil _ _) (fun k e => absurd e At.none) (fun _ _ _ _ _ e => absurd e At.none)⟩
 case round =>
  clear HF
  obtain ⟨i, oa, on, oc, rfl, rfl, hi, HOB, HF⟩ := hrel
  have hol : ((h.way.take i).filter (Pax.fromJ j)).length = on := by have := (HF.out.tl 0 _ rfl).len; simpa using this
  have hof : ((h.way.take i).filter (Pax.fromJ j)).length ≤ i := Nat.le_trans (List.length_filter_le _ _) (by rw [List.length_take]; omega)
  by_cases hlt : i < v.y.l
  · skip
    obtain ⟨m, hm⟩ : ∃ m, h.way[i]? = some m := ⟨_, List.getElem?_eq_getElem (by omega)⟩
    obtain ⟨gy, hgy⟩ := HF.out.rY hlt
    have hst := filter_step (p := Pax.fromJ j) hm
    cases hfr : Pax.fromJ j m
    ·skip
     go_upto_region 3 with fail
     refine WL.start <| uK (.int .i64 ((i : Nat) : Int)) <| uK (pV hb 0) <| uK (pV hb 0) <| uK (pV hb 7) <| uL 66 ⟨hb, 7, none⟩ (v.y.v) (load_one ((HF.out.hal.box).cell 7 |>.trans (by kernel_rfl)) U66 rfl) <| uK (.int .i64 ((v.y.l : Nat) : Int)) <| uB .lss 3 (.int .i64 ((i : Nat) : Int)) (.int .i64 ((v.y.l : Nat) : Int)) (.bool true) (by rw [b_lss, decide_eq_true (by omega)]) <| WL.nil <| ?_
     try simp only [pS]
     go_upto_region 5 with fail
     refine wp_region_held_drew (S := fun w' => Hg w w' J J hb v pp h [(gk1, 37, Ad.cells ⟨true, ((j + 1 : Nat) : Int)⟩)] [(⟨oa, on, oc⟩, ((h.way.take i).filter (Pax.fromJ j)).map dM)]) rfl (HF.out.drew) (fun hH => ?_)
     have HF : Hid (Hg w wr.drew J J hb v pp h [(gk1, 37, Ad.cells ⟨true, ((j + 1 : Nat) : Int)⟩)] [(⟨oa, on, oc⟩, ((h.way.take i).filter (Pax.fromJ j)).map dM)]) := HF.out.drew
     generalize wr.drew = wk4 at HF hH ⊢
     refine xV 0 25 (pV hb 0) hH <| xV 1 26 (pV hb 0) hH <| xV 2 27 (pV hb 7) hH <| xL 3 28 66 ⟨hb, 7, none⟩ v.y.v (fun _ hw => load_one ((hw.hal.box).cell 7 |>.trans (by kernel_rfl)) U66 rfl) hH <| xV 4 29 (.int .i64 ((i : Nat) : Int)) hH <| xU 5 30 (pV gy (0 + i * 30)) (fun w' hw => exec_ixA 66 30 E66 F66 _ _ rfl gy 0 v.y.l v.y.k i (Eq.trans (b := v.y.v) (by kernel_rfl) (sl_v (s := v.y) hgy)) (by kernel_rfl) (by omega)) hH <| ?_
     try simp only [pS]
     refine xV 6 31 (pV gy (0 + i * 30 + 1)) hH <| xL 7 32 37 ⟨gy, 0 + i * 30 + 1, none⟩ (.agg (Ad.cells ((dM m).fr))) (fun _ hw => ld_A (hw.cY hgy hm)) hH <| xL 8 33 37 ⟨gk1, 0, none⟩ (.agg (Ad.cells ⟨true, ((j + 1 : Nat) : Int)⟩)) (fun _ hw => run_load_part (cs := Ad.cs ⟨true, ((j + 1 : Nat) : Int)⟩) (sub := Ad.cs ⟨true, ((j + 1 : Nat) : Int)⟩) (hw.box 0 _ _ _ rfl) (Part.all _) U37 rfl S37) hH <| xB 9 34 .eql 37 (.agg (Ad.cells ((dM m).fr))) (.agg (Ad.cells ⟨true, ((j + 1 : Nat) : Int)⟩)) (.bool false) (fun _ _ => by rw [eqA_eql, from_eq, hfr]) hH <| ?_
     try simp only [pS]
     refine wpAnyH_done (by kernel_rfl) ?_ _
     try simp only [pS]
     clear hH
     have HF : Hid (Hg w wk4 J J hb v pp h [(gk1, 37, Ad.cells ⟨true, ((j + 1 : Nat) : Int)⟩)] [(⟨oa, on, oc⟩, ((h.way.take (i + 1)).filter (Pax.fromJ j)).map dM)]) := by
      have e : ((h.way.take (i + 1)).filter (Pax.fromJ j)) = ((h.way.take i).filter (Pax.fromJ j)) := by
       rw [hst, hfr]; simp
      rw [e]
      exact Hg.front (l := [(gk1, 37, Ad.cells ⟨true, ((j + 1 : Nat) : Int)⟩)]) (by simpa using HF.out)
     go_upto_region 4 with fail
     refine WL.start <| uK (.int .i64 ((i : Nat) : Int)) <| uB .add 3 (.int .i64 ((i : Nat) : Int)) (.int .i64 1) (.int .i64 (((i + 1) : Nat) : Int)) (b_addw _ _ _ (by rw [IntKind.wrap_i64]; omega) _) <| uK (.int .i64 (((i + 1) : Nat) : Int)) <| WL.nil <| ?_
     try simp only [pS]
     go_wp2
     go_roundw
     case rel => exact ⟨i + 1, oa, on, oc, rfl, by go_num, by omega, HOB, HF⟩
     case measure => simp [intOf]; omega
    ·skip
     go_upto_region 3 with fail
     refine WL.start <| uK (.int .i64 ((i : Nat) : Int)) <| uK (pV hb 0) <| uK (pV hb 0) <| uK (pV hb 7) <| uL 66 ⟨hb, 7, none⟩ (v.y.v) (load_one ((HF.out.hal.box).cell 7 |>.trans (by kernel_rfl)) U66 rfl) <| uK (.int .i64 ((v.y.l : Nat) : Int)) <| uB .lss 3 (.int .i64 ((i : Nat) : Int)) (.int .i64 ((v.y.l : Nat) : Int)) (.bool true) (by rw [b_lss, decide_eq_true (by omega)]) <| WL.nil <| ?_
     try simp only [pS]
     go_upto_region 5 with fail
     refine wp_region_held_drew (S := fun w' => Hg w w' J J hb v pp h [(gk1, 37, Ad.cells ⟨true, ((j + 1 : Nat) : Int)⟩)] [(⟨oa, on, oc⟩, ((h.way.take i).filter (Pax.fromJ j)).map dM)]) rfl (HF.out.drew) (fun hH => ?_)
     have HF : Hid (Hg w wr.drew J J hb v pp h [(gk1, 37, Ad.cells ⟨true, ((j + 1 : Nat) : Int)⟩)] [(⟨oa, on, oc⟩, ((h.way.take i).filter (Pax.fromJ j)).map dM)]) := HF.out.drew
     generalize wr.drew = wk5 at HF hH ⊢
     refine xV 0 25 (pV hb 0) hH <| xV 1 26 (pV hb 0) hH <| xV 2 27 (pV hb 7) hH <| xL 3 28 66 ⟨hb, 7, none⟩ v.y.v (fun _ hw => load_one ((hw.hal.box).cell 7 |>.trans (by kernel_rfl)) U66 rfl) hH <| xV 4 29 (.int .i64 ((i : Nat) : Int)) hH <| xU 5 30 (pV gy (0 + i * 30)) (fun w' hw => exec_ixA 66 30 E66 F66 _ _ rfl gy 0 v.y.l v.y.k i (Eq.trans (b := v.y.v) (by kernel_rfl) (sl_v (s := v.y) hgy)) (by kernel_rfl) (by omega)) hH <| ?_
     try simp only [pS]
     refine xV 6 31 (pV gy (0 + i * 30 + 1)) hH <| xL 7 32 37 ⟨gy, 0 + i * 30 + 1, none⟩ (.agg (Ad.cells ((dM m).fr))) (fun _ hw => ld_A (hw.cY hgy hm)) hH <| xL 8 33 37 ⟨gk1, 0, none⟩ (.agg (Ad.cells ⟨true, ((j + 1 : Nat) : Int)⟩)) (fun _ hw => run_load_part (cs := Ad.cs ⟨true, ((j + 1 : Nat) : Int)⟩) (sub := Ad.cs ⟨true, ((j + 1 : Nat) : Int)⟩) (hw.box 0 _ _ _ rfl) (Part.all _) U37 rfl S37) hH <| xB 9 34 .eql 37 (.agg (Ad.cells ((dM m).fr))) (.agg (Ad.cells ⟨true, ((j + 1 : Nat) : Int)⟩)) (.bool true) (fun _ _ => by rw [eqA_eql, from_eq, hfr]) hH <| ?_
     try simp only [pS]
     refine wpAnyH_done (by kernel_rfl) ?_ _
     try simp only [pS]
     clear hH
     go_upto_region 6 with fail
     refine WL.start <| uK (.slice oa on oc) <| uK (pV hb 0) <| uK (pV hb 0) <| uK (pV hb 7) <| uL 66 ⟨hb, 7, none⟩ (v.y.v) (load_one ((HF.out.hal.box).cell 7 |>.trans (by kernel_rfl)) U66 rfl) <| uK (.int .i64 ((i : Nat) : Int)) <| uW (pV gy (0 + i * 30)) (exec_ixA 66 30 E66 F66 _ _ rfl gy 0 v.y.l v.y.k i (Eq.trans (b := v.y.v) (by kernel_rfl) (sl_v (s := v.y) hgy)) (by kernel_rfl) (by omega)) <| ?_
     try simp only [pS]
     refine uL 47 ⟨gy, 0 + i * 30, none⟩ (.agg (Mg.cells (dM m))) (ld_M (HF.out.cY hgy hm)) ?_
     try simp only [pS]
     refine uR (.slice (some ⟨wk5.heap.size, 0, none⟩) 1 1) (wk5.alloc (.cells (Mg.cells (dM m)) 47)) (exec_slice2 66 47 _ rfl (Mg.cells (dM m)) (.agg (Mg.cells (dM m))) (by kernel_rfl) (by kernel_rfl)) ?_
     try simp only [pS]
     have HF : Hid (Hg w (wk5.alloc (.cells (Mg.cells (dM m)) 47)) J J hb v pp h [(gk1, 37, Ad.cells ⟨true, ((j + 1 : Nat) : Int)⟩), (wk5.heap.size, 47, Mg.cells (dM m))] [(⟨oa, on, oc⟩, ((h.way.take i).filter (Pax.fromJ j)).map dM)]) := HF.out.alloc _ _
     generalize wk5.alloc (.cells (Mg.cells (dM m)) 47) = wk7 at HF ⊢
     generalize wk5.heap.size = gk6 at HF ⊢
     obtain ⟨a1, k1, W2, hap, hob, hG⟩ := HF.out.growT HOB.out (xa := some ⟨gk6, 0, none⟩) (n := 1) (cc := 1) (news := [dM m]) rfl (fun e => by cases e) (fun j u hj => ⟨_, rfl, by rw [addr_add, Nat.zero_add, (HF.out.box 1 _ _ _ rfl).cell]; rw [mgL_1] at hj; simpa [Mg.cells] using hj⟩) (show on + 1 ≤ 4000000 by omega)
     have hap : (Builtin.append_ #[66, 66] 66 #[.slice oa on oc, .slice (some ⟨gk6, 0, none⟩) 1 1]).run Try.prog wk7 = .ok (.slice a1 (on + 1) k1) W2 := hap
     refine uR (.slice a1 (on + 1) k1) W2 (exec_appN _ _ 66 66 rfl _ _ (by kernel_rfl) (by kernel_rfl) hap) ?_
     try simp only [pS]
     have HF : Hid (Hg w W2 J J hb v pp h [(gk1, 37, Ad.cells ⟨true, ((j + 1 : Nat) : Int)⟩), (gk6, 47, Mg.cells (dM m))] [(⟨a1, on + 1, k1⟩, ((h.way.take i).filter (Pax.fromJ j)).map dM ++ [dM m])]) := hG
     have HOB : Hid (∀ k, At a1 k → w.heap.size ≤ k) := hob
     clear hG hob hap
     refine uK (.slice a1 (on + 1) k1) <| WL.nil <| ?_
     try simp only [pS]
     have HF : Hid (Hg w W2 J J hb v pp h [(gk1, 37, Ad.cells ⟨true, ((j + 1 : Nat) : Int)⟩)] [(⟨a1, on + 1, k1⟩, ((h.way.take (i + 1)).filter (Pax.fromJ j)).map dM)]) := by
      have e : ((h.way.take (i + 1)).filter (Pax.fromJ j)) = ((h.way.take i).filter (Pax.fromJ j)) ++ [m] := by
       rw [hst, hfr]; simp
      rw [e, List.map_append]
      exact Hg.front (l := [(gk1, 37, Ad.cells ⟨true, ((j + 1 : Nat) : Int)⟩)]) HF.out
     go_upto_region 4 with fail
     refine WL.start <| uK (.int .i64 ((i : Nat) : Int)) <| uB .add 3 (.int .i64 ((i : Nat) : Int)) (.int .i64 1) (.int .i64 (((i + 1) : Nat) : Int)) (b_addw _ _ _ (by rw [IntKind.wrap_i64]; omega) _) <| uK (.int .i64 (((i + 1) : Nat) : Int)) <| WL.nil <| ?_
     try simp only [pS]
     go_wp2
     go_roundw
     case rel => exact ⟨i + 1, a1, on + 1, k1, rfl, by go_num, by omega, HOB, HF⟩
     case measure => simp [intOf]; omega
  · skip
    go_upto_region 3 with fail
    refine WL.start <| uK (.int .i64 ((i : Nat) : Int)) <| uK (pV hb 0) <| uK (pV hb 0) <| uK (pV hb 7) <| uL 66 ⟨hb, 7, none⟩ (v.y.v) (load_one ((HF.out.hal.box).cell 7 |>.trans (by kernel_rfl)) U66 rfl) <| uK (.int .i64 ((v.y.l : Nat) : Int)) <| uB .lss 3 (.int .i64 ((i : Nat) : Int)) (.int .i64 ((v.y.l : Nat) : Int)) (.bool false) (by rw [b_lss, decide_eq_false (by omega)]) <| WL.nil <| ?_
    try simp only [pS]
    have HF : Hid (Hg w wr J J hb v pp h [(gk1, 37, Ad.cells ⟨true, ((j + 1 : Nat) : Int)⟩)] [(⟨oa, on, oc⟩, (h.way.filter (Pax.fromJ j)).map dM)]) := by
     have e : ((h.way.take i).filter (Pax.fromJ j)) = h.way.filter (Pax.fromJ j) := by rw [List.take_of_length_le (by omega)]
     rw [← e]
     exact HF
    have hol2 : (h.way.filter (Pax.fromJ j)).length = on := by have := (HF.out.tl 0 _ rfl).len; simpa using this
    go_upto_region 7 with fail
    refine WL.start <| uK (pV hb 0) <| uK (pV hb 0) <| uK (pV hb 7) <| ?_
    try simp only [pS]
    obtain ⟨J2, hG⟩ := HF.out.noY
    refine uT 66 ⟨hb, 7, none⟩ (.slice none 0 0) (wr.setRow hb (Hv.cells ⟨v.ky, v.g, v.i, v.p, slZ, v.d, v.a, v.b⟩)) (rs (Hv.cs v) ([.slice none 0 0]) (Hv.cs ⟨v.ky, v.g, v.i, v.p, slZ, v.d, v.a, v.b⟩) (HF.out.hal.box) S66 (by simp [Value.oneCell', Sl.v])) ?_
    try simp only [pS]
    have HF : Hid (Hg w (wr.setRow hb (Hv.cells ⟨v.ky, v.g, v.i, v.p, slZ, v.d, v.a, v.b⟩)) J J2 hb ⟨v.ky, v.g, v.i, v.p, slZ, v.d, v.a, v.b⟩ pp ({ h with way := [] }) [(gk1, 37, Ad.cells ⟨true, ((j + 1 : Nat) : Int)⟩)] [(⟨oa, on, oc⟩, (h.way.filter (Pax.fromJ j)).map dM)]) := hG
    try clear hG
    generalize wr.setRow hb (Hv.cells ⟨v.ky, v.g, v.i, v.p, slZ, v.d, v.a, v.b⟩) = wk8 at HF ⊢
    refine WL.nil ?_
    try simp only [pS]
    obtain ⟨gp, hgp⟩ := HF.out.rP (i := j) (show j < v.p.l by omega)
    obtain ⟨k, Ij, hpk, hP, _⟩ := HF.out.ask (j := j) (s := s) hs
    have hpt := Pax.pl_tick (hO.pr s (List.mem_of_getElem? hs))
    have hgp : v.p.a = some ⟨gp, 0, none⟩ := hgp
    go_upto_region 8 with fail
    refine WL.start <| uK (.slice oa on oc) <| uK (pV hb 0) <| uK (pV hb 0) <| uK (pV hb 6) <| uL 65 ⟨hb, 6, none⟩ (v.p.v) (load_one ((HF.out.hal.box).cell 6 |>.trans (by kernel_rfl)) U65 rfl) <| uK (.int .i64 ((j : Nat) : Int)) <| uW (pV gp (0 + j * 1)) (exec_ixA 65 1 E65 F65 _ _ rfl gp 0 v.p.l v.p.k j (Eq.trans (b := v.p.v) (by kernel_rfl) (sl_v (s := v.p) hgp)) (by kernel_rfl) (by omega)) <| ?_
    try simp only [pS]
    refine uL 31 ⟨gp, 0 + j * 1, none⟩ (pV k 0) (load_one (HF.out.cP hgp hpk) U31 rfl) ?_
    try simp only [pS]
    obtain ⟨k2, I2, hpk2, hP2, hask⟩ := HF.out.ask (j := j) (s := s) hs
    cases Option.some.inj (hpk.symm.trans hpk2)
    refine uC 25 #[pV k 0] (tick_P hP2) ?_
    rintro e wk9 ho
    obtain ⟨la, lc, J3, rfl, hG⟩ := hask _ _ _ _ ho
    have HF : Hid (Hg w wk9 J J3 hb ⟨v.ky, v.g, v.i, v.p, slZ, v.d, v.a, v.b⟩ pp ({ h with ps := h.ps.set j (tickS s).1, way := [] }) [(gk1, 37, Ad.cells ⟨true, ((j + 1 : Nat) : Int)⟩)] [(⟨oa, on, oc⟩, (h.way.filter (Pax.fromJ j)).map dM), (⟨la, (tickS s).2.length, lc⟩, (tickS s).2.map dM)]) := hG
    clear ho hG hask
    refine ⟨.slice la (tickS s).2.length lc, rfl, ?_⟩
    try simp only [pS]
    obtain ⟨hx0, hxs⟩ := rd_src (HF.out.tl 1 _ rfl)
    have htn := hpt.n
    obtain ⟨a1, k1, W2, hap, hob, hG⟩ := HF.out.growT HOB.out (xa := la) (n := (tickS s).2.length) (cc := lc) (news := (tickS s).2.map dM) (by simp) hx0 hxs (show on + (tickS s).2.length ≤ 4000000 by omega)
    have hap : (Builtin.append_ #[66, 66] 66 #[.slice oa on oc, .slice la (tickS s).2.length lc]).run Try.prog wk9 = .ok (.slice a1 (on + (tickS s).2.length) k1) W2 := hap
    refine uR (.slice a1 (on + (tickS s).2.length) k1) W2 (exec_appN _ _ 66 66 rfl _ _ (by kernel_rfl) (by kernel_rfl) hap) ?_
    try simp only [pS]
    have HF : Hid (Hg w W2 J J3 hb ⟨v.ky, v.g, v.i, v.p, slZ, v.d, v.a, v.b⟩ pp ({ h with ps := h.ps.set j (tickS s).1, way := [] }) [(gk1, 37, Ad.cells ⟨true, ((j + 1 : Nat) : Int)⟩)] [(⟨a1, on + (tickS s).2.length, k1⟩, (h.way.filter (Pax.fromJ j)).map dM ++ (tickS s).2.map dM)]) := hG
    clear hG hob hap hx0 hxs
    refine uK (.slice a1 (on + (tickS s).2.length) k1) <| WL.nil <| ?_
    try simp only [pS]
    obtain ⟨out, hout⟩ : ∃ out, out = h.way.filter (Pax.fromJ j) ++ (tickS s).2 := ⟨_, rfl⟩
    obtain ⟨N, hN⟩ : ∃ N, N = on + (tickS s).2.length := ⟨_, rfl⟩
    have hoN : out.length = N := by rw [hout, List.length_append, hol2, hN]
    have hNb : N ≤ 2000000 := by omega
    have hpo : ∀ m, m ∈ out → Pax.PlM m := fun m hm => by
     rw [hout, List.mem_append, List.mem_filter] at hm
     exact hm.elim (fun e => hO.pl m e.1) (hpt.m m)
    have hO1 : Pax.Hok B { h with ps := h.ps.set j (tickS s).1, way := [] } := (hO.gone (l := []) hO.b (Nat.zero_le _) (fun m hm => absurd hm (by simp))).setP j hpt.s
    have HF : Hid (Hg w W2 J J3 hb ⟨v.ky, v.g, v.i, v.p, slZ, v.d, v.a, v.b⟩ pp (([] : List Ms).foldl (Pax.relays (fun k => decide (dead &&& 2 ^ k = 0))) { h with ps := h.ps.set j (tickS s).1, way := [] }) [(gk1, 37, Ad.cells ⟨true, ((j + 1 : Nat) : Int)⟩)] [(⟨a1, N, k1⟩, out.map dM)]) := by
     rw [hout, hN, List.map_append]
     exact HF
    have HOU : Hid (out = h.way.filter (Pax.fromJ j) ++ (tickS s).2) := hout
    rw [← hN]
    clear hout hN
    go_upto_region 9 with fail
    refine WL.start <| uK (.int .i64 0) <| WL.nil <| ?_
    try simp only [pS]
    go_wp2
    go_loopw [9] (fun v9 wr => ∃ (i : Nat) (J4 : Nat → Prop) (v4 : Hv), v9 = .int .i64 ((i : Nat) : Int) ∧ i ≤ N ∧ Hid (Hg w wr J J4 hb v4 pp ((out.take i).foldl (Pax.relays (fun k => decide (dead &&& 2 ^ k = 0))) { h with ps := h.ps.set j (tickS s).1, way := [] }) [(gk1, 37, Ad.cells ⟨true, ((j + 1 : Nat) : Int)⟩)] [(⟨a1, N, k1⟩, out.map dM)])) (fun i _ => N - (intOf i).toNat)
    case atStart => exact ⟨0, J3, _, by go_num, by omega, HF⟩
    case round =>
     clear HF
     obtain ⟨i, J4, v4, rfl, hi, HF⟩ := hrel
     have hO2 := relays_ok (fun k => decide (dead &&& 2 ^ k = 0)) (out.take i) hO1 (fun m hm => hpo m (List.mem_of_mem_take hm))
     have hzz : (((out.take i).foldl (Pax.relays (fun k => decide (dead &&& 2 ^ k = 0))) { h with ps := h.ps.set j (tickS s).1, way := [] })).zs = h.zs := relays_zs _ _ _
     by_cases hlt : i < N
     · skip
       obtain ⟨m, hm⟩ : ∃ m, out[i]? = some m := ⟨_, List.getElem?_eq_getElem (by omega)⟩
       have hpm := hpo m (List.mem_of_getElem? hm)
       have hst := fold_step (Pax.relays (fun k => decide (dead &&& 2 ^ k = 0))) (h := { h with ps := h.ps.set j (tickS s).1, way := [] }) hm
       go_upto_region 10 with fail
       refine WL.start <| uK (.int .i64 ((i : Nat) : Int)) <| uK (.slice a1 N k1) <| uK (.int .i64 ((N : Nat) : Int)) <| uB .lss 3 (.int .i64 ((i : Nat) : Int)) (.int .i64 ((N : Nat) : Int)) (.bool true) (by rw [b_lss, decide_eq_true (by omega)]) <| WL.nil <| ?_
       try simp only [pS]
       go_upto_region 12 with fail
       refine WL.start <| uK (.int .i64 0) <| WL.nil <| ?_
       try simp only [pS]
       have HF : Hid (Hg w wr J J4 hb v4 pp ((List.range 0).foldl (Pax.relayH (fun k => decide (dead &&& 2 ^ k = 0)) m) ((out.take i).foldl (Pax.relays (fun k => decide (dead &&& 2 ^ k = 0))) { h with ps := h.ps.set j (tickS s).1, way := [] })) [(gk1, 37, Ad.cells ⟨true, ((j + 1 : Nat) : Int)⟩)] [(⟨a1, N, k1⟩, out.map dM)]) := HF
       go_wp2
       go_loopw [10] (fun v10 wq => ∃ (k : Nat) (J5 : Nat → Prop) (v5 : Hv), v10 = .int .i64 ((k : Nat) : Int) ∧ k ≤ h.zs.length ∧ Hid (Hg w wq J J5 hb v5 pp ((List.range k).foldl (Pax.relayH (fun k => decide (dead &&& 2 ^ k = 0)) m) ((out.take i).foldl (Pax.relays (fun k => decide (dead &&& 2 ^ k = 0))) { h with ps := h.ps.set j (tickS s).1, way := [] })) [(gk1, 37, Ad.cells ⟨true, ((j + 1 : Nat) : Int)⟩)] [(⟨a1, N, k1⟩, out.map dM)])) (fun i _ => h.zs.length - (intOf i).toNat)
       case atStart => exact ⟨0, J4, v4, by go_num, by omega, HF⟩
       case round =>
        clear HF
        obtain ⟨k, J5, v5, rfl, hk, HF⟩ := hrel
        have hO3 := relay_ok (fun k => decide (dead &&& 2 ^ k = 0)) hpm (List.range k) hO2
        have hzk : ((List.range k).foldl (Pax.relayH (fun k => decide (dead &&& 2 ^ k = 0)) m) ((out.take i).foldl (Pax.relays (fun k => decide (dead &&& 2 ^ k = 0))) { h with ps := h.ps.set j (tickS s).1, way := [] })).zs = h.zs := (relay_zs _ _ _ _).trans hzz
        have hgl := HF.out.gl
        rw [hzk] at hgl
        have hrs := relay_step (fun k => decide (dead &&& 2 ^ k = 0)) m ((out.take i).foldl (Pax.relays (fun k => decide (dead &&& 2 ^ k = 0))) { h with ps := h.ps.set j (tickS s).1, way := [] }) k
        by_cases hkl : k < v5.g.l
        · skip
          obtain ⟨z, hz⟩ : ∃ z, ((List.range k).foldl (Pax.relayH (fun k => decide (dead &&& 2 ^ k = 0)) m) ((out.take i).foldl (Pax.relays (fun k => decide (dead &&& 2 ^ k = 0))) { h with ps := h.ps.set j (tickS s).1, way := [] })).zs[k]? = some z := ⟨_, List.getElem?_eq_getElem (by rw [hzk]; omega)⟩
          obtain ⟨gg, hgg⟩ := HF.out.rG hkl
          obtain ⟨gt, hgt⟩ := own_some (HF.out.tl 0 _ rfl).own (show i < N from hlt)
          have hgt : (a1 : Option Addr) = some ⟨gt, 0, none⟩ := hgt
          by_cases hzt : z = ((dM m).too).id
          · skip
            by_cases hup : dead &&& 2 ^ k = 0
            ·skip
             go_upto_region 13 with fail
             refine WL.start <| uK (.int .i64 ((k : Nat) : Int)) <| uK (pV hb 0) <| uK (pV hb 0) <| uK (pV hb 4) <| uL 24 ⟨hb, 4, none⟩ (v5.g.v) (load_one ((HF.out.hal.box).cell 4 |>.trans (by kernel_rfl)) U24 rfl) <| uK (.int .i64 ((v5.g.l : Nat) : Int)) <| uB .lss 3 (.int .i64 ((k : Nat) : Int)) (.int .i64 ((v5.g.l : Nat) : Int)) (.bool true) (by rw [b_lss, decide_eq_true (by omega)]) <| WL.nil <| ?_
             try simp only [pS]
             go_upto_region 15 with fail
             refine wp_region_held_drew (S := fun w' => Hg w w' J J5 hb v5 pp ((List.range k).foldl (Pax.relayH (fun k => decide (dead &&& 2 ^ k = 0)) m) ((out.take i).foldl (Pax.relays (fun k => decide (dead &&& 2 ^ k = 0))) { h with ps := h.ps.set j (tickS s).1, way := [] })) [(gk1, 37, Ad.cells ⟨true, ((j + 1 : Nat) : Int)⟩)] [(⟨a1, N, k1⟩, out.map dM)]) rfl (HF.out.drew) (fun hH => ?_)
             have HF : Hid (Hg w wr.drew J J5 hb v5 pp ((List.range k).foldl (Pax.relayH (fun k => decide (dead &&& 2 ^ k = 0)) m) ((out.take i).foldl (Pax.relays (fun k => decide (dead &&& 2 ^ k = 0))) { h with ps := h.ps.set j (tickS s).1, way := [] })) [(gk1, 37, Ad.cells ⟨true, ((j + 1 : Nat) : Int)⟩)] [(⟨a1, N, k1⟩, out.map dM)]) := HF.out.drew
             generalize wr.drew = wk10 at HF hH ⊢
             refine xV 0 73 (pV hb 0) hH <| xV 1 74 (pV hb 0) hH <| xV 2 75 (pV hb 4) hH <| xL 3 76 24 ⟨hb, 4, none⟩ v5.g.v (fun _ hw => load_one ((hw.hal.box).cell 4 |>.trans (by kernel_rfl)) U24 rfl) hH <| xV 4 77 (.int .i64 ((k : Nat) : Int)) hH <| xU 5 78 (pV gg (0 + k * 1)) (fun w' hw => exec_ixA 24 1 E24 F24 _ _ rfl gg 0 v5.g.l v5.g.k k (Eq.trans (b := v5.g.v) (by kernel_rfl) (sl_v (s := v5.g) hgg)) (by kernel_rfl) (by omega)) hH <| ?_
             try simp only [pS]
             refine xL 6 79 3 ⟨gg, 0 + k * 1, none⟩ (.int .i64 z) (fun _ hw => load_one (hw.cG hgg hz) U3 rfl) hH <| xV 7 80 (.slice a1 N k1) hH <| xV 8 81 (.int .i64 ((i : Nat) : Int)) hH <| xU 9 82 (pV gt (0 + i * 30)) (fun w' hw => exec_ixA 66 30 E66 F66 _ _ rfl gt 0 N k1 i (Eq.trans (b := .slice a1 N k1) (by kernel_rfl) (sl_v (s := ⟨a1, N, k1⟩) hgt)) (by kernel_rfl) (by omega)) hH <| xV 10 83 (pV gt (0 + i * 30 + 3)) hH <| xV 11 84 (pV gt (0 + i * 30 + 4)) hH <| ?_
             try simp only [pS]
             refine xL 12 85 3 ⟨gt, 0 + i * 30 + 4, none⟩ (.int .i64 ((dM m).too).id) (fun _ hw => load_one (hw.cT (q := 0) (x := (⟨a1, N, k1⟩, out.map dM)) rfl hgt (by show (out.map dM)[i]? = some (dM m); rw [List.getElem?_map, hm]; rfl) 4 _ rfl) U3 rfl) hH <| xB 13 86 .eql 3 (.int .i64 z) (.int .i64 ((dM m).too).id) (.bool true) (fun _ _ => by rw [b_eql, beq_iff_eq.2 (by omega)]) hH <| xV 14 87 (.bool true) hH <| xV 15 88 (.int .i64 ((dead : Nat) : Int)) hH <| xV 16 89 (.int .i64 ((k : Nat) : Int)) hH <| xB 17 90 .shl 3 (.int .i64 1) (.int .i64 ((k : Nat) : Int)) (.int .i64 (((2 ^ k) : Nat) : Int)) (fun _ _ => b_shl k (by omega) _) hH <| ?_
             try simp only [pS]
             refine xB 18 91 .and 3 (.int .i64 ((dead : Nat) : Int)) (.int .i64 (((2 ^ k) : Nat) : Int)) (.int .i64 (((dead &&& 2 ^ k) : Nat) : Int)) (fun _ _ => b_andN dead (2 ^ k) (by omega) (pow_small (by omega)) _) hH <| xB 19 92 .eql 3 (.int .i64 (((dead &&& 2 ^ k) : Nat) : Int)) (.int .i64 0) (.bool true) (fun _ _ => by rw [b_eql, beq_iff_eq.2 (by omega)]) hH <| xV 20 93 (.bool true) hH <| ?_
             try simp only [pS]
             refine wpAnyH_done (by kernel_rfl) ?_ _
             try simp only [pS]
             clear hH
             go_upto_region 16 with fail
             refine WL.start <| uK (pV hb 0) <| uK (.slice a1 N k1) <| uK (.int .i64 ((i : Nat) : Int)) <| uW (pV gt (0 + i * 30)) (exec_ixA 66 30 E66 F66 _ _ rfl gt 0 N k1 i (Eq.trans (b := .slice a1 N k1) (by kernel_rfl) (sl_v (s := ⟨a1, N, k1⟩) hgt)) (by kernel_rfl) (by omega)) <| uL 47 ⟨gt, 0 + i * 30, none⟩ (.agg (Mg.cells (dM m))) (ld_M (HF.out.cT (q := 0) (x := (⟨a1, N, k1⟩, out.map dM)) rfl hgt (by show (out.map dM)[i]? = some (dM m); rw [List.getElem?_map, hm]; rfl))) <| ?_
             try simp only [pS]
             refine uC 47 #[pV hb 0, .agg (Mg.cells (dM m))] (deliver_any J5 hb v5 pp _ m _ HF.out.hal B hO3 (by omega) hpm) ?_
             rintro e wk11 ho
             obtain ⟨J6, v6, rfl, hG⟩ := HF.out.hcall ho
             have HF : Hid (Hg w wk11 J J6 hb v6 pp (Pax.deliverH ((List.range k).foldl (Pax.relayH (fun k => decide (dead &&& 2 ^ k = 0)) m) ((out.take i).foldl (Pax.relays (fun k => decide (dead &&& 2 ^ k = 0))) { h with ps := h.ps.set j (tickS s).1, way := [] })) m) [(gk1, 37, Ad.cells ⟨true, ((j + 1 : Nat) : Int)⟩)] [(⟨a1, N, k1⟩, out.map dM)]) := hG
             clear ho hG
             refine ⟨.tuple #[], rfl, ?_⟩
             try simp only [pS]
             refine WL.nil ?_
             try simp only [pS]
             have HF : Hid (Hg w wk11 J J6 hb v6 pp ((List.range (k + 1)).foldl (Pax.relayH (fun k => decide (dead &&& 2 ^ k = 0)) m) ((out.take i).foldl (Pax.relays (fun k => decide (dead &&& 2 ^ k = 0))) { h with ps := h.ps.set j (tickS s).1, way := [] })) [(gk1, 37, Ad.cells ⟨true, ((j + 1 : Nat) : Int)⟩)] [(⟨a1, N, k1⟩, out.map dM)]) := by
              have e : ((List.range (k + 1)).foldl (Pax.relayH (fun k => decide (dead &&& 2 ^ k = 0)) m) ((out.take i).foldl (Pax.relays (fun k => decide (dead &&& 2 ^ k = 0))) { h with ps := h.ps.set j (tickS s).1, way := [] })) = (Pax.deliverH ((List.range k).foldl (Pax.relayH (fun k => decide (dead &&& 2 ^ k = 0)) m) ((out.take i).foldl (Pax.relays (fun k => decide (dead &&& 2 ^ k = 0))) { h with ps := h.ps.set j (tickS s).1, way := [] })) m) := by
               rw [hrs]; exact relay_yes (by rw [hz]; exact congrArg some hzt) (decide_eq_true hup)
              rw [e]
              exact HF
             go_upto_region 14 with fail
             refine WL.start <| uK (.int .i64 ((k : Nat) : Int)) <| uB .add 3 (.int .i64 ((k : Nat) : Int)) (.int .i64 1) (.int .i64 (((k + 1) : Nat) : Int)) (b_addw _ _ _ (by rw [IntKind.wrap_i64]; omega) _) <| uK (.int .i64 (((k + 1) : Nat) : Int)) <| WL.nil <| ?_
             try simp only [pS]
             go_wp2
             go_roundw
             case rel => exact ⟨k + 1, J6, v6, by go_num, by omega, HF⟩
             case measure => simp [intOf]; omega
            ·skip
             go_upto_region 13 with fail
             refine WL.start <| uK (.int .i64 ((k : Nat) : Int)) <| uK (pV hb 0) <| uK (pV hb 0) <| uK (pV hb 4) <| uL 24 ⟨hb, 4, none⟩ (v5.g.v) (load_one ((HF.out.hal.box).cell 4 |>.trans (by kernel_rfl)) U24 rfl) <| uK (.int .i64 ((v5.g.l : Nat) : Int)) <| uB .lss 3 (.int .i64 ((k : Nat) : Int)) (.int .i64 ((v5.g.l : Nat) : Int)) (.bool true) (by rw [b_lss, decide_eq_true (by omega)]) <| WL.nil <| ?_
             try simp only [pS]
             go_upto_region 15 with fail
             refine wp_region_held_drew (S := fun w' => Hg w w' J J5 hb v5 pp ((List.range k).foldl (Pax.relayH (fun k => decide (dead &&& 2 ^ k = 0)) m) ((out.take i).foldl (Pax.relays (fun k => decide (dead &&& 2 ^ k = 0))) { h with ps := h.ps.set j (tickS s).1, way := [] })) [(gk1, 37, Ad.cells ⟨true, ((j + 1 : Nat) : Int)⟩)] [(⟨a1, N, k1⟩, out.map dM)]) rfl (HF.out.drew) (fun hH => ?_)
             have HF : Hid (Hg w wr.drew J J5 hb v5 pp ((List.range k).foldl (Pax.relayH (fun k => decide (dead &&& 2 ^ k = 0)) m) ((out.take i).foldl (Pax.relays (fun k => decide (dead &&& 2 ^ k = 0))) { h with ps := h.ps.set j (tickS s).1, way := [] })) [(gk1, 37, Ad.cells ⟨true, ((j + 1 : Nat) : Int)⟩)] [(⟨a1, N, k1⟩, out.map dM)]) := HF.out.drew
             generalize wr.drew = wk12 at HF hH ⊢
             refine xV 0 73 (pV hb 0) hH <| xV 1 74 (pV hb 0) hH <| xV 2 75 (pV hb 4) hH <| xL 3 76 24 ⟨hb, 4, none⟩ v5.g.v (fun _ hw => load_one ((hw.hal.box).cell 4 |>.trans (by kernel_rfl)) U24 rfl) hH <| xV 4 77 (.int .i64 ((k : Nat) : Int)) hH <| xU 5 78 (pV gg (0 + k * 1)) (fun w' hw => exec_ixA 24 1 E24 F24 _ _ rfl gg 0 v5.g.l v5.g.k k (Eq.trans (b := v5.g.v) (by kernel_rfl) (sl_v (s := v5.g) hgg)) (by kernel_rfl) (by omega)) hH <| ?_
             try simp only [pS]
             refine xL 6 79 3 ⟨gg, 0 + k * 1, none⟩ (.int .i64 z) (fun _ hw => load_one (hw.cG hgg hz) U3 rfl) hH <| xV 7 80 (.slice a1 N k1) hH <| xV 8 81 (.int .i64 ((i : Nat) : Int)) hH <| xU 9 82 (pV gt (0 + i * 30)) (fun w' hw => exec_ixA 66 30 E66 F66 _ _ rfl gt 0 N k1 i (Eq.trans (b := .slice a1 N k1) (by kernel_rfl) (sl_v (s := ⟨a1, N, k1⟩) hgt)) (by kernel_rfl) (by omega)) hH <| xV 10 83 (pV gt (0 + i * 30 + 3)) hH <| xV 11 84 (pV gt (0 + i * 30 + 4)) hH <| ?_
             try simp only [pS]
             refine xL 12 85 3 ⟨gt, 0 + i * 30 + 4, none⟩ (.int .i64 ((dM m).too).id) (fun _ hw => load_one (hw.cT (q := 0) (x := (⟨a1, N, k1⟩, out.map dM)) rfl hgt (by show (out.map dM)[i]? = some (dM m); rw [List.getElem?_map, hm]; rfl) 4 _ rfl) U3 rfl) hH <| xB 13 86 .eql 3 (.int .i64 z) (.int .i64 ((dM m).too).id) (.bool true) (fun _ _ => by rw [b_eql, beq_iff_eq.2 (by omega)]) hH <| xV 14 87 (.bool true) hH <| xV 15 88 (.int .i64 ((dead : Nat) : Int)) hH <| xV 16 89 (.int .i64 ((k : Nat) : Int)) hH <| xB 17 90 .shl 3 (.int .i64 1) (.int .i64 ((k : Nat) : Int)) (.int .i64 (((2 ^ k) : Nat) : Int)) (fun _ _ => b_shl k (by omega) _) hH <| ?_
             try simp only [pS]
             refine xB 18 91 .and 3 (.int .i64 ((dead : Nat) : Int)) (.int .i64 (((2 ^ k) : Nat) : Int)) (.int .i64 (((dead &&& 2 ^ k) : Nat) : Int)) (fun _ _ => b_andN dead (2 ^ k) (by omega) (pow_small (by omega)) _) hH <| xB 19 92 .eql 3 (.int .i64 (((dead &&& 2 ^ k) : Nat) : Int)) (.int .i64 0) (.bool false) (fun _ _ => by rw [b_eql, beq_eq_false_iff_ne.2 (by omega)]) hH <| xV 20 93 (.bool false) hH <| ?_
             try simp only [pS]
             refine wpAnyH_done (by kernel_rfl) ?_ _
             try simp only [pS]
             clear hH
             have HF : Hid (Hg w wk12 J J5 hb v5 pp ((List.range (k + 1)).foldl (Pax.relayH (fun k => decide (dead &&& 2 ^ k = 0)) m) ((out.take i).foldl (Pax.relays (fun k => decide (dead &&& 2 ^ k = 0))) { h with ps := h.ps.set j (tickS s).1, way := [] })) [(gk1, 37, Ad.cells ⟨true, ((j + 1 : Nat) : Int)⟩)] [(⟨a1, N, k1⟩, out.map dM)]) := by
              have e : ((List.range (k + 1)).foldl (Pax.relayH (fun k => decide (dead &&& 2 ^ k = 0)) m) ((out.take i).foldl (Pax.relays (fun k => decide (dead &&& 2 ^ k = 0))) { h with ps := h.ps.set j (tickS s).1, way := [] })) = ((List.range k).foldl (Pax.relayH (fun k => decide (dead &&& 2 ^ k = 0)) m) ((out.take i).foldl (Pax.relays (fun k => decide (dead &&& 2 ^ k = 0))) { h with ps := h.ps.set j (tickS s).1, way := [] })) := by
               rw [hrs]; exact relay_no (fun e => hup (of_decide_eq_true e.2))
              rw [e]
              exact HF
             go_upto_region 14 with fail
             refine WL.start <| uK (.int .i64 ((k : Nat) : Int)) <| uB .add 3 (.int .i64 ((k : Nat) : Int)) (.int .i64 1) (.int .i64 (((k + 1) : Nat) : Int)) (b_addw _ _ _ (by rw [IntKind.wrap_i64]; omega) _) <| uK (.int .i64 (((k + 1) : Nat) : Int)) <| WL.nil <| ?_
             try simp only [pS]
             go_wp2
             go_roundw
             case rel => exact ⟨k + 1, J5, v5, by go_num, by omega, HF⟩
             case measure => simp [intOf]; omega
          · skip
            go_upto_region 13 with fail
            refine WL.start <| uK (.int .i64 ((k : Nat) : Int)) <| uK (pV hb 0) <| uK (pV hb 0) <| uK (pV hb 4) <| uL 24 ⟨hb, 4, none⟩ (v5.g.v) (load_one ((HF.out.hal.box).cell 4 |>.trans (by kernel_rfl)) U24 rfl) <| uK (.int .i64 ((v5.g.l : Nat) : Int)) <| uB .lss 3 (.int .i64 ((k : Nat) : Int)) (.int .i64 ((v5.g.l : Nat) : Int)) (.bool true) (by rw [b_lss, decide_eq_true (by omega)]) <| WL.nil <| ?_
            try simp only [pS]
            go_upto_region 15 with fail
            refine wp_region_held_drew (S := fun w' => Hg w w' J J5 hb v5 pp ((List.range k).foldl (Pax.relayH (fun k => decide (dead &&& 2 ^ k = 0)) m) ((out.take i).foldl (Pax.relays (fun k => decide (dead &&& 2 ^ k = 0))) { h with ps := h.ps.set j (tickS s).1, way := [] })) [(gk1, 37, Ad.cells ⟨true, ((j + 1 : Nat) : Int)⟩)] [(⟨a1, N, k1⟩, out.map dM)]) rfl (HF.out.drew) (fun hH => ?_)
            have HF : Hid (Hg w wr.drew J J5 hb v5 pp ((List.range k).foldl (Pax.relayH (fun k => decide (dead &&& 2 ^ k = 0)) m) ((out.take i).foldl (Pax.relays (fun k => decide (dead &&& 2 ^ k = 0))) { h with ps := h.ps.set j (tickS s).1, way := [] })) [(gk1, 37, Ad.cells ⟨true, ((j + 1 : Nat) : Int)⟩)] [(⟨a1, N, k1⟩, out.map dM)]) := HF.out.drew
            generalize wr.drew = wk13 at HF hH ⊢
            refine xV 0 73 (pV hb 0) hH <| xV 1 74 (pV hb 0) hH <| xV 2 75 (pV hb 4) hH <| xL 3 76 24 ⟨hb, 4, none⟩ v5.g.v (fun _ hw => load_one ((hw.hal.box).cell 4 |>.trans (by kernel_rfl)) U24 rfl) hH <| xV 4 77 (.int .i64 ((k : Nat) : Int)) hH <| xU 5 78 (pV gg (0 + k * 1)) (fun w' hw => exec_ixA 24 1 E24 F24 _ _ rfl gg 0 v5.g.l v5.g.k k (Eq.trans (b := v5.g.v) (by kernel_rfl) (sl_v (s := v5.g) hgg)) (by kernel_rfl) (by omega)) hH <| ?_
            try simp only [pS]
            refine xL 6 79 3 ⟨gg, 0 + k * 1, none⟩ (.int .i64 z) (fun _ hw => load_one (hw.cG hgg hz) U3 rfl) hH <| xV 7 80 (.slice a1 N k1) hH <| xV 8 81 (.int .i64 ((i : Nat) : Int)) hH <| xU 9 82 (pV gt (0 + i * 30)) (fun w' hw => exec_ixA 66 30 E66 F66 _ _ rfl gt 0 N k1 i (Eq.trans (b := .slice a1 N k1) (by kernel_rfl) (sl_v (s := ⟨a1, N, k1⟩) hgt)) (by kernel_rfl) (by omega)) hH <| xV 10 83 (pV gt (0 + i * 30 + 3)) hH <| xV 11 84 (pV gt (0 + i * 30 + 4)) hH <| ?_
            try simp only [pS]
            refine xL 12 85 3 ⟨gt, 0 + i * 30 + 4, none⟩ (.int .i64 ((dM m).too).id) (fun _ hw => load_one (hw.cT (q := 0) (x := (⟨a1, N, k1⟩, out.map dM)) rfl hgt (by show (out.map dM)[i]? = some (dM m); rw [List.getElem?_map, hm]; rfl) 4 _ rfl) U3 rfl) hH <| xB 13 86 .eql 3 (.int .i64 z) (.int .i64 ((dM m).too).id) (.bool false) (fun _ _ => by rw [b_eql, beq_eq_false_iff_ne.2 (by omega)]) hH <| xV 14 87 (.bool false) hH <| xZ 15 88 hH <| xZ 16 89 hH <| xZ 17 90 hH <| ?_
            try simp only [pS]
            refine xZ 18 91 hH <| xZ 19 92 hH <| xV 20 93 (.bool false) hH <| ?_
            try simp only [pS]
            refine wpAnyH_done (by kernel_rfl) ?_ _
            try simp only [pS]
            clear hH
            have HF : Hid (Hg w wk13 J J5 hb v5 pp ((List.range (k + 1)).foldl (Pax.relayH (fun k => decide (dead &&& 2 ^ k = 0)) m) ((out.take i).foldl (Pax.relays (fun k => decide (dead &&& 2 ^ k = 0))) { h with ps := h.ps.set j (tickS s).1, way := [] })) [(gk1, 37, Ad.cells ⟨true, ((j + 1 : Nat) : Int)⟩)] [(⟨a1, N, k1⟩, out.map dM)]) := by
             have e : ((List.range (k + 1)).foldl (Pax.relayH (fun k => decide (dead &&& 2 ^ k = 0)) m) ((out.take i).foldl (Pax.relays (fun k => decide (dead &&& 2 ^ k = 0))) { h with ps := h.ps.set j (tickS s).1, way := [] })) = ((List.range k).foldl (Pax.relayH (fun k => decide (dead &&& 2 ^ k = 0)) m) ((out.take i).foldl (Pax.relays (fun k => decide (dead &&& 2 ^ k = 0))) { h with ps := h.ps.set j (tickS s).1, way := [] })) := by
              rw [hrs]; exact relay_no (fun e => hzt (Option.some.inj (hz.symm.trans e.1)))
             rw [e]
             exact HF
            go_upto_region 14 with fail
            refine WL.start <| uK (.int .i64 ((k : Nat) : Int)) <| uB .add 3 (.int .i64 ((k : Nat) : Int)) (.int .i64 1) (.int .i64 (((k + 1) : Nat) : Int)) (b_addw _ _ _ (by rw [IntKind.wrap_i64]; omega) _) <| uK (.int .i64 (((k + 1) : Nat) : Int)) <| WL.nil <| ?_
            try simp only [pS]
            go_wp2
            go_roundw
            case rel => exact ⟨k + 1, J5, v5, by go_num, by omega, HF⟩
            case measure => simp [intOf]; omega
        · skip
          go_upto_region 13 with fail
          refine WL.start <| uK (.int .i64 ((k : Nat) : Int)) <| uK (pV hb 0) <| uK (pV hb 0) <| uK (pV hb 4) <| uL 24 ⟨hb, 4, none⟩ (v5.g.v) (load_one ((HF.out.hal.box).cell 4 |>.trans (by kernel_rfl)) U24 rfl) <| uK (.int .i64 ((v5.g.l : Nat) : Int)) <| uB .lss 3 (.int .i64 ((k : Nat) : Int)) (.int .i64 ((v5.g.l : Nat) : Int)) (.bool false) (by rw [b_lss, decide_eq_false (by omega)]) <| WL.nil <| ?_
          try simp only [pS]
          have HF : Hid (Hg w wr J J5 hb v5 pp ((out.take (i + 1)).foldl (Pax.relays (fun k => decide (dead &&& 2 ^ k = 0))) { h with ps := h.ps.set j (tickS s).1, way := [] }) [(gk1, 37, Ad.cells ⟨true, ((j + 1 : Nat) : Int)⟩)] [(⟨a1, N, k1⟩, out.map dM)]) := by
           have e : ((out.take (i + 1)).foldl (Pax.relays (fun k => decide (dead &&& 2 ^ k = 0))) { h with ps := h.ps.set j (tickS s).1, way := [] }) = ((List.range k).foldl (Pax.relayH (fun k => decide (dead &&& 2 ^ k = 0)) m) ((out.take i).foldl (Pax.relays (fun k => decide (dead &&& 2 ^ k = 0))) { h with ps := h.ps.set j (tickS s).1, way := [] })) := by
            rw [hst]; show (List.range _).foldl _ _ = _; rw [hzz, show h.zs.length = k by omega]
           rw [e]
           exact HF
          go_upto_region 11 with fail
          refine WL.start <| uK (.int .i64 ((i : Nat) : Int)) <| uB .add 3 (.int .i64 ((i : Nat) : Int)) (.int .i64 1) (.int .i64 (((i + 1) : Nat) : Int)) (b_addw _ _ _ (by rw [IntKind.wrap_i64]; omega) _) <| uK (.int .i64 (((i + 1) : Nat) : Int)) <| WL.nil <| ?_
          try simp only [pS]
          go_wp2
          go_roundw
          case rel => exact ⟨i + 1, J5, v5, by go_num, by omega, HF⟩
          case measure => simp [intOf]; omega
     · skip
       go_upto_region 10 with fail
       refine WL.start <| uK (.int .i64 ((i : Nat) : Int)) <| uK (.slice a1 N k1) <| uK (.int .i64 ((N : Nat) : Int)) <| uB .lss 3 (.int .i64 ((i : Nat) : Int)) (.int .i64 ((N : Nat) : Int)) (.bool false) (by rw [b_lss, decide_eq_false (by omega)]) <| WL.nil <| ?_
       try simp only [pS]
       obtain ⟨h2, hh2⟩ : ∃ h2, h2 = out.foldl (Pax.relays (fun k => decide (dead &&& 2 ^ k = 0))) { h with ps := h.ps.set j (tickS s).1, way := [] } := ⟨_, rfl⟩
       have eh : ((out.take i).foldl (Pax.relays (fun k => decide (dead &&& 2 ^ k = 0))) { h with ps := h.ps.set j (tickS s).1, way := [] }) = h2 := by rw [hh2, List.take_of_length_le (by omega)]
       rw [eh] at hO2
       have HF : Hid (Hg w wr J J4 hb v4 pp h2 [(gk1, 37, Ad.cells ⟨true, ((j + 1 : Nat) : Int)⟩)] [(⟨a1, N, k1⟩, out.map dM)]) := by
        rw [← eh]
        exact HF
       have HE : Hid (Pax.exchH (fun k => decide (dead &&& 2 ^ k = 0)) h j s = h2.way.foldl Pax.deliverH { h2 with way := [] }) := by
        show Pax.exchH _ _ _ _ = _
        rw [hh2, HOU.out]; rfl
       clear eh hh2 hzz
       have hyl2 := HF.out.yl
       go_upto_region 17 with fail
       refine WL.start <| uK (pV hb 0) <| uK (pV hb 0) <| uK (pV hb 7) <| uL 66 ⟨hb, 7, none⟩ (v4.y.v) (load_one ((HF.out.hal.box).cell 7 |>.trans (by kernel_rfl)) U66 rfl) <| uK (v4.y.v) <| WL.nil <| ?_
       try simp only [pS]
       go_upto_region 18 with fail
       refine WL.start <| uK (pV hb 0) <| uK (pV hb 0) <| uK (pV hb 7) <| ?_
       try simp only [pS]
       obtain ⟨J7, hG⟩ := HF.out.takeY
       refine uT 66 ⟨hb, 7, none⟩ (.slice none 0 0) (wr.setRow hb (Hv.cells ⟨v4.ky, v4.g, v4.i, v4.p, slZ, v4.d, v4.a, v4.b⟩)) (rs (Hv.cs v4) ([.slice none 0 0]) (Hv.cs ⟨v4.ky, v4.g, v4.i, v4.p, slZ, v4.d, v4.a, v4.b⟩) (HF.out.hal.box) S66 (by simp [Value.oneCell', Sl.v])) ?_
       try simp only [pS]
       have HF : Hid (Hg w (wr.setRow hb (Hv.cells ⟨v4.ky, v4.g, v4.i, v4.p, slZ, v4.d, v4.a, v4.b⟩)) J J7 hb ⟨v4.ky, v4.g, v4.i, v4.p, slZ, v4.d, v4.a, v4.b⟩ pp ({ h2 with way := [] }) [(gk1, 37, Ad.cells ⟨true, ((j + 1 : Nat) : Int)⟩)] [(⟨a1, N, k1⟩, out.map dM), (v4.y, h2.way.map dM)]) := hG
       try clear hG
       generalize wr.setRow hb (Hv.cells ⟨v4.ky, v4.g, v4.i, v4.p, slZ, v4.d, v4.a, v4.b⟩) = wk14 at HF ⊢
       refine WL.nil ?_
       try simp only [pS]
       have HF : Hid (Hg w wk14 J J7 hb ⟨v4.ky, v4.g, v4.i, v4.p, slZ, v4.d, v4.a, v4.b⟩ pp ((h2.way.take 0).foldl Pax.deliverH { h2 with way := [] }) [(gk1, 37, Ad.cells ⟨true, ((j + 1 : Nat) : Int)⟩)] [(v4.y, h2.way.map dM)]) := HF.out.pick (by simp)
       have hO5 : Pax.Hok B { h2 with way := [] } := hO2.gone (l := []) hO2.b (Nat.zero_le _) (fun m hm => absurd hm (by simp))
       have hwb2 := hO2.way
       go_upto_region 19 with fail
       refine WL.start <| uK (.int .i64 0) <| WL.nil <| ?_
       try simp only [pS]
       go_wp2
       go_loopw [12] (fun v12 wr => ∃ (i : Nat) (J8 : Nat → Prop) (v8 : Hv), v12 = .int .i64 ((i : Nat) : Int) ∧ i ≤ v4.y.l ∧ Hid (Hg w wr J J8 hb v8 pp ((h2.way.take i).foldl Pax.deliverH { h2 with way := [] }) [(gk1, 37, Ad.cells ⟨true, ((j + 1 : Nat) : Int)⟩)] [(v4.y, h2.way.map dM)])) (fun i _ => v4.y.l - (intOf i).toNat)
       case atStart => exact ⟨0, J7, _, by go_num, by omega, HF⟩
       case round =>
        clear HF
        obtain ⟨i, J8, v8, rfl, hi, HF⟩ := hrel
        have hO6 := Pax.Hok.delivers (h2.way.take i) hO5 (fun m hm => hO2.pl m (List.mem_of_mem_take hm))
        by_cases hlt : i < v4.y.l
        · skip
          obtain ⟨m, hm⟩ : ∃ m, h2.way[i]? = some m := ⟨_, List.getElem?_eq_getElem (by omega)⟩
          have hpm := hO2.pl m (List.mem_of_getElem? hm)
          have hst := fold_step Pax.deliverH (h := { h2 with way := [] }) hm
          obtain ⟨gt, hgt⟩ := own_some (HF.out.tl 0 _ rfl).own hlt
          have hgt : v4.y.a = some ⟨gt, 0, none⟩ := hgt
          go_upto_region 20 with fail
          refine WL.start <| uK (.int .i64 ((i : Nat) : Int)) <| uK (v4.y.v) <| uK (.int .i64 ((v4.y.l : Nat) : Int)) <| uB .lss 3 (.int .i64 ((i : Nat) : Int)) (.int .i64 ((v4.y.l : Nat) : Int)) (.bool true) (by rw [b_lss, decide_eq_true (by omega)]) <| WL.nil <| ?_
          try simp only [pS]
          go_upto_region 22 with fail
          refine WL.start <| uK (pV hb 0) <| uK (v4.y.v) <| uK (.int .i64 ((i : Nat) : Int)) <| uW (pV gt (0 + i * 30)) (exec_ixA 66 30 E66 F66 _ _ rfl gt 0 v4.y.l v4.y.k i (Eq.trans (b := v4.y.v) (by kernel_rfl) (sl_v (s := v4.y) hgt)) (by kernel_rfl) (by omega)) <| uL 47 ⟨gt, 0 + i * 30, none⟩ (.agg (Mg.cells (dM m))) (ld_M (HF.out.cT (q := 0) (x := (v4.y, h2.way.map dM)) rfl hgt (by show (h2.way.map dM)[i]? = some (dM m); rw [List.getElem?_map, hm]; rfl))) <| ?_
          try simp only [pS]
          refine uC 47 #[pV hb 0, .agg (Mg.cells (dM m))] (deliver_any J8 hb v8 pp _ m _ HF.out.hal B hO6 (by omega) hpm) ?_
          rintro e wk15 ho
          obtain ⟨J9, v9, rfl, hG⟩ := HF.out.hcall ho
          have HF : Hid (Hg w wk15 J J9 hb v9 pp ((h2.way.take (i + 1)).foldl Pax.deliverH { h2 with way := [] }) [(gk1, 37, Ad.cells ⟨true, ((j + 1 : Nat) : Int)⟩)] [(v4.y, h2.way.map dM)]) := by
           rw [hst]
           exact hG
          clear ho hG
          refine ⟨.tuple #[], rfl, ?_⟩
          try simp only [pS]
          refine WL.nil ?_
          try simp only [pS]
          go_upto_region 21 with fail
          refine WL.start <| uK (.int .i64 ((i : Nat) : Int)) <| uB .add 3 (.int .i64 ((i : Nat) : Int)) (.int .i64 1) (.int .i64 (((i + 1) : Nat) : Int)) (b_addw _ _ _ (by rw [IntKind.wrap_i64]; omega) _) <| uK (.int .i64 (((i + 1) : Nat) : Int)) <| WL.nil <| ?_
          try simp only [pS]
          go_wp2
          go_roundw
          case rel => exact ⟨i + 1, J9, v9, by go_num, by omega, HF⟩
          case measure => simp [intOf]; omega
        · skip
          go_upto_region 20 with fail
          refine WL.start <| uK (.int .i64 ((i : Nat) : Int)) <| uK (v4.y.v) <| uK (.int .i64 ((v4.y.l : Nat) : Int)) <| uB .lss 3 (.int .i64 ((i : Nat) : Int)) (.int .i64 ((v4.y.l : Nat) : Int)) (.bool false) (by rw [b_lss, decide_eq_false (by omega)]) <| WL.nil <| ?_
          try simp only [pS]
          go_wp2
          rw [HC.out, HE.out]
          have e : h2.way.foldl Pax.deliverH { h2 with way := [] } = ((h2.way.take i).foldl Pax.deliverH { h2 with way := [] }) := by rw [List.take_of_length_le (by omega)]
          rw [e]
          refine bodyPost_end (v := .tuple #[]) (by kernel_rfl) rfl ⟨rfl, HF.out.out⟩

end Go.Proofs.Ytpabpeppgpeaoaa.Md
