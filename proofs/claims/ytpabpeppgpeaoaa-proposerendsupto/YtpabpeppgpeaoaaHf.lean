import Derived.Test.YtpabpeppgpeaoaaHe
namespace Go.Proofs.Ytpabpeppgpeaoaa.Md
open Go.RowKit Gx
set_option linter.unusedVariables false
set_option linter.unusedSimpArgs false

section
variable {o : Oper} {a : Act} {w : World}
theorem exec_slL (t : TypeId) (x lo : Operand) (ho : o.op = .slice t x (some lo) none none) (c : Nat) (ht : Try.prog.underlying t = some (.slice (Try.prog.elem t))) (hs : (Try.prog.info? (Try.prog.elem t)).map (·.size) = some c) (ad : Option Addr) (len cap l : Nat)
 (hx : a.eval x = .slice ad len cap) (hl : a.eval lo = .int .i64 (l : Int)) (h : l ≤ len) : (execOp a.eval o).run Try.prog w = .ok (.value (sliced ad l len cap c)) w := by
 simp only [execOp, ho, hx, Option.map_some, Option.map_none, hl, Sem.run_bind, run_sliceAt_slice w t _ _ _ _ ht, run_slice_l w t ad len cap ht .i64 (l : Int) (by omega) (by omega), size_of hs, Result.andThen_ok, Sem.run_pure, Int.toNat_natCast]
end
section
variable {w W W2 : World} {J0 J J2 S : Nat → Prop} {hb : Nat} {v v2 : Hv} {pp pp2 : List Nat} {h h2 : Pax.Hl} {l l2 : List (Nat × TypeId × Array Value)} {T T' : List (Sl × List Mg)}
theorem Hg.dk (H : Hg w W J0 J hb v pp h l T) : v.d.l ≤ v.d.k := by
 rcases H.hal.dec.pl with ⟨_, e1, e2⟩ | ⟨_, _, _, _, e, _⟩ <;> omega
end
theorem look_step {ps : List PS} {d : List Ytpabpeppgpeaoaa.Cm} {i : Nat} {s : PS} (hs : ps[i]? = some s) : (ps.take (i + 1)).foldl Pax.lookC d = Pax.lookC ((ps.take i).foldl Pax.lookC d) s := by
 rw [List.take_add_one, hs, List.foldl_append]; rfl
theorem look_few {d : List Ytpabpeppgpeaoaa.Cm} {s : PS} (h : d.length ≤ 50) : (Pax.lookC d s).length ≤ 50 := by
 unfold Pax.lookC
 split
 · split
   · rw [List.length_drop, List.length_append]; simp; omega
   · next e => simp at e ⊢; omega
 · exact h
theorem lookC_no {d : List Ytpabpeppgpeaoaa.Cm} {s : PS} (h : (decO s).2 = false) : Pax.lookC d s = d := by unfold Pax.lookC; rw [if_neg (by rw [h]; decide)]
theorem lookC_few {d : List Ytpabpeppgpeaoaa.Cm} {s : PS} (h : (decO s).2 = true) (l : d.length + 1 ≤ 50) : Pax.lookC d s = d ++ [(decO s).1] := by unfold Pax.lookC; rw [if_pos h, if_neg (by rw [List.length_append]; simp; omega)]
theorem lookC_many {d : List Ytpabpeppgpeaoaa.Cm} {s : PS} (h : (decO s).2 = true) (l : 50 < d.length + 1) : Pax.lookC d s = (d ++ [(decO s).1]).drop 25 := by unfold Pax.lookC; rw [if_pos h, if_pos (by rw [List.length_append]; simp; omega)]
theorem looks_few : ∀ (ps : List PS) {d : List Ytpabpeppgpeaoaa.Cm}, d.length ≤ 50 → (ps.foldl Pax.lookC d).length ≤ 50
 | [], _, h => h
 | s :: ps, _, h => looks_few ps (look_few h)
set_option maxRecDepth 100000 in
set_option maxHeartbeats 4000000 in
theorem look_any (J : Nat → Prop) (hb : Nat) (v : Hv) (pp : List Nat) (h : Pax.Hl) (w : World) (hH : Hal w J hb v pp h) (hd : h.dec.length ≤ 50) (hpn : h.ps.length ≤ 1000) : Calls Try.prog 20 #[.pointer (some ⟨hb, 0, none⟩)] w (HlO w J hb pp (Pax.lookH h)) := by
 refine hideC fun C HC => ?_
 have HF : Hid (Hg w w J J hb v pp { h with dec := (h.ps.take 0).foldl Pax.lookC h.dec } [] []) := Hg.start hH
 clear hH
 have hpl := HF.out.pl
 go_enter Try.func20, Try.ntmps20
 go_upto_region 0 with fail
 refine WL.start <| uK (.int .i64 0) <| WL.nil <| ?_
 try simp only [pS]
 go_wp2
 go_loopw [2] (fun v2 wr => ∃ (i : Nat) (J1 : Nat → Prop) (v1 : Hv), v2 = .int .i64 ((i : Nat) : Int) ∧ i ≤ h.ps.length ∧ Hid (Hg w wr J J1 hb v1 pp { h with dec := (h.ps.take i).foldl Pax.lookC h.dec } [] [])) (fun i _ => h.ps.length - (intOf i).toNat)
 case atStart => exact ⟨0, J, v, by go_num, by omega, HF⟩
 case round =>
  clear HF
  obtain ⟨i, J1, v1, rfl, hi, HF⟩ := hrel
  have hpl1 : h.ps.length = v1.p.l := HF.out.pl
  have hdl : ((h.ps.take i).foldl Pax.lookC h.dec).length = v1.d.l := HF.out.dl
  have hdf := looks_few (h.ps.take i) hd
  by_cases hlt : i < v1.p.l
  · skip
    obtain ⟨s, hs⟩ : ∃ s, h.ps[i]? = some s := ⟨_, List.getElem?_eq_getElem (by omega)⟩
    have hst := look_step (d := h.dec) hs
    obtain ⟨k, Ij, hpk, hP, _⟩ := HF.out.ask (j := i) (s := s) hs
    obtain ⟨gp, hgp⟩ := HF.out.rP hlt
    cases hde : (decO s).2
    ·skip
     go_upto_region 1 with fail
     refine WL.start <| uK (.int .i64 ((i : Nat) : Int)) <| uK (pV hb 0) <| uK (pV hb 0) <| uK (pV hb 6) <| uL 65 ⟨hb, 6, none⟩ (v1.p.v) (load_one ((HF.out.hal.box).cell 6 |>.trans (by kernel_rfl)) U65 rfl) <| uK (.int .i64 ((v1.p.l : Nat) : Int)) <| uB .lss 3 (.int .i64 ((i : Nat) : Int)) (.int .i64 ((v1.p.l : Nat) : Int)) (.bool true) (by rw [b_lss, decide_eq_true (by omega)]) <| WL.nil <| ?_
     try simp only [pS]
     go_upto_region 3 with fail
     refine WL.start <| uK (pV hb 0) <| uK (pV hb 0) <| uK (pV hb 6) <| uL 65 ⟨hb, 6, none⟩ (v1.p.v) (load_one ((HF.out.hal.box).cell 6 |>.trans (by kernel_rfl)) U65 rfl) <| uK (.int .i64 ((i : Nat) : Int)) <| uW (pV gp (0 + i * 1)) (exec_ixA 65 1 E65 F65 _ _ rfl gp 0 v1.p.l v1.p.k i (Eq.trans (b := v1.p.v) (by kernel_rfl) (sl_v (s := v1.p) hgp)) (by kernel_rfl) (by omega)) <| uL 31 ⟨gp, 0 + i * 1, none⟩ (pV k 0) (load_one (HF.out.cP hgp hpk) U31 rfl) <| ?_
     try simp only [pS]
     refine uC 21 #[pV k 0] (decided_P (hP.no (Kept.refl No _))) ?_
     rintro e wk1 ⟨rfl, hk⟩
     have HF : Hid (Hg w wk1 J J1 hb v1 pp ({ h with dec := (h.ps.take i).foldl Pax.lookC h.dec }) [] []) := HF.out.no hk
     clear hk
     refine ⟨.tuple #[.agg (Cm.cells (dC' (decO s).1)), .bool false], by rw [hde]; rfl, ?_⟩
     try simp only [pS]
     refine uK (.tuple #[.agg (Cm.cells (dC' (decO s).1)), .bool false]) <| uK (.agg (Cm.cells (dC' (decO s).1))) <| uK (.bool false) <| ?_
     try simp only [pS]
     refine uR (pV wk1.heap.size 0) (wk1.alloc (.cells (Cm.cells cZ) 28)) (exec_alloc 28 rfl (Cm.cells cZ) Z28) ?_
     try simp only [pS]
     have HF : Hid (Hg w (wk1.alloc (.cells (Cm.cells cZ) 28)) J J1 hb v1 pp ({ h with dec := (h.ps.take i).foldl Pax.lookC h.dec }) [(wk1.heap.size, 28, Cm.cells cZ)] []) := HF.out.alloc _ _
     generalize wk1.alloc (.cells (Cm.cells cZ) 28) = wk3 at HF ⊢
     generalize wk1.heap.size = gk2 at HF ⊢
     refine uT 28 ⟨gk2, 0, none⟩ (.agg (Cm.cells (dC' (decO s).1))) (wk3.setRow gk2 (Cm.cells (dC' (decO s).1))) (rs (Cm.cs cZ) (Cm.cs (dC' (decO s).1)) (Cm.cs (dC' (decO s).1)) (HF.out.box 0 _ _ _ rfl) S28 (Cm.oneL _)) ?_
     try simp only [pS]
     have HF : Hid (Hg w (wk3.setRow gk2 (Cm.cells (dC' (decO s).1))) J J1 hb v1 pp ({ h with dec := (h.ps.take i).foldl Pax.lookC h.dec }) [(gk2, 28, Cm.cells (dC' (decO s).1))] []) := HF.out.set 0 rfl _
     generalize wk3.setRow gk2 (Cm.cells (dC' (decO s).1)) = wk4 at HF ⊢
     refine uK (.bool false) <| WL.nil <| ?_
     try simp only [pS]
     go_upto_region 4 with fail
     refine WL.start <| uK (.bool false) <| WL.nil <| ?_
     try simp only [pS]
     have HF : Hid (Hg w wk4 J J1 hb v1 pp { h with dec := (h.ps.take (i + 1)).foldl Pax.lookC h.dec } [] []) := by
      have e : { h with dec := (h.ps.take (i + 1)).foldl Pax.lookC h.dec } = { h with dec := (h.ps.take i).foldl Pax.lookC h.dec } := by
       rw [hst, lookC_no hde]
      rw [e]
      exact Hg.front (l := []) HF.out
     go_upto_region 2 with fail
     refine WL.start <| uK (.int .i64 ((i : Nat) : Int)) <| uB .add 3 (.int .i64 ((i : Nat) : Int)) (.int .i64 1) (.int .i64 (((i + 1) : Nat) : Int)) (b_addw _ _ _ (by rw [IntKind.wrap_i64]; omega) _) <| uK (.int .i64 (((i + 1) : Nat) : Int)) <| WL.nil <| ?_
     try simp only [pS]
     go_wp2
     go_roundw
     case rel => exact ⟨i + 1, J1, v1, by go_num, by omega, HF⟩
     case measure => simp [intOf]; omega
    ·skip
     go_upto_region 1 with fail
     refine WL.start <| uK (.int .i64 ((i : Nat) : Int)) <| uK (pV hb 0) <| uK (pV hb 0) <| uK (pV hb 6) <| uL 65 ⟨hb, 6, none⟩ (v1.p.v) (load_one ((HF.out.hal.box).cell 6 |>.trans (by kernel_rfl)) U65 rfl) <| uK (.int .i64 ((v1.p.l : Nat) : Int)) <| uB .lss 3 (.int .i64 ((i : Nat) : Int)) (.int .i64 ((v1.p.l : Nat) : Int)) (.bool true) (by rw [b_lss, decide_eq_true (by omega)]) <| WL.nil <| ?_
     try simp only [pS]
     go_upto_region 3 with fail
     refine WL.start <| uK (pV hb 0) <| uK (pV hb 0) <| uK (pV hb 6) <| uL 65 ⟨hb, 6, none⟩ (v1.p.v) (load_one ((HF.out.hal.box).cell 6 |>.trans (by kernel_rfl)) U65 rfl) <| uK (.int .i64 ((i : Nat) : Int)) <| uW (pV gp (0 + i * 1)) (exec_ixA 65 1 E65 F65 _ _ rfl gp 0 v1.p.l v1.p.k i (Eq.trans (b := v1.p.v) (by kernel_rfl) (sl_v (s := v1.p) hgp)) (by kernel_rfl) (by omega)) <| uL 31 ⟨gp, 0 + i * 1, none⟩ (pV k 0) (load_one (HF.out.cP hgp hpk) U31 rfl) <| ?_
     try simp only [pS]
     refine uC 21 #[pV k 0] (decided_P (hP.no (Kept.refl No _))) ?_
     rintro e wk5 ⟨rfl, hk⟩
     have HF : Hid (Hg w wk5 J J1 hb v1 pp ({ h with dec := (h.ps.take i).foldl Pax.lookC h.dec }) [] []) := HF.out.no hk
     clear hk
     refine ⟨.tuple #[.agg (Cm.cells (dC' (decO s).1)), .bool true], by rw [hde]; rfl, ?_⟩
     try simp only [pS]
     refine uK (.tuple #[.agg (Cm.cells (dC' (decO s).1)), .bool true]) <| uK (.agg (Cm.cells (dC' (decO s).1))) <| uK (.bool true) <| ?_
     try simp only [pS]
     refine uR (pV wk5.heap.size 0) (wk5.alloc (.cells (Cm.cells cZ) 28)) (exec_alloc 28 rfl (Cm.cells cZ) Z28) ?_
     try simp only [pS]
     have HF : Hid (Hg w (wk5.alloc (.cells (Cm.cells cZ) 28)) J J1 hb v1 pp ({ h with dec := (h.ps.take i).foldl Pax.lookC h.dec }) [(wk5.heap.size, 28, Cm.cells cZ)] []) := HF.out.alloc _ _
     generalize wk5.alloc (.cells (Cm.cells cZ) 28) = wk7 at HF ⊢
     generalize wk5.heap.size = gk6 at HF ⊢
     refine uT 28 ⟨gk6, 0, none⟩ (.agg (Cm.cells (dC' (decO s).1))) (wk7.setRow gk6 (Cm.cells (dC' (decO s).1))) (rs (Cm.cs cZ) (Cm.cs (dC' (decO s).1)) (Cm.cs (dC' (decO s).1)) (HF.out.box 0 _ _ _ rfl) S28 (Cm.oneL _)) ?_
     try simp only [pS]
     have HF : Hid (Hg w (wk7.setRow gk6 (Cm.cells (dC' (decO s).1))) J J1 hb v1 pp ({ h with dec := (h.ps.take i).foldl Pax.lookC h.dec }) [(gk6, 28, Cm.cells (dC' (decO s).1))] []) := HF.out.set 0 rfl _
     generalize wk7.setRow gk6 (Cm.cells (dC' (decO s).1)) = wk8 at HF ⊢
     refine uK (.bool true) <| WL.nil <| ?_
     try simp only [pS]
     go_upto_region 4 with fail
     refine WL.start <| uK (.bool true) <| WL.nil <| ?_
     try simp only [pS]
     go_upto_region 5 with fail
     refine wp_region_held_drew (S := fun w' => Box w' gk6 28 (Cm.cells (dC' (decO s).1))) rfl (HF.out.drew.box 0 _ _ _ rfl) (fun hH => ?_)
     have HF : Hid (Hg w wk8.drew J J1 hb v1 pp ({ h with dec := (h.ps.take i).foldl Pax.lookC h.dec }) [(gk6, 28, Cm.cells (dC' (decO s).1))] []) := HF.out.drew
     generalize wk8.drew = wk9 at HF hH ⊢
     refine xV 0 26 (pV hb 0) hH <| xV 1 27 (pV hb 0) hH <| xV 2 28 (pV hb 0) hH <| xV 3 29 (pV hb 8) hH <| xL 5 31 28 ⟨gk6, 0, none⟩ (.agg (Cm.cells (dC' (decO s).1))) (fun _ hw => run_load_part (cs := Cm.cs (dC' (decO s).1)) (sub := Cm.cs (dC' (decO s).1)) (hw) (Part.all _) U28 rfl S28) hH <| ?_
     try simp only [pS]
     refine any_pick (rs := [4, 6]) (by kernel_rfl) (by simp) ?_
     intro i hi
     rcases pick2 hi with rfl | rfl
     ·skip
      clear hi
      refine step_run (i := 4) (o := { dst := some 30, op := Op.load 45 (Operand.tmp 29), type := 45, pos := "outright.go:100", after := #[{ on := 3, ground := Ground.data }], guard := none }) (v := v1.d.v) (w' := wk9) rfl (by kernel_rfl) (exec_load 45 _ rfl ⟨hb, 8, none⟩ (by kernel_rfl) (v1.d.v) (load_one ((HF.out.hal.box).cell 8 |>.trans (by kernel_rfl)) U45 rfl)) hH (fun hH => ?_)
      try simp only [pS]
      refine any_step (i := 6) (o := { dst := some 32, op := Op.buildSlice 45 1 #[(0, Operand.tmp 31)], type := 45, pos := "outright.go:100", after := #[{ on := 5, ground := Ground.data }], guard := none }) rfl (by kernel_rfl) (by kernel_rfl) (exec_slice2 45 28 _ rfl (Cm.cells (dC' (decO s).1)) (.agg (Cm.cells (dC' (decO s).1))) (by kernel_rfl) (by kernel_rfl)) ((hH.alloc _)) (fun hH => ?_)
      try simp only [pS]
      have HF : Hid (Hg w (wk9.alloc (.cells (Cm.cells (dC' (decO s).1)) 28)) J J1 hb v1 pp ({ h with dec := (h.ps.take i).foldl Pax.lookC h.dec }) [(gk6, 28, Cm.cells (dC' (decO s).1)), (wk9.heap.size, 28, Cm.cells (dC' (decO s).1))] []) := HF.out.alloc _ _
      generalize wk9.alloc (.cells (Cm.cells (dC' (decO s).1)) 28) = wk11 at HF hH ⊢
      generalize wk9.heap.size = gk10 at HF ⊢
      obtain ⟨a1, k1, W2, J2, hap, hkD, hbD, hG⟩ := HF.out.pushD (c := (decO s).1) (ad := ⟨gk10, 0, none⟩) (cc := 1) (by omega) (fun j u hj => by rw [addr_add, Nat.zero_add, (HF.out.box 1 _ _ _ rfl).cell]; simpa [Cm.cells] using hj)
      have hkJ := HF.out.dj hkD
      have hap : (Builtin.append_ #[45, 45] 45 #[v1.d.v, .slice (some ⟨gk10, 0, none⟩) 1 1]).run Try.prog wk11 = .ok (.slice a1 (v1.d.l + 1) k1) W2 := hap
      refine xP 7 33 (.slice a1 (v1.d.l + 1) k1) (w' := W2) (exec_appN _ _ 45 45 rfl _ _ (by kernel_rfl) (by kernel_rfl) hap) ((HF.out.boxJ hkJ 0 rfl)) (fun hH => ?_)
      try simp only [pS]
      refine xV 8 34 (pV hb 0) hH <| xV 9 35 (pV hb 8) hH <| ?_
      try simp only [pS]
      refine xS 10 45 ⟨hb, 8, none⟩ (.slice a1 (v1.d.l + 1) k1) (w' := W2.setRow hb (Hv.cells ⟨v1.ky, v1.g, v1.i, v1.p, v1.y, ⟨a1, v1.d.l + 1, k1⟩, v1.a, v1.b⟩)) (rs (Hv.cs v1) ([.slice a1 (v1.d.l + 1) k1]) (Hv.cs ⟨v1.ky, v1.g, v1.i, v1.p, v1.y, ⟨a1, v1.d.l + 1, k1⟩, v1.a, v1.b⟩) (hbD) S45 (by simp [Value.oneCell', Sl.v])) ((hG.box 0 _ _ _ rfl)) (fun hH => ?_)
      try simp only [pS]
      have HF : Hid (Hg w (W2.setRow hb (Hv.cells ⟨v1.ky, v1.g, v1.i, v1.p, v1.y, ⟨a1, v1.d.l + 1, k1⟩, v1.a, v1.b⟩)) J J2 hb ⟨v1.ky, v1.g, v1.i, v1.p, v1.y, ⟨a1, v1.d.l + 1, k1⟩, v1.a, v1.b⟩ pp ({ h with dec := (h.ps.take i).foldl Pax.lookC h.dec ++ [(decO s).1] }) [(gk6, 28, Cm.cells (dC' (decO s).1)), (gk10, 28, Cm.cells (dC' (decO s).1))] []) := hG
      clear hG
      generalize W2.setRow hb (Hv.cells ⟨v1.ky, v1.g, v1.i, v1.p, v1.y, ⟨a1, v1.d.l + 1, k1⟩, v1.a, v1.b⟩) = wk12 at HF hH ⊢
      refine wpAnyH_done (by kernel_rfl) ?_ _
      try simp only [pS]
      clear hH
      have HF : Hid (Hg w wk12 J J2 hb ⟨v1.ky, v1.g, v1.i, v1.p, v1.y, ⟨a1, v1.d.l + 1, k1⟩, v1.a, v1.b⟩ pp { h with dec := (h.ps.take i).foldl Pax.lookC h.dec ++ [(decO s).1] } [] []) := Hg.front (l := []) HF.out
      by_cases hmany : v1.d.l + 1 ≤ 50
      ·skip
       go_upto_region 6 with fail
       refine WL.start <| uK (pV hb 0) <| uK (pV hb 0) <| uK (pV hb 8) <| uL 45 ⟨hb, 8, none⟩ (.slice a1 (v1.d.l + 1) k1) (load_one ((HF.out.hal.box).cell 8 |>.trans (by kernel_rfl)) U45 rfl) <| uK (.int .i64 (((v1.d.l + 1) : Nat) : Int)) <| uB .gtr 3 (.int .i64 (((v1.d.l + 1) : Nat) : Int)) (.int .i64 50) (.bool false) (by rw [b_gtr, decide_eq_false (by omega)]) <| WL.nil <| ?_
       try simp only [pS]
       have HF : Hid (Hg w wk12 J J2 hb ⟨v1.ky, v1.g, v1.i, v1.p, v1.y, ⟨a1, v1.d.l + 1, k1⟩, v1.a, v1.b⟩ pp { h with dec := (h.ps.take (i + 1)).foldl Pax.lookC h.dec } [] []) := by
        have e : { h with dec := (h.ps.take (i + 1)).foldl Pax.lookC h.dec } = { h with dec := (h.ps.take i).foldl Pax.lookC h.dec ++ [(decO s).1] } := by
         rw [hst, lookC_few hde (by omega)]
        rw [e]
        exact Hg.front (l := []) HF.out
       go_upto_region 2 with fail
       refine WL.start <| uK (.int .i64 ((i : Nat) : Int)) <| uB .add 3 (.int .i64 ((i : Nat) : Int)) (.int .i64 1) (.int .i64 (((i + 1) : Nat) : Int)) (b_addw _ _ _ (by rw [IntKind.wrap_i64]; omega) _) <| uK (.int .i64 (((i + 1) : Nat) : Int)) <| WL.nil <| ?_
       try simp only [pS]
       go_wp2
       go_roundw
       case rel => exact ⟨i + 1, J2, ⟨v1.ky, v1.g, v1.i, v1.p, v1.y, ⟨a1, v1.d.l + 1, k1⟩, v1.a, v1.b⟩, by go_num, by omega, HF⟩
       case measure => simp [intOf]; omega
      ·skip
       go_upto_region 6 with fail
       refine WL.start <| uK (pV hb 0) <| uK (pV hb 0) <| uK (pV hb 8) <| uL 45 ⟨hb, 8, none⟩ (.slice a1 (v1.d.l + 1) k1) (load_one ((HF.out.hal.box).cell 8 |>.trans (by kernel_rfl)) U45 rfl) <| uK (.int .i64 (((v1.d.l + 1) : Nat) : Int)) <| uB .gtr 3 (.int .i64 (((v1.d.l + 1) : Nat) : Int)) (.int .i64 50) (.bool true) (by rw [b_gtr, decide_eq_true (by omega)]) <| WL.nil <| ?_
       try simp only [pS]
       have hdk : v1.d.l + 1 ≤ k1 := HF.out.dk
       obtain ⟨gd, od, hgd⟩ := HF.out.rD (i := 0) (show 0 < v1.d.l + 1 by omega)
       have hgd : (a1 : Option Addr) = some ⟨gd, od, none⟩ := hgd
       go_upto_region 7 with fail
       refine WL.start <| uK (pV hb 0) <| uK (pV hb 0) <| uK (pV hb 0) <| uK (pV hb 8) <| uL 45 ⟨hb, 8, none⟩ (.slice a1 (v1.d.l + 1) k1) (load_one ((HF.out.hal.box).cell 8 |>.trans (by kernel_rfl)) U45 rfl) <| uW (.slice (some ⟨gd, od + 25 * 9, none⟩) (v1.d.l + 1 - 25) (k1 - 25)) ((exec_slL 45 _ _ rfl 9 E45 F45 (some ⟨gd, od, none⟩) (v1.d.l + 1) k1 25 (Eq.trans (b := .slice a1 (v1.d.l + 1) k1) (by kernel_rfl) (by rw [hgd])) (by kernel_rfl) (by omega)).trans (by rw [sliced_in _ _ _ _ _ _ (by omega)])) <| uK (pV hb 0) <| ?_
       try simp only [pS]
       refine uK (pV hb 8) ?_
       try simp only [pS]
       obtain ⟨J3, hG⟩ := HF.out.cutD (n := 25) (show 25 ≤ v1.d.l + 1 by omega) (show (a1 : Option Addr) = some ⟨gd, od, none⟩ from hgd)
       refine uT 45 ⟨hb, 8, none⟩ (.slice (some ⟨gd, od + 25 * 9, none⟩) (v1.d.l + 1 - 25) (k1 - 25)) (wk12.setRow hb (Hv.cells ⟨v1.ky, v1.g, v1.i, v1.p, v1.y, ⟨some ⟨gd, od + 25 * 9, none⟩, v1.d.l + 1 - 25, k1 - 25⟩, v1.a, v1.b⟩)) (rs (Hv.cs ⟨v1.ky, v1.g, v1.i, v1.p, v1.y, ⟨a1, v1.d.l + 1, k1⟩, v1.a, v1.b⟩) ([.slice (some ⟨gd, od + 25 * 9, none⟩) (v1.d.l + 1 - 25) (k1 - 25)]) (Hv.cs ⟨v1.ky, v1.g, v1.i, v1.p, v1.y, ⟨some ⟨gd, od + 25 * 9, none⟩, v1.d.l + 1 - 25, k1 - 25⟩, v1.a, v1.b⟩) (HF.out.hal.box) S45 (by simp [Value.oneCell', Sl.v])) ?_
       try simp only [pS]
       have HF : Hid (Hg w (wk12.setRow hb (Hv.cells ⟨v1.ky, v1.g, v1.i, v1.p, v1.y, ⟨some ⟨gd, od + 25 * 9, none⟩, v1.d.l + 1 - 25, k1 - 25⟩, v1.a, v1.b⟩)) J J3 hb ⟨v1.ky, v1.g, v1.i, v1.p, v1.y, ⟨some ⟨gd, od + 25 * 9, none⟩, v1.d.l + 1 - 25, k1 - 25⟩, v1.a, v1.b⟩ pp ({ h with dec := ((h.ps.take i).foldl Pax.lookC h.dec ++ [(decO s).1]).drop 25 }) [] []) := hG
       clear hG
       generalize wk12.setRow hb (Hv.cells ⟨v1.ky, v1.g, v1.i, v1.p, v1.y, ⟨some ⟨gd, od + 25 * 9, none⟩, v1.d.l + 1 - 25, k1 - 25⟩, v1.a, v1.b⟩) = wk13 at HF ⊢
       refine WL.nil ?_
       try simp only [pS]
       have HF : Hid (Hg w wk13 J J3 hb ⟨v1.ky, v1.g, v1.i, v1.p, v1.y, ⟨some ⟨gd, od + 25 * 9, none⟩, v1.d.l + 1 - 25, k1 - 25⟩, v1.a, v1.b⟩ pp { h with dec := (h.ps.take (i + 1)).foldl Pax.lookC h.dec } [] []) := by
        have e : { h with dec := (h.ps.take (i + 1)).foldl Pax.lookC h.dec } = { h with dec := ((h.ps.take i).foldl Pax.lookC h.dec ++ [(decO s).1]).drop 25 } := by
         rw [hst, lookC_many hde (by omega)]
        rw [e]
        exact Hg.front (l := []) HF.out
       go_upto_region 2 with fail
       refine WL.start <| uK (.int .i64 ((i : Nat) : Int)) <| uB .add 3 (.int .i64 ((i : Nat) : Int)) (.int .i64 1) (.int .i64 (((i + 1) : Nat) : Int)) (b_addw _ _ _ (by rw [IntKind.wrap_i64]; omega) _) <| uK (.int .i64 (((i + 1) : Nat) : Int)) <| WL.nil <| ?_
       try simp only [pS]
       go_wp2
       go_roundw
       case rel => exact ⟨i + 1, J3, ⟨v1.ky, v1.g, v1.i, v1.p, v1.y, ⟨some ⟨gd, od + 25 * 9, none⟩, v1.d.l + 1 - 25, k1 - 25⟩, v1.a, v1.b⟩, by go_num, by omega, HF⟩
       case measure => simp [intOf]; omega
     ·skip
      clear hi
      refine step_run (i := 6) (o := { dst := some 32, op := Op.buildSlice 45 1 #[(0, Operand.tmp 31)], type := 45, pos := "outright.go:100", after := #[{ on := 5, ground := Ground.data }], guard := none }) rfl (by kernel_rfl) (exec_slice2 45 28 _ rfl (Cm.cells (dC' (decO s).1)) (.agg (Cm.cells (dC' (decO s).1))) (by kernel_rfl) (by kernel_rfl)) ((hH.alloc _)) (fun hH => ?_)
      try simp only [pS]
      have HF : Hid (Hg w (wk9.alloc (.cells (Cm.cells (dC' (decO s).1)) 28)) J J1 hb v1 pp ({ h with dec := (h.ps.take i).foldl Pax.lookC h.dec }) [(gk6, 28, Cm.cells (dC' (decO s).1)), (wk9.heap.size, 28, Cm.cells (dC' (decO s).1))] []) := HF.out.alloc _ _
      generalize wk9.alloc (.cells (Cm.cells (dC' (decO s).1)) 28) = wk15 at HF hH ⊢
      generalize wk9.heap.size = gk14 at HF ⊢
      refine xP 4 30 v1.d.v (w' := wk15) (exec_load 45 _ rfl ⟨hb, 8, none⟩ (by kernel_rfl) (v1.d.v) (load_one ((HF.out.hal.box).cell 8 |>.trans (by kernel_rfl)) U45 rfl)) hH (fun hH => ?_)
      try simp only [pS]
      obtain ⟨a1, k1, W2, J2, hap, hkD, hbD, hG⟩ := HF.out.pushD (c := (decO s).1) (ad := ⟨gk14, 0, none⟩) (cc := 1) (by omega) (fun j u hj => by rw [addr_add, Nat.zero_add, (HF.out.box 1 _ _ _ rfl).cell]; simpa [Cm.cells] using hj)
      have hkJ := HF.out.dj hkD
      have hap : (Builtin.append_ #[45, 45] 45 #[v1.d.v, .slice (some ⟨gk14, 0, none⟩) 1 1]).run Try.prog wk15 = .ok (.slice a1 (v1.d.l + 1) k1) W2 := hap
      refine xP 7 33 (.slice a1 (v1.d.l + 1) k1) (w' := W2) (exec_appN _ _ 45 45 rfl _ _ (by kernel_rfl) (by kernel_rfl) hap) ((HF.out.boxJ hkJ 0 rfl)) (fun hH => ?_)
      try simp only [pS]
      refine xV 8 34 (pV hb 0) hH <| xV 9 35 (pV hb 8) hH <| ?_
      try simp only [pS]
      refine xS 10 45 ⟨hb, 8, none⟩ (.slice a1 (v1.d.l + 1) k1) (w' := W2.setRow hb (Hv.cells ⟨v1.ky, v1.g, v1.i, v1.p, v1.y, ⟨a1, v1.d.l + 1, k1⟩, v1.a, v1.b⟩)) (rs (Hv.cs v1) ([.slice a1 (v1.d.l + 1) k1]) (Hv.cs ⟨v1.ky, v1.g, v1.i, v1.p, v1.y, ⟨a1, v1.d.l + 1, k1⟩, v1.a, v1.b⟩) (hbD) S45 (by simp [Value.oneCell', Sl.v])) ((hG.box 0 _ _ _ rfl)) (fun hH => ?_)
      try simp only [pS]
      have HF : Hid (Hg w (W2.setRow hb (Hv.cells ⟨v1.ky, v1.g, v1.i, v1.p, v1.y, ⟨a1, v1.d.l + 1, k1⟩, v1.a, v1.b⟩)) J J2 hb ⟨v1.ky, v1.g, v1.i, v1.p, v1.y, ⟨a1, v1.d.l + 1, k1⟩, v1.a, v1.b⟩ pp ({ h with dec := (h.ps.take i).foldl Pax.lookC h.dec ++ [(decO s).1] }) [(gk6, 28, Cm.cells (dC' (decO s).1)), (gk14, 28, Cm.cells (dC' (decO s).1))] []) := hG
      clear hG
      generalize W2.setRow hb (Hv.cells ⟨v1.ky, v1.g, v1.i, v1.p, v1.y, ⟨a1, v1.d.l + 1, k1⟩, v1.a, v1.b⟩) = wk16 at HF hH ⊢
      refine wpAnyH_done (by kernel_rfl) ?_ _
      try simp only [pS]
      clear hH
      have HF : Hid (Hg w wk16 J J2 hb ⟨v1.ky, v1.g, v1.i, v1.p, v1.y, ⟨a1, v1.d.l + 1, k1⟩, v1.a, v1.b⟩ pp { h with dec := (h.ps.take i).foldl Pax.lookC h.dec ++ [(decO s).1] } [] []) := Hg.front (l := []) HF.out
      by_cases hmany : v1.d.l + 1 ≤ 50
      ·skip
       go_upto_region 6 with fail
       refine WL.start <| uK (pV hb 0) <| uK (pV hb 0) <| uK (pV hb 8) <| uL 45 ⟨hb, 8, none⟩ (.slice a1 (v1.d.l + 1) k1) (load_one ((HF.out.hal.box).cell 8 |>.trans (by kernel_rfl)) U45 rfl) <| uK (.int .i64 (((v1.d.l + 1) : Nat) : Int)) <| uB .gtr 3 (.int .i64 (((v1.d.l + 1) : Nat) : Int)) (.int .i64 50) (.bool false) (by rw [b_gtr, decide_eq_false (by omega)]) <| WL.nil <| ?_
       try simp only [pS]
       have HF : Hid (Hg w wk16 J J2 hb ⟨v1.ky, v1.g, v1.i, v1.p, v1.y, ⟨a1, v1.d.l + 1, k1⟩, v1.a, v1.b⟩ pp { h with dec := (h.ps.take (i + 1)).foldl Pax.lookC h.dec } [] []) := by
        have e : { h with dec := (h.ps.take (i + 1)).foldl Pax.lookC h.dec } = { h with dec := (h.ps.take i).foldl Pax.lookC h.dec ++ [(decO s).1] } := by
         rw [hst, lookC_few hde (by omega)]
        rw [e]
        exact Hg.front (l := []) HF.out
       go_upto_region 2 with fail
       refine WL.start <| uK (.int .i64 ((i : Nat) : Int)) <| uB .add 3 (.int .i64 ((i : Nat) : Int)) (.int .i64 1) (.int .i64 (((i + 1) : Nat) : Int)) (b_addw _ _ _ (by rw [IntKind.wrap_i64]; omega) _) <| uK (.int .i64 (((i + 1) : Nat) : Int)) <| WL.nil <| ?_
       try simp only [pS]
       go_wp2
       go_roundw
       case rel => exact ⟨i + 1, J2, ⟨v1.ky, v1.g, v1.i, v1.p, v1.y, ⟨a1, v1.d.l + 1, k1⟩, v1.a, v1.b⟩, by go_num, by omega, HF⟩
       case measure => simp [intOf]; omega
      ·skip
       go_upto_region 6 with fail
       refine WL.start <| uK (pV hb 0) <| uK (pV hb 0) <| uK (pV hb 8) <| uL 45 ⟨hb, 8, none⟩ (.slice a1 (v1.d.l + 1) k1) (load_one ((HF.out.hal.box).cell 8 |>.trans (by kernel_rfl)) U45 rfl) <| uK (.int .i64 (((v1.d.l + 1) : Nat) : Int)) <| uB .gtr 3 (.int .i64 (((v1.d.l + 1) : Nat) : Int)) (.int .i64 50) (.bool true) (by rw [b_gtr, decide_eq_true (by omega)]) <| WL.nil <| ?_
       try simp only [pS]
       have hdk : v1.d.l + 1 ≤ k1 := HF.out.dk
       obtain ⟨gd, od, hgd⟩ := HF.out.rD (i := 0) (show 0 < v1.d.l + 1 by omega)
       have hgd : (a1 : Option Addr) = some ⟨gd, od, none⟩ := hgd
       go_upto_region 7 with fail
       refine WL.start <| uK (pV hb 0) <| uK (pV hb 0) <| uK (pV hb 0) <| uK (pV hb 8) <| uL 45 ⟨hb, 8, none⟩ (.slice a1 (v1.d.l + 1) k1) (load_one ((HF.out.hal.box).cell 8 |>.trans (by kernel_rfl)) U45 rfl) <| uW (.slice (some ⟨gd, od + 25 * 9, none⟩) (v1.d.l + 1 - 25) (k1 - 25)) ((exec_slL 45 _ _ rfl 9 E45 F45 (some ⟨gd, od, none⟩) (v1.d.l + 1) k1 25 (Eq.trans (b := .slice a1 (v1.d.l + 1) k1) (by kernel_rfl) (by rw [hgd])) (by kernel_rfl) (by omega)).trans (by rw [sliced_in _ _ _ _ _ _ (by omega)])) <| uK (pV hb 0) <| ?_
       try simp only [pS]
       refine uK (pV hb 8) ?_
       try simp only [pS]
       obtain ⟨J3, hG⟩ := HF.out.cutD (n := 25) (show 25 ≤ v1.d.l + 1 by omega) (show (a1 : Option Addr) = some ⟨gd, od, none⟩ from hgd)
       refine uT 45 ⟨hb, 8, none⟩ (.slice (some ⟨gd, od + 25 * 9, none⟩) (v1.d.l + 1 - 25) (k1 - 25)) (wk16.setRow hb (Hv.cells ⟨v1.ky, v1.g, v1.i, v1.p, v1.y, ⟨some ⟨gd, od + 25 * 9, none⟩, v1.d.l + 1 - 25, k1 - 25⟩, v1.a, v1.b⟩)) (rs (Hv.cs ⟨v1.ky, v1.g, v1.i, v1.p, v1.y, ⟨a1, v1.d.l + 1, k1⟩, v1.a, v1.b⟩) ([.slice (some ⟨gd, od + 25 * 9, none⟩) (v1.d.l + 1 - 25) (k1 - 25)]) (Hv.cs ⟨v1.ky, v1.g, v1.i, v1.p, v1.y, ⟨some ⟨gd, od + 25 * 9, none⟩, v1.d.l + 1 - 25, k1 - 25⟩, v1.a, v1.b⟩) (HF.out.hal.box) S45 (by simp [Value.oneCell', Sl.v])) ?_
       try simp only [pS]
       have HF : Hid (Hg w (wk16.setRow hb (Hv.cells ⟨v1.ky, v1.g, v1.i, v1.p, v1.y, ⟨some ⟨gd, od + 25 * 9, none⟩, v1.d.l + 1 - 25, k1 - 25⟩, v1.a, v1.b⟩)) J J3 hb ⟨v1.ky, v1.g, v1.i, v1.p, v1.y, ⟨some ⟨gd, od + 25 * 9, none⟩, v1.d.l + 1 - 25, k1 - 25⟩, v1.a, v1.b⟩ pp ({ h with dec := ((h.ps.take i).foldl Pax.lookC h.dec ++ [(decO s).1]).drop 25 }) [] []) := hG
       clear hG
       generalize wk16.setRow hb (Hv.cells ⟨v1.ky, v1.g, v1.i, v1.p, v1.y, ⟨some ⟨gd, od + 25 * 9, none⟩, v1.d.l + 1 - 25, k1 - 25⟩, v1.a, v1.b⟩) = wk17 at HF ⊢
       refine WL.nil ?_
       try simp only [pS]
       have HF : Hid (Hg w wk17 J J3 hb ⟨v1.ky, v1.g, v1.i, v1.p, v1.y, ⟨some ⟨gd, od + 25 * 9, none⟩, v1.d.l + 1 - 25, k1 - 25⟩, v1.a, v1.b⟩ pp { h with dec := (h.ps.take (i + 1)).foldl Pax.lookC h.dec } [] []) := by
        have e : { h with dec := (h.ps.take (i + 1)).foldl Pax.lookC h.dec } = { h with dec := ((h.ps.take i).foldl Pax.lookC h.dec ++ [(decO s).1]).drop 25 } := by
         rw [hst, lookC_many hde (by omega)]
        rw [e]
        exact Hg.front (l := []) HF.out
       go_upto_region 2 with fail
       refine WL.start <| uK (.int .i64 ((i : Nat) : Int)) <| uB .add 3 (.int .i64 ((i : Nat) : Int)) (.int .i64 1) (.int .i64 (((i + 1) : Nat) : Int)) (b_addw _ _ _ (by rw [IntKind.wrap_i64]; omega) _) <| uK (.int .i64 (((i + 1) : Nat) : Int)) <| WL.nil <| ?_
       try simp only [pS]
       go_wp2
       go_roundw
       case rel => exact ⟨i + 1, J3, ⟨v1.ky, v1.g, v1.i, v1.p, v1.y, ⟨some ⟨gd, od + 25 * 9, none⟩, v1.d.l + 1 - 25, k1 - 25⟩, v1.a, v1.b⟩, by go_num, by omega, HF⟩
       case measure => simp [intOf]; omega
  · skip
    go_upto_region 1 with fail
    refine WL.start <| uK (.int .i64 ((i : Nat) : Int)) <| uK (pV hb 0) <| uK (pV hb 0) <| uK (pV hb 6) <| uL 65 ⟨hb, 6, none⟩ (v1.p.v) (load_one ((HF.out.hal.box).cell 6 |>.trans (by kernel_rfl)) U65 rfl) <| uK (.int .i64 ((v1.p.l : Nat) : Int)) <| uB .lss 3 (.int .i64 ((i : Nat) : Int)) (.int .i64 ((v1.p.l : Nat) : Int)) (.bool false) (by rw [b_lss, decide_eq_false (by omega)]) <| WL.nil <| ?_
    try simp only [pS]
    go_wp2
    rw [HC.out]
    have e : Pax.lookH h = { h with dec := (h.ps.take i).foldl Pax.lookC h.dec } := by unfold Pax.lookH; rw [List.take_of_length_le (by omega)]
    rw [e]
    refine bodyPost_end (v := .tuple #[]) (by kernel_rfl) rfl ⟨rfl, HF.out.out⟩

end Go.Proofs.Ytpabpeppgpeaoaa.Md
