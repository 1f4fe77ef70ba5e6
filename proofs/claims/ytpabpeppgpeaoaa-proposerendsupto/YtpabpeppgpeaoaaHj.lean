import Derived.Test.YtpabpeppgpeaoaaHi
namespace Go.Proofs.Ytpabpeppgpeaoaa.Md
open Go.RowKit Gx
set_option linter.unusedVariables false
set_option linter.unusedSimpArgs false

theorem own_le {t : TypeId} {c : Nat} {w : World} {base : Nat} {a : Option Addr} {cap n : Nat} {vs : List Value} (h : Own t c w base a cap n vs) : n ≤ cap := by
 rcases h.2 with ⟨hv, hn⟩ | ⟨g, cap', cur, hv, _, _, hle, _⟩
 · simp only [Value.slice.injEq] at hv; omega
 · simp only [Value.slice.injEq] at hv; omega
theorem exec_slice0m {o : Oper} {a : Act} {w : World} (ho : o.op = .buildSlice 66 0 #[]) : (execOp a.eval o).run Try.prog w = .ok (.value (.slice (some ⟨w.heap.size, 0, none⟩) 0 0)) (w.alloc (.cells #[] 47)) := by
 simp only [execOp, ho, Array.map_empty, Sem.run_bind, show (Instr.buildSlice 66 0 #[]).run Try.prog w = .ok (.slice (some ⟨w.heap.size, 0, none⟩) 0 0) (w.alloc (.cells #[] 47)) by kernel_rfl, Result.andThen_ok, Sem.run_pure]
section
variable {w W : World} {J0 J : Nat → Prop} {hb : Nat} {v : Hv} {pp : List Nat} {h : Pax.Hl} {l : List (Nat × TypeId × Array Value)} {T : List (Sl × List Mg)}
/-- A message is taken out of what is under way. -/
theorem Hg.cut (H : Hg w W J0 J hb v pp h l T) (hn : v.y.l ≤ 4000000) {i g : Nat} (hi : i < v.y.l) (hg : v.y.a = some ⟨g, 0, none⟩) :
 ∃ ya a1 k1 W2 a2 k2 W3 J2, sliced (some ⟨g, 0, none⟩) (i + 1) v.y.l v.y.k 30 = .slice ya (v.y.l - (i + 1)) (v.y.k - (i + 1)) ∧
  (Builtin.append_ #[66, 66] 66 #[.slice (some ⟨W.heap.size, 0, none⟩) 0 0, .slice (some ⟨g, 0, none⟩) i v.y.k]).run Try.prog (W.alloc (.cells #[] 47)) = .ok (.slice a1 i k1) W2 ∧
  (Builtin.append_ #[66, 66] 66 #[.slice a1 i k1, .slice ya (v.y.l - (i + 1)) (v.y.k - (i + 1))]).run Try.prog W2 = .ok (.slice a2 (v.y.l - 1) k2) W3 ∧
  Box (W.alloc (.cells #[] 47)) hb 68 v.cells ∧ Box W2 hb 68 v.cells ∧ Box W3 hb 68 v.cells ∧
  Hg w (W3.setRow hb (Hv.cells ⟨v.ky, v.g, v.i, v.p, ⟨a2, v.y.l - 1, k2⟩, v.d, v.a, v.b⟩)) J0 J2 hb ⟨v.ky, v.g, v.i, v.p, ⟨a2, v.y.l - 1, k2⟩, v.d, v.a, v.b⟩ pp { h with way := h.way.take i ++ h.way.drop (i + 1) } l T := by
 have hk1 : Kept No W (W.alloc (.cells #[] 47)) := (Kept.refl No W).alloc _
 have hsz : (W.alloc (.cells #[] 47)).heap.size = W.heap.size + 1 := by simp
 have hb0 : Box (W.alloc (.cells #[] 47)) W.heap.size 47 #[] := Box.new _ _ _
 have hown : Own 47 30 (W.alloc (.cells #[] 47)) W.heap.size (some ⟨W.heap.size, 0, none⟩) 0 0 [] := ⟨rfl, .inr ⟨W.heap.size, 0, #[], rfl, Nat.le_refl _, hb0, Nat.le_refl _, by unfold maxLen; omega, rfl, rfl⟩⟩
 have hlen := H.hal.way.len
 have hyl : h.way.length = v.y.l := H.yl
 have hle := own_le H.hal.way.own
 have src : ∀ W', Kept No W W' → ∀ (j : Nat) u, (mgL (h.way.map dM))[j]? = some u → W'.cell? ⟨g, 0 + j, none⟩ = some u := fun W' hk j u hj => by
  have ho := (H.hal.way.no hk).own
  rw [hg] at ho
  have := World.ownsRow.cells ho (by rfl) j u hj
  rwa [addr_add] at this
 obtain ⟨ya, hya⟩ : ∃ ya, sliced (some ⟨g, 0, none⟩) (i + 1) v.y.l v.y.k 30 = .slice ya (v.y.l - (i + 1)) (v.y.k - (i + 1)) := ⟨_, rfl⟩
 have t1 : mgL (h.way.map dM) = mgL ((h.way.take i).map dM) ++ mgL ((h.way.drop i).map dM) := by rw [← mgL_app, ← List.map_append, List.take_append_drop]
 obtain ⟨a1, k1, W2, hr1, hO1, hkk, hat1⟩ := run_appN (w := W.alloc (.cells #[] 47)) 66 66 47 30 312 (.agg mgZ.cells) U66 I47 rfl (by omega) W.heap.size 0 0 (some ⟨W.heap.size, 0, none⟩) [] hown (some ⟨g, 0, none⟩) i v.y.k (mgL ((h.way.take i).map dM)) (by rw [mgL_len, List.length_map, List.length_take]; rw [Nat.min_eq_left (by omega)]) (fun e => by cases e) (fun j u hj => ⟨_, rfl, by
  rw [addr_add]
  exact src _ hk1 j u (by rw [t1, List.getElem?_append_left (List.getElem?_eq_some_iff.1 hj).1]; exact hj)⟩) (mgL_one _) (by omega) (by omega) (by omega)
 rw [Nat.zero_add, List.nil_append] at hO1
 rw [Nat.zero_add] at hr1
 have hk2 : Kept No W W2 := hk1.trans hkk (fun _ e => e) (fun k hk e => by obtain ⟨_, h, rfl⟩ := e; cases h; simp at hk)
 have t2 : mgL (h.way.map dM) = mgL ((h.way.take (i + 1)).map dM) ++ mgL ((h.way.drop (i + 1)).map dM) := by rw [← mgL_app, ← List.map_append, List.take_append_drop]
 have hl2 : (mgL ((h.way.take (i + 1)).map dM)).length = (i + 1) * 30 := by rw [mgL_len, List.length_map, List.length_take, Nat.min_eq_left (by omega)]
 have hsz2 := hkk.size
 obtain ⟨a2, k2, W3, hr2, hO2, hkk2, hat2⟩ := run_appN (w := W2) 66 66 47 30 312 (.agg mgZ.cells) U66 I47 rfl (by omega) W.heap.size i k1 a1 (mgL ((h.way.take i).map dM)) hO1 ya (v.y.l - (i + 1)) (v.y.k - (i + 1)) (mgL ((h.way.drop (i + 1)).map dM)) (by rw [mgL_len, List.length_map, List.length_drop, hyl]) (fun e => by
  unfold sliced at hya
  simp only [Value.slice.injEq, and_true] at hya
  rw [e] at hya
  split at hya
  · cases hya
  · simp at hya) (fun j u hj => by
  have hj' := (List.getElem?_eq_some_iff.1 hj).1
  rw [mgL_len, List.length_map, List.length_drop] at hj'
  have hne : ¬ v.y.k = i + 1 := by omega
  refine ⟨⟨g, 0 + (i + 1) * 30, none⟩, ?_, ?_⟩
  · unfold sliced at hya
    simp only [Value.slice.injEq, and_true] at hya
    rw [← hya, if_neg hne]
    simp [addr_add]
  · rw [addr_add, Nat.add_assoc]
    exact src _ hk2 _ u (by rw [t2, List.getElem?_append_right (by omega), hl2, Nat.add_sub_cancel_left]; exact hj)) (mgL_one _) (by omega) (by omega) (by omega)
 have en : i + (v.y.l - (i + 1)) = v.y.l - 1 := by omega
 rw [en] at hr2 hO2
 have hk3 : Kept No W W3 := hk2.trans hkk2 (fun _ e => e) (fun k hk e => by have := Own.base hO1 e; omega)
 have hO3 : OwM W3 0 ⟨a2, v.y.l - 1, k2⟩ ((h.way.take i ++ h.way.drop (i + 1)).map dM) := ⟨Own.lower (by rw [List.map_append, mgL_app]; exact hO2) (Nat.zero_le _), by simp only [List.map_append, List.length_append, List.length_map, List.length_take, List.length_drop]; omega⟩
 obtain ⟨b3, J2, hal, u⟩ := H.hal.setY (hk3.of_no) (y := ⟨a2, v.y.l - 1, k2⟩) (l := h.way.take i ++ h.way.drop (i + 1)) hO3 (fun k e => .inr (Own.base hO2 e))
 exact ⟨ya, a1, k1, W2, a2, k2, W3, J2, hya, hr1, hr2, H.hal.box.alloc _, (H.no hk2).hal.box, b3, H.upd hal u⟩
end
theorem act_0 {h : Pax.Hl} {r : Nat} {s : PS} (h8 : r % 8 = 0) (hs : h.ps[r / 8 % h.ps.length]? = some s) : Pax.actH h (r : Int) = Pax.lookH (Pax.playH h (r / 8 % h.ps.length) (begS s)) := by
 have e : ((r : Int) / 8 % (h.ps.length : Int)).toNat = r / 8 % h.ps.length := by
  rw [show ((r : Int) / 8 % (h.ps.length : Int)) = ((r / 8 % h.ps.length : Nat) : Int) by norm_cast]; exact Int.toNat_natCast _
 unfold Pax.actH Pax.pickH
 rw [if_pos (by omega), e, hs]
theorem act_1 {h : Pax.Hl} {r : Nat} {s : PS} (h8 : r % 8 = 1) (hs : h.ps[r / 8 % h.ps.length]? = some s) : Pax.actH h (r : Int) = Pax.lookH (Pax.playH h (r / 8 % h.ps.length) (tickS s)) := by
 have e : ((r : Int) / 8 % (h.ps.length : Int)).toNat = r / 8 % h.ps.length := by
  rw [show ((r : Int) / 8 % (h.ps.length : Int)) = ((r / 8 % h.ps.length : Nat) : Int) by norm_cast]; exact Int.toNat_natCast _
 unfold Pax.actH Pax.pickH
 rw [if_neg (by omega), if_pos (by omega), e, hs]
theorem act_n {h : Pax.Hl} {r : Nat} (h0 : ¬ r % 8 = 0) (h1 : ¬ r % 8 = 1) (hw : h.way.length = 0) : Pax.actH h (r : Int) = h := by
 unfold Pax.actH
 rw [if_neg (by omega), if_neg (by omega), List.getElem?_eq_none (by omega)]
theorem act_m {h : Pax.Hl} {r : Nat} {m : Ms} (h0 : ¬ r % 8 = 0) (h1 : ¬ r % 8 = 1) (hm : h.way[r / 8 % h.way.length]? = some m) : Pax.actH h (r : Int) = if r % 8 = 2 then { h with way := h.way ++ [m] } else if r % 8 = 3 then Pax.lookH { h with way := h.way.take (r / 8 % h.way.length) ++ h.way.drop (r / 8 % h.way.length + 1) } else Pax.lookH (Pax.deliverH { h with way := h.way.take (r / 8 % h.way.length) ++ h.way.drop (r / 8 % h.way.length + 1) } m) := by
 have e : ((r : Int) / 8 % (h.way.length : Int)).toNat = r / 8 % h.way.length := by
  rw [show ((r : Int) / 8 % (h.way.length : Int)) = ((r / 8 % h.way.length : Nat) : Int) by norm_cast]; exact Int.toNat_natCast _
 unfold Pax.actH
 rw [if_neg (by omega), if_neg (by omega), e, hm]
 simp only
 by_cases h2 : r % 8 = 2
 · rw [if_pos (by omega), if_pos h2]
 · rw [if_neg (by omega), if_neg h2]
   by_cases h3 : r % 8 = 3
   · rw [if_pos (by omega), if_pos h3]
   · rw [if_neg (by omega), if_neg h3]
set_option maxRecDepth 100000 in
set_option maxHeartbeats 4000000 in
theorem act_any (J : Nat → Prop) (hb : Nat) (v : Hv) (pp : List Nat) (h : Pax.Hl) (pick : Int) (w : World) (hH : Hal w J hb v pp h) (B : Nat) (hO : Pax.Hok B h) (hB : B + 1 ≤ 2000000) (hp0 : 0 < h.ps.length) : Calls Try.prog 16 #[.pointer (some ⟨hb, 0, none⟩), .int .i64 pick] w (HlO w J hb pp (Pax.actH h (pick % 1099511627776))) := by
 refine hideC fun C HC => ?_
 have HF : Hid (Hg w w J J hb v pp h [] []) := Hg.start hH
 clear hH
 have hpl := HF.out.pl
 have hyl := HF.out.yl
 have hwb := hO.way
 go_enter Try.func16, Try.ntmps16
 go_upto_region 0 with fail
 refine WL.start <| uK (.int .i64 pick) <| ?_
 try simp only [pS]
 refine uC 13 #[.int .i64 pick, .int .i64 1099511627776] (rnd_eq _ 1099511627776 _ (by decide) (by decide)) ?_
 rintro e wk1 ⟨r, hr, hrn, rfl, hwq⟩
 have hr : (r : Int) = pick % 1099511627776 := hr
 have HF : Hid (Hg w wk1 J J hb v pp h [] []) := by rw [hwq]; exact HF
 clear hwq
 refine ⟨.int .i64 ((r : Nat) : Int), rfl, ?_⟩
 try simp only [pS]
 refine uK (.int .i64 ((r : Nat) : Int)) <| WL.nil <| ?_
 try simp only [pS]
 go_upto_region 1 with fail
 refine WL.start <| uK (pV hb 0) <| uK (pV hb 0) <| uK (pV hb 6) <| uL 65 ⟨hb, 6, none⟩ (v.p.v) (load_one ((HF.out.hal.box).cell 6 |>.trans (by kernel_rfl)) U65 rfl) <| uK (.int .i64 ((v.p.l : Nat) : Int)) <| uK (.int .i64 ((v.p.l : Nat) : Int)) <| WL.nil <| ?_
 try simp only [pS]
 go_upto_region 2 with fail
 refine WL.start <| uK (.int .i64 ((r : Nat) : Int)) <| uB .rem 3 (.int .i64 ((r : Nat) : Int)) (.int .i64 8) (.int .i64 (((r % 8) : Nat) : Int)) (b_remN _ 8 _ rfl (by omega) _) <| WL.nil <| ?_
 try simp only [pS]
 by_cases h80 : r % 8 = 0
 ·skip
  go_upto_region 11 with fail
  refine WL.start <| uB .eql 3 (.int .i64 (((r % 8) : Nat) : Int)) (.int .i64 0) (.bool true) (by rw [b_eql, beq_iff_eq.2 (by omega)]) <| uK (.bool true) <| WL.nil <| ?_
  try simp only [pS]
  obtain ⟨s, hs⟩ : ∃ s, h.ps[((r / 8) % v.p.l)]? = some s := ⟨_, List.getElem?_eq_getElem (by rw [hpl]; exact Nat.mod_lt _ (by omega))⟩
  have hjl : ((r / 8) % v.p.l) < v.p.l := Nat.mod_lt _ (by omega)
  obtain ⟨gp, hgp⟩ := HF.out.rP hjl
  obtain ⟨k, Ij, hpk, hP, _⟩ := HF.out.ask hs
  have hpt := Pax.pl_beg (hO.pr s (List.mem_of_getElem? hs))
  go_upto_region 12 with fail
  refine wp_region_held_drew (S := fun w' => True) rfl trivial (fun hH => ?_)
  have HF : Hid (Hg w wk1.drew J J hb v pp h [] []) := HF.out.drew
  generalize wk1.drew = wk2 at HF hH ⊢
  refine xV 0 78 (pV hb 0) hH <| xV 1 79 (pV hb 0) hH <| xV 2 80 (pV hb 0) hH <| xV 3 81 (pV hb 6) hH <| xV 5 83 (.int .i64 ((r : Nat) : Int)) hH <| xB 6 84 .quo 3 (.int .i64 ((r : Nat) : Int)) (.int .i64 8) (.int .i64 (((r / 8) : Nat) : Int)) (fun _ _ => b_quoN _ 8 _ rfl (by omega) (by omega) _) hH <| ?_
  try simp only [pS]
  refine xV 7 85 (.int .i64 ((v.p.l : Nat) : Int)) hH <| xB 8 86 .rem 3 (.int .i64 (((r / 8) : Nat) : Int)) (.int .i64 ((v.p.l : Nat) : Int)) (.int .i64 ((((r / 8) % v.p.l) : Nat) : Int)) (fun _ _ => b_remN _ v.p.l _ rfl (by omega) _) hH <| ?_
  try simp only [pS]
  refine xP 4 82 v.p.v (w' := wk2) (exec_load 65 _ rfl ⟨hb, 6, none⟩ (by kernel_rfl) (v.p.v) (load_one ((HF.out.hal.box).cell 6 |>.trans (by kernel_rfl)) U65 rfl)) trivial (fun hH => ?_)
  try simp only [pS]
  refine xU 9 87 (.pointer (some ⟨gp, 0 + ((r / 8) % v.p.l) * 1, none⟩)) (fun w' hw => exec_ixA 65 1 E65 F65 _ _ rfl gp 0 v.p.l v.p.k ((r / 8) % v.p.l) (Eq.trans (b := v.p.v) (by kernel_rfl) (sl_v (s := v.p) hgp)) (by kernel_rfl) (by omega)) hH ?_
  try simp only [pS]
  refine xP 10 88 (pV k 0) (w' := wk2) (exec_load 31 _ rfl ⟨gp, 0 + ((r / 8) % v.p.l) * 1, none⟩ (by kernel_rfl) (pV k 0) (load_one (HF.out.cP hgp hpk) U31 rfl)) trivial (fun hH => ?_)
  try simp only [pS]
  obtain ⟨k2, I2, hpk2, hP2, hask⟩ := HF.out.ask hs
  cases Option.some.inj (hpk.symm.trans hpk2)
  refine xC 11 89 18 #[pV k 0] (begin_P hP2) ?_
  rintro e wk3 ho
  obtain ⟨la, lc, J2, rfl, hG⟩ := hask _ _ _ _ ho
  have HF : Hid (Hg w wk3 J J2 hb v pp ({ h with ps := h.ps.set ((r / 8) % v.p.l) (begS s).1 }) [] [(⟨la, (begS s).2.length, lc⟩, (begS s).2.map dM)]) := hG
  clear ho hG hask
  have hH2 : True := trivial
  refine ⟨.slice la (begS s).2.length lc, rfl, hH2, fun hH => ?_⟩
  clear hH2
  try simp only [pS]
  refine xC 12 90 46 #[pV hb 0, .slice la (begS s).2.length lc] (send_any J2 hb v pp _ ⟨la, (begS s).2.length, lc⟩ (begS s).2 _ HF.out.hal (HF.out.tl 0 _ rfl) (fun k e => HF.out.tj 0 _ k rfl e) (by show h.way.length ≤ 2000000; omega) (Nat.le_trans hpt.n (by decide))) ?_
  rintro e wk4 ho
  obtain ⟨J3, v3, rfl, hG⟩ := HF.out.hcall ho
  have HF : Hid (Hg w wk4 J J3 hb v3 pp (Pax.playH h ((r / 8) % v.p.l) (begS s)) [] []) := hG.pick (by simp)
  clear ho hG
  have hH2 : True := trivial
  refine ⟨.tuple #[], rfl, hH2, fun hH => ?_⟩
  clear hH2
  try simp only [pS]
  refine wpAnyH_done (by kernel_rfl) ?_ _
  try simp only [pS]
  clear hH
  go_upto_region 15 with fail
  refine WL.start <| uK (pV hb 0) <| ?_
  try simp only [pS]
  refine uC 20 #[pV hb 0] (look_any J3 hb v3 pp _ _ HF.out.hal ((hO.play ((r / 8) % v.p.l) hpt)).dec ((hO.play ((r / 8) % v.p.l) hpt)).ps) ?_
  rintro e wk5 ho
  obtain ⟨J9, v9, rfl, hG⟩ := HF.out.hcall ho
  have HF : Hid (Hg w wk5 J J9 hb v9 pp (Pax.lookH (Pax.playH h ((r / 8) % v.p.l) (begS s))) [] []) := hG
  clear ho hG
  refine ⟨.tuple #[], rfl, ?_⟩
  try simp only [pS]
  refine WL.nil ?_
  try simp only [pS]
  go_wp2
  rw [HC.out, ← hr]
  rw [act_0 h80 (by rw [hpl]; exact hs), hpl]
  refine bodyPost_end (v := .tuple #[]) (by kernel_rfl) rfl ⟨rfl, HF.out.out⟩
 ·skip
  by_cases h81 : r % 8 = 1
  ·skip
   go_upto_region 11 with fail
   refine WL.start <| uB .eql 3 (.int .i64 (((r % 8) : Nat) : Int)) (.int .i64 0) (.bool false) (by rw [b_eql, beq_eq_false_iff_ne.2 (by omega)]) <| uK (.bool false) <| WL.nil <| ?_
   try simp only [pS]
   go_upto_region 13 with fail
   refine WL.start <| uB .eql 3 (.int .i64 (((r % 8) : Nat) : Int)) (.int .i64 1) (.bool true) (by rw [b_eql, beq_iff_eq.2 (by omega)]) <| uK (.bool true) <| WL.nil <| ?_
   try simp only [pS]
   obtain ⟨s, hs⟩ : ∃ s, h.ps[((r / 8) % v.p.l)]? = some s := ⟨_, List.getElem?_eq_getElem (by rw [hpl]; exact Nat.mod_lt _ (by omega))⟩
   have hjl : ((r / 8) % v.p.l) < v.p.l := Nat.mod_lt _ (by omega)
   obtain ⟨gp, hgp⟩ := HF.out.rP hjl
   obtain ⟨k, Ij, hpk, hP, _⟩ := HF.out.ask hs
   have hpt := Pax.pl_tick (hO.pr s (List.mem_of_getElem? hs))
   go_upto_region 14 with fail
   refine wp_region_held_drew (S := fun w' => True) rfl trivial (fun hH => ?_)
   have HF : Hid (Hg w wk1.drew J J hb v pp h [] []) := HF.out.drew
   generalize wk1.drew = wk6 at HF hH ⊢
   refine xV 0 93 (pV hb 0) hH <| xV 1 94 (pV hb 0) hH <| xV 2 95 (pV hb 0) hH <| xV 3 96 (pV hb 6) hH <| xV 5 98 (.int .i64 ((r : Nat) : Int)) hH <| xB 6 99 .quo 3 (.int .i64 ((r : Nat) : Int)) (.int .i64 8) (.int .i64 (((r / 8) : Nat) : Int)) (fun _ _ => b_quoN _ 8 _ rfl (by omega) (by omega) _) hH <| ?_
   try simp only [pS]
   refine xV 7 100 (.int .i64 ((v.p.l : Nat) : Int)) hH <| xB 8 101 .rem 3 (.int .i64 (((r / 8) : Nat) : Int)) (.int .i64 ((v.p.l : Nat) : Int)) (.int .i64 ((((r / 8) % v.p.l) : Nat) : Int)) (fun _ _ => b_remN _ v.p.l _ rfl (by omega) _) hH <| ?_
   try simp only [pS]
   refine xP 4 97 v.p.v (w' := wk6) (exec_load 65 _ rfl ⟨hb, 6, none⟩ (by kernel_rfl) (v.p.v) (load_one ((HF.out.hal.box).cell 6 |>.trans (by kernel_rfl)) U65 rfl)) trivial (fun hH => ?_)
   try simp only [pS]
   refine xU 9 102 (.pointer (some ⟨gp, 0 + ((r / 8) % v.p.l) * 1, none⟩)) (fun w' hw => exec_ixA 65 1 E65 F65 _ _ rfl gp 0 v.p.l v.p.k ((r / 8) % v.p.l) (Eq.trans (b := v.p.v) (by kernel_rfl) (sl_v (s := v.p) hgp)) (by kernel_rfl) (by omega)) hH ?_
   try simp only [pS]
   refine xP 10 103 (pV k 0) (w' := wk6) (exec_load 31 _ rfl ⟨gp, 0 + ((r / 8) % v.p.l) * 1, none⟩ (by kernel_rfl) (pV k 0) (load_one (HF.out.cP hgp hpk) U31 rfl)) trivial (fun hH => ?_)
   try simp only [pS]
   obtain ⟨k2, I2, hpk2, hP2, hask⟩ := HF.out.ask hs
   cases Option.some.inj (hpk.symm.trans hpk2)
   refine xC 11 104 25 #[pV k 0] (tick_P hP2) ?_
   rintro e wk7 ho
   obtain ⟨la, lc, J2, rfl, hG⟩ := hask _ _ _ _ ho
   have HF : Hid (Hg w wk7 J J2 hb v pp ({ h with ps := h.ps.set ((r / 8) % v.p.l) (tickS s).1 }) [] [(⟨la, (tickS s).2.length, lc⟩, (tickS s).2.map dM)]) := hG
   clear ho hG hask
   have hH2 : True := trivial
   refine ⟨.slice la (tickS s).2.length lc, rfl, hH2, fun hH => ?_⟩
   clear hH2
   try simp only [pS]
   refine xC 12 105 46 #[pV hb 0, .slice la (tickS s).2.length lc] (send_any J2 hb v pp _ ⟨la, (tickS s).2.length, lc⟩ (tickS s).2 _ HF.out.hal (HF.out.tl 0 _ rfl) (fun k e => HF.out.tj 0 _ k rfl e) (by show h.way.length ≤ 2000000; omega) (Nat.le_trans hpt.n (by decide))) ?_
   rintro e wk8 ho
   obtain ⟨J3, v3, rfl, hG⟩ := HF.out.hcall ho
   have HF : Hid (Hg w wk8 J J3 hb v3 pp (Pax.playH h ((r / 8) % v.p.l) (tickS s)) [] []) := hG.pick (by simp)
   clear ho hG
   have hH2 : True := trivial
   refine ⟨.tuple #[], rfl, hH2, fun hH => ?_⟩
   clear hH2
   try simp only [pS]
   refine wpAnyH_done (by kernel_rfl) ?_ _
   try simp only [pS]
   clear hH
   go_upto_region 15 with fail
   refine WL.start <| uK (pV hb 0) <| ?_
   try simp only [pS]
   refine uC 20 #[pV hb 0] (look_any J3 hb v3 pp _ _ HF.out.hal ((hO.play ((r / 8) % v.p.l) hpt)).dec ((hO.play ((r / 8) % v.p.l) hpt)).ps) ?_
   rintro e wk9 ho
   obtain ⟨J9, v9, rfl, hG⟩ := HF.out.hcall ho
   have HF : Hid (Hg w wk9 J J9 hb v9 pp (Pax.lookH (Pax.playH h ((r / 8) % v.p.l) (tickS s))) [] []) := hG
   clear ho hG
   refine ⟨.tuple #[], rfl, ?_⟩
   try simp only [pS]
   refine WL.nil ?_
   try simp only [pS]
   go_wp2
   rw [HC.out, ← hr]
   rw [act_1 h81 (by rw [hpl]; exact hs), hpl]
   refine bodyPost_end (v := .tuple #[]) (by kernel_rfl) rfl ⟨rfl, HF.out.out⟩
  ·skip
   by_cases hy0 : v.y.l = 0
   ·skip
    go_upto_region 11 with fail
    refine WL.start <| uB .eql 3 (.int .i64 (((r % 8) : Nat) : Int)) (.int .i64 0) (.bool false) (by rw [b_eql, beq_eq_false_iff_ne.2 (by omega)]) <| uK (.bool false) <| WL.nil <| ?_
    try simp only [pS]
    go_upto_region 13 with fail
    refine WL.start <| uB .eql 3 (.int .i64 (((r % 8) : Nat) : Int)) (.int .i64 1) (.bool false) (by rw [b_eql, beq_eq_false_iff_ne.2 (by omega)]) <| uK (.bool false) <| WL.nil <| ?_
    try simp only [pS]
    go_upto_region 3 with fail
    refine WL.start <| uK (pV hb 0) <| uK (pV hb 0) <| uK (pV hb 7) <| uL 66 ⟨hb, 7, none⟩ (v.y.v) (load_one ((HF.out.hal.box).cell 7 |>.trans (by kernel_rfl)) U66 rfl) <| uK (.int .i64 ((v.y.l : Nat) : Int)) <| uB .eql 3 (.int .i64 ((v.y.l : Nat) : Int)) (.int .i64 0) (.bool true) (by rw [b_eql, beq_iff_eq.2 (by omega)]) <| WL.nil <| ?_
    try simp only [pS]
    go_wp2
    rw [HC.out, ← hr]
    rw [act_n h80 h81 (by omega)]
    refine bodyPost_ret (results_none rfl _ _ _) rfl ⟨rfl, HF.out.out⟩
   ·skip
    have hil : ((r / 8) % v.y.l) < v.y.l := Nat.mod_lt _ (by omega)
    obtain ⟨m, hm⟩ : ∃ m, h.way[((r / 8) % v.y.l)]? = some m := ⟨_, List.getElem?_eq_getElem (by omega)⟩
    obtain ⟨gy, hgy⟩ := HF.out.rY hil
    have hpm := hO.pl m (List.mem_of_getElem? hm)
    have hact := act_m h80 h81 (by rw [hyl]; exact hm)
    rw [hyl] at hact
    go_upto_region 11 with fail
    refine WL.start <| uB .eql 3 (.int .i64 (((r % 8) : Nat) : Int)) (.int .i64 0) (.bool false) (by rw [b_eql, beq_eq_false_iff_ne.2 (by omega)]) <| uK (.bool false) <| WL.nil <| ?_
    try simp only [pS]
    go_upto_region 13 with fail
    refine WL.start <| uB .eql 3 (.int .i64 (((r % 8) : Nat) : Int)) (.int .i64 1) (.bool false) (by rw [b_eql, beq_eq_false_iff_ne.2 (by omega)]) <| uK (.bool false) <| WL.nil <| ?_
    try simp only [pS]
    go_upto_region 3 with fail
    refine WL.start <| uK (pV hb 0) <| uK (pV hb 0) <| uK (pV hb 7) <| uL 66 ⟨hb, 7, none⟩ (v.y.v) (load_one ((HF.out.hal.box).cell 7 |>.trans (by kernel_rfl)) U66 rfl) <| uK (.int .i64 ((v.y.l : Nat) : Int)) <| uB .eql 3 (.int .i64 ((v.y.l : Nat) : Int)) (.int .i64 0) (.bool false) (by rw [b_eql, beq_eq_false_iff_ne.2 (by omega)]) <| WL.nil <| ?_
    try simp only [pS]
    go_upto_region 4 with fail
    refine WL.start <| uK (.int .i64 ((r : Nat) : Int)) <| uB .quo 3 (.int .i64 ((r : Nat) : Int)) (.int .i64 8) (.int .i64 (((r / 8) : Nat) : Int)) (b_quoN _ 8 _ rfl (by omega) (by omega) _) <| uK (pV hb 0) <| uK (pV hb 0) <| uK (pV hb 7) <| uL 66 ⟨hb, 7, none⟩ (v.y.v) (load_one ((HF.out.hal.box).cell 7 |>.trans (by kernel_rfl)) U66 rfl) <| uK (.int .i64 ((v.y.l : Nat) : Int)) <| ?_
    try simp only [pS]
    refine uB .rem 3 (.int .i64 (((r / 8) : Nat) : Int)) (.int .i64 ((v.y.l : Nat) : Int)) (.int .i64 ((((r / 8) % v.y.l) : Nat) : Int)) (b_remN _ v.y.l _ rfl (by omega) _) <| uK (.int .i64 ((((r / 8) % v.y.l) : Nat) : Int)) <| WL.nil <| ?_
    try simp only [pS]
    go_upto_region 5 with fail
    refine WL.start <| uK (pV hb 0) <| uK (pV hb 0) <| uK (pV hb 7) <| uL 66 ⟨hb, 7, none⟩ (v.y.v) (load_one ((HF.out.hal.box).cell 7 |>.trans (by kernel_rfl)) U66 rfl) <| uK (.int .i64 ((((r / 8) % v.y.l) : Nat) : Int)) <| uW (.pointer (some ⟨gy, 0 + ((r / 8) % v.y.l) * 30, none⟩)) (exec_ixA 66 30 E66 F66 _ _ rfl gy 0 v.y.l v.y.k ((r / 8) % v.y.l) (Eq.trans (b := v.y.v) (by kernel_rfl) (sl_v (s := v.y) hgy)) (by kernel_rfl) (by omega)) <| uL 47 ⟨gy, 0 + ((r / 8) % v.y.l) * 30, none⟩ (.agg (Mg.cells (dM m))) (ld_M (HF.out.cY hgy hm)) <| ?_
    try simp only [pS]
    refine uR (pV wk1.heap.size 0) (wk1.alloc (.cells (Mg.cells mgZ) 47)) (exec_alloc 47 rfl (Mg.cells mgZ) Z47) ?_
    try simp only [pS]
    have HF : Hid (Hg w (wk1.alloc (.cells (Mg.cells mgZ) 47)) J J hb v pp h [(wk1.heap.size, 47, Mg.cells mgZ)] []) := HF.out.alloc _ _
    generalize wk1.alloc (.cells (Mg.cells mgZ) 47) = wk11 at HF ⊢
    generalize wk1.heap.size = gk10 at HF ⊢
    refine uT 47 ⟨gk10, 0, none⟩ (.agg (Mg.cells (dM m))) (wk11.setRow gk10 (Mg.cells (dM m))) (rs (Mg.cs mgZ) (Mg.cs (dM m)) (Mg.cs (dM m)) (HF.out.box 0 _ _ _ rfl) S47 (Mg.oneL _)) ?_
    try simp only [pS]
    have HF : Hid (Hg w (wk11.setRow gk10 (Mg.cells (dM m))) J J hb v pp h [(gk10, 47, Mg.cells (dM m))] []) := HF.out.set 0 rfl _
    generalize wk11.setRow gk10 (Mg.cells (dM m)) = wk12 at HF ⊢
    refine WL.nil ?_
    try simp only [pS]
    by_cases h82 : r % 8 = 2
    ·skip
     go_upto_region 6 with fail
     refine WL.start <| uK (.int .i64 ((r : Nat) : Int)) <| uB .rem 3 (.int .i64 ((r : Nat) : Int)) (.int .i64 8) (.int .i64 (((r % 8) : Nat) : Int)) (b_remN _ 8 _ rfl (by omega) _) <| uB .eql 3 (.int .i64 (((r % 8) : Nat) : Int)) (.int .i64 2) (.bool true) (by rw [b_eql, beq_iff_eq.2 (by omega)]) <| WL.nil <| ?_
     try simp only [pS]
     go_upto_region 7 with fail
     refine wp_region_held_drew (S := fun w' => Box w' gk10 47 (Mg.cells (dM m))) rfl (HF.out.drew.box 0 _ _ _ rfl) (fun hH => ?_)
     have HF : Hid (Hg w wk12.drew J J hb v pp h [(gk10, 47, Mg.cells (dM m))] []) := HF.out.drew
     generalize wk12.drew = wk13 at HF hH ⊢
     refine xV 0 41 (pV hb 0) hH <| xV 1 42 (pV hb 0) hH <| xV 2 43 (pV hb 0) hH <| xV 3 44 (pV hb 7) hH <| xL 5 46 47 ⟨gk10, 0, none⟩ (.agg (Mg.cells (dM m))) (fun _ hw => run_load_part (cs := Mg.cs (dM m)) (sub := Mg.cs (dM m)) (hw) (Part.all _) U47 rfl S47) hH <| ?_
     try simp only [pS]
     refine any_pick (rs := [4, 6]) (by kernel_rfl) (by simp) ?_
     intro i hi
     rcases pick2 hi with rfl | rfl
     ·skip
      clear hi
      refine step_run (i := 4) (o := { dst := some 45, op := Op.load 66 (Operand.tmp 44), type := 66, pos := "outright.go:124", after := #[{ on := 3, ground := Ground.data }], guard := none }) (v := v.y.v) (w' := wk13) rfl (by kernel_rfl) (exec_load 66 _ rfl ⟨hb, 7, none⟩ (by kernel_rfl) (v.y.v) (load_one ((HF.out.hal.box).cell 7 |>.trans (by kernel_rfl)) U66 rfl)) hH (fun hH => ?_)
      try simp only [pS]
      refine any_step (i := 6) (o := { dst := some 47, op := Op.buildSlice 66 1 #[(0, Operand.tmp 46)], type := 66, pos := "outright.go:124", after := #[{ on := 5, ground := Ground.data }], guard := none }) rfl (by kernel_rfl) (by kernel_rfl) (exec_slice2 66 47 _ rfl (Mg.cells (dM m)) (.agg (Mg.cells (dM m))) (by kernel_rfl) (by kernel_rfl)) ((hH.alloc _)) (fun hH => ?_)
      try simp only [pS]
      have HF : Hid (Hg w (wk13.alloc (.cells (Mg.cells (dM m)) 47)) J J hb v pp h [(gk10, 47, Mg.cells (dM m)), (wk13.heap.size, 47, Mg.cells (dM m))] []) := HF.out.alloc _ _
      generalize wk13.alloc (.cells (Mg.cells (dM m)) 47) = wk15 at HF hH ⊢
      generalize wk13.heap.size = gk14 at HF ⊢
      obtain ⟨a1, k1, W2, J2, hap, hkY, hbY, hG⟩ := HF.out.push (m := m) (ad := ⟨gk14, 0, none⟩) (cc := 1) (by omega) (fun j u hj => by rw [addr_add, Nat.zero_add, (HF.out.box 1 _ _ _ rfl).cell]; simpa [Mg.cells] using hj)
      have hkJ := HF.out.yj hkY
      have hap : (Builtin.append_ #[66, 66] 66 #[v.y.v, .slice (some ⟨gk14, 0, none⟩) 1 1]).run Try.prog wk15 = .ok (.slice a1 (v.y.l + 1) k1) W2 := hap
      refine xP 7 48 (.slice a1 (v.y.l + 1) k1) (w' := W2) (exec_appN _ _ 66 66 rfl _ _ (by kernel_rfl) (by kernel_rfl) hap) ((HF.out.boxJ hkJ 0 rfl)) (fun hH => ?_)
      try simp only [pS]
      refine xV 8 49 (pV hb 0) hH <| xV 9 50 (pV hb 7) hH <| ?_
      try simp only [pS]
      refine xS 10 66 ⟨hb, 7, none⟩ (.slice a1 (v.y.l + 1) k1) (w' := W2.setRow hb (Hv.cells ⟨v.ky, v.g, v.i, v.p, ⟨a1, v.y.l + 1, k1⟩, v.d, v.a, v.b⟩)) (rs (Hv.cs v) ([.slice a1 (v.y.l + 1) k1]) (Hv.cs ⟨v.ky, v.g, v.i, v.p, ⟨a1, v.y.l + 1, k1⟩, v.d, v.a, v.b⟩) (hbY) S66 (by simp [Value.oneCell', Sl.v])) ((hG.box 0 _ _ _ rfl)) (fun hH => ?_)
      try simp only [pS]
      have HF : Hid (Hg w (W2.setRow hb (Hv.cells ⟨v.ky, v.g, v.i, v.p, ⟨a1, v.y.l + 1, k1⟩, v.d, v.a, v.b⟩)) J J2 hb ⟨v.ky, v.g, v.i, v.p, ⟨a1, v.y.l + 1, k1⟩, v.d, v.a, v.b⟩ pp ({ h with way := h.way ++ [m] }) [(gk10, 47, Mg.cells (dM m)), (gk14, 47, Mg.cells (dM m))] []) := hG
      try clear hG
      generalize W2.setRow hb (Hv.cells ⟨v.ky, v.g, v.i, v.p, ⟨a1, v.y.l + 1, k1⟩, v.d, v.a, v.b⟩) = wk16 at HF hH ⊢
      refine wpAnyH_done (by kernel_rfl) ?_ _
      try simp only [pS]
      clear hH
      go_wp2
      rw [HC.out, ← hr]
      rw [hact, if_pos h82]
      refine bodyPost_ret (results_none rfl _ _ _) rfl ⟨rfl, HF.out.out⟩
     ·skip
      clear hi
      refine step_run (i := 6) (o := { dst := some 47, op := Op.buildSlice 66 1 #[(0, Operand.tmp 46)], type := 66, pos := "outright.go:124", after := #[{ on := 5, ground := Ground.data }], guard := none }) rfl (by kernel_rfl) (exec_slice2 66 47 _ rfl (Mg.cells (dM m)) (.agg (Mg.cells (dM m))) (by kernel_rfl) (by kernel_rfl)) ((hH.alloc _)) (fun hH => ?_)
      try simp only [pS]
      have HF : Hid (Hg w (wk13.alloc (.cells (Mg.cells (dM m)) 47)) J J hb v pp h [(gk10, 47, Mg.cells (dM m)), (wk13.heap.size, 47, Mg.cells (dM m))] []) := HF.out.alloc _ _
      generalize wk13.alloc (.cells (Mg.cells (dM m)) 47) = wk18 at HF hH ⊢
      generalize wk13.heap.size = gk17 at HF ⊢
      refine xP 4 45 v.y.v (w' := wk18) (exec_load 66 _ rfl ⟨hb, 7, none⟩ (by kernel_rfl) (v.y.v) (load_one ((HF.out.hal.box).cell 7 |>.trans (by kernel_rfl)) U66 rfl)) hH (fun hH => ?_)
      try simp only [pS]
      obtain ⟨a1, k1, W2, J2, hap, hkY, hbY, hG⟩ := HF.out.push (m := m) (ad := ⟨gk17, 0, none⟩) (cc := 1) (by omega) (fun j u hj => by rw [addr_add, Nat.zero_add, (HF.out.box 1 _ _ _ rfl).cell]; simpa [Mg.cells] using hj)
      have hkJ := HF.out.yj hkY
      have hap : (Builtin.append_ #[66, 66] 66 #[v.y.v, .slice (some ⟨gk17, 0, none⟩) 1 1]).run Try.prog wk18 = .ok (.slice a1 (v.y.l + 1) k1) W2 := hap
      refine xP 7 48 (.slice a1 (v.y.l + 1) k1) (w' := W2) (exec_appN _ _ 66 66 rfl _ _ (by kernel_rfl) (by kernel_rfl) hap) ((HF.out.boxJ hkJ 0 rfl)) (fun hH => ?_)
      try simp only [pS]
      refine xV 8 49 (pV hb 0) hH <| xV 9 50 (pV hb 7) hH <| ?_
      try simp only [pS]
      refine xS 10 66 ⟨hb, 7, none⟩ (.slice a1 (v.y.l + 1) k1) (w' := W2.setRow hb (Hv.cells ⟨v.ky, v.g, v.i, v.p, ⟨a1, v.y.l + 1, k1⟩, v.d, v.a, v.b⟩)) (rs (Hv.cs v) ([.slice a1 (v.y.l + 1) k1]) (Hv.cs ⟨v.ky, v.g, v.i, v.p, ⟨a1, v.y.l + 1, k1⟩, v.d, v.a, v.b⟩) (hbY) S66 (by simp [Value.oneCell', Sl.v])) ((hG.box 0 _ _ _ rfl)) (fun hH => ?_)
      try simp only [pS]
      have HF : Hid (Hg w (W2.setRow hb (Hv.cells ⟨v.ky, v.g, v.i, v.p, ⟨a1, v.y.l + 1, k1⟩, v.d, v.a, v.b⟩)) J J2 hb ⟨v.ky, v.g, v.i, v.p, ⟨a1, v.y.l + 1, k1⟩, v.d, v.a, v.b⟩ pp ({ h with way := h.way ++ [m] }) [(gk10, 47, Mg.cells (dM m)), (gk17, 47, Mg.cells (dM m))] []) := hG
      try clear hG
      generalize W2.setRow hb (Hv.cells ⟨v.ky, v.g, v.i, v.p, ⟨a1, v.y.l + 1, k1⟩, v.d, v.a, v.b⟩) = wk19 at HF hH ⊢
      refine wpAnyH_done (by kernel_rfl) ?_ _
      try simp only [pS]
      clear hH
      go_wp2
      rw [HC.out, ← hr]
      rw [hact, if_pos h82]
      refine bodyPost_ret (results_none rfl _ _ _) rfl ⟨rfl, HF.out.out⟩
    ·skip
     go_upto_region 6 with fail
     refine WL.start <| uK (.int .i64 ((r : Nat) : Int)) <| uB .rem 3 (.int .i64 ((r : Nat) : Int)) (.int .i64 8) (.int .i64 (((r % 8) : Nat) : Int)) (b_remN _ 8 _ rfl (by omega) _) <| uB .eql 3 (.int .i64 (((r % 8) : Nat) : Int)) (.int .i64 2) (.bool false) (by rw [b_eql, beq_eq_false_iff_ne.2 (by omega)]) <| WL.nil <| ?_
     try simp only [pS]
     go_upto_region 8 with fail
     refine wp_region_held_drew (S := fun w' => True) rfl trivial (fun hH => ?_)
     have HF : Hid (Hg w wk12.drew J J hb v pp h [(gk10, 47, Mg.cells (dM m))] []) := HF.out.drew
     generalize wk12.drew = wk20 at HF hH ⊢
     obtain ⟨ya, a1, k1, W2, a2, k2, W3, J2, hya, hap1, hap2, hx1, hx2, hx3, hG⟩ := HF.out.cut (by omega) hil hgy
     refine @meet1 (fun Wc => Hid (Hg w Wc J J2 hb ⟨v.ky, v.g, v.i, v.p, ⟨a2, v.y.l - 1, k2⟩, v.d, v.a, v.b⟩ pp ({ h with way := h.way.take ((r / 8) % v.y.l) ++ h.way.drop (((r / 8) % v.y.l) + 1) }) [(gk10, 47, Mg.cells (dM m))] [])) ?GG _ ?hh ?tt
     case hh =>
      intro K
      refine xV 0 51 (pV hb 0) hH <| xV 2 53 (pV hb 0) hH <| xV 3 54 (pV hb 0) hH <| xV 4 55 (pV hb 7) hH <| xV 6 57 (.int .i64 ((((r / 8) % v.y.l) : Nat) : Int)) hH <| xV 9 60 (pV hb 0) hH <| ?_
      try simp only [pS]
      refine xV 10 61 (pV hb 0) hH <| xV 11 62 (pV hb 7) hH <| xV 13 64 (.int .i64 ((((r / 8) % v.y.l) : Nat) : Int)) hH <| xB 14 65 .add 3 (.int .i64 ((((r / 8) % v.y.l) : Nat) : Int)) (.int .i64 1) (.int .i64 (((((r / 8) % v.y.l) + 1) : Nat) : Int)) (fun _ _ => b_addw _ _ _ (by rw [IntKind.wrap_i64]; omega) _) hH <| ?_
      try simp only [pS]
      refine any_pick (rs := [1, 5, 12]) (by kernel_rfl) (by simp) ?_
      intro i hi
      rcases pick3 hi with rfl | rfl | rfl
      ·skip
       clear hi
       refine step_run (i := 1) (o := { dst := some 52, op := Op.buildSlice 66 0 #[], type := 66, pos := "outright.go:127", after := #[], guard := none }) (v := .slice (some ⟨wk20.heap.size, 0, none⟩) 0 0) (w' := (wk20.alloc (.cells #[] 47))) rfl (by kernel_rfl) (exec_slice0m rfl) trivial (fun hH => ?_)
       try simp only [pS]
       refine any_pick (rs := [5, 12]) (by kernel_rfl) (by simp) ?_
       intro i hi
       rcases pick2 hi with rfl | rfl
       ·skip
        clear hi
        refine step_run (i := 5) (o := { dst := some 56, op := Op.load 66 (Operand.tmp 55), type := 66, pos := "outright.go:127", after := #[{ on := 4, ground := Ground.data }], guard := none }) (v := v.y.v) (w' := (wk20.alloc (.cells #[] 47))) rfl (by kernel_rfl) (exec_load 66 _ rfl ⟨hb, 7, none⟩ (by kernel_rfl) (v.y.v) (load_one ((hx1).cell 7 |>.trans (by kernel_rfl)) U66 rfl)) trivial (fun hH => ?_)
        try simp only [pS]
        refine xU 7 58 (.slice (some ⟨gy, 0, none⟩) ((r / 8) % v.y.l) v.y.k) (fun w' hw => (exec_slH 66 _ _ rfl 30 E66 F66 (some ⟨gy, 0, none⟩) v.y.l v.y.k ((r / 8) % v.y.l) (Eq.trans (b := v.y.v) (by kernel_rfl) (sl_v (s := v.y) hgy)) (by kernel_rfl) (by have := own_le HF.out.hal.way.own; omega)).trans (by rw [sliced0 _ _ _ _ (by have := own_le HF.out.hal.way.own; omega)])) hH ?_
        try simp only [pS]
        refine any_pick (rs := [8, 12]) (by kernel_rfl) (by simp) ?_
        intro i hi
        rcases pick2 hi with rfl | rfl
        ·skip
         clear hi
         refine step_run (i := 8) (o := { dst := some 59, op := Op.call { callee := Callee.builtin Builtin.append, args := #[Operand.tmp 52, Operand.tmp 58], argTypes := #[66, 66] }, type := 66, pos := "outright.go:127", after := #[{ on := 1, ground := Ground.data }, { on := 7, ground := Ground.data }], guard := none }) (v := .slice a1 ((r / 8) % v.y.l) k1) (w' := W2) rfl (by kernel_rfl) (exec_appN _ _ 66 66 rfl _ _ (by kernel_rfl) (by kernel_rfl) hap1) trivial (fun hH => ?_)
         try simp only [pS]
         refine xP 12 63 v.y.v (w' := W2) (exec_load 66 _ rfl ⟨hb, 7, none⟩ (by kernel_rfl) (v.y.v) (load_one ((hx2).cell 7 |>.trans (by kernel_rfl)) U66 rfl)) trivial (fun hH => ?_)
         try simp only [pS]
         refine xU 15 66 (.slice ya (v.y.l - (((r / 8) % v.y.l) + 1)) (v.y.k - (((r / 8) % v.y.l) + 1))) (fun w' hw => (exec_slL 66 _ _ rfl 30 E66 F66 (some ⟨gy, 0, none⟩) v.y.l v.y.k (((r / 8) % v.y.l) + 1) (Eq.trans (b := v.y.v) (by kernel_rfl) (sl_v (s := v.y) hgy)) (by kernel_rfl) (by omega)).trans (by rw [hya])) hH ?_
         try simp only [pS]
         refine xP 16 67 (.slice a2 (v.y.l - 1) k2) (w' := W3) (exec_appN _ _ 66 66 rfl _ _ (by kernel_rfl) (by kernel_rfl) hap2) trivial (fun hH => ?_)
         try simp only [pS]
         refine xV 17 68 (pV hb 0) hH <| xV 18 69 (pV hb 7) hH <| ?_
         try simp only [pS]
         refine xS 19 66 ⟨hb, 7, none⟩ (.slice a2 (v.y.l - 1) k2) (w' := W3.setRow hb (Hv.cells ⟨v.ky, v.g, v.i, v.p, ⟨a2, v.y.l - 1, k2⟩, v.d, v.a, v.b⟩)) (rs (Hv.cs v) ([.slice a2 (v.y.l - 1) k2]) (Hv.cs ⟨v.ky, v.g, v.i, v.p, ⟨a2, v.y.l - 1, k2⟩, v.d, v.a, v.b⟩) (hx3) S66 (by simp [Value.oneCell', Sl.v])) (trivial) (fun hH => ?_)
         try simp only [pS]
         have HF : Hid (Hg w (W3.setRow hb (Hv.cells ⟨v.ky, v.g, v.i, v.p, ⟨a2, v.y.l - 1, k2⟩, v.d, v.a, v.b⟩)) J J2 hb ⟨v.ky, v.g, v.i, v.p, ⟨a2, v.y.l - 1, k2⟩, v.d, v.a, v.b⟩ pp ({ h with way := h.way.take ((r / 8) % v.y.l) ++ h.way.drop (((r / 8) % v.y.l) + 1) }) [(gk10, 47, Mg.cells (dM m))] []) := hG
         try clear hG
         generalize W3.setRow hb (Hv.cells ⟨v.ky, v.g, v.i, v.p, ⟨a2, v.y.l - 1, k2⟩, v.d, v.a, v.b⟩) = wk21 at HF hH ⊢
         refine wpAnyH_done (by kernel_rfl) ?_ _
         try simp only [pS]
         clear hH
         exact K _ HF
        ·skip
         clear hi
         refine step_run (i := 12) (o := { dst := some 63, op := Op.load 66 (Operand.tmp 62), type := 66, pos := "outright.go:127", after := #[{ on := 11, ground := Ground.data }], guard := none }) (v := v.y.v) (w' := (wk20.alloc (.cells #[] 47))) rfl (by kernel_rfl) (exec_load 66 _ rfl ⟨hb, 7, none⟩ (by kernel_rfl) (v.y.v) (load_one ((hx1).cell 7 |>.trans (by kernel_rfl)) U66 rfl)) trivial (fun hH => ?_)
         try simp only [pS]
         refine xU 15 66 (.slice ya (v.y.l - (((r / 8) % v.y.l) + 1)) (v.y.k - (((r / 8) % v.y.l) + 1))) (fun w' hw => (exec_slL 66 _ _ rfl 30 E66 F66 (some ⟨gy, 0, none⟩) v.y.l v.y.k (((r / 8) % v.y.l) + 1) (Eq.trans (b := v.y.v) (by kernel_rfl) (sl_v (s := v.y) hgy)) (by kernel_rfl) (by omega)).trans (by rw [hya])) hH ?_
         try simp only [pS]
         refine xP 8 59 (.slice a1 ((r / 8) % v.y.l) k1) (w' := W2) (exec_appN _ _ 66 66 rfl _ _ (by kernel_rfl) (by kernel_rfl) hap1) trivial (fun hH => ?_)
         try simp only [pS]
         refine xP 16 67 (.slice a2 (v.y.l - 1) k2) (w' := W3) (exec_appN _ _ 66 66 rfl _ _ (by kernel_rfl) (by kernel_rfl) hap2) trivial (fun hH => ?_)
         try simp only [pS]
         refine xV 17 68 (pV hb 0) hH <| xV 18 69 (pV hb 7) hH <| ?_
         try simp only [pS]
         refine xS 19 66 ⟨hb, 7, none⟩ (.slice a2 (v.y.l - 1) k2) (w' := W3.setRow hb (Hv.cells ⟨v.ky, v.g, v.i, v.p, ⟨a2, v.y.l - 1, k2⟩, v.d, v.a, v.b⟩)) (rs (Hv.cs v) ([.slice a2 (v.y.l - 1) k2]) (Hv.cs ⟨v.ky, v.g, v.i, v.p, ⟨a2, v.y.l - 1, k2⟩, v.d, v.a, v.b⟩) (hx3) S66 (by simp [Value.oneCell', Sl.v])) (trivial) (fun hH => ?_)
         try simp only [pS]
         have HF : Hid (Hg w (W3.setRow hb (Hv.cells ⟨v.ky, v.g, v.i, v.p, ⟨a2, v.y.l - 1, k2⟩, v.d, v.a, v.b⟩)) J J2 hb ⟨v.ky, v.g, v.i, v.p, ⟨a2, v.y.l - 1, k2⟩, v.d, v.a, v.b⟩ pp ({ h with way := h.way.take ((r / 8) % v.y.l) ++ h.way.drop (((r / 8) % v.y.l) + 1) }) [(gk10, 47, Mg.cells (dM m))] []) := hG
         try clear hG
         generalize W3.setRow hb (Hv.cells ⟨v.ky, v.g, v.i, v.p, ⟨a2, v.y.l - 1, k2⟩, v.d, v.a, v.b⟩) = wk22 at HF hH ⊢
         refine wpAnyH_done (by kernel_rfl) ?_ _
         try simp only [pS]
         clear hH
         exact K _ HF
       ·skip
        clear hi
        refine step_run (i := 12) (o := { dst := some 63, op := Op.load 66 (Operand.tmp 62), type := 66, pos := "outright.go:127", after := #[{ on := 11, ground := Ground.data }], guard := none }) (v := v.y.v) (w' := (wk20.alloc (.cells #[] 47))) rfl (by kernel_rfl) (exec_load 66 _ rfl ⟨hb, 7, none⟩ (by kernel_rfl) (v.y.v) (load_one ((hx1).cell 7 |>.trans (by kernel_rfl)) U66 rfl)) trivial (fun hH => ?_)
        try simp only [pS]
        refine xU 15 66 (.slice ya (v.y.l - (((r / 8) % v.y.l) + 1)) (v.y.k - (((r / 8) % v.y.l) + 1))) (fun w' hw => (exec_slL 66 _ _ rfl 30 E66 F66 (some ⟨gy, 0, none⟩) v.y.l v.y.k (((r / 8) % v.y.l) + 1) (Eq.trans (b := v.y.v) (by kernel_rfl) (sl_v (s := v.y) hgy)) (by kernel_rfl) (by omega)).trans (by rw [hya])) hH ?_
        try simp only [pS]
        refine xP 5 56 v.y.v (w' := (wk20.alloc (.cells #[] 47))) (exec_load 66 _ rfl ⟨hb, 7, none⟩ (by kernel_rfl) (v.y.v) (load_one ((hx1).cell 7 |>.trans (by kernel_rfl)) U66 rfl)) trivial (fun hH => ?_)
        try simp only [pS]
        refine xU 7 58 (.slice (some ⟨gy, 0, none⟩) ((r / 8) % v.y.l) v.y.k) (fun w' hw => (exec_slH 66 _ _ rfl 30 E66 F66 (some ⟨gy, 0, none⟩) v.y.l v.y.k ((r / 8) % v.y.l) (Eq.trans (b := v.y.v) (by kernel_rfl) (sl_v (s := v.y) hgy)) (by kernel_rfl) (by have := own_le HF.out.hal.way.own; omega)).trans (by rw [sliced0 _ _ _ _ (by have := own_le HF.out.hal.way.own; omega)])) hH ?_
        try simp only [pS]
        refine xP 8 59 (.slice a1 ((r / 8) % v.y.l) k1) (w' := W2) (exec_appN _ _ 66 66 rfl _ _ (by kernel_rfl) (by kernel_rfl) hap1) trivial (fun hH => ?_)
        try simp only [pS]
        refine xP 16 67 (.slice a2 (v.y.l - 1) k2) (w' := W3) (exec_appN _ _ 66 66 rfl _ _ (by kernel_rfl) (by kernel_rfl) hap2) trivial (fun hH => ?_)
        try simp only [pS]
        refine xV 17 68 (pV hb 0) hH <| xV 18 69 (pV hb 7) hH <| ?_
        try simp only [pS]
        refine xS 19 66 ⟨hb, 7, none⟩ (.slice a2 (v.y.l - 1) k2) (w' := W3.setRow hb (Hv.cells ⟨v.ky, v.g, v.i, v.p, ⟨a2, v.y.l - 1, k2⟩, v.d, v.a, v.b⟩)) (rs (Hv.cs v) ([.slice a2 (v.y.l - 1) k2]) (Hv.cs ⟨v.ky, v.g, v.i, v.p, ⟨a2, v.y.l - 1, k2⟩, v.d, v.a, v.b⟩) (hx3) S66 (by simp [Value.oneCell', Sl.v])) (trivial) (fun hH => ?_)
        try simp only [pS]
        have HF : Hid (Hg w (W3.setRow hb (Hv.cells ⟨v.ky, v.g, v.i, v.p, ⟨a2, v.y.l - 1, k2⟩, v.d, v.a, v.b⟩)) J J2 hb ⟨v.ky, v.g, v.i, v.p, ⟨a2, v.y.l - 1, k2⟩, v.d, v.a, v.b⟩ pp ({ h with way := h.way.take ((r / 8) % v.y.l) ++ h.way.drop (((r / 8) % v.y.l) + 1) }) [(gk10, 47, Mg.cells (dM m))] []) := hG
        try clear hG
        generalize W3.setRow hb (Hv.cells ⟨v.ky, v.g, v.i, v.p, ⟨a2, v.y.l - 1, k2⟩, v.d, v.a, v.b⟩) = wk23 at HF hH ⊢
        refine wpAnyH_done (by kernel_rfl) ?_ _
        try simp only [pS]
        clear hH
        exact K _ HF
      ·skip
       clear hi
       refine step_run (i := 5) (o := { dst := some 56, op := Op.load 66 (Operand.tmp 55), type := 66, pos := "outright.go:127", after := #[{ on := 4, ground := Ground.data }], guard := none }) (v := v.y.v) (w' := wk20) rfl (by kernel_rfl) (exec_load 66 _ rfl ⟨hb, 7, none⟩ (by kernel_rfl) (v.y.v) (load_one ((HF.out.hal.box).cell 7 |>.trans (by kernel_rfl)) U66 rfl)) trivial (fun hH => ?_)
       try simp only [pS]
       refine xU 7 58 (.slice (some ⟨gy, 0, none⟩) ((r / 8) % v.y.l) v.y.k) (fun w' hw => (exec_slH 66 _ _ rfl 30 E66 F66 (some ⟨gy, 0, none⟩) v.y.l v.y.k ((r / 8) % v.y.l) (Eq.trans (b := v.y.v) (by kernel_rfl) (sl_v (s := v.y) hgy)) (by kernel_rfl) (by have := own_le HF.out.hal.way.own; omega)).trans (by rw [sliced0 _ _ _ _ (by have := own_le HF.out.hal.way.own; omega)])) hH ?_
       try simp only [pS]
       refine any_pick (rs := [1, 12]) (by kernel_rfl) (by simp) ?_
       intro i hi
       rcases pick2 hi with rfl | rfl
       ·skip
        clear hi
        refine step_run (i := 1) (o := { dst := some 52, op := Op.buildSlice 66 0 #[], type := 66, pos := "outright.go:127", after := #[], guard := none }) (v := .slice (some ⟨wk20.heap.size, 0, none⟩) 0 0) (w' := (wk20.alloc (.cells #[] 47))) rfl (by kernel_rfl) (exec_slice0m rfl) trivial (fun hH => ?_)
        try simp only [pS]
        refine any_pick (rs := [8, 12]) (by kernel_rfl) (by simp) ?_
        intro i hi
        rcases pick2 hi with rfl | rfl
        ·skip
         clear hi
         refine step_run (i := 8) (o := { dst := some 59, op := Op.call { callee := Callee.builtin Builtin.append, args := #[Operand.tmp 52, Operand.tmp 58], argTypes := #[66, 66] }, type := 66, pos := "outright.go:127", after := #[{ on := 1, ground := Ground.data }, { on := 7, ground := Ground.data }], guard := none }) (v := .slice a1 ((r / 8) % v.y.l) k1) (w' := W2) rfl (by kernel_rfl) (exec_appN _ _ 66 66 rfl _ _ (by kernel_rfl) (by kernel_rfl) hap1) trivial (fun hH => ?_)
         try simp only [pS]
         refine xP 12 63 v.y.v (w' := W2) (exec_load 66 _ rfl ⟨hb, 7, none⟩ (by kernel_rfl) (v.y.v) (load_one ((hx2).cell 7 |>.trans (by kernel_rfl)) U66 rfl)) trivial (fun hH => ?_)
         try simp only [pS]
         refine xU 15 66 (.slice ya (v.y.l - (((r / 8) % v.y.l) + 1)) (v.y.k - (((r / 8) % v.y.l) + 1))) (fun w' hw => (exec_slL 66 _ _ rfl 30 E66 F66 (some ⟨gy, 0, none⟩) v.y.l v.y.k (((r / 8) % v.y.l) + 1) (Eq.trans (b := v.y.v) (by kernel_rfl) (sl_v (s := v.y) hgy)) (by kernel_rfl) (by omega)).trans (by rw [hya])) hH ?_
         try simp only [pS]
         refine xP 16 67 (.slice a2 (v.y.l - 1) k2) (w' := W3) (exec_appN _ _ 66 66 rfl _ _ (by kernel_rfl) (by kernel_rfl) hap2) trivial (fun hH => ?_)
         try simp only [pS]
         refine xV 17 68 (pV hb 0) hH <| xV 18 69 (pV hb 7) hH <| ?_
         try simp only [pS]
         refine xS 19 66 ⟨hb, 7, none⟩ (.slice a2 (v.y.l - 1) k2) (w' := W3.setRow hb (Hv.cells ⟨v.ky, v.g, v.i, v.p, ⟨a2, v.y.l - 1, k2⟩, v.d, v.a, v.b⟩)) (rs (Hv.cs v) ([.slice a2 (v.y.l - 1) k2]) (Hv.cs ⟨v.ky, v.g, v.i, v.p, ⟨a2, v.y.l - 1, k2⟩, v.d, v.a, v.b⟩) (hx3) S66 (by simp [Value.oneCell', Sl.v])) (trivial) (fun hH => ?_)
         try simp only [pS]
         have HF : Hid (Hg w (W3.setRow hb (Hv.cells ⟨v.ky, v.g, v.i, v.p, ⟨a2, v.y.l - 1, k2⟩, v.d, v.a, v.b⟩)) J J2 hb ⟨v.ky, v.g, v.i, v.p, ⟨a2, v.y.l - 1, k2⟩, v.d, v.a, v.b⟩ pp ({ h with way := h.way.take ((r / 8) % v.y.l) ++ h.way.drop (((r / 8) % v.y.l) + 1) }) [(gk10, 47, Mg.cells (dM m))] []) := hG
         try clear hG
         generalize W3.setRow hb (Hv.cells ⟨v.ky, v.g, v.i, v.p, ⟨a2, v.y.l - 1, k2⟩, v.d, v.a, v.b⟩) = wk24 at HF hH ⊢
         refine wpAnyH_done (by kernel_rfl) ?_ _
         try simp only [pS]
         clear hH
         exact K _ HF
        ·skip
         clear hi
         refine step_run (i := 12) (o := { dst := some 63, op := Op.load 66 (Operand.tmp 62), type := 66, pos := "outright.go:127", after := #[{ on := 11, ground := Ground.data }], guard := none }) (v := v.y.v) (w' := (wk20.alloc (.cells #[] 47))) rfl (by kernel_rfl) (exec_load 66 _ rfl ⟨hb, 7, none⟩ (by kernel_rfl) (v.y.v) (load_one ((hx1).cell 7 |>.trans (by kernel_rfl)) U66 rfl)) trivial (fun hH => ?_)
         try simp only [pS]
         refine xU 15 66 (.slice ya (v.y.l - (((r / 8) % v.y.l) + 1)) (v.y.k - (((r / 8) % v.y.l) + 1))) (fun w' hw => (exec_slL 66 _ _ rfl 30 E66 F66 (some ⟨gy, 0, none⟩) v.y.l v.y.k (((r / 8) % v.y.l) + 1) (Eq.trans (b := v.y.v) (by kernel_rfl) (sl_v (s := v.y) hgy)) (by kernel_rfl) (by omega)).trans (by rw [hya])) hH ?_
         try simp only [pS]
         refine xP 8 59 (.slice a1 ((r / 8) % v.y.l) k1) (w' := W2) (exec_appN _ _ 66 66 rfl _ _ (by kernel_rfl) (by kernel_rfl) hap1) trivial (fun hH => ?_)
         try simp only [pS]
         refine xP 16 67 (.slice a2 (v.y.l - 1) k2) (w' := W3) (exec_appN _ _ 66 66 rfl _ _ (by kernel_rfl) (by kernel_rfl) hap2) trivial (fun hH => ?_)
         try simp only [pS]
         refine xV 17 68 (pV hb 0) hH <| xV 18 69 (pV hb 7) hH <| ?_
         try simp only [pS]
         refine xS 19 66 ⟨hb, 7, none⟩ (.slice a2 (v.y.l - 1) k2) (w' := W3.setRow hb (Hv.cells ⟨v.ky, v.g, v.i, v.p, ⟨a2, v.y.l - 1, k2⟩, v.d, v.a, v.b⟩)) (rs (Hv.cs v) ([.slice a2 (v.y.l - 1) k2]) (Hv.cs ⟨v.ky, v.g, v.i, v.p, ⟨a2, v.y.l - 1, k2⟩, v.d, v.a, v.b⟩) (hx3) S66 (by simp [Value.oneCell', Sl.v])) (trivial) (fun hH => ?_)
         try simp only [pS]
         have HF : Hid (Hg w (W3.setRow hb (Hv.cells ⟨v.ky, v.g, v.i, v.p, ⟨a2, v.y.l - 1, k2⟩, v.d, v.a, v.b⟩)) J J2 hb ⟨v.ky, v.g, v.i, v.p, ⟨a2, v.y.l - 1, k2⟩, v.d, v.a, v.b⟩ pp ({ h with way := h.way.take ((r / 8) % v.y.l) ++ h.way.drop (((r / 8) % v.y.l) + 1) }) [(gk10, 47, Mg.cells (dM m))] []) := hG
         try clear hG
         generalize W3.setRow hb (Hv.cells ⟨v.ky, v.g, v.i, v.p, ⟨a2, v.y.l - 1, k2⟩, v.d, v.a, v.b⟩) = wk25 at HF hH ⊢
         refine wpAnyH_done (by kernel_rfl) ?_ _
         try simp only [pS]
         clear hH
         exact K _ HF
       ·skip
        clear hi
        refine step_run (i := 12) (o := { dst := some 63, op := Op.load 66 (Operand.tmp 62), type := 66, pos := "outright.go:127", after := #[{ on := 11, ground := Ground.data }], guard := none }) (v := v.y.v) (w' := wk20) rfl (by kernel_rfl) (exec_load 66 _ rfl ⟨hb, 7, none⟩ (by kernel_rfl) (v.y.v) (load_one ((HF.out.hal.box).cell 7 |>.trans (by kernel_rfl)) U66 rfl)) trivial (fun hH => ?_)
        try simp only [pS]
        refine xU 15 66 (.slice ya (v.y.l - (((r / 8) % v.y.l) + 1)) (v.y.k - (((r / 8) % v.y.l) + 1))) (fun w' hw => (exec_slL 66 _ _ rfl 30 E66 F66 (some ⟨gy, 0, none⟩) v.y.l v.y.k (((r / 8) % v.y.l) + 1) (Eq.trans (b := v.y.v) (by kernel_rfl) (sl_v (s := v.y) hgy)) (by kernel_rfl) (by omega)).trans (by rw [hya])) hH ?_
        try simp only [pS]
        refine xP 1 52 (.slice (some ⟨wk20.heap.size, 0, none⟩) 0 0) (w' := (wk20.alloc (.cells #[] 47))) (exec_slice0m rfl) trivial (fun hH => ?_)
        try simp only [pS]
        refine xP 8 59 (.slice a1 ((r / 8) % v.y.l) k1) (w' := W2) (exec_appN _ _ 66 66 rfl _ _ (by kernel_rfl) (by kernel_rfl) hap1) trivial (fun hH => ?_)
        try simp only [pS]
        refine xP 16 67 (.slice a2 (v.y.l - 1) k2) (w' := W3) (exec_appN _ _ 66 66 rfl _ _ (by kernel_rfl) (by kernel_rfl) hap2) trivial (fun hH => ?_)
        try simp only [pS]
        refine xV 17 68 (pV hb 0) hH <| xV 18 69 (pV hb 7) hH <| ?_
        try simp only [pS]
        refine xS 19 66 ⟨hb, 7, none⟩ (.slice a2 (v.y.l - 1) k2) (w' := W3.setRow hb (Hv.cells ⟨v.ky, v.g, v.i, v.p, ⟨a2, v.y.l - 1, k2⟩, v.d, v.a, v.b⟩)) (rs (Hv.cs v) ([.slice a2 (v.y.l - 1) k2]) (Hv.cs ⟨v.ky, v.g, v.i, v.p, ⟨a2, v.y.l - 1, k2⟩, v.d, v.a, v.b⟩) (hx3) S66 (by simp [Value.oneCell', Sl.v])) (trivial) (fun hH => ?_)
        try simp only [pS]
        have HF : Hid (Hg w (W3.setRow hb (Hv.cells ⟨v.ky, v.g, v.i, v.p, ⟨a2, v.y.l - 1, k2⟩, v.d, v.a, v.b⟩)) J J2 hb ⟨v.ky, v.g, v.i, v.p, ⟨a2, v.y.l - 1, k2⟩, v.d, v.a, v.b⟩ pp ({ h with way := h.way.take ((r / 8) % v.y.l) ++ h.way.drop (((r / 8) % v.y.l) + 1) }) [(gk10, 47, Mg.cells (dM m))] []) := hG
        try clear hG
        generalize W3.setRow hb (Hv.cells ⟨v.ky, v.g, v.i, v.p, ⟨a2, v.y.l - 1, k2⟩, v.d, v.a, v.b⟩) = wk26 at HF hH ⊢
        refine wpAnyH_done (by kernel_rfl) ?_ _
        try simp only [pS]
        clear hH
        exact K _ HF
      ·skip
       clear hi
       refine step_run (i := 12) (o := { dst := some 63, op := Op.load 66 (Operand.tmp 62), type := 66, pos := "outright.go:127", after := #[{ on := 11, ground := Ground.data }], guard := none }) (v := v.y.v) (w' := wk20) rfl (by kernel_rfl) (exec_load 66 _ rfl ⟨hb, 7, none⟩ (by kernel_rfl) (v.y.v) (load_one ((HF.out.hal.box).cell 7 |>.trans (by kernel_rfl)) U66 rfl)) trivial (fun hH => ?_)
       try simp only [pS]
       refine xU 15 66 (.slice ya (v.y.l - (((r / 8) % v.y.l) + 1)) (v.y.k - (((r / 8) % v.y.l) + 1))) (fun w' hw => (exec_slL 66 _ _ rfl 30 E66 F66 (some ⟨gy, 0, none⟩) v.y.l v.y.k (((r / 8) % v.y.l) + 1) (Eq.trans (b := v.y.v) (by kernel_rfl) (sl_v (s := v.y) hgy)) (by kernel_rfl) (by omega)).trans (by rw [hya])) hH ?_
       try simp only [pS]
       refine any_pick (rs := [1, 5]) (by kernel_rfl) (by simp) ?_
       intro i hi
       rcases pick2 hi with rfl | rfl
       ·skip
        clear hi
        refine step_run (i := 1) (o := { dst := some 52, op := Op.buildSlice 66 0 #[], type := 66, pos := "outright.go:127", after := #[], guard := none }) (v := .slice (some ⟨wk20.heap.size, 0, none⟩) 0 0) (w' := (wk20.alloc (.cells #[] 47))) rfl (by kernel_rfl) (exec_slice0m rfl) trivial (fun hH => ?_)
        try simp only [pS]
        refine xP 5 56 v.y.v (w' := (wk20.alloc (.cells #[] 47))) (exec_load 66 _ rfl ⟨hb, 7, none⟩ (by kernel_rfl) (v.y.v) (load_one ((hx1).cell 7 |>.trans (by kernel_rfl)) U66 rfl)) trivial (fun hH => ?_)
        try simp only [pS]
        refine xU 7 58 (.slice (some ⟨gy, 0, none⟩) ((r / 8) % v.y.l) v.y.k) (fun w' hw => (exec_slH 66 _ _ rfl 30 E66 F66 (some ⟨gy, 0, none⟩) v.y.l v.y.k ((r / 8) % v.y.l) (Eq.trans (b := v.y.v) (by kernel_rfl) (sl_v (s := v.y) hgy)) (by kernel_rfl) (by have := own_le HF.out.hal.way.own; omega)).trans (by rw [sliced0 _ _ _ _ (by have := own_le HF.out.hal.way.own; omega)])) hH ?_
        try simp only [pS]
        refine xP 8 59 (.slice a1 ((r / 8) % v.y.l) k1) (w' := W2) (exec_appN _ _ 66 66 rfl _ _ (by kernel_rfl) (by kernel_rfl) hap1) trivial (fun hH => ?_)
        try simp only [pS]
        refine xP 16 67 (.slice a2 (v.y.l - 1) k2) (w' := W3) (exec_appN _ _ 66 66 rfl _ _ (by kernel_rfl) (by kernel_rfl) hap2) trivial (fun hH => ?_)
        try simp only [pS]
        refine xV 17 68 (pV hb 0) hH <| xV 18 69 (pV hb 7) hH <| ?_
        try simp only [pS]
        refine xS 19 66 ⟨hb, 7, none⟩ (.slice a2 (v.y.l - 1) k2) (w' := W3.setRow hb (Hv.cells ⟨v.ky, v.g, v.i, v.p, ⟨a2, v.y.l - 1, k2⟩, v.d, v.a, v.b⟩)) (rs (Hv.cs v) ([.slice a2 (v.y.l - 1) k2]) (Hv.cs ⟨v.ky, v.g, v.i, v.p, ⟨a2, v.y.l - 1, k2⟩, v.d, v.a, v.b⟩) (hx3) S66 (by simp [Value.oneCell', Sl.v])) (trivial) (fun hH => ?_)
        try simp only [pS]
        have HF : Hid (Hg w (W3.setRow hb (Hv.cells ⟨v.ky, v.g, v.i, v.p, ⟨a2, v.y.l - 1, k2⟩, v.d, v.a, v.b⟩)) J J2 hb ⟨v.ky, v.g, v.i, v.p, ⟨a2, v.y.l - 1, k2⟩, v.d, v.a, v.b⟩ pp ({ h with way := h.way.take ((r / 8) % v.y.l) ++ h.way.drop (((r / 8) % v.y.l) + 1) }) [(gk10, 47, Mg.cells (dM m))] []) := hG
        try clear hG
        generalize W3.setRow hb (Hv.cells ⟨v.ky, v.g, v.i, v.p, ⟨a2, v.y.l - 1, k2⟩, v.d, v.a, v.b⟩) = wk27 at HF hH ⊢
        refine wpAnyH_done (by kernel_rfl) ?_ _
        try simp only [pS]
        clear hH
        exact K _ HF
       ·skip
        clear hi
        refine step_run (i := 5) (o := { dst := some 56, op := Op.load 66 (Operand.tmp 55), type := 66, pos := "outright.go:127", after := #[{ on := 4, ground := Ground.data }], guard := none }) (v := v.y.v) (w' := wk20) rfl (by kernel_rfl) (exec_load 66 _ rfl ⟨hb, 7, none⟩ (by kernel_rfl) (v.y.v) (load_one ((HF.out.hal.box).cell 7 |>.trans (by kernel_rfl)) U66 rfl)) trivial (fun hH => ?_)
        try simp only [pS]
        refine xU 7 58 (.slice (some ⟨gy, 0, none⟩) ((r / 8) % v.y.l) v.y.k) (fun w' hw => (exec_slH 66 _ _ rfl 30 E66 F66 (some ⟨gy, 0, none⟩) v.y.l v.y.k ((r / 8) % v.y.l) (Eq.trans (b := v.y.v) (by kernel_rfl) (sl_v (s := v.y) hgy)) (by kernel_rfl) (by have := own_le HF.out.hal.way.own; omega)).trans (by rw [sliced0 _ _ _ _ (by have := own_le HF.out.hal.way.own; omega)])) hH ?_
        try simp only [pS]
        refine xP 1 52 (.slice (some ⟨wk20.heap.size, 0, none⟩) 0 0) (w' := (wk20.alloc (.cells #[] 47))) (exec_slice0m rfl) trivial (fun hH => ?_)
        try simp only [pS]
        refine xP 8 59 (.slice a1 ((r / 8) % v.y.l) k1) (w' := W2) (exec_appN _ _ 66 66 rfl _ _ (by kernel_rfl) (by kernel_rfl) hap1) trivial (fun hH => ?_)
        try simp only [pS]
        refine xP 16 67 (.slice a2 (v.y.l - 1) k2) (w' := W3) (exec_appN _ _ 66 66 rfl _ _ (by kernel_rfl) (by kernel_rfl) hap2) trivial (fun hH => ?_)
        try simp only [pS]
        refine xV 17 68 (pV hb 0) hH <| xV 18 69 (pV hb 7) hH <| ?_
        try simp only [pS]
        refine xS 19 66 ⟨hb, 7, none⟩ (.slice a2 (v.y.l - 1) k2) (w' := W3.setRow hb (Hv.cells ⟨v.ky, v.g, v.i, v.p, ⟨a2, v.y.l - 1, k2⟩, v.d, v.a, v.b⟩)) (rs (Hv.cs v) ([.slice a2 (v.y.l - 1) k2]) (Hv.cs ⟨v.ky, v.g, v.i, v.p, ⟨a2, v.y.l - 1, k2⟩, v.d, v.a, v.b⟩) (hx3) S66 (by simp [Value.oneCell', Sl.v])) (trivial) (fun hH => ?_)
        try simp only [pS]
        have HF : Hid (Hg w (W3.setRow hb (Hv.cells ⟨v.ky, v.g, v.i, v.p, ⟨a2, v.y.l - 1, k2⟩, v.d, v.a, v.b⟩)) J J2 hb ⟨v.ky, v.g, v.i, v.p, ⟨a2, v.y.l - 1, k2⟩, v.d, v.a, v.b⟩ pp ({ h with way := h.way.take ((r / 8) % v.y.l) ++ h.way.drop (((r / 8) % v.y.l) + 1) }) [(gk10, 47, Mg.cells (dM m))] []) := hG
        try clear hG
        generalize W3.setRow hb (Hv.cells ⟨v.ky, v.g, v.i, v.p, ⟨a2, v.y.l - 1, k2⟩, v.d, v.a, v.b⟩) = wk28 at HF hH ⊢
        refine wpAnyH_done (by kernel_rfl) ?_ _
        try simp only [pS]
        clear hH
        exact K _ HF
     case tt =>
      intro Wc HF
      clear hH hap1 hap2 hx1 hx2 hx3 hG
      have hO2 : Pax.Hok (B + 1) { h with way := h.way.take ((r / 8) % v.y.l) ++ h.way.drop (((r / 8) % v.y.l) + 1) } := hO.gone (by have := hO.b; omega) (by rw [List.length_append, List.length_take, List.length_drop]; omega) (fun k hk => by rw [List.mem_append] at hk; exact hk.elim List.mem_of_mem_take List.mem_of_mem_drop)
      by_cases h83 : r % 8 = 3
      ·skip
       go_upto_region 9 with fail
       refine WL.start <| uK (.int .i64 ((r : Nat) : Int)) <| uB .rem 3 (.int .i64 ((r : Nat) : Int)) (.int .i64 8) (.int .i64 (((r % 8) : Nat) : Int)) (b_remN _ 8 _ rfl (by omega) _) <| uB .neq 3 (.int .i64 (((r % 8) : Nat) : Int)) (.int .i64 3) (.bool false) (by rw [b_neq, beq_iff_eq.2 (by omega)]; rfl) <| WL.nil <| ?_
       try simp only [pS]
       go_upto_region 15 with fail
       refine WL.start <| uK (pV hb 0) <| ?_
       try simp only [pS]
       refine uC 20 #[pV hb 0] (look_any J2 hb ⟨v.ky, v.g, v.i, v.p, ⟨a2, v.y.l - 1, k2⟩, v.d, v.a, v.b⟩ pp _ _ HF.out.hal (hO2).dec (hO2).ps) ?_
       rintro e wk29 ho
       obtain ⟨J9, v9, rfl, hG⟩ := HF.out.hcall ho
       have HF : Hid (Hg w wk29 J J9 hb v9 pp (Pax.lookH ({ h with way := h.way.take ((r / 8) % v.y.l) ++ h.way.drop (((r / 8) % v.y.l) + 1) })) [(gk10, 47, Mg.cells (dM m))] []) := hG
       clear ho hG
       refine ⟨.tuple #[], rfl, ?_⟩
       try simp only [pS]
       refine WL.nil ?_
       try simp only [pS]
       go_wp2
       rw [HC.out, ← hr]
       rw [hact, if_neg h82, if_pos h83]
       refine bodyPost_end (v := .tuple #[]) (by kernel_rfl) rfl ⟨rfl, HF.out.out⟩
      ·skip
       go_upto_region 9 with fail
       refine WL.start <| uK (.int .i64 ((r : Nat) : Int)) <| uB .rem 3 (.int .i64 ((r : Nat) : Int)) (.int .i64 8) (.int .i64 (((r % 8) : Nat) : Int)) (b_remN _ 8 _ rfl (by omega) _) <| uB .neq 3 (.int .i64 (((r % 8) : Nat) : Int)) (.int .i64 3) (.bool true) (by rw [b_neq, beq_eq_false_iff_ne.2 (by omega)]; rfl) <| WL.nil <| ?_
       try simp only [pS]
       go_upto_region 10 with fail
       refine WL.start <| uK (pV hb 0) <| uL 47 ⟨gk10, 0, none⟩ (.agg (Mg.cells (dM m))) (run_load_part (cs := Mg.cs (dM m)) (sub := Mg.cs (dM m)) (HF.out.box 0 _ _ _ rfl) (Part.all _) U47 rfl S47) <| ?_
       try simp only [pS]
       refine uC 47 #[pV hb 0, .agg (Mg.cells (dM m))] (deliver_any J2 hb ⟨v.ky, v.g, v.i, v.p, ⟨a2, v.y.l - 1, k2⟩, v.d, v.a, v.b⟩ pp _ m _ HF.out.hal (B + 1) hO2 hB hpm) ?_
       rintro e wk30 ho
       obtain ⟨J3, v3, rfl, hG⟩ := HF.out.hcall ho
       have HF : Hid (Hg w wk30 J J3 hb v3 pp (Pax.deliverH { h with way := h.way.take ((r / 8) % v.y.l) ++ h.way.drop (((r / 8) % v.y.l) + 1) } m) [(gk10, 47, Mg.cells (dM m))] []) := hG
       clear ho hG
       refine ⟨.tuple #[], rfl, ?_⟩
       try simp only [pS]
       refine WL.nil ?_
       try simp only [pS]
       go_upto_region 15 with fail
       refine WL.start <| uK (pV hb 0) <| ?_
       try simp only [pS]
       refine uC 20 #[pV hb 0] (look_any J3 hb v3 pp _ _ HF.out.hal ((hO2.deliver hpm)).dec ((hO2.deliver hpm)).ps) ?_
       rintro e wk31 ho
       obtain ⟨J9, v9, rfl, hG⟩ := HF.out.hcall ho
       have HF : Hid (Hg w wk31 J J9 hb v9 pp (Pax.lookH (Pax.deliverH { h with way := h.way.take ((r / 8) % v.y.l) ++ h.way.drop (((r / 8) % v.y.l) + 1) } m)) [(gk10, 47, Mg.cells (dM m))] []) := hG
       clear ho hG
       refine ⟨.tuple #[], rfl, ?_⟩
       try simp only [pS]
       refine WL.nil ?_
       try simp only [pS]
       go_wp2
       rw [HC.out, ← hr]
       rw [hact, if_neg h82, if_neg h83]
       refine bodyPost_end (v := .tuple #[]) (by kernel_rfl) rfl ⟨rfl, HF.out.out⟩

end Go.Proofs.Ytpabpeppgpeaoaa.Md
