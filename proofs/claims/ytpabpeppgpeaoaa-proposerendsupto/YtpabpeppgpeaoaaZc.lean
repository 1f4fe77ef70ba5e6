import Derived.Test.YtpabpeppgpeaoaaZb
namespace Go.Proofs.Ytpabpeppgpeaoaa
open Go.RowKit Gt
set_option linter.unusedVariables false
set_option linter.unusedSimpArgs false

theorem zero155 : (Try.prog.info? 155).bind (·.zero) = some (.agg #[.pointer none, .pointer none]) := by kernel_rfl
theorem Try.size155 : (Try.prog.info? 155).map (·.size) = some 2 := by kernel_rfl
theorem store_155 {w : World} {g q t : Nat} (h : Box w g 155 #[.pointer none, .pointer none]) : (storeVar 155 ⟨g, 0, none⟩ (.agg #[.pointer (some ⟨q, 0, none⟩), .pointer (some ⟨t, 0, none⟩)])).run Try.prog w = .ok () (w.setRow g #[.pointer (some ⟨q, 0, none⟩), .pointer (some ⟨t, 0, none⟩)]) :=
  run_storeVar_row w g 155 155 _ _ h Try.size155 rfl (by simp [Value.oneCell'])
theorem Try.und150 : Try.prog.underlying 150 = some (.pointer 170) := by kernel_rfl
theorem load_150 {w : World} {ad : Addr} {v : Value} (hc : w.cell? ad = some v) : (loadVar 150 ad).run Try.prog w = .ok v w := load_one hc Try.und150 rfl
theorem Ms.partH (m : Ms) : Part m.cs 13 [.int .i64 m.hd.n, .int .i64 m.hd.c] := fun j v h => by
  have hj := (List.getElem?_eq_some_iff.1 h).1
  match j, hj with
  | 0, _ => exact h
  | 1, _ => exact h
theorem load_hd {w : World} {g : Nat} {m : Ms} (hb : Box w g 47 m.cells) : (loadVar 39 ⟨g, 13, none⟩).run Try.prog w = .ok (.agg #[.int .i64 m.hd.n, .int .i64 m.hd.c]) w :=
  run_load_part hb (Ms.partH m) (by kernel_rfl : Try.prog.underlying 39 = some (.struct (Try.prog.fieldsOf 39))) rfl (by kernel_rfl)
theorem load_mc {w : World} {g : Nat} {m : Ms} (hb : Box w g 47 m.cells) : (loadVar 28 ⟨g, 16, none⟩).run Try.prog w = .ok (.agg m.c.cells) w := by
  have hp : Part m.cs 16 m.c.cs := by have := Ms.partC m []; rw [List.append_nil] at this; exact this
  exact run_load_part hb hp Try.und28 rfl Try.size28
/-- What a promise tells. -/
def msV (m : Ms) : Vt := ⟨m.hd.n, m.hd.c, m.c.k, m.c.cl, m.c.op, m.c.nm, m.c.f0, m.c.f1, m.c.g0, m.c.g1, m.c.sz⟩
set_option maxRecDepth 100000 in
set_option maxHeartbeats 4000000 in
theorem agreedP_kind (p q t : Nat) (v : Pv) (m : Ms) (ww : World) (h : Box ww p 94 v.cells) (hs : eqS m.st ⟨v.n, v.cl⟩ = true) (hph : v.ph = phPre q t) (hk : (m.k == 13) = false) : Calls Try.prog 58 #[.pointer (some ⟨p, 0, none⟩), .agg m.cells] ww (fun e w' => e = .returned (.slice none 0 0) ∧ Kept No ww w') := by
  refine hideC fun C HC => ?_
  have HPW : Hid (Box ww p 94 v.cells) := h
  have HS : Hid (eqS m.st ⟨v.n, v.cl⟩ = true) := hs
  have HPh : Hid (v.ph = phPre q t) := hph
  have HKd : Hid ((m.k == 13) = false) := hk
  clear h hs hph
  go_enter Try.func58, Try.ntmps58
  go_upto_region 0 with fail
  refine WL.start ?_
  refine uR (pV ww.heap.size 0) (ww.alloc (.cells m.cells 47)) (exec_box 47 _ rfl m.cells (by kernel_rfl)) ?_
  try simp only [pS]
  refine uK (.slice none 0 0) <| WL.nil <| ?_
  try simp only [pS]
  obtain ⟨w, hw⟩ : ∃ w, w = ww.alloc (.cells m.cells 47) := ⟨_, rfl⟩
  rw [← hw]
  have HK : Hid (Kept No ww w) := by rw [hw]; exact (Kept.refl No ww).alloc _
  have HP : Hid (Box w (p) 94 (v.cells)) := by rw [hw]; exact HPW.out.alloc _
  have H3 : Hid (Box w (ww.heap.size) 47 (m.cells)) := by rw [hw]; exact Box.new _ _ _
  obtain ⟨B3, hB3⟩ : ∃ B3, B3 = ww.heap.size := ⟨_, rfl⟩
  rw [← hB3] at H3 ⊢
  clear hw hB3 HPW
  go_upto_region 1 with fail
  refine wp_region_held_drew (S := fun w' => Box w' (p) 94 (v.cells) ∧ Box w' (B3) 47 (m.cells)) rfl ⟨HP.out, H3.out⟩ (fun hH => ?_)
  refine xV 0 8 (pV B3 11) hH <| xL 1 9 39 ⟨B3, 11, none⟩ (.agg #[.int .i64 m.st.n, .int .i64 m.st.c]) (fun _ hw => load_mS hw.2) hH <| xV 2 10 (pV p 0) hH <| xV 3 11 (pV p 0) hH <| xV 4 12 (pV p 17) hH <| xL 5 13 39 ⟨p, 17, none⟩ (.agg #[.int .i64 v.n, .int .i64 v.cl]) (fun _ hw => load_pB hw.1) hH <| ?_
  try simp only [pS]
  refine xB 6 14 .neq 39 (.agg #[.int .i64 m.st.n, .int .i64 m.st.c]) (.agg #[.int .i64 v.n, .int .i64 v.cl]) (.bool false) (fun _ _ => by rw [neqS m.st ⟨v.n, v.cl⟩, HS.out]; rfl) hH (hg := fun _ => guard_S _ (.inr rfl) _ _ _ _ _) ?_
  try simp only [pS]
  refine wpAnyH_done (by kernel_rfl) ?_ _
  try simp only [pS]
  clear hH
  obtain ⟨w1, hw1⟩ : ∃ w1, w1 = w.drew := ⟨_, rfl⟩
  have HP1 : Hid (Box w1 (p) 94 (v.cells)) := by rw [hw1]; exact HP.out
  have H31 : Hid (Box w1 (B3) 47 (m.cells)) := by rw [hw1]; exact H3.out
  have HK1 : Hid (Kept No ww w1) := by rw [hw1]; exact HK.out.drew
  rw [← hw1]
  clear hw1 HP H3 HK
  go_upto_region 3 with fail
  refine WL.start <| uK (pV B3 1) <| uK (pV B3 2) <| uL 3 ⟨B3, 2, none⟩ (.int .i64 m.fi) (load_N (H31.out.cell 2)) <| uK (.int .i64 m.fi) <| WL.nil <| ?_
  try simp only [pS]
  go_upto_region 4 with fail
  refine WL.start <| uK (pV p 0) <| uK (pV p 0) <| uK (pV p 21) <| uL 92 ⟨p, 21, none⟩ (phPre q t) (by rw [← HPh.out]; exact load_92 HP1.out) <| WL.nil <| ?_
  try simp only [pS]
  go_upto_region 5 with fail
  refine WL.start <| uK (.tuple #[.agg #[pV q 0, pV t 0], .bool true]) <| uK (.bool true) <| uK (.agg #[pV q 0, pV t 0]) <| WL.nil <| ?_
  try simp only [pS]
  go_upto_region 6 with fail
  refine WL.start ?_
  refine wp_allocW 155 rfl #[.pointer none, .pointer none] zero155 w1.heap.size rfl (by kernel_rfl) ?_
  try simp only [pS]
  obtain ⟨w2, hw2⟩ : ∃ w2, w2 = w1.alloc (.cells #[.pointer none, .pointer none] 155) := ⟨_, rfl⟩
  rw [← hw2]
  have H72 : Hid (Box w2 w1.heap.size 155 #[.pointer none, .pointer none]) := by rw [hw2]; exact Box.new _ _ _
  have HK12 : Hid (Kept No w1 w2) := by rw [hw2]; exact (Kept.refl No w1).alloc _
  obtain ⟨B7, hB7⟩ : ∃ B7, B7 = w1.heap.size := ⟨_, rfl⟩
  rw [← hB7] at H72 ⊢
  have HB7 : Hid (w1.heap.size ≤ B7) := by show _ ≤ _; omega
  clear hw2 hB7
  refine uT 155 ⟨B7, 0, none⟩ (.agg #[pV q 0, pV t 0]) _ (store_155 H72.out) ?_
  try simp only [pS]
  refine WL.nil ?_
  try simp only [pS]
  obtain ⟨w3, hw3⟩ : ∃ w3, w3 = w2.setRow B7 #[.pointer (some ⟨q, 0, none⟩), .pointer (some ⟨t, 0, none⟩)] := ⟨_, rfl⟩
  rw [← hw3]
  have H73 : Hid (Box w3 B7 155 #[.pointer (some ⟨q, 0, none⟩), .pointer (some ⟨t, 0, none⟩)]) := by rw [hw3]; exact H72.out.setRow _
  have HK13 : Hid (Kept No w1 w3) := by rw [hw3]; exact HK12.out.newRow HB7.out _
  have HK3 : Hid (Kept No ww w3) := HK1.out.then HK13.out
  have H33 : Hid (Box w3 (B3) 47 (m.cells)) := H31.out.kept HK13.out (fun e => e)
  clear hw3 H72 HK12 HK13 H31
  go_upto_region 7 with fail
  refine WL.start <| uK (pV B3 0) <| uL 3 ⟨B3, 0, none⟩ (.int .i64 m.k) (load_N (H33.out.cell 0)) <| uB .eql 3 (.int .i64 m.k) (.int .i64 13) (.bool false) (by rw [eqlN, HKd.out]) <| uK (.bool false) <| uZ <| uZ <| uZ <| ?_
  try simp only [pS]
  refine uZ <| uK (.bool false) <| uK (.bool false) <| uZ <| uZ <| uZ <| uZ <| uZ <| ?_
  try simp only [pS]
  refine uZ <| uZ <| uZ <| uZ <| uK (.bool false) <| WL.nil <| ?_
  try simp only [pS]
  go_wp2
  rw [HC.out]
  exact ⟨rfl, HK3.out⟩
set_option maxRecDepth 100000 in
set_option maxHeartbeats 4000000 in
theorem agreedP_heard (p q t : Nat) (v : Pv) (m : Ms) (h b cap tb tc : Nat) (a ta : Option Addr) (M : Ms) (rf : Bool) (x : TS Unit) (y : TS Vt) (ww : World) (hbp : Box ww p 94 v.cells) (hs : eqS m.st ⟨v.n, v.cl⟩ = true) (hph : v.ph = phPre q t) (hk : (m.k == 13) = true) (hq : Box ww q 111 (qcs M h rf).toArray) (hx : Tal 132 U.ans ww h b a cap x) (hy : Tal 170 Gt.V.ans ww t tb ta tc y) (hne : h ≠ t ∧ b ≠ tb) (hhr : decide (m.fi ∈ missL x) = false) : Calls Try.prog 58 #[.pointer (some ⟨p, 0, none⟩), .agg m.cells] ww (fun e w' => e = .returned (.slice none 0 0) ∧ Tal 132 U.ans w' h b a cap x ∧ Kept (Tb2 h b) ww w') := by
  refine hideC fun C HC => ?_
  have HPW : Hid (Box ww p 94 v.cells) := hbp
  have HS : Hid (eqS m.st ⟨v.n, v.cl⟩ = true) := hs
  have HPh : Hid (v.ph = phPre q t) := hph
  have HKd : Hid ((m.k == 13) = true) := hk
  have HQ : Hid (Box ww q 111 (qcs M h rf).toArray) := hq
  have HTx : Hid (Tal 132 U.ans ww h b a cap x) := hx
  have HTy : Hid (Tal 170 Gt.V.ans ww t tb ta tc y) := hy
  have HNe : Hid (h ≠ t ∧ b ≠ tb) := hne
  have HPW2 : Hid (Box ww p 94 v.cells) := hbp
  have HHr : Hid (decide (m.fi ∈ missL x) = false) := hhr
  clear hk hq hx hy hne hhr
  clear hbp hs hph
  go_enter Try.func58, Try.ntmps58
  go_upto_region 0 with fail
  refine WL.start ?_
  refine uR (pV ww.heap.size 0) (ww.alloc (.cells m.cells 47)) (exec_box 47 _ rfl m.cells (by kernel_rfl)) ?_
  try simp only [pS]
  refine uK (.slice none 0 0) <| WL.nil <| ?_
  try simp only [pS]
  obtain ⟨w, hw⟩ : ∃ w, w = ww.alloc (.cells m.cells 47) := ⟨_, rfl⟩
  rw [← hw]
  have HK : Hid (Kept No ww w) := by rw [hw]; exact (Kept.refl No ww).alloc _
  have HP : Hid (Box w (p) 94 (v.cells)) := by rw [hw]; exact HPW.out.alloc _
  have H3 : Hid (Box w (ww.heap.size) 47 (m.cells)) := by rw [hw]; exact Box.new _ _ _
  obtain ⟨B3, hB3⟩ : ∃ B3, B3 = ww.heap.size := ⟨_, rfl⟩
  rw [← hB3] at H3 ⊢
  clear hw hB3 HPW
  go_upto_region 1 with fail
  refine wp_region_held_drew (S := fun w' => Box w' (p) 94 (v.cells) ∧ Box w' (B3) 47 (m.cells)) rfl ⟨HP.out, H3.out⟩ (fun hH => ?_)
  refine xV 0 8 (pV B3 11) hH <| xL 1 9 39 ⟨B3, 11, none⟩ (.agg #[.int .i64 m.st.n, .int .i64 m.st.c]) (fun _ hw => load_mS hw.2) hH <| xV 2 10 (pV p 0) hH <| xV 3 11 (pV p 0) hH <| xV 4 12 (pV p 17) hH <| xL 5 13 39 ⟨p, 17, none⟩ (.agg #[.int .i64 v.n, .int .i64 v.cl]) (fun _ hw => load_pB hw.1) hH <| ?_
  try simp only [pS]
  refine xB 6 14 .neq 39 (.agg #[.int .i64 m.st.n, .int .i64 m.st.c]) (.agg #[.int .i64 v.n, .int .i64 v.cl]) (.bool false) (fun _ _ => by rw [neqS m.st ⟨v.n, v.cl⟩, HS.out]; rfl) hH (hg := fun _ => guard_S _ (.inr rfl) _ _ _ _ _) ?_
  try simp only [pS]
  refine wpAnyH_done (by kernel_rfl) ?_ _
  try simp only [pS]
  clear hH
  obtain ⟨w1, hw1⟩ : ∃ w1, w1 = w.drew := ⟨_, rfl⟩
  have HP1 : Hid (Box w1 (p) 94 (v.cells)) := by rw [hw1]; exact HP.out
  have H31 : Hid (Box w1 (B3) 47 (m.cells)) := by rw [hw1]; exact H3.out
  have HK1 : Hid (Kept No ww w1) := by rw [hw1]; exact HK.out.drew
  rw [← hw1]
  clear hw1 HP H3 HK
  go_upto_region 3 with fail
  refine WL.start <| uK (pV B3 1) <| uK (pV B3 2) <| uL 3 ⟨B3, 2, none⟩ (.int .i64 m.fi) (load_N (H31.out.cell 2)) <| uK (.int .i64 m.fi) <| WL.nil <| ?_
  try simp only [pS]
  go_upto_region 4 with fail
  refine WL.start <| uK (pV p 0) <| uK (pV p 0) <| uK (pV p 21) <| uL 92 ⟨p, 21, none⟩ (phPre q t) (by rw [← HPh.out]; exact load_92 HP1.out) <| WL.nil <| ?_
  try simp only [pS]
  go_upto_region 5 with fail
  refine WL.start <| uK (.tuple #[.agg #[pV q 0, pV t 0], .bool true]) <| uK (.bool true) <| uK (.agg #[pV q 0, pV t 0]) <| WL.nil <| ?_
  try simp only [pS]
  go_upto_region 6 with fail
  refine WL.start ?_
  refine wp_allocW 155 rfl #[.pointer none, .pointer none] zero155 w1.heap.size rfl (by kernel_rfl) ?_
  try simp only [pS]
  obtain ⟨w2, hw2⟩ : ∃ w2, w2 = w1.alloc (.cells #[.pointer none, .pointer none] 155) := ⟨_, rfl⟩
  rw [← hw2]
  have H72 : Hid (Box w2 w1.heap.size 155 #[.pointer none, .pointer none]) := by rw [hw2]; exact Box.new _ _ _
  have HK12 : Hid (Kept No w1 w2) := by rw [hw2]; exact (Kept.refl No w1).alloc _
  obtain ⟨B7, hB7⟩ : ∃ B7, B7 = w1.heap.size := ⟨_, rfl⟩
  rw [← hB7] at H72 ⊢
  have HB7 : Hid (w1.heap.size ≤ B7) := by show _ ≤ _; omega
  clear hw2 hB7
  refine uT 155 ⟨B7, 0, none⟩ (.agg #[pV q 0, pV t 0]) _ (store_155 H72.out) ?_
  try simp only [pS]
  refine WL.nil ?_
  try simp only [pS]
  obtain ⟨w3, hw3⟩ : ∃ w3, w3 = w2.setRow B7 #[.pointer (some ⟨q, 0, none⟩), .pointer (some ⟨t, 0, none⟩)] := ⟨_, rfl⟩
  rw [← hw3]
  have H73 : Hid (Box w3 B7 155 #[.pointer (some ⟨q, 0, none⟩), .pointer (some ⟨t, 0, none⟩)]) := by rw [hw3]; exact H72.out.setRow _
  have HK13 : Hid (Kept No w1 w3) := by rw [hw3]; exact HK12.out.newRow HB7.out _
  have HK3 : Hid (Kept No ww w3) := HK1.out.then HK13.out
  have H33 : Hid (Box w3 (B3) 47 (m.cells)) := H31.out.kept HK13.out (fun e => e)
  clear hw3 H72 HK12 HK13 H31
  go_upto_region 7 with fail
  refine WL.start <| uK (pV B3 0) <| uL 3 ⟨B3, 0, none⟩ (.int .i64 m.k) (load_N (H33.out.cell 0)) <| uB .eql 3 (.int .i64 m.k) (.int .i64 13) (.bool true) (by rw [eqlN, HKd.out]) <| uK (.bool true) <| uK (pV B7 0) <| uL 108 ⟨B7, 0, none⟩ (pV q 0) (load_108 (H73.out.cell 0)) <| uK (.int .i64 m.fi) <| ?_
  try simp only [pS]
  have HT3 : Hid (Tal 132 U.ans w3 h b a cap x) := HTx.out.no HK3.out
  have HY3 : Hid (Tal 170 Gt.V.ans w3 t tb ta tc y) := HTy.out.no HK3.out
  have HQ3 : Hid (Box w3 q 111 (qcs M h rf).toArray) := HQ.out.kept HK3.out (fun e => e)
  have HP3 : Hid (Box w3 p 94 v.cells) := HPW2.out.kept HK3.out (fun e => e)
  refine uC 57 #[pV q 0, .int .i64 m.fi] (hear_any q h b cap a M rf x m.fi w3 HQ3.out HT3.out) ?_
  rintro e w4 ⟨rfl, hT4, hk4⟩
  have HT4 : Hid (Tal 132 U.ans w4 h b a cap (hearS x m.fi)) := hT4
  have H74 : Hid (Box w4 B7 155 #[.pointer (some ⟨q, 0, none⟩), .pointer (some ⟨t, 0, none⟩)]) := H73.out.kept hk4 (tal_far2 HT3.out H73.out (by decide) (by decide))
  have HQ4 : Hid (Box w4 q 111 (qcs M h rf).toArray) := HQ3.out.kept hk4 (tal_far2 HT3.out HQ3.out (by decide) (by decide))
  have H34 : Hid (Box w4 (B3) 47 (m.cells)) := H33.out.kept hk4 (tal_far2 HT3.out H33.out (by decide) (by decide))
  have HP4 : Hid (Box w4 p 94 v.cells) := HP3.out.kept hk4 (tal_far2 HT3.out HP3.out (by decide) (by decide))
  have HY4 : Hid (Tal 170 Gt.V.ans w4 t tb ta tc y) := HY3.out.kept hk4 (fun k e => tal_apart HT3.out HY3.out HNe.out.1 HNe.out.2 e)
  have HK4 : Hid (Kept (Tb2 h b) ww w4) := (HK3.out.of_no : Kept (Tb2 h b) ww w3).then hk4
  refine ⟨.bool false, by rw [HHr.out], ?_⟩
  clear hT4 hk4 HT3 HY3 HQ3 HP3 H73
  try simp only [pS]
  refine uK (.bool false) <| uK (.bool false) <| uZ <| uZ <| uZ <| uZ <| uZ <| uZ <| ?_
  try simp only [pS]
  refine uZ <| uZ <| uZ <| uK (.bool false) <| WL.nil <| ?_
  try simp only [pS]
  go_wp2
  rw [HC.out]
  have ex : hearS x m.fi = x := by unfold hearS; rw [if_neg (of_decide_eq_false HHr.out)]
  have h4 := HT4.out
  rw [ex] at h4
  exact ⟨rfl, h4, HK4.out⟩
set_option maxRecDepth 100000 in
set_option maxHeartbeats 4000000 in
theorem agreedP_few (p q t : Nat) (v : Pv) (m : Ms) (h b cap tb tc : Nat) (a ta : Option Addr) (M : Ms) (rf : Bool) (x : TS Unit) (y : TS Vt) (ww : World) (hbp : Box ww p 94 v.cells) (hs : eqS m.st ⟨v.n, v.cl⟩ = true) (hph : v.ph = phPre q t) (hk : (m.k == 13) = true) (hq : Box ww q 111 (qcs M h rf).toArray) (hx : Tal 132 U.ans ww h b a cap x) (hy : Tal 170 Gt.V.ans ww t tb ta tc y) (hne : h ≠ t ∧ b ≠ tb) (hhr : decide (m.fi ∈ missL x) = true) (htk : takeB y m.fi = false) : Calls Try.prog 58 #[.pointer (some ⟨p, 0, none⟩), .agg m.cells] ww (fun e w' => e = .returned (.slice none 0 0) ∧ Tal 132 U.ans w' h b a cap (hearS x m.fi) ∧ Tal 170 Gt.V.ans w' t tb ta tc (takeS y m.fi (msV m)) ∧ Kept (fun k => Tb2 h b k ∨ Tb2 t tb k) ww w') := by
  refine hideC fun C HC => ?_
  have HPW : Hid (Box ww p 94 v.cells) := hbp
  have HS : Hid (eqS m.st ⟨v.n, v.cl⟩ = true) := hs
  have HPh : Hid (v.ph = phPre q t) := hph
  have HKd : Hid ((m.k == 13) = true) := hk
  have HQ : Hid (Box ww q 111 (qcs M h rf).toArray) := hq
  have HTx : Hid (Tal 132 U.ans ww h b a cap x) := hx
  have HTy : Hid (Tal 170 Gt.V.ans ww t tb ta tc y) := hy
  have HNe : Hid (h ≠ t ∧ b ≠ tb) := hne
  have HPW2 : Hid (Box ww p 94 v.cells) := hbp
  have HHr : Hid (decide (m.fi ∈ missL x) = true) := hhr
  clear hk hq hx hy hne hhr
  have HTk : Hid (takeB y m.fi = false) := htk
  clear htk
  clear hbp hs hph
  go_enter Try.func58, Try.ntmps58
  go_upto_region 0 with fail
  refine WL.start ?_
  refine uR (pV ww.heap.size 0) (ww.alloc (.cells m.cells 47)) (exec_box 47 _ rfl m.cells (by kernel_rfl)) ?_
  try simp only [pS]
  refine uK (.slice none 0 0) <| WL.nil <| ?_
  try simp only [pS]
  obtain ⟨w, hw⟩ : ∃ w, w = ww.alloc (.cells m.cells 47) := ⟨_, rfl⟩
  rw [← hw]
  have HK : Hid (Kept No ww w) := by rw [hw]; exact (Kept.refl No ww).alloc _
  have HP : Hid (Box w (p) 94 (v.cells)) := by rw [hw]; exact HPW.out.alloc _
  have H3 : Hid (Box w (ww.heap.size) 47 (m.cells)) := by rw [hw]; exact Box.new _ _ _
  obtain ⟨B3, hB3⟩ : ∃ B3, B3 = ww.heap.size := ⟨_, rfl⟩
  rw [← hB3] at H3 ⊢
  clear hw hB3 HPW
  go_upto_region 1 with fail
  refine wp_region_held_drew (S := fun w' => Box w' (p) 94 (v.cells) ∧ Box w' (B3) 47 (m.cells)) rfl ⟨HP.out, H3.out⟩ (fun hH => ?_)
  refine xV 0 8 (pV B3 11) hH <| xL 1 9 39 ⟨B3, 11, none⟩ (.agg #[.int .i64 m.st.n, .int .i64 m.st.c]) (fun _ hw => load_mS hw.2) hH <| xV 2 10 (pV p 0) hH <| xV 3 11 (pV p 0) hH <| xV 4 12 (pV p 17) hH <| xL 5 13 39 ⟨p, 17, none⟩ (.agg #[.int .i64 v.n, .int .i64 v.cl]) (fun _ hw => load_pB hw.1) hH <| ?_
  try simp only [pS]
  refine xB 6 14 .neq 39 (.agg #[.int .i64 m.st.n, .int .i64 m.st.c]) (.agg #[.int .i64 v.n, .int .i64 v.cl]) (.bool false) (fun _ _ => by rw [neqS m.st ⟨v.n, v.cl⟩, HS.out]; rfl) hH (hg := fun _ => guard_S _ (.inr rfl) _ _ _ _ _) ?_
  try simp only [pS]
  refine wpAnyH_done (by kernel_rfl) ?_ _
  try simp only [pS]
  clear hH
  obtain ⟨w1, hw1⟩ : ∃ w1, w1 = w.drew := ⟨_, rfl⟩
  have HP1 : Hid (Box w1 (p) 94 (v.cells)) := by rw [hw1]; exact HP.out
  have H31 : Hid (Box w1 (B3) 47 (m.cells)) := by rw [hw1]; exact H3.out
  have HK1 : Hid (Kept No ww w1) := by rw [hw1]; exact HK.out.drew
  rw [← hw1]
  clear hw1 HP H3 HK
  go_upto_region 3 with fail
  refine WL.start <| uK (pV B3 1) <| uK (pV B3 2) <| uL 3 ⟨B3, 2, none⟩ (.int .i64 m.fi) (load_N (H31.out.cell 2)) <| uK (.int .i64 m.fi) <| WL.nil <| ?_
  try simp only [pS]
  go_upto_region 4 with fail
  refine WL.start <| uK (pV p 0) <| uK (pV p 0) <| uK (pV p 21) <| uL 92 ⟨p, 21, none⟩ (phPre q t) (by rw [← HPh.out]; exact load_92 HP1.out) <| WL.nil <| ?_
  try simp only [pS]
  go_upto_region 5 with fail
  refine WL.start <| uK (.tuple #[.agg #[pV q 0, pV t 0], .bool true]) <| uK (.bool true) <| uK (.agg #[pV q 0, pV t 0]) <| WL.nil <| ?_
  try simp only [pS]
  go_upto_region 6 with fail
  refine WL.start ?_
  refine wp_allocW 155 rfl #[.pointer none, .pointer none] zero155 w1.heap.size rfl (by kernel_rfl) ?_
  try simp only [pS]
  obtain ⟨w2, hw2⟩ : ∃ w2, w2 = w1.alloc (.cells #[.pointer none, .pointer none] 155) := ⟨_, rfl⟩
  rw [← hw2]
  have H72 : Hid (Box w2 w1.heap.size 155 #[.pointer none, .pointer none]) := by rw [hw2]; exact Box.new _ _ _
  have HK12 : Hid (Kept No w1 w2) := by rw [hw2]; exact (Kept.refl No w1).alloc _
  obtain ⟨B7, hB7⟩ : ∃ B7, B7 = w1.heap.size := ⟨_, rfl⟩
  rw [← hB7] at H72 ⊢
  have HB7 : Hid (w1.heap.size ≤ B7) := by show _ ≤ _; omega
  clear hw2 hB7
  refine uT 155 ⟨B7, 0, none⟩ (.agg #[pV q 0, pV t 0]) _ (store_155 H72.out) ?_
  try simp only [pS]
  refine WL.nil ?_
  try simp only [pS]
  obtain ⟨w3, hw3⟩ : ∃ w3, w3 = w2.setRow B7 #[.pointer (some ⟨q, 0, none⟩), .pointer (some ⟨t, 0, none⟩)] := ⟨_, rfl⟩
  rw [← hw3]
  have H73 : Hid (Box w3 B7 155 #[.pointer (some ⟨q, 0, none⟩), .pointer (some ⟨t, 0, none⟩)]) := by rw [hw3]; exact H72.out.setRow _
  have HK13 : Hid (Kept No w1 w3) := by rw [hw3]; exact HK12.out.newRow HB7.out _
  have HK3 : Hid (Kept No ww w3) := HK1.out.then HK13.out
  have H33 : Hid (Box w3 (B3) 47 (m.cells)) := H31.out.kept HK13.out (fun e => e)
  clear hw3 H72 HK12 HK13 H31
  go_upto_region 7 with fail
  refine WL.start <| uK (pV B3 0) <| uL 3 ⟨B3, 0, none⟩ (.int .i64 m.k) (load_N (H33.out.cell 0)) <| uB .eql 3 (.int .i64 m.k) (.int .i64 13) (.bool true) (by rw [eqlN, HKd.out]) <| uK (.bool true) <| uK (pV B7 0) <| uL 108 ⟨B7, 0, none⟩ (pV q 0) (load_108 (H73.out.cell 0)) <| uK (.int .i64 m.fi) <| ?_
  try simp only [pS]
  have HT3 : Hid (Tal 132 U.ans w3 h b a cap x) := HTx.out.no HK3.out
  have HY3 : Hid (Tal 170 Gt.V.ans w3 t tb ta tc y) := HTy.out.no HK3.out
  have HQ3 : Hid (Box w3 q 111 (qcs M h rf).toArray) := HQ.out.kept HK3.out (fun e => e)
  have HP3 : Hid (Box w3 p 94 v.cells) := HPW2.out.kept HK3.out (fun e => e)
  refine uC 57 #[pV q 0, .int .i64 m.fi] (hear_any q h b cap a M rf x m.fi w3 HQ3.out HT3.out) ?_
  rintro e w4 ⟨rfl, hT4, hk4⟩
  have HT4 : Hid (Tal 132 U.ans w4 h b a cap (hearS x m.fi)) := hT4
  have H74 : Hid (Box w4 B7 155 #[.pointer (some ⟨q, 0, none⟩), .pointer (some ⟨t, 0, none⟩)]) := H73.out.kept hk4 (tal_far2 HT3.out H73.out (by decide) (by decide))
  have HQ4 : Hid (Box w4 q 111 (qcs M h rf).toArray) := HQ3.out.kept hk4 (tal_far2 HT3.out HQ3.out (by decide) (by decide))
  have H34 : Hid (Box w4 (B3) 47 (m.cells)) := H33.out.kept hk4 (tal_far2 HT3.out H33.out (by decide) (by decide))
  have HP4 : Hid (Box w4 p 94 v.cells) := HP3.out.kept hk4 (tal_far2 HT3.out HP3.out (by decide) (by decide))
  have HY4 : Hid (Tal 170 Gt.V.ans w4 t tb ta tc y) := HY3.out.kept hk4 (fun k e => tal_apart HT3.out HY3.out HNe.out.1 HNe.out.2 e)
  have HK4 : Hid (Kept (Tb2 h b) ww w4) := (HK3.out.of_no : Kept (Tb2 h b) ww w3).then hk4
  refine ⟨.bool true, by rw [HHr.out], ?_⟩
  clear hT4 hk4 HT3 HY3 HQ3 HP3 H73
  try simp only [pS]
  refine uK (.bool true) <| uK (.bool true) <| uK (pV B7 1) <| uL 150 ⟨B7, 1, none⟩ (pV t 0) (load_150 (H74.out.cell 1)) <| uK (.int .i64 m.fi) <| uK (pV B3 13) <| uL 39 ⟨B3, 13, none⟩ (.agg #[.int .i64 m.hd.n, .int .i64 m.hd.c]) (load_hd H34.out) <| uK (pV B3 16) <| ?_
  try simp only [pS]
  refine uL 28 ⟨B3, 16, none⟩ (.agg m.c.cells) (load_mc H34.out) <| uW (.agg #[.int .i64 m.hd.n, .int .i64 m.hd.c, .int .i64 m.c.k, .int .i64 m.c.cl, .int .i64 m.c.op, .string m.c.nm, .int .i64 m.c.f0, .int .i64 m.c.f1, .int .i64 m.c.g0, .int .i64 m.c.g1, .int .i64 m.c.sz]) (exec_build 153 _ rfl (#[.int .i64 m.hd.n, .int .i64 m.hd.c, .int .i64 m.c.k, .int .i64 m.c.cl, .int .i64 m.c.op, .string m.c.nm, .int .i64 m.c.f0, .int .i64 m.c.f1, .int .i64 m.c.g0, .int .i64 m.c.g1, .int .i64 m.c.sz]) (by kernel_rfl)) <| ?_
  try simp only [pS]
  refine uC 80 #[pV t 0, .int .i64 m.fi, .agg #[.int .i64 m.hd.n, .int .i64 m.hd.c, .int .i64 m.c.k, .int .i64 m.c.cl, .int .i64 m.c.op, .string m.c.nm, .int .i64 m.c.f0, .int .i64 m.c.f1, .int .i64 m.c.g0, .int .i64 m.c.g1, .int .i64 m.c.sz]] (V.take_any t tb tc ta y m.fi (msV m) w4 HY4.out) ?_
  rintro e w5 ⟨rfl, hY5, hk5⟩
  have HY5 : Hid (Tal 170 Gt.V.ans w5 t tb ta tc (takeS y m.fi (msV m))) := hY5
  have HT5 : Hid (Tal 132 U.ans w5 h b a cap (hearS x m.fi)) := HT4.out.kept hk5 (fun k e => tal_apart HY4.out HT4.out (Ne.symm HNe.out.1) (Ne.symm HNe.out.2) e)
  have H75 : Hid (Box w5 B7 155 #[.pointer (some ⟨q, 0, none⟩), .pointer (some ⟨t, 0, none⟩)]) := H74.out.kept hk5 (tal_far2 HY4.out H74.out (by decide) (by decide))
  have HQ5 : Hid (Box w5 q 111 (qcs M h rf).toArray) := HQ4.out.kept hk5 (tal_far2 HY4.out HQ4.out (by decide) (by decide))
  have HP5 : Hid (Box w5 p 94 v.cells) := HP4.out.kept hk5 (tal_far2 HY4.out HP4.out (by decide) (by decide))
  have HK5 : Hid (Kept (fun k => Tb2 h b k ∨ Tb2 t tb k) ww w5) := HK4.out.trans hk5 (fun _ e => .inl e) (fun _ _ e => .inr e)
  refine ⟨.bool false, by rw [HTk.out], ?_⟩
  clear hY5 hk5 HT4 HY4 HQ4 HP4 H74 HK4 H34 H33
  try simp only [pS]
  refine uK (.bool false) <| WL.nil <| ?_
  try simp only [pS]
  go_wp2
  rw [HC.out]
  exact ⟨rfl, HT5.out, HY5.out, HK5.out⟩
set_option maxRecDepth 100000 in
set_option maxHeartbeats 4000000 in
theorem agreedP_no (p q t : Nat) (v : Pv) (m : Ms) (h b cap tb tc : Nat) (a ta : Option Addr) (M : Ms) (rf : Bool) (x : TS Unit) (y : TS Vt) (ww : World) (hbp : Box ww p 94 v.cells) (hs : eqS m.st ⟨v.n, v.cl⟩ = true) (hph : v.ph = phPre q t) (hk : (m.k == 13) = true) (hq : Box ww q 111 (qcs M h rf).toArray) (hx : Tal 132 U.ans ww h b a cap x) (hy : Tal 170 Gt.V.ans ww t tb ta tc y) (hne : h ≠ t ∧ b ≠ tb) (hhr : decide (m.fi ∈ missL x) = true) (htk : takeB y m.fi = true) (hcn : cnt (takeS y m.fi (msV m)) ≤ 2000000 ∧ 1 ≤ cnt (takeS y m.fi (msV m))) (hok : (okN v.n && okN (wr1 v.rd)) = false) : Calls Try.prog 58 #[.pointer (some ⟨p, 0, none⟩), .agg m.cells] ww (fun e w' => e = .returned (.slice none 0 0) ∧ Box w' p 94 ({ v with ph := phWorn } : Pv).cells ∧ Tal 132 U.ans w' h b a cap (hearS x m.fi) ∧ Tal 170 Gt.V.ans w' t tb ta tc (takeS y m.fi (msV m)) ∧ Kept (fun k => k = p ∨ Tb2 h b k ∨ Tb2 t tb k) ww w') := by
  refine hideC fun C HC => ?_
  have HPW : Hid (Box ww p 94 v.cells) := hbp
  have HS : Hid (eqS m.st ⟨v.n, v.cl⟩ = true) := hs
  have HPh : Hid (v.ph = phPre q t) := hph
  have HKd : Hid ((m.k == 13) = true) := hk
  have HQ : Hid (Box ww q 111 (qcs M h rf).toArray) := hq
  have HTx : Hid (Tal 132 U.ans ww h b a cap x) := hx
  have HTy : Hid (Tal 170 Gt.V.ans ww t tb ta tc y) := hy
  have HNe : Hid (h ≠ t ∧ b ≠ tb) := hne
  have HPW2 : Hid (Box ww p 94 v.cells) := hbp
  have HHr : Hid (decide (m.fi ∈ missL x) = true) := hhr
  clear hk hq hx hy hne hhr
  have HTk : Hid (takeB y m.fi = true) := htk
  have HCn : Hid (cnt (takeS y m.fi (msV m)) ≤ 2000000 ∧ 1 ≤ cnt (takeS y m.fi (msV m))) := hcn
  have HOk : Hid ((okN v.n && okN (wr1 v.rd)) = false) := hok
  clear htk hcn hok
  clear hbp hs hph
  go_enter Try.func58, Try.ntmps58
  go_upto_region 0 with fail
  refine WL.start ?_
  refine uR (pV ww.heap.size 0) (ww.alloc (.cells m.cells 47)) (exec_box 47 _ rfl m.cells (by kernel_rfl)) ?_
  try simp only [pS]
  refine uK (.slice none 0 0) <| WL.nil <| ?_
  try simp only [pS]
  obtain ⟨w, hw⟩ : ∃ w, w = ww.alloc (.cells m.cells 47) := ⟨_, rfl⟩
  rw [← hw]
  have HK : Hid (Kept No ww w) := by rw [hw]; exact (Kept.refl No ww).alloc _
  have HP : Hid (Box w (p) 94 (v.cells)) := by rw [hw]; exact HPW.out.alloc _
  have H3 : Hid (Box w (ww.heap.size) 47 (m.cells)) := by rw [hw]; exact Box.new _ _ _
  obtain ⟨B3, hB3⟩ : ∃ B3, B3 = ww.heap.size := ⟨_, rfl⟩
  rw [← hB3] at H3 ⊢
  clear hw hB3 HPW
  go_upto_region 1 with fail
  refine wp_region_held_drew (S := fun w' => Box w' (p) 94 (v.cells) ∧ Box w' (B3) 47 (m.cells)) rfl ⟨HP.out, H3.out⟩ (fun hH => ?_)
  refine xV 0 8 (pV B3 11) hH <| xL 1 9 39 ⟨B3, 11, none⟩ (.agg #[.int .i64 m.st.n, .int .i64 m.st.c]) (fun _ hw => load_mS hw.2) hH <| xV 2 10 (pV p 0) hH <| xV 3 11 (pV p 0) hH <| xV 4 12 (pV p 17) hH <| xL 5 13 39 ⟨p, 17, none⟩ (.agg #[.int .i64 v.n, .int .i64 v.cl]) (fun _ hw => load_pB hw.1) hH <| ?_
  try simp only [pS]
  refine xB 6 14 .neq 39 (.agg #[.int .i64 m.st.n, .int .i64 m.st.c]) (.agg #[.int .i64 v.n, .int .i64 v.cl]) (.bool false) (fun _ _ => by rw [neqS m.st ⟨v.n, v.cl⟩, HS.out]; rfl) hH (hg := fun _ => guard_S _ (.inr rfl) _ _ _ _ _) ?_
  try simp only [pS]
  refine wpAnyH_done (by kernel_rfl) ?_ _
  try simp only [pS]
  clear hH
  obtain ⟨w1, hw1⟩ : ∃ w1, w1 = w.drew := ⟨_, rfl⟩
  have HP1 : Hid (Box w1 (p) 94 (v.cells)) := by rw [hw1]; exact HP.out
  have H31 : Hid (Box w1 (B3) 47 (m.cells)) := by rw [hw1]; exact H3.out
  have HK1 : Hid (Kept No ww w1) := by rw [hw1]; exact HK.out.drew
  rw [← hw1]
  clear hw1 HP H3 HK
  go_upto_region 3 with fail
  refine WL.start <| uK (pV B3 1) <| uK (pV B3 2) <| uL 3 ⟨B3, 2, none⟩ (.int .i64 m.fi) (load_N (H31.out.cell 2)) <| uK (.int .i64 m.fi) <| WL.nil <| ?_
  try simp only [pS]
  go_upto_region 4 with fail
  refine WL.start <| uK (pV p 0) <| uK (pV p 0) <| uK (pV p 21) <| uL 92 ⟨p, 21, none⟩ (phPre q t) (by rw [← HPh.out]; exact load_92 HP1.out) <| WL.nil <| ?_
  try simp only [pS]
  go_upto_region 5 with fail
  refine WL.start <| uK (.tuple #[.agg #[pV q 0, pV t 0], .bool true]) <| uK (.bool true) <| uK (.agg #[pV q 0, pV t 0]) <| WL.nil <| ?_
  try simp only [pS]
  go_upto_region 6 with fail
  refine WL.start ?_
  refine wp_allocW 155 rfl #[.pointer none, .pointer none] zero155 w1.heap.size rfl (by kernel_rfl) ?_
  try simp only [pS]
  obtain ⟨w2, hw2⟩ : ∃ w2, w2 = w1.alloc (.cells #[.pointer none, .pointer none] 155) := ⟨_, rfl⟩
  rw [← hw2]
  have H72 : Hid (Box w2 w1.heap.size 155 #[.pointer none, .pointer none]) := by rw [hw2]; exact Box.new _ _ _
  have HK12 : Hid (Kept No w1 w2) := by rw [hw2]; exact (Kept.refl No w1).alloc _
  obtain ⟨B7, hB7⟩ : ∃ B7, B7 = w1.heap.size := ⟨_, rfl⟩
  rw [← hB7] at H72 ⊢
  have HB7 : Hid (w1.heap.size ≤ B7) := by show _ ≤ _; omega
  clear hw2 hB7
  refine uT 155 ⟨B7, 0, none⟩ (.agg #[pV q 0, pV t 0]) _ (store_155 H72.out) ?_
  try simp only [pS]
  refine WL.nil ?_
  try simp only [pS]
  obtain ⟨w3, hw3⟩ : ∃ w3, w3 = w2.setRow B7 #[.pointer (some ⟨q, 0, none⟩), .pointer (some ⟨t, 0, none⟩)] := ⟨_, rfl⟩
  rw [← hw3]
  have H73 : Hid (Box w3 B7 155 #[.pointer (some ⟨q, 0, none⟩), .pointer (some ⟨t, 0, none⟩)]) := by rw [hw3]; exact H72.out.setRow _
  have HK13 : Hid (Kept No w1 w3) := by rw [hw3]; exact HK12.out.newRow HB7.out _
  have HK3 : Hid (Kept No ww w3) := HK1.out.then HK13.out
  have H33 : Hid (Box w3 (B3) 47 (m.cells)) := H31.out.kept HK13.out (fun e => e)
  clear hw3 H72 HK12 HK13 H31
  go_upto_region 7 with fail
  refine WL.start <| uK (pV B3 0) <| uL 3 ⟨B3, 0, none⟩ (.int .i64 m.k) (load_N (H33.out.cell 0)) <| uB .eql 3 (.int .i64 m.k) (.int .i64 13) (.bool true) (by rw [eqlN, HKd.out]) <| uK (.bool true) <| uK (pV B7 0) <| uL 108 ⟨B7, 0, none⟩ (pV q 0) (load_108 (H73.out.cell 0)) <| uK (.int .i64 m.fi) <| ?_
  try simp only [pS]
  have HT3 : Hid (Tal 132 U.ans w3 h b a cap x) := HTx.out.no HK3.out
  have HY3 : Hid (Tal 170 Gt.V.ans w3 t tb ta tc y) := HTy.out.no HK3.out
  have HQ3 : Hid (Box w3 q 111 (qcs M h rf).toArray) := HQ.out.kept HK3.out (fun e => e)
  have HP3 : Hid (Box w3 p 94 v.cells) := HPW2.out.kept HK3.out (fun e => e)
  refine uC 57 #[pV q 0, .int .i64 m.fi] (hear_any q h b cap a M rf x m.fi w3 HQ3.out HT3.out) ?_
  rintro e w4 ⟨rfl, hT4, hk4⟩
  have HT4 : Hid (Tal 132 U.ans w4 h b a cap (hearS x m.fi)) := hT4
  have H74 : Hid (Box w4 B7 155 #[.pointer (some ⟨q, 0, none⟩), .pointer (some ⟨t, 0, none⟩)]) := H73.out.kept hk4 (tal_far2 HT3.out H73.out (by decide) (by decide))
  have HQ4 : Hid (Box w4 q 111 (qcs M h rf).toArray) := HQ3.out.kept hk4 (tal_far2 HT3.out HQ3.out (by decide) (by decide))
  have H34 : Hid (Box w4 (B3) 47 (m.cells)) := H33.out.kept hk4 (tal_far2 HT3.out H33.out (by decide) (by decide))
  have HP4 : Hid (Box w4 p 94 v.cells) := HP3.out.kept hk4 (tal_far2 HT3.out HP3.out (by decide) (by decide))
  have HY4 : Hid (Tal 170 Gt.V.ans w4 t tb ta tc y) := HY3.out.kept hk4 (fun k e => tal_apart HT3.out HY3.out HNe.out.1 HNe.out.2 e)
  have HK4 : Hid (Kept (Tb2 h b) ww w4) := (HK3.out.of_no : Kept (Tb2 h b) ww w3).then hk4
  refine ⟨.bool true, by rw [HHr.out], ?_⟩
  clear hT4 hk4 HT3 HY3 HQ3 HP3 H73
  try simp only [pS]
  refine uK (.bool true) <| uK (.bool true) <| uK (pV B7 1) <| uL 150 ⟨B7, 1, none⟩ (pV t 0) (load_150 (H74.out.cell 1)) <| uK (.int .i64 m.fi) <| uK (pV B3 13) <| uL 39 ⟨B3, 13, none⟩ (.agg #[.int .i64 m.hd.n, .int .i64 m.hd.c]) (load_hd H34.out) <| uK (pV B3 16) <| ?_
  try simp only [pS]
  refine uL 28 ⟨B3, 16, none⟩ (.agg m.c.cells) (load_mc H34.out) <| uW (.agg #[.int .i64 m.hd.n, .int .i64 m.hd.c, .int .i64 m.c.k, .int .i64 m.c.cl, .int .i64 m.c.op, .string m.c.nm, .int .i64 m.c.f0, .int .i64 m.c.f1, .int .i64 m.c.g0, .int .i64 m.c.g1, .int .i64 m.c.sz]) (exec_build 153 _ rfl (#[.int .i64 m.hd.n, .int .i64 m.hd.c, .int .i64 m.c.k, .int .i64 m.c.cl, .int .i64 m.c.op, .string m.c.nm, .int .i64 m.c.f0, .int .i64 m.c.f1, .int .i64 m.c.g0, .int .i64 m.c.g1, .int .i64 m.c.sz]) (by kernel_rfl)) <| ?_
  try simp only [pS]
  refine uC 80 #[pV t 0, .int .i64 m.fi, .agg #[.int .i64 m.hd.n, .int .i64 m.hd.c, .int .i64 m.c.k, .int .i64 m.c.cl, .int .i64 m.c.op, .string m.c.nm, .int .i64 m.c.f0, .int .i64 m.c.f1, .int .i64 m.c.g0, .int .i64 m.c.g1, .int .i64 m.c.sz]] (V.take_any t tb tc ta y m.fi (msV m) w4 HY4.out) ?_
  rintro e w5 ⟨rfl, hY5, hk5⟩
  have HY5 : Hid (Tal 170 Gt.V.ans w5 t tb ta tc (takeS y m.fi (msV m))) := hY5
  have HT5 : Hid (Tal 132 U.ans w5 h b a cap (hearS x m.fi)) := HT4.out.kept hk5 (fun k e => tal_apart HY4.out HT4.out (Ne.symm HNe.out.1) (Ne.symm HNe.out.2) e)
  have H75 : Hid (Box w5 B7 155 #[.pointer (some ⟨q, 0, none⟩), .pointer (some ⟨t, 0, none⟩)]) := H74.out.kept hk5 (tal_far2 HY4.out H74.out (by decide) (by decide))
  have HQ5 : Hid (Box w5 q 111 (qcs M h rf).toArray) := HQ4.out.kept hk5 (tal_far2 HY4.out HQ4.out (by decide) (by decide))
  have HP5 : Hid (Box w5 p 94 v.cells) := HP4.out.kept hk5 (tal_far2 HY4.out HP4.out (by decide) (by decide))
  have HK5 : Hid (Kept (fun k => Tb2 h b k ∨ Tb2 t tb k) ww w5) := HK4.out.trans hk5 (fun _ e => .inl e) (fun _ _ e => .inr e)
  refine ⟨.bool true, by rw [HTk.out], ?_⟩
  clear hY5 hk5 HT4 HY4 HQ4 HP4 H74 HK4 H34 H33
  try simp only [pS]
  refine uK (.bool true) <| WL.nil <| ?_
  try simp only [pS]
  go_upto_region 8 with fail
  refine WL.start <| uK (pV p 0) <| uK (pV p 0) <| uK (pV B7 1) <| uL 150 ⟨B7, 1, none⟩ (pV t 0) (load_150 (H75.out.cell 1)) <| ?_
  try simp only [pS]
  refine uC 82 #[pV p 0, pV t 0] (choice_any p t tb tc ta v (takeS y m.fi (msV m)) w5 HP5.out HY5.out HCn.out.1 HCn.out.2) ?_
  rintro e w6 ⟨rfl, hk6⟩
  refine ⟨.agg (Cm.cells (vCmd (bestV (ownV v :: (gotL (takeS y m.fi (msV m))).map Prod.snd)))), rfl, ?_⟩
  try simp only [pS]
  have HY6 : Hid (Tal 170 Gt.V.ans w6 t tb ta tc (takeS y m.fi (msV m))) := HY5.out.no hk6
  have HT6 : Hid (Tal 132 U.ans w6 h b a cap (hearS x m.fi)) := HT5.out.no hk6
  have HP6 : Hid (Box w6 p 94 v.cells) := HP5.out.kept hk6 (fun e => e)
  have HK6 : Hid (Kept (fun k => Tb2 h b k ∨ Tb2 t tb k) ww w6) := HK5.out.thenNo hk6
  clear hk6 HY5 HT5 HP5 HK5 H75 HQ5
  refine uC 81 #[pV p 0, .agg (Cm.cells (vCmd (bestV (ownV v :: (gotL (takeS y m.fi (msV m))).map Prod.snd))))] (accept_no p v (vCmd (bestV (ownV v :: (gotL (takeS y m.fi (msV m))).map Prod.snd))) w6 HP6.out HOk.out) ?_
  rintro e w7 ⟨rfl, hP7, hk7⟩
  refine ⟨.slice none 0 0, rfl, ?_⟩
  try simp only [pS]
  refine uK (.slice none 0 0) <| WL.nil <| ?_
  try simp only [pS]
  go_wp2
  rw [HC.out]
  exact ⟨rfl, hP7, HT6.out.kept hk7 (fun k hk e => tal_ne HT6.out HP6.out (by decide) (by decide) hk e), HY6.out.kept hk7 (fun k hk e => tal_ne HY6.out HP6.out (by decide) (by decide) hk e), HK6.out.trans hk7 (fun _ e => .inr e) (fun _ _ e => .inl e)⟩
set_option maxRecDepth 100000 in
set_option maxHeartbeats 4000000 in
theorem agreedP_yes (p q t : Nat) (v : Pv) (m : Ms) (h b cap tb tc : Nat) (a ta : Option Addr) (M : Ms) (rf : Bool) (x : TS Unit) (y : TS Vt) (zs : List Int) (ww : World) (hbp : Box ww p 94 v.cells) (hs : eqS m.st ⟨v.n, v.cl⟩ = true) (hph : v.ph = phPre q t) (hk : (m.k == 13) = true) (hq : Box ww q 111 (qcs M h rf).toArray) (hx : Tal 132 U.ans ww h b a cap x) (hy : Tal 170 Gt.V.ans ww t tb ta tc y) (hne : h ≠ t ∧ b ≠ tb) (hhr : decide (m.fi ∈ missL x) = true) (htk : takeB y m.fi = true) (hcn : cnt (takeS y m.fi (msV m)) ≤ 2000000 ∧ 1 ≤ cnt (takeS y m.fi (msV m))) (hok : (okN v.n && okN (wr1 v.rd)) = true) (hz : zs.length = v.ga.l) (hzn : v.ga.l ≤ 2000000) (hgr : ∀ w', Kept (fun k => Tb2 h b k ∨ Tb2 t tb k) ww w' → Own 3 1 w' 0 v.ga.a v.ga.k v.ga.l (zs.map (Value.int .i64))) : Calls Try.prog 58 #[.pointer (some ⟨p, 0, none⟩), .agg m.cells] ww (fun e w' => ∃ W, AccOut W p (movP v v.n (wr1 v.rd)) (vCmd (bestV (ownV v :: (gotL (takeS y m.fi (msV m))).map Prod.snd))) zs e w' ∧ Tal 132 U.ans W h b a cap (hearS x m.fi) ∧ Tal 170 Gt.V.ans W t tb ta tc (takeS y m.fi (msV m)) ∧ Kept (fun k => Tb2 h b k ∨ Tb2 t tb k) ww W) := by
  refine hideC fun C HC => ?_
  have HPW : Hid (Box ww p 94 v.cells) := hbp
  have HS : Hid (eqS m.st ⟨v.n, v.cl⟩ = true) := hs
  have HPh : Hid (v.ph = phPre q t) := hph
  have HKd : Hid ((m.k == 13) = true) := hk
  have HQ : Hid (Box ww q 111 (qcs M h rf).toArray) := hq
  have HTx : Hid (Tal 132 U.ans ww h b a cap x) := hx
  have HTy : Hid (Tal 170 Gt.V.ans ww t tb ta tc y) := hy
  have HNe : Hid (h ≠ t ∧ b ≠ tb) := hne
  have HPW2 : Hid (Box ww p 94 v.cells) := hbp
  have HHr : Hid (decide (m.fi ∈ missL x) = true) := hhr
  clear hk hq hx hy hne hhr
  have HTk : Hid (takeB y m.fi = true) := htk
  have HCn : Hid (cnt (takeS y m.fi (msV m)) ≤ 2000000 ∧ 1 ≤ cnt (takeS y m.fi (msV m))) := hcn
  have HOk : Hid ((okN v.n && okN (wr1 v.rd)) = true) := hok
  clear htk hcn hok
  have HZl : Hid (zs.length = v.ga.l) := hz
  have HZn : Hid (v.ga.l ≤ 2000000) := hzn
  have HGr : Hid (∀ w', Kept (fun k => Tb2 h b k ∨ Tb2 t tb k) ww w' → Own 3 1 w' 0 v.ga.a v.ga.k v.ga.l (zs.map (Value.int .i64))) := hgr
  clear hz hzn hgr
  clear hbp hs hph
  go_enter Try.func58, Try.ntmps58
  go_upto_region 0 with fail
  refine WL.start ?_
  refine uR (pV ww.heap.size 0) (ww.alloc (.cells m.cells 47)) (exec_box 47 _ rfl m.cells (by kernel_rfl)) ?_
  try simp only [pS]
  refine uK (.slice none 0 0) <| WL.nil <| ?_
  try simp only [pS]
  obtain ⟨w, hw⟩ : ∃ w, w = ww.alloc (.cells m.cells 47) := ⟨_, rfl⟩
  rw [← hw]
  have HK : Hid (Kept No ww w) := by rw [hw]; exact (Kept.refl No ww).alloc _
  have HP : Hid (Box w (p) 94 (v.cells)) := by rw [hw]; exact HPW.out.alloc _
  have H3 : Hid (Box w (ww.heap.size) 47 (m.cells)) := by rw [hw]; exact Box.new _ _ _
  obtain ⟨B3, hB3⟩ : ∃ B3, B3 = ww.heap.size := ⟨_, rfl⟩
  rw [← hB3] at H3 ⊢
  clear hw hB3 HPW
  go_upto_region 1 with fail
  refine wp_region_held_drew (S := fun w' => Box w' (p) 94 (v.cells) ∧ Box w' (B3) 47 (m.cells)) rfl ⟨HP.out, H3.out⟩ (fun hH => ?_)
  refine xV 0 8 (pV B3 11) hH <| xL 1 9 39 ⟨B3, 11, none⟩ (.agg #[.int .i64 m.st.n, .int .i64 m.st.c]) (fun _ hw => load_mS hw.2) hH <| xV 2 10 (pV p 0) hH <| xV 3 11 (pV p 0) hH <| xV 4 12 (pV p 17) hH <| xL 5 13 39 ⟨p, 17, none⟩ (.agg #[.int .i64 v.n, .int .i64 v.cl]) (fun _ hw => load_pB hw.1) hH <| ?_
  try simp only [pS]
  refine xB 6 14 .neq 39 (.agg #[.int .i64 m.st.n, .int .i64 m.st.c]) (.agg #[.int .i64 v.n, .int .i64 v.cl]) (.bool false) (fun _ _ => by rw [neqS m.st ⟨v.n, v.cl⟩, HS.out]; rfl) hH (hg := fun _ => guard_S _ (.inr rfl) _ _ _ _ _) ?_
  try simp only [pS]
  refine wpAnyH_done (by kernel_rfl) ?_ _
  try simp only [pS]
  clear hH
  obtain ⟨w1, hw1⟩ : ∃ w1, w1 = w.drew := ⟨_, rfl⟩
  have HP1 : Hid (Box w1 (p) 94 (v.cells)) := by rw [hw1]; exact HP.out
  have H31 : Hid (Box w1 (B3) 47 (m.cells)) := by rw [hw1]; exact H3.out
  have HK1 : Hid (Kept No ww w1) := by rw [hw1]; exact HK.out.drew
  rw [← hw1]
  clear hw1 HP H3 HK
  go_upto_region 3 with fail
  refine WL.start <| uK (pV B3 1) <| uK (pV B3 2) <| uL 3 ⟨B3, 2, none⟩ (.int .i64 m.fi) (load_N (H31.out.cell 2)) <| uK (.int .i64 m.fi) <| WL.nil <| ?_
  try simp only [pS]
  go_upto_region 4 with fail
  refine WL.start <| uK (pV p 0) <| uK (pV p 0) <| uK (pV p 21) <| uL 92 ⟨p, 21, none⟩ (phPre q t) (by rw [← HPh.out]; exact load_92 HP1.out) <| WL.nil <| ?_
  try simp only [pS]
  go_upto_region 5 with fail
  refine WL.start <| uK (.tuple #[.agg #[pV q 0, pV t 0], .bool true]) <| uK (.bool true) <| uK (.agg #[pV q 0, pV t 0]) <| WL.nil <| ?_
  try simp only [pS]
  go_upto_region 6 with fail
  refine WL.start ?_
  refine wp_allocW 155 rfl #[.pointer none, .pointer none] zero155 w1.heap.size rfl (by kernel_rfl) ?_
  try simp only [pS]
  obtain ⟨w2, hw2⟩ : ∃ w2, w2 = w1.alloc (.cells #[.pointer none, .pointer none] 155) := ⟨_, rfl⟩
  rw [← hw2]
  have H72 : Hid (Box w2 w1.heap.size 155 #[.pointer none, .pointer none]) := by rw [hw2]; exact Box.new _ _ _
  have HK12 : Hid (Kept No w1 w2) := by rw [hw2]; exact (Kept.refl No w1).alloc _
  obtain ⟨B7, hB7⟩ : ∃ B7, B7 = w1.heap.size := ⟨_, rfl⟩
  rw [← hB7] at H72 ⊢
  have HB7 : Hid (w1.heap.size ≤ B7) := by show _ ≤ _; omega
  clear hw2 hB7
  refine uT 155 ⟨B7, 0, none⟩ (.agg #[pV q 0, pV t 0]) _ (store_155 H72.out) ?_
  try simp only [pS]
  refine WL.nil ?_
  try simp only [pS]
  obtain ⟨w3, hw3⟩ : ∃ w3, w3 = w2.setRow B7 #[.pointer (some ⟨q, 0, none⟩), .pointer (some ⟨t, 0, none⟩)] := ⟨_, rfl⟩
  rw [← hw3]
  have H73 : Hid (Box w3 B7 155 #[.pointer (some ⟨q, 0, none⟩), .pointer (some ⟨t, 0, none⟩)]) := by rw [hw3]; exact H72.out.setRow _
  have HK13 : Hid (Kept No w1 w3) := by rw [hw3]; exact HK12.out.newRow HB7.out _
  have HK3 : Hid (Kept No ww w3) := HK1.out.then HK13.out
  have H33 : Hid (Box w3 (B3) 47 (m.cells)) := H31.out.kept HK13.out (fun e => e)
  clear hw3 H72 HK12 HK13 H31
  go_upto_region 7 with fail
  refine WL.start <| uK (pV B3 0) <| uL 3 ⟨B3, 0, none⟩ (.int .i64 m.k) (load_N (H33.out.cell 0)) <| uB .eql 3 (.int .i64 m.k) (.int .i64 13) (.bool true) (by rw [eqlN, HKd.out]) <| uK (.bool true) <| uK (pV B7 0) <| uL 108 ⟨B7, 0, none⟩ (pV q 0) (load_108 (H73.out.cell 0)) <| uK (.int .i64 m.fi) <| ?_
  try simp only [pS]
  have HT3 : Hid (Tal 132 U.ans w3 h b a cap x) := HTx.out.no HK3.out
  have HY3 : Hid (Tal 170 Gt.V.ans w3 t tb ta tc y) := HTy.out.no HK3.out
  have HQ3 : Hid (Box w3 q 111 (qcs M h rf).toArray) := HQ.out.kept HK3.out (fun e => e)
  have HP3 : Hid (Box w3 p 94 v.cells) := HPW2.out.kept HK3.out (fun e => e)
  refine uC 57 #[pV q 0, .int .i64 m.fi] (hear_any q h b cap a M rf x m.fi w3 HQ3.out HT3.out) ?_
  rintro e w4 ⟨rfl, hT4, hk4⟩
  have HT4 : Hid (Tal 132 U.ans w4 h b a cap (hearS x m.fi)) := hT4
  have H74 : Hid (Box w4 B7 155 #[.pointer (some ⟨q, 0, none⟩), .pointer (some ⟨t, 0, none⟩)]) := H73.out.kept hk4 (tal_far2 HT3.out H73.out (by decide) (by decide))
  have HQ4 : Hid (Box w4 q 111 (qcs M h rf).toArray) := HQ3.out.kept hk4 (tal_far2 HT3.out HQ3.out (by decide) (by decide))
  have H34 : Hid (Box w4 (B3) 47 (m.cells)) := H33.out.kept hk4 (tal_far2 HT3.out H33.out (by decide) (by decide))
  have HP4 : Hid (Box w4 p 94 v.cells) := HP3.out.kept hk4 (tal_far2 HT3.out HP3.out (by decide) (by decide))
  have HY4 : Hid (Tal 170 Gt.V.ans w4 t tb ta tc y) := HY3.out.kept hk4 (fun k e => tal_apart HT3.out HY3.out HNe.out.1 HNe.out.2 e)
  have HK4 : Hid (Kept (Tb2 h b) ww w4) := (HK3.out.of_no : Kept (Tb2 h b) ww w3).then hk4
  refine ⟨.bool true, by rw [HHr.out], ?_⟩
  clear hT4 hk4 HT3 HY3 HQ3 HP3 H73
  try simp only [pS]
  refine uK (.bool true) <| uK (.bool true) <| uK (pV B7 1) <| uL 150 ⟨B7, 1, none⟩ (pV t 0) (load_150 (H74.out.cell 1)) <| uK (.int .i64 m.fi) <| uK (pV B3 13) <| uL 39 ⟨B3, 13, none⟩ (.agg #[.int .i64 m.hd.n, .int .i64 m.hd.c]) (load_hd H34.out) <| uK (pV B3 16) <| ?_
  try simp only [pS]
  refine uL 28 ⟨B3, 16, none⟩ (.agg m.c.cells) (load_mc H34.out) <| uW (.agg #[.int .i64 m.hd.n, .int .i64 m.hd.c, .int .i64 m.c.k, .int .i64 m.c.cl, .int .i64 m.c.op, .string m.c.nm, .int .i64 m.c.f0, .int .i64 m.c.f1, .int .i64 m.c.g0, .int .i64 m.c.g1, .int .i64 m.c.sz]) (exec_build 153 _ rfl (#[.int .i64 m.hd.n, .int .i64 m.hd.c, .int .i64 m.c.k, .int .i64 m.c.cl, .int .i64 m.c.op, .string m.c.nm, .int .i64 m.c.f0, .int .i64 m.c.f1, .int .i64 m.c.g0, .int .i64 m.c.g1, .int .i64 m.c.sz]) (by kernel_rfl)) <| ?_
  try simp only [pS]
  refine uC 80 #[pV t 0, .int .i64 m.fi, .agg #[.int .i64 m.hd.n, .int .i64 m.hd.c, .int .i64 m.c.k, .int .i64 m.c.cl, .int .i64 m.c.op, .string m.c.nm, .int .i64 m.c.f0, .int .i64 m.c.f1, .int .i64 m.c.g0, .int .i64 m.c.g1, .int .i64 m.c.sz]] (V.take_any t tb tc ta y m.fi (msV m) w4 HY4.out) ?_
  rintro e w5 ⟨rfl, hY5, hk5⟩
  have HY5 : Hid (Tal 170 Gt.V.ans w5 t tb ta tc (takeS y m.fi (msV m))) := hY5
  have HT5 : Hid (Tal 132 U.ans w5 h b a cap (hearS x m.fi)) := HT4.out.kept hk5 (fun k e => tal_apart HY4.out HT4.out (Ne.symm HNe.out.1) (Ne.symm HNe.out.2) e)
  have H75 : Hid (Box w5 B7 155 #[.pointer (some ⟨q, 0, none⟩), .pointer (some ⟨t, 0, none⟩)]) := H74.out.kept hk5 (tal_far2 HY4.out H74.out (by decide) (by decide))
  have HQ5 : Hid (Box w5 q 111 (qcs M h rf).toArray) := HQ4.out.kept hk5 (tal_far2 HY4.out HQ4.out (by decide) (by decide))
  have HP5 : Hid (Box w5 p 94 v.cells) := HP4.out.kept hk5 (tal_far2 HY4.out HP4.out (by decide) (by decide))
  have HK5 : Hid (Kept (fun k => Tb2 h b k ∨ Tb2 t tb k) ww w5) := HK4.out.trans hk5 (fun _ e => .inl e) (fun _ _ e => .inr e)
  refine ⟨.bool true, by rw [HTk.out], ?_⟩
  clear hY5 hk5 HT4 HY4 HQ4 HP4 H74 HK4 H34 H33
  try simp only [pS]
  refine uK (.bool true) <| WL.nil <| ?_
  try simp only [pS]
  go_upto_region 8 with fail
  refine WL.start <| uK (pV p 0) <| uK (pV p 0) <| uK (pV B7 1) <| uL 150 ⟨B7, 1, none⟩ (pV t 0) (load_150 (H75.out.cell 1)) <| ?_
  try simp only [pS]
  refine uC 82 #[pV p 0, pV t 0] (choice_any p t tb tc ta v (takeS y m.fi (msV m)) w5 HP5.out HY5.out HCn.out.1 HCn.out.2) ?_
  rintro e w6 ⟨rfl, hk6⟩
  refine ⟨.agg (Cm.cells (vCmd (bestV (ownV v :: (gotL (takeS y m.fi (msV m))).map Prod.snd)))), rfl, ?_⟩
  try simp only [pS]
  have HY6 : Hid (Tal 170 Gt.V.ans w6 t tb ta tc (takeS y m.fi (msV m))) := HY5.out.no hk6
  have HT6 : Hid (Tal 132 U.ans w6 h b a cap (hearS x m.fi)) := HT5.out.no hk6
  have HP6 : Hid (Box w6 p 94 v.cells) := HP5.out.kept hk6 (fun e => e)
  have HK6 : Hid (Kept (fun k => Tb2 h b k ∨ Tb2 t tb k) ww w6) := HK5.out.thenNo hk6
  clear hk6 HY5 HT5 HP5 HK5 H75 HQ5
  refine uC 81 #[pV p 0, .agg (Cm.cells (vCmd (bestV (ownV v :: (gotL (takeS y m.fi (msV m))).map Prod.snd))))] (accept_yes p v (vCmd (bestV (ownV v :: (gotL (takeS y m.fi (msV m))).map Prod.snd))) zs w6 HP6.out HOk.out HZl.out HZn.out (HGr.out w6 HK6.out)) ?_
  rintro e w7 hA
  obtain ⟨q2, h2, b2, a2, cap2, t2, tb2, ta2, tc2, la2, lc2, he, hA⟩ := hA
  subst he
  refine ⟨.slice la2 zs.length lc2, rfl, ?_⟩
  try simp only [pS]
  refine uK (.slice la2 zs.length lc2) <| WL.nil <| ?_
  try simp only [pS]
  go_wp2
  rw [HC.out]
  exact ⟨w6, ⟨q2, h2, b2, a2, cap2, t2, tb2, ta2, tc2, la2, lc2, rfl, hA⟩, HT6.out, HY6.out, HK6.out⟩

end Go.Proofs.Ytpabpeppgpeaoaa
