import Derived.Test.YtpabpeppgpeaoaaZe
namespace Go.Proofs.Ytpabpeppgpeaoaa
open Go.RowKit Gt
set_option linter.unusedVariables false
set_option linter.unusedSimpArgs false

theorem exec_maxN {o : Oper} {a : Act} {w : World} (x y : Operand) (T T' : TypeId) (ho : o.op = .call { callee := Callee.builtin Builtin.max, args := #[x, y], argTypes := #[T, T'] }) (u v : Int) (hx : a.eval x = .int .i64 u) (hy : a.eval y = .int .i64 v)
 : (execOp a.eval o).run Try.prog w = .ok (.value (.int .i64 (max u v))) w := by
  have e : (if v > u then v else u) = max u v := by split <;> omega
  simp [execOp, ho, resolve, invoke, builtin, hx, hy, run_max_int2, Result.andThen]
  exact e
theorem store_top {w : World} {p : Nat} {v : Pv} (h : Box w p 94 v.cells) (i : Int) : (storeVar 3 ⟨p, 19, none⟩ (.int .i64 i)).run Try.prog w = .ok () (w.setRow p ({ v with top := i } : Pv).cells) :=
  run_store_at (vs := [.int .i64 i]) h rfl Try.size3 (by rw [Pv.len]; exact Nat.le_of_ble_eq_true rfl) (by simp [Value.oneCell'])
theorem Try.size4 : (Try.prog.info? 4).map (·.size) = some 1 := by kernel_rfl
theorem store_rf {w : World} {q h : Nat} {m : Ms} {rf : Bool} (hb : Box w q 111 (qcs m h rf).toArray) (b : Bool) : (storeVar 4 ⟨q, 31, none⟩ (.bool b)).run Try.prog w = .ok () (w.setRow q (qcs m h b).toArray) :=
  run_store_at (vs := [.bool b]) hb rfl Try.size4 (by show 32 ≤ (m.cs ++ _).length; rw [List.length_append, Ms.len]; exact Nat.le_of_ble_eq_true rfl) (by simp [Value.oneCell'])
theorem box_ty {w : World} {g g' ty ty' : Nat} {cs cs' : Array Value} (h : Box w g ty cs) (h' : Box w g' ty' cs') (hn : ty ≠ ty') : g ≠ g' := by
  rintro rfl
  unfold Box at h h'
  rw [h] at h'
  cases h'
  exact hn rfl
/-- What a refusal may write. -/
def NackK (h b q p : Nat) (k : Nat) : Prop := Tb2 h b k ∨ k = q ∨ k = p
set_option maxRecDepth 100000 in
set_option maxHeartbeats 4000000 in
theorem take_nack_heard (p : Nat) (v : Pv) (m : Ms) (q : Nat) (zs : List Int) (h0 b cap : Nat) (a : Option Addr) (M : Ms) (rf : Bool) (x : TS Unit) (ww : World) (h : Box ww p 94 v.cells) (hask : ∀ W, Kept No ww W → Calls Try.prog 50 #[.pointer (some ⟨p, 0, none⟩)] W (fun e w' => e = .returned (.pointer (some ⟨q, 0, none⟩)) ∧ Kept No W w')) (hz : zs.length = v.ga.l) (hn : v.ga.l ≤ 2000000) (hg : Nums .i64 ww v.ga.a zs) (hab : ansB v zs m = true) (h16 : (m.k == 16) = false) (h17 : (m.k == 17) = false) (h14 : (m.k == 14) = true) (hQ : Box ww q 111 (qcs M h0 rf).toArray) (hT : Tal 132 U.ans ww h0 b a cap x) (hh : decide (m.fi ∈ missL x) = false) : Calls Try.prog 28 #[.pointer (some ⟨p, 0, none⟩), .agg m.cells] ww (fun e w' => e = .returned (.slice none 0 0) ∧ Box w' p 94 v.cells ∧ Box w' q 111 (qcs M h0 rf).toArray ∧ Tal 132 U.ans w' h0 b a cap (hearS x m.fi) ∧ Kept (Tb2 h0 b) ww w') := by
  refine hideC fun C HC => ?_
  have HPW : Hid (Box ww p 94 v.cells) := h
  have HAsk : Hid (∀ W, Kept No ww W → Calls Try.prog 50 #[.pointer (some ⟨p, 0, none⟩)] W (fun e w' => e = .returned (.pointer (some ⟨q, 0, none⟩)) ∧ Kept No W w')) := hask
  have HZl : Hid (zs.length = v.ga.l) := hz
  have HZn : Hid (v.ga.l ≤ 2000000) := hn
  have HGr : Hid (Nums .i64 ww v.ga.a zs) := hg
  have HAb : Hid (ansB v zs m = true) := hab
  clear hz hn hg hab
  have HK_16 : Hid ((m.k == 16) = false) := h16
  clear h16
  have HK_17 : Hid ((m.k == 17) = false) := h17
  clear h17
  have HK_14 : Hid ((m.k == 14) = true) := h14
  clear h14
  have HQ : Hid (Box ww q 111 (qcs M h0 rf).toArray) := hQ
  have HT : Hid (Tal 132 U.ans ww h0 b a cap x) := hT
  have HHr : Hid (decide (m.fi ∈ missL x) = false) := hh
  clear hQ hT hh
  clear h hask
  go_enter Try.func28, Try.ntmps28
  go_upto_region 0 with fail
  refine WL.start ?_
  refine uR (pV ww.heap.size 0) (ww.alloc (.cells m.cells 47)) (exec_box 47 _ rfl m.cells (by kernel_rfl)) ?_
  try simp only [pS]
  refine uK (.slice none 0 0) <| WL.nil <| ?_
  try simp only [pS]
  obtain ⟨w, hw⟩ : ∃ w, w = ww.alloc (.cells m.cells 47) := ⟨_, rfl⟩
  rw [← hw]
  have HK : Hid (Kept No ww w) := by rw [hw]; exact (Kept.refl No ww).alloc _
  have HP : Hid (Box w (p) 94 (v.cells)) := by rw [hw]; exact HPW.out.alloc _
  have H3 : Hid (Box w (ww.heap.size) 47 (m.cells)) := by rw [hw]; exact Box.new _ _ _
  obtain ⟨B3, hB3⟩ : ∃ B3, B3 = ww.heap.size := ⟨_, rfl⟩
  rw [← hB3] at H3 ⊢
  clear hw hB3 HPW
  go_upto_region 1 with fail
  refine WL.start <| uK (pV p 0) <| ?_
  try simp only [pS]
  refine uC 50 #[pV p 0] (HAsk.out w HK.out) ?_
  rintro e w1 ⟨rfl, hk1⟩
  have HK1 : Hid (Kept No ww w1) := HK.out.then hk1
  have HP1 : Hid (Box w1 (p) 94 (v.cells)) := HP.out.kept hk1 (fun e => e)
  have H31 : Hid (Box w1 (B3) 47 (m.cells)) := H3.out.kept hk1 (fun e => e)
  refine ⟨.pointer (some ⟨q, 0, none⟩), rfl, ?_⟩
  clear hk1 HK HP H3 HAsk
  try simp only [pS]
  refine uK (pV q 0) <| WL.nil <| ?_
  try simp only [pS]
  go_upto_region 2 with fail
  refine WL.start <| uK (pV q 0) <| uB .eql 108 (pV q 0) (.pointer none) (.bool false) (by kernel_rfl) <| uK (.bool false) <| uK (pV p 0) <| uL 47 ⟨B3, 0, none⟩ (.agg m.cells) (load_Ms H31.out) <| ?_
  try simp only [pS]
  refine uC 55 #[pV p 0, .agg m.cells] (answers_any p v m zs w1 HP1.out HZl.out HZn.out (HGr.out.no HK1.out)) ?_
  rintro e w2 ⟨rfl, hk2⟩
  have HK2 : Hid (Kept No ww w2) := HK1.out.then hk2
  have HP2 : Hid (Box w2 (p) 94 (v.cells)) := HP1.out.kept hk2 (fun e => e)
  have H32 : Hid (Box w2 (B3) 47 (m.cells)) := H31.out.kept hk2 (fun e => e)
  refine ⟨.bool true, by rw [HAb.out], ?_⟩
  clear hk2 HK1 HP1 H31
  try simp only [pS]
  refine uK (.bool false) <| uK (.bool false) <| WL.nil <| ?_
  try simp only [pS]
  go_upto_region 4 with fail
  refine WL.start <| uK (pV B3 0) <| uL 3 ⟨B3, 0, none⟩ (.int .i64 m.k) (load_N (H32.out.cell 0)) <| WL.nil <| ?_
  try simp only [pS]
  go_upto_region 5 with fail
  refine WL.start <| uB .eql 3 (.int .i64 m.k) (.int .i64 16) (.bool false) (by rw [eqlN, HK_16.out]) <| uK (.bool false) <| WL.nil <| ?_
  try simp only [pS]
  go_upto_region 7 with fail
  refine WL.start <| uB .eql 3 (.int .i64 m.k) (.int .i64 17) (.bool false) (by rw [eqlN, HK_17.out]) <| uK (.bool false) <| WL.nil <| ?_
  try simp only [pS]
  go_upto_region 9 with fail
  refine WL.start <| uB .eql 3 (.int .i64 m.k) (.int .i64 14) (.bool true) (by rw [eqlN, HK_14.out]) <| uK (.bool true) <| WL.nil <| ?_
  try simp only [pS]
  go_upto_region 10 with fail
  refine WL.start <| uK (pV q 0) <| uK (pV B3 1) <| uK (pV B3 2) <| uL 3 ⟨B3, 2, none⟩ (.int .i64 m.fi) (load_N (H32.out.cell 2)) <| ?_
  try simp only [pS]
  have HT3 : Hid (Tal 132 U.ans w2 h0 b a cap x) := HT.out.no HK2.out
  have HQ3 : Hid (Box w2 q 111 (qcs M h0 rf).toArray) := HQ.out.kept HK2.out (fun e => e)
  refine uC 57 #[pV q 0, .int .i64 m.fi] (hear_any q h0 b cap a M rf x m.fi w2 HQ3.out HT3.out) ?_
  rintro e w4 ⟨rfl, hT4, hk4⟩
  have HT4 : Hid (Tal 132 U.ans w4 h0 b a cap (hearS x m.fi)) := hT4
  have H34 : Hid (Box w4 B3 47 m.cells) := H32.out.kept hk4 (tal_far2 HT3.out H32.out (by decide) (by decide))
  have HQ4 : Hid (Box w4 q 111 (qcs M h0 rf).toArray) := HQ3.out.kept hk4 (tal_far2 HT3.out HQ3.out (by decide) (by decide))
  have HP4 : Hid (Box w4 p 94 v.cells) := HP2.out.kept hk4 (tal_far2 HT3.out HP2.out (by decide) (by decide))
  have HK4 : Hid (Kept (Tb2 h0 b) ww w4) := (HK2.out.of_no : Kept (Tb2 h0 b) ww w2).then hk4
  refine ⟨.bool false, by rw [HHr.out], ?_⟩
  clear hT4 hk4 HT3 HQ3 HT HQ HP2 H32 HK2
  try simp only [pS]
  refine WL.nil ?_
  try simp only [pS]
  go_wp2
  rw [HC.out]
  exact ⟨rfl, HP4.out, HQ4.out, HT4.out, HK4.out⟩
set_option maxRecDepth 100000 in
set_option maxHeartbeats 4000000 in
theorem take_nack (p : Nat) (v : Pv) (m : Ms) (q : Nat) (zs : List Int) (h0 b cap : Nat) (a : Option Addr) (M : Ms) (rf : Bool) (x : TS Unit) (ww : World) (h : Box ww p 94 v.cells) (hask : ∀ W, Kept No ww W → Calls Try.prog 50 #[.pointer (some ⟨p, 0, none⟩)] W (fun e w' => e = .returned (.pointer (some ⟨q, 0, none⟩)) ∧ Kept No W w')) (hz : zs.length = v.ga.l) (hn : v.ga.l ≤ 2000000) (hg : Nums .i64 ww v.ga.a zs) (hab : ansB v zs m = true) (h16 : (m.k == 16) = false) (h17 : (m.k == 17) = false) (h14 : (m.k == 14) = true) (hQ : Box ww q 111 (qcs M h0 rf).toArray) (hT : Tal 132 U.ans ww h0 b a cap x) (hh : decide (m.fi ∈ missL x) = true) : Calls Try.prog 28 #[.pointer (some ⟨p, 0, none⟩), .agg m.cells] ww (fun e w' => e = .returned (.slice none 0 0) ∧ Box w' p 94 ({ v with top := max v.top m.st.n } : Pv).cells ∧ Box w' q 111 (qcs M h0 true).toArray ∧ Tal 132 U.ans w' h0 b a cap (hearS x m.fi) ∧ Kept (NackK h0 b q p) ww w') := by
  refine hideC fun C HC => ?_
  have HPW : Hid (Box ww p 94 v.cells) := h
  have HAsk : Hid (∀ W, Kept No ww W → Calls Try.prog 50 #[.pointer (some ⟨p, 0, none⟩)] W (fun e w' => e = .returned (.pointer (some ⟨q, 0, none⟩)) ∧ Kept No W w')) := hask
  have HZl : Hid (zs.length = v.ga.l) := hz
  have HZn : Hid (v.ga.l ≤ 2000000) := hn
  have HGr : Hid (Nums .i64 ww v.ga.a zs) := hg
  have HAb : Hid (ansB v zs m = true) := hab
  clear hz hn hg hab
  have HK_16 : Hid ((m.k == 16) = false) := h16
  clear h16
  have HK_17 : Hid ((m.k == 17) = false) := h17
  clear h17
  have HK_14 : Hid ((m.k == 14) = true) := h14
  clear h14
  have HQ : Hid (Box ww q 111 (qcs M h0 rf).toArray) := hQ
  have HT : Hid (Tal 132 U.ans ww h0 b a cap x) := hT
  have HHr : Hid (decide (m.fi ∈ missL x) = true) := hh
  clear hQ hT hh
  clear h hask
  go_enter Try.func28, Try.ntmps28
  go_upto_region 0 with fail
  refine WL.start ?_
  refine uR (pV ww.heap.size 0) (ww.alloc (.cells m.cells 47)) (exec_box 47 _ rfl m.cells (by kernel_rfl)) ?_
  try simp only [pS]
  refine uK (.slice none 0 0) <| WL.nil <| ?_
  try simp only [pS]
  obtain ⟨w, hw⟩ : ∃ w, w = ww.alloc (.cells m.cells 47) := ⟨_, rfl⟩
  rw [← hw]
  have HK : Hid (Kept No ww w) := by rw [hw]; exact (Kept.refl No ww).alloc _
  have HP : Hid (Box w (p) 94 (v.cells)) := by rw [hw]; exact HPW.out.alloc _
  have H3 : Hid (Box w (ww.heap.size) 47 (m.cells)) := by rw [hw]; exact Box.new _ _ _
  obtain ⟨B3, hB3⟩ : ∃ B3, B3 = ww.heap.size := ⟨_, rfl⟩
  rw [← hB3] at H3 ⊢
  clear hw hB3 HPW
  go_upto_region 1 with fail
  refine WL.start <| uK (pV p 0) <| ?_
  try simp only [pS]
  refine uC 50 #[pV p 0] (HAsk.out w HK.out) ?_
  rintro e w1 ⟨rfl, hk1⟩
  have HK1 : Hid (Kept No ww w1) := HK.out.then hk1
  have HP1 : Hid (Box w1 (p) 94 (v.cells)) := HP.out.kept hk1 (fun e => e)
  have H31 : Hid (Box w1 (B3) 47 (m.cells)) := H3.out.kept hk1 (fun e => e)
  refine ⟨.pointer (some ⟨q, 0, none⟩), rfl, ?_⟩
  clear hk1 HK HP H3 HAsk
  try simp only [pS]
  refine uK (pV q 0) <| WL.nil <| ?_
  try simp only [pS]
  go_upto_region 2 with fail
  refine WL.start <| uK (pV q 0) <| uB .eql 108 (pV q 0) (.pointer none) (.bool false) (by kernel_rfl) <| uK (.bool false) <| uK (pV p 0) <| uL 47 ⟨B3, 0, none⟩ (.agg m.cells) (load_Ms H31.out) <| ?_
  try simp only [pS]
  refine uC 55 #[pV p 0, .agg m.cells] (answers_any p v m zs w1 HP1.out HZl.out HZn.out (HGr.out.no HK1.out)) ?_
  rintro e w2 ⟨rfl, hk2⟩
  have HK2 : Hid (Kept No ww w2) := HK1.out.then hk2
  have HP2 : Hid (Box w2 (p) 94 (v.cells)) := HP1.out.kept hk2 (fun e => e)
  have H32 : Hid (Box w2 (B3) 47 (m.cells)) := H31.out.kept hk2 (fun e => e)
  refine ⟨.bool true, by rw [HAb.out], ?_⟩
  clear hk2 HK1 HP1 H31
  try simp only [pS]
  refine uK (.bool false) <| uK (.bool false) <| WL.nil <| ?_
  try simp only [pS]
  go_upto_region 4 with fail
  refine WL.start <| uK (pV B3 0) <| uL 3 ⟨B3, 0, none⟩ (.int .i64 m.k) (load_N (H32.out.cell 0)) <| WL.nil <| ?_
  try simp only [pS]
  go_upto_region 5 with fail
  refine WL.start <| uB .eql 3 (.int .i64 m.k) (.int .i64 16) (.bool false) (by rw [eqlN, HK_16.out]) <| uK (.bool false) <| WL.nil <| ?_
  try simp only [pS]
  go_upto_region 7 with fail
  refine WL.start <| uB .eql 3 (.int .i64 m.k) (.int .i64 17) (.bool false) (by rw [eqlN, HK_17.out]) <| uK (.bool false) <| WL.nil <| ?_
  try simp only [pS]
  go_upto_region 9 with fail
  refine WL.start <| uB .eql 3 (.int .i64 m.k) (.int .i64 14) (.bool true) (by rw [eqlN, HK_14.out]) <| uK (.bool true) <| WL.nil <| ?_
  try simp only [pS]
  go_upto_region 10 with fail
  refine WL.start <| uK (pV q 0) <| uK (pV B3 1) <| uK (pV B3 2) <| uL 3 ⟨B3, 2, none⟩ (.int .i64 m.fi) (load_N (H32.out.cell 2)) <| ?_
  try simp only [pS]
  have HT3 : Hid (Tal 132 U.ans w2 h0 b a cap x) := HT.out.no HK2.out
  have HQ3 : Hid (Box w2 q 111 (qcs M h0 rf).toArray) := HQ.out.kept HK2.out (fun e => e)
  refine uC 57 #[pV q 0, .int .i64 m.fi] (hear_any q h0 b cap a M rf x m.fi w2 HQ3.out HT3.out) ?_
  rintro e w4 ⟨rfl, hT4, hk4⟩
  have HT4 : Hid (Tal 132 U.ans w4 h0 b a cap (hearS x m.fi)) := hT4
  have H34 : Hid (Box w4 B3 47 m.cells) := H32.out.kept hk4 (tal_far2 HT3.out H32.out (by decide) (by decide))
  have HQ4 : Hid (Box w4 q 111 (qcs M h0 rf).toArray) := HQ3.out.kept hk4 (tal_far2 HT3.out HQ3.out (by decide) (by decide))
  have HP4 : Hid (Box w4 p 94 v.cells) := HP2.out.kept hk4 (tal_far2 HT3.out HP2.out (by decide) (by decide))
  have HK4 : Hid (Kept (Tb2 h0 b) ww w4) := (HK2.out.of_no : Kept (Tb2 h0 b) ww w2).then hk4
  refine ⟨.bool true, by rw [HHr.out], ?_⟩
  clear hT4 hk4 HT3 HQ3 HT HQ HP2 H32 HK2
  try simp only [pS]
  refine WL.nil ?_
  try simp only [pS]
  go_upto_region 11 with fail
  refine WL.start <| uK (pV q 0) <| uK (pV q 0) <| uK (pV q 31) <| ?_
  try simp only [pS]
  refine uT 4 ⟨q, 31, none⟩ (.bool true) _ (store_rf HQ4.out true) ?_
  try simp only [pS]
  refine WL.nil ?_
  try simp only [pS]
  obtain ⟨w5, hw⟩ : ∃ w5, w5 = w4.setRow q (qcs M h0 true).toArray := ⟨_, rfl⟩
  have hks : Kept (Only q) w4 w5 := by rw [hw]; exact Kept.setRow _ _ _
  have HQ5 : Hid (Box w5 q 111 (qcs M h0 true).toArray) := by rw [hw]; exact HQ4.out.setRow _
  have HP5 : Hid (Box w5 p 94 v.cells) := HP4.out.kept hks (box_ty HP4.out HQ4.out (by decide))
  have H35 : Hid (Box w5 B3 47 m.cells) := H34.out.kept hks (box_ty H34.out HQ4.out (by decide))
  have HT5 : Hid (Tal 132 U.ans w5 h0 b a cap (hearS x m.fi)) := HT4.out.kept hks (fun k e f => tal_ne HT4.out HQ4.out (by decide) (by decide) e f)
  have HK5 : Hid (Kept (NackK h0 b q p) ww w5) := HK4.out.trans hks (fun _ e => .inl e) (fun _ _ e => .inr (.inl e))
  rw [← hw]
  clear hw hks HQ4 HP4 H34 HT4 HK4
  go_upto_region 12 with fail
  refine wp_region_held_drew (S := fun w' => Box w' B3 47 m.cells) rfl H35.out (fun hH => ?_)
  refine xV 0 47 (pV p 0) hH <| xV 1 48 (pV p 0) hH <| xV 2 49 (pV p 0) hH <| xV 3 50 (pV p 19) hH <| xV 5 52 (pV B3 11) hH <| xV 6 53 (pV B3 11) hH <| ?_
  try simp only [pS]
  refine xL 7 54 3 ⟨B3, 11, none⟩ (.int .i64 m.st.n) (fun _ hw => load_N (hw.cell 11)) hH ?_
  try simp only [pS]
  refine xP 4 51 (.int .i64 v.top) (exec_load 3 _ rfl ⟨p, 19, none⟩ (by kernel_rfl) (.int .i64 v.top) (load_N (HP5.out.cell 19))) hH (fun hH => ?_)
  try simp only [pS]
  refine xU 8 55 (.int .i64 (max v.top m.st.n)) (fun w' hw => exec_maxN _ _ 3 3 rfl v.top m.st.n (by kernel_rfl) (by kernel_rfl)) hH <| xV 9 56 (pV p 0) hH <| xV 10 57 (pV p 19) hH <| ?_
  try simp only [pS]
  refine xS 11 3 ⟨p, 19, none⟩ (.int .i64 (max v.top m.st.n)) (store_top (w := w5.drew) HP5.out (max v.top m.st.n)) (hH.rowNe (box_ty H35.out HP5.out (by decide)) _) (fun hH => ?_)
  try simp only [pS]
  refine wpAnyH_done (by kernel_rfl) ?_ _
  try simp only [pS]
  obtain ⟨w6, hw⟩ : ∃ w6, w6 = w5.drew.setRow p ({ v with top := max v.top m.st.n } : Pv).cells := ⟨_, rfl⟩
  have hk0 : Kept No w5 w5.drew := (Kept.refl No w5).drew
  have hks : Kept (Only p) w5.drew w6 := by rw [hw]; exact Kept.setRow _ _ _
  have hP0 : Box w5.drew p 94 v.cells := HP5.out
  have hQ0 : Box w5.drew q 111 (qcs M h0 true).toArray := HQ5.out
  have hT0 : Tal 132 U.ans w5.drew h0 b a cap (hearS x m.fi) := HT5.out.no hk0
  have HP6 : Hid (Box w6 p 94 ({ v with top := max v.top m.st.n } : Pv).cells) := by rw [hw]; exact hP0.setRow _
  have HQ6 : Hid (Box w6 q 111 (qcs M h0 true).toArray) := hQ0.kept hks (box_ty hQ0 hP0 (by decide))
  have HT6 : Hid (Tal 132 U.ans w6 h0 b a cap (hearS x m.fi)) := hT0.kept hks (fun k e f => tal_ne hT0 hP0 (by decide) (by decide) e f)
  have HK6 : Hid (Kept (NackK h0 b q p) ww w6) := (HK5.out.thenNo hk0).trans hks (fun _ e => e) (fun _ _ e => .inr (.inr e))
  rw [← hw]
  clear hw hks hk0 hP0 hQ0 hT0 HQ5 HP5 H35 HT5 HK5
  go_wp2
  rw [HC.out]
  exact ⟨rfl, HP6.out, HQ6.out, HT6.out, HK6.out⟩

end Go.Proofs.Ytpabpeppgpeaoaa
