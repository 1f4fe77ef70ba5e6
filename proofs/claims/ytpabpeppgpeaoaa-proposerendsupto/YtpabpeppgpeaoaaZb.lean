import Derived.Test.YtpabpeppgpeaoaaZa
namespace Go.Proofs.Ytpabpeppgpeaoaa
open Go.RowKit Gt
set_option linter.unusedVariables false
set_option linter.unusedSimpArgs false

theorem Ms.partC (m : Ms) (x : List Value) : Part (m.cs ++ x) 16 m.c.cs := fun j v h => by
  have hj := (List.getElem?_eq_some_iff.1 h).1
  have h9 : m.c.cs.length = 9 := rfl
  rw [h9] at hj
  match j, hj with
  | 0, _ => exact h
  | 1, _ => exact h
  | 2, _ => exact h
  | 3, _ => exact h
  | 4, _ => exact h
  | 5, _ => exact h
  | 6, _ => exact h
  | 7, _ => exact h
  | 8, _ => exact h
theorem load_qC {w : World} {q h : Nat} {m : Ms} {rf : Bool} (hb : Box w q 111 (qcs m h rf).toArray) : (loadVar 28 ⟨q, 16, none⟩).run Try.prog w = .ok (.agg m.c.cells) w :=
  run_load_part hb (Ms.partC m _) Try.und28 rfl Try.size28
set_option maxRecDepth 100000 in
set_option maxHeartbeats 4000000 in
theorem agreedA_enough (p q t : Nat) (v : Pv) (m : Ms) (h b cap tb tc : Nat) (a ta : Option Addr) (M : Ms) (rf : Bool) (x y : TS Unit) (zs : List Int) (ww : World) (hbp : Box ww p 94 v.cells) (hs : eqS m.st ⟨v.n, v.cl⟩ = true) (hph : v.ph = phAcc q t) (hk : (m.k == 15) = true) (hq : Box ww q 111 (qcs M h rf).toArray) (hx : Tal 132 U.ans ww h b a cap x) (hy : Tal 132 U.ans ww t tb ta tc y) (hne : h ≠ t ∧ b ≠ tb) (hhr : decide (m.fi ∈ missL x) = true) (htk : takeB y m.fi = true) (hz : zs.length = v.ga.l) (hzn : v.ga.l ≤ 2000000) (hgr : ∀ w', Kept (fun k => Tb2 h b k ∨ Tb2 t tb k) ww w' → Own 3 1 w' 0 v.ga.a v.ga.k v.ga.l (zs.map (Value.int .i64))) : Calls Try.prog 58 #[.pointer (some ⟨p, 0, none⟩), .agg m.cells] ww (fun e w' => ∃ (lA : Option Addr) (lC : Nat), e = .returned (.slice lA zs.length lC) ∧ Own 47 30 w' ww.heap.size lA lC zs.length (msL (zs.map (lrnM v M.c).to)) ∧ Box w' p 94 ({ v with ph := phDec M.c } : Pv).cells ∧ Tal 132 U.ans w' h b a cap (hearS x m.fi) ∧ Tal 132 U.ans w' t tb ta tc (takeS y m.fi ()) ∧ Kept (fun k => k = p ∨ Tb2 h b k ∨ Tb2 t tb k) ww w') := by
  refine hideC fun C HC => ?_
  have HPW : Hid (Box ww p 94 v.cells) := hbp
  have HS : Hid (eqS m.st ⟨v.n, v.cl⟩ = true) := hs
  have HPh : Hid (v.ph = phAcc q t) := hph
  have HKd : Hid ((m.k == 15) = true) := hk
  have HQ : Hid (Box ww q 111 (qcs M h rf).toArray) := hq
  have HTx : Hid (Tal 132 U.ans ww h b a cap x) := hx
  have HTy : Hid (Tal 132 U.ans ww t tb ta tc y) := hy
  have HNe : Hid (h ≠ t ∧ b ≠ tb) := hne
  have HPW2 : Hid (Box ww p 94 v.cells) := hbp
  have HHr : Hid (decide (m.fi ∈ missL x) = true) := hhr
  clear hk hq hx hy hne hhr
  have HTk : Hid (takeB y m.fi = true) := htk
  have HZl : Hid (zs.length = v.ga.l) := hz
  have HZn : Hid (v.ga.l ≤ 2000000) := hzn
  have HGr : Hid (∀ w', Kept (fun k => Tb2 h b k ∨ Tb2 t tb k) ww w' → Own 3 1 w' 0 v.ga.a v.ga.k v.ga.l (zs.map (Value.int .i64))) := hgr
  clear htk hz hzn hgr
  clear hbp hs hph
  go_enter Try.func58, Try.ntmps58
  go_upto_region 0 with fail
  refine WL.start ?_
  refine uR (pV ww.heap.size 0) (ww.alloc (.cells m.cells 47)) (exec_box 47 _ rfl m.cells (by kernel_rfl)) ?_
  try simp only [pS]
  refine uK (.slice none 0 0) <| WL.nil <| ?_
  try simp only [pS]
  obtain ⟨w, hw⟩ : ∃ w, w = ww.alloc (.cells m.cells 47) := ⟨_, rfl⟩
  rw [← hw]
  have HK : Hid (Kept No ww w) := by rw [hw]; exact (Kept.refl No ww).alloc _
  have HP : Hid (Box w (p) 94 (v.cells)) := by rw [hw]; exact HPW.out.alloc _
  have H3 : Hid (Box w (ww.heap.size) 47 (m.cells)) := by rw [hw]; exact Box.new _ _ _
  obtain ⟨B3, hB3⟩ : ∃ B3, B3 = ww.heap.size := ⟨_, rfl⟩
  rw [← hB3] at H3 ⊢
  clear hw hB3 HPW
  go_upto_region 1 with fail
  refine wp_region_held_drew (S := fun w' => Box w' (p) 94 (v.cells) ∧ Box w' (B3) 47 (m.cells)) rfl ⟨HP.out, H3.out⟩ (fun hH => ?_)
  refine xV 0 8 (pV B3 11) hH <| xL 1 9 39 ⟨B3, 11, none⟩ (.agg #[.int .i64 m.st.n, .int .i64 m.st.c]) (fun _ hw => load_mS hw.2) hH <| xV 2 10 (pV p 0) hH <| xV 3 11 (pV p 0) hH <| xV 4 12 (pV p 17) hH <| xL 5 13 39 ⟨p, 17, none⟩ (.agg #[.int .i64 v.n, .int .i64 v.cl]) (fun _ hw => load_pB hw.1) hH <| ?_
  try simp only [pS]
  refine xB 6 14 .neq 39 (.agg #[.int .i64 m.st.n, .int .i64 m.st.c]) (.agg #[.int .i64 v.n, .int .i64 v.cl]) (.bool false) (fun _ _ => by rw [neqS m.st ⟨v.n, v.cl⟩, HS.out]; rfl) hH (hg := fun _ => guard_S _ (.inr rfl) _ _ _ _ _) ?_
  try simp only [pS]
  refine wpAnyH_done (by kernel_rfl) ?_ _
  try simp only [pS]
  clear hH
  obtain ⟨w1, hw1⟩ : ∃ w1, w1 = w.drew := ⟨_, rfl⟩
  have HP1 : Hid (Box w1 (p) 94 (v.cells)) := by rw [hw1]; exact HP.out
  have H31 : Hid (Box w1 (B3) 47 (m.cells)) := by rw [hw1]; exact H3.out
  have HK1 : Hid (Kept No ww w1) := by rw [hw1]; exact HK.out.drew
  rw [← hw1]
  clear hw1 HP H3 HK
  go_upto_region 3 with fail
  refine WL.start <| uK (pV B3 1) <| uK (pV B3 2) <| uL 3 ⟨B3, 2, none⟩ (.int .i64 m.fi) (load_N (H31.out.cell 2)) <| uK (.int .i64 m.fi) <| WL.nil <| ?_
  try simp only [pS]
  go_upto_region 4 with fail
  refine WL.start <| uK (pV p 0) <| uK (pV p 0) <| uK (pV p 21) <| uL 92 ⟨p, 21, none⟩ (phAcc q t) (by rw [← HPh.out]; exact load_92 HP1.out) <| WL.nil <| ?_
  try simp only [pS]
  go_upto_region 5 with fail
  refine WL.start <| uK (.tuple #[.agg #[.pointer none, .pointer none], .bool false]) <| uK (.bool false) <| uK (.agg #[.pointer none, .pointer none]) <| WL.nil <| ?_
  try simp only [pS]
  go_upto_region 9 with fail
  refine WL.start <| uK (.tuple #[.agg #[pV q 0, pV t 0], .bool true]) <| uK (.bool true) <| uK (.agg #[pV q 0, pV t 0]) <| WL.nil <| ?_
  try simp only [pS]
  go_upto_region 10 with fail
  refine WL.start ?_
  refine wp_allocW 162 rfl #[.pointer none, .pointer none] zero162 w1.heap.size rfl (by kernel_rfl) ?_
  try simp only [pS]
  obtain ⟨w2, hw2⟩ : ∃ w2, w2 = w1.alloc (.cells #[.pointer none, .pointer none] 162) := ⟨_, rfl⟩
  rw [← hw2]
  have H72 : Hid (Box w2 w1.heap.size 162 #[.pointer none, .pointer none]) := by rw [hw2]; exact Box.new _ _ _
  have HK12 : Hid (Kept No w1 w2) := by rw [hw2]; exact (Kept.refl No w1).alloc _
  obtain ⟨B7, hB7⟩ : ∃ B7, B7 = w1.heap.size := ⟨_, rfl⟩
  rw [← hB7] at H72 ⊢
  have HB7 : Hid (w1.heap.size ≤ B7) := by show _ ≤ _; omega
  clear hw2 hB7
  refine uT 162 ⟨B7, 0, none⟩ (.agg #[pV q 0, pV t 0]) _ (store_162 H72.out) ?_
  try simp only [pS]
  refine WL.nil ?_
  try simp only [pS]
  obtain ⟨w3, hw3⟩ : ∃ w3, w3 = w2.setRow B7 #[.pointer (some ⟨q, 0, none⟩), .pointer (some ⟨t, 0, none⟩)] := ⟨_, rfl⟩
  rw [← hw3]
  have H73 : Hid (Box w3 B7 162 #[.pointer (some ⟨q, 0, none⟩), .pointer (some ⟨t, 0, none⟩)]) := by rw [hw3]; exact H72.out.setRow _
  have HK13 : Hid (Kept No w1 w3) := by rw [hw3]; exact HK12.out.newRow HB7.out _
  have HK3 : Hid (Kept No ww w3) := HK1.out.then HK13.out
  have H33 : Hid (Box w3 (B3) 47 (m.cells)) := H31.out.kept HK13.out (fun e => e)
  clear hw3 H72 HK12 HK13 H31
  go_upto_region 11 with fail
  refine WL.start <| uK (pV B3 0) <| uL 3 ⟨B3, 0, none⟩ (.int .i64 m.k) (load_N (H33.out.cell 0)) <| uB .eql 3 (.int .i64 m.k) (.int .i64 15) (.bool true) (by rw [eqlN, HKd.out]) <| uK (.bool true) <| uK (pV B7 0) <| uL 108 ⟨B7, 0, none⟩ (pV q 0) (load_108 (H73.out.cell 0)) <| uK (.int .i64 m.fi) <| ?_
  try simp only [pS]
  have HT3 : Hid (Tal 132 U.ans w3 h b a cap x) := HTx.out.no HK3.out
  have HY3 : Hid (Tal 132 U.ans w3 t tb ta tc y) := HTy.out.no HK3.out
  have HQ3 : Hid (Box w3 q 111 (qcs M h rf).toArray) := HQ.out.kept HK3.out (fun e => e)
  have HP3 : Hid (Box w3 p 94 v.cells) := HPW2.out.kept HK3.out (fun e => e)
  refine uC 57 #[pV q 0, .int .i64 m.fi] (hear_any q h b cap a M rf x m.fi w3 HQ3.out HT3.out) ?_
  rintro e w4 ⟨rfl, hT4, hk4⟩
  have HT4 : Hid (Tal 132 U.ans w4 h b a cap (hearS x m.fi)) := hT4
  have H74 : Hid (Box w4 B7 162 #[.pointer (some ⟨q, 0, none⟩), .pointer (some ⟨t, 0, none⟩)]) := H73.out.kept hk4 (tal_far2 HT3.out H73.out (by decide) (by decide))
  have HQ4 : Hid (Box w4 q 111 (qcs M h rf).toArray) := HQ3.out.kept hk4 (tal_far2 HT3.out HQ3.out (by decide) (by decide))
  have HP4 : Hid (Box w4 p 94 v.cells) := HP3.out.kept hk4 (tal_far2 HT3.out HP3.out (by decide) (by decide))
  have HY4 : Hid (Tal 132 U.ans w4 t tb ta tc y) := HY3.out.kept hk4 (fun k e => tal_apart HT3.out HY3.out HNe.out.1 HNe.out.2 e)
  have HK4 : Hid (Kept (Tb2 h b) ww w4) := (HK3.out.of_no : Kept (Tb2 h b) ww w3).then hk4
  refine ⟨.bool true, by rw [HHr.out], ?_⟩
  clear hT4 hk4 HT3 HY3 HQ3 HP3 H73
  try simp only [pS]
  refine uK (.bool true) <| uK (.bool true) <| uK (pV B7 1) <| uL 87 ⟨B7, 1, none⟩ (pV t 0) (load_87 (H74.out.cell 1)) <| uK (.int .i64 m.fi) <| uW (.agg #[]) (exec_build 89 _ rfl (#[]) (by kernel_rfl)) <| ?_
  try simp only [pS]
  refine uC 79 #[pV t 0, .int .i64 m.fi, .agg #[]] (U.take_any t tb tc ta y m.fi () w4 HY4.out) ?_
  rintro e w5 ⟨rfl, hY5, hk5⟩
  have HY5 : Hid (Tal 132 U.ans w5 t tb ta tc (takeS y m.fi ())) := hY5
  have HT5 : Hid (Tal 132 U.ans w5 h b a cap (hearS x m.fi)) := HT4.out.kept hk5 (fun k e => tal_apart HY4.out HT4.out (Ne.symm HNe.out.1) (Ne.symm HNe.out.2) e)
  have H75 : Hid (Box w5 B7 162 #[.pointer (some ⟨q, 0, none⟩), .pointer (some ⟨t, 0, none⟩)]) := H74.out.kept hk5 (tal_far2 HY4.out H74.out (by decide) (by decide))
  have HQ5 : Hid (Box w5 q 111 (qcs M h rf).toArray) := HQ4.out.kept hk5 (tal_far2 HY4.out HQ4.out (by decide) (by decide))
  have HP5 : Hid (Box w5 p 94 v.cells) := HP4.out.kept hk5 (tal_far2 HY4.out HP4.out (by decide) (by decide))
  have HK5 : Hid (Kept (fun k => Tb2 h b k ∨ Tb2 t tb k) ww w5) := HK4.out.trans hk5 (fun _ e => .inl e) (fun _ _ e => .inr e)
  refine ⟨.bool true, by rw [HTk.out], ?_⟩
  clear hY5 hk5 HT4 HY4 HQ4 HP4 H74 HK4
  try simp only [pS]
  refine uK (.bool true) <| WL.nil <| ?_
  try simp only [pS]
  go_upto_region 12 with fail
  refine WL.start <| uK (pV p 0) <| uK (pV B7 0) <| uL 108 ⟨B7, 0, none⟩ (pV q 0) (load_108 (H75.out.cell 0)) <| uK (pV q 0) <| uK (pV q 0) <| uK (pV q 16) <| uL 28 ⟨q, 16, none⟩ (.agg M.c.cells) (load_qC HQ5.out) <| ?_
  try simp only [pS]
  refine uC 83 #[pV p 0, .agg M.c.cells] (learn_any p v M.c zs w5 HP5.out HZl.out HZn.out (HGr.out w5 HK5.out)) ?_
  rintro e w6 ⟨lA, lC, rfl, hL6, hP6, hk6⟩
  refine ⟨.slice lA zs.length lC, rfl, ?_⟩
  try simp only [pS]
  refine uK (.slice lA zs.length lC) <| WL.nil <| ?_
  try simp only [pS]
  go_wp2
  rw [HC.out]
  have hTp : ¬ Tb2 h b p := fun e => tal_far2 HT5.out HP5.out (by decide) (by decide) e
  have hYp : ¬ Tb2 t tb p := fun e => tal_far2 HY5.out HP5.out (by decide) (by decide) e
  exact ⟨lA, lC, rfl, hL6.lower HK5.out.size, hP6, HT5.out.kept hk6 (fun k hk e => tal_ne HT5.out HP5.out (by decide) (by decide) hk e), HY5.out.kept hk6 (fun k hk e => tal_ne HY5.out HP5.out (by decide) (by decide) hk e), HK5.out.trans hk6 (fun _ e => e.elim (fun e => .inr (.inl e)) (fun e => .inr (.inr e))) (fun _ _ e => .inl e)⟩

end Go.Proofs.Ytpabpeppgpeaoaa
