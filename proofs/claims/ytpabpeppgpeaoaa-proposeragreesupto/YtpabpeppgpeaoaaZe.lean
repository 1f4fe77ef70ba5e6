import Derived.Test.YtpabpeppgpeaoaaZc
namespace Go.Proofs.Ytpabpeppgpeaoaa
open Go.RowKit Gt
set_option linter.unusedVariables false
set_option linter.unusedSimpArgs false

set_option maxRecDepth 100000 in
set_option maxHeartbeats 4000000 in
theorem take_silent (p : Nat) (v : Pv) (m : Ms) (ww : World) (h : Box ww p 94 v.cells) (hask : ∀ W, Kept No ww W → Calls Try.prog 50 #[.pointer (some ⟨p, 0, none⟩)] W (fun e w' => e = .returned (.pointer none) ∧ Kept No W w')) : Calls Try.prog 28 #[.pointer (some ⟨p, 0, none⟩), .agg m.cells] ww (fun e w' => e = .returned (.slice none 0 0) ∧ Kept No ww w') := by
  refine hideC fun C HC => ?_
  have HPW : Hid (Box ww p 94 v.cells) := h
  have HAsk : Hid (∀ W, Kept No ww W → Calls Try.prog 50 #[.pointer (some ⟨p, 0, none⟩)] W (fun e w' => e = .returned (.pointer none) ∧ Kept No W w')) := hask
  clear h hask
  go_enter Try.func28, Try.ntmps28
  go_upto_region 0 with fail
  refine WL.start ?_
  refine uR (pV ww.heap.size 0) (ww.alloc (.cells m.cells 47)) (exec_box 47 _ rfl m.cells (by kernel_rfl)) ?_
  try simp only [pS]
  refine uK (.slice none 0 0) <| WL.nil <| ?_
  try simp only [pS]
  obtain ⟨w, hw⟩ : ∃ w, w = ww.alloc (.cells m.cells 47) := ⟨_, rfl⟩
  rw [← hw]
  have HK : Hid (Kept No ww w) := by rw [hw]; exact (Kept.refl No ww).alloc _
  have HP : Hid (Box w (p) 94 (v.cells)) := by rw [hw]; exact HPW.out.alloc _
  have H3 : Hid (Box w (ww.heap.size) 47 (m.cells)) := by rw [hw]; exact Box.new _ _ _
  obtain ⟨B3, hB3⟩ : ∃ B3, B3 = ww.heap.size := ⟨_, rfl⟩
  rw [← hB3] at H3 ⊢
  clear hw hB3 HPW
  go_upto_region 1 with fail
  refine WL.start <| uK (pV p 0) <| ?_
  try simp only [pS]
  refine uC 50 #[pV p 0] (HAsk.out w HK.out) ?_
  rintro e w1 ⟨rfl, hk1⟩
  have HK1 : Hid (Kept No ww w1) := HK.out.then hk1
  have HP1 : Hid (Box w1 (p) 94 (v.cells)) := HP.out.kept hk1 (fun e => e)
  have H31 : Hid (Box w1 (B3) 47 (m.cells)) := H3.out.kept hk1 (fun e => e)
  refine ⟨.pointer none, rfl, ?_⟩
  clear hk1 HK HP H3 HAsk
  try simp only [pS]
  refine uK (.pointer none) <| WL.nil <| ?_
  try simp only [pS]
  go_upto_region 2 with fail
  refine WL.start <| uK (.pointer none) <| uB .eql 108 (.pointer none) (.pointer none) (.bool true) (by kernel_rfl) <| uK (.bool true) <| uZ <| uZ <| uZ <| uZ <| ?_
  try simp only [pS]
  refine uK (.bool true) <| WL.nil <| ?_
  try simp only [pS]
  go_wp2
  rw [HC.out]
  exact ⟨rfl, HK1.out⟩
set_option maxRecDepth 100000 in
set_option maxHeartbeats 4000000 in
theorem take_wrong (p : Nat) (v : Pv) (m : Ms) (q : Nat) (zs : List Int) (ww : World) (h : Box ww p 94 v.cells) (hask : ∀ W, Kept No ww W → Calls Try.prog 50 #[.pointer (some ⟨p, 0, none⟩)] W (fun e w' => e = .returned (.pointer (some ⟨q, 0, none⟩)) ∧ Kept No W w')) (hz : zs.length = v.ga.l) (hn : v.ga.l ≤ 2000000) (hg : Nums .i64 ww v.ga.a zs) (hab : ansB v zs m = false) : Calls Try.prog 28 #[.pointer (some ⟨p, 0, none⟩), .agg m.cells] ww (fun e w' => e = .returned (.slice none 0 0) ∧ Kept No ww w') := by
  refine hideC fun C HC => ?_
  have HPW : Hid (Box ww p 94 v.cells) := h
  have HAsk : Hid (∀ W, Kept No ww W → Calls Try.prog 50 #[.pointer (some ⟨p, 0, none⟩)] W (fun e w' => e = .returned (.pointer (some ⟨q, 0, none⟩)) ∧ Kept No W w')) := hask
  have HZl : Hid (zs.length = v.ga.l) := hz
  have HZn : Hid (v.ga.l ≤ 2000000) := hn
  have HGr : Hid (Nums .i64 ww v.ga.a zs) := hg
  have HAb : Hid (ansB v zs m = false) := hab
  clear hz hn hg hab
  clear h hask
  go_enter Try.func28, Try.ntmps28
  go_upto_region 0 with fail
  refine WL.start ?_
  refine uR (pV ww.heap.size 0) (ww.alloc (.cells m.cells 47)) (exec_box 47 _ rfl m.cells (by kernel_rfl)) ?_
  try simp only [pS]
  refine uK (.slice none 0 0) <| WL.nil <| ?_
  try simp only [pS]
  obtain ⟨w, hw⟩ : ∃ w, w = ww.alloc (.cells m.cells 47) := ⟨_, rfl⟩
  rw [← hw]
  have HK : Hid (Kept No ww w) := by rw [hw]; exact (Kept.refl No ww).alloc _
  have HP : Hid (Box w (p) 94 (v.cells)) := by rw [hw]; exact HPW.out.alloc _
  have H3 : Hid (Box w (ww.heap.size) 47 (m.cells)) := by rw [hw]; exact Box.new _ _ _
  obtain ⟨B3, hB3⟩ : ∃ B3, B3 = ww.heap.size := ⟨_, rfl⟩
  rw [← hB3] at H3 ⊢
  clear hw hB3 HPW
  go_upto_region 1 with fail
  refine WL.start <| uK (pV p 0) <| ?_
  try simp only [pS]
  refine uC 50 #[pV p 0] (HAsk.out w HK.out) ?_
  rintro e w1 ⟨rfl, hk1⟩
  have HK1 : Hid (Kept No ww w1) := HK.out.then hk1
  have HP1 : Hid (Box w1 (p) 94 (v.cells)) := HP.out.kept hk1 (fun e => e)
  have H31 : Hid (Box w1 (B3) 47 (m.cells)) := H3.out.kept hk1 (fun e => e)
  refine ⟨.pointer (some ⟨q, 0, none⟩), rfl, ?_⟩
  clear hk1 HK HP H3 HAsk
  try simp only [pS]
  refine uK (pV q 0) <| WL.nil <| ?_
  try simp only [pS]
  go_upto_region 2 with fail
  refine WL.start <| uK (pV q 0) <| uB .eql 108 (pV q 0) (.pointer none) (.bool false) (by kernel_rfl) <| uK (.bool false) <| uK (pV p 0) <| uL 47 ⟨B3, 0, none⟩ (.agg m.cells) (load_Ms H31.out) <| ?_
  try simp only [pS]
  refine uC 55 #[pV p 0, .agg m.cells] (answers_any p v m zs w1 HP1.out HZl.out HZn.out (HGr.out.no HK1.out)) ?_
  rintro e w2 ⟨rfl, hk2⟩
  have HK2 : Hid (Kept No ww w2) := HK1.out.then hk2
  have HP2 : Hid (Box w2 (p) 94 (v.cells)) := HP1.out.kept hk2 (fun e => e)
  have H32 : Hid (Box w2 (B3) 47 (m.cells)) := H31.out.kept hk2 (fun e => e)
  refine ⟨.bool false, by rw [HAb.out], ?_⟩
  clear hk2 HK1 HP1 H31
  try simp only [pS]
  refine uK (.bool true) <| uK (.bool true) <| WL.nil <| ?_
  try simp only [pS]
  go_wp2
  rw [HC.out]
  exact ⟨rfl, HK2.out⟩
set_option maxRecDepth 100000 in
set_option maxHeartbeats 4000000 in
theorem take_pass (p : Nat) (v : Pv) (m : Ms) (q : Nat) (zs : List Int) (ww : World) (h : Box ww p 94 v.cells) (hask : ∀ W, Kept No ww W → Calls Try.prog 50 #[.pointer (some ⟨p, 0, none⟩)] W (fun e w' => e = .returned (.pointer (some ⟨q, 0, none⟩)) ∧ Kept No W w')) (hz : zs.length = v.ga.l) (hn : v.ga.l ≤ 2000000) (hg : Nums .i64 ww v.ga.a zs) (hab : ansB v zs m = true) (h16 : (m.k == 16) = false) (h17 : (m.k == 17) = false) (h14 : (m.k == 14) = false) (h13 : (m.k == 13) = false) (h15 : (m.k == 15) = false) : Calls Try.prog 28 #[.pointer (some ⟨p, 0, none⟩), .agg m.cells] ww (fun e w' => e = .returned (.slice none 0 0) ∧ Kept No ww w') := by
  refine hideC fun C HC => ?_
  have HPW : Hid (Box ww p 94 v.cells) := h
  have HAsk : Hid (∀ W, Kept No ww W → Calls Try.prog 50 #[.pointer (some ⟨p, 0, none⟩)] W (fun e w' => e = .returned (.pointer (some ⟨q, 0, none⟩)) ∧ Kept No W w')) := hask
  have HZl : Hid (zs.length = v.ga.l) := hz
  have HZn : Hid (v.ga.l ≤ 2000000) := hn
  have HGr : Hid (Nums .i64 ww v.ga.a zs) := hg
  have HAb : Hid (ansB v zs m = true) := hab
  clear hz hn hg hab
  have HK_16 : Hid ((m.k == 16) = false) := h16
  clear h16
  have HK_17 : Hid ((m.k == 17) = false) := h17
  clear h17
  have HK_14 : Hid ((m.k == 14) = false) := h14
  clear h14
  have HK_13 : Hid ((m.k == 13) = false) := h13
  clear h13
  have HK_15 : Hid ((m.k == 15) = false) := h15
  clear h15
  clear h hask
  go_enter Try.func28, Try.ntmps28
  go_upto_region 0 with fail
  refine WL.start ?_
  refine uR (pV ww.heap.size 0) (ww.alloc (.cells m.cells 47)) (exec_box 47 _ rfl m.cells (by kernel_rfl)) ?_
  try simp only [pS]
  refine uK (.slice none 0 0) <| WL.nil <| ?_
  try simp only [pS]
  obtain ⟨w, hw⟩ : ∃ w, w = ww.alloc (.cells m.cells 47) := ⟨_, rfl⟩
  rw [← hw]
  have HK : Hid (Kept No ww w) := by rw [hw]; exact (Kept.refl No ww).alloc _
  have HP : Hid (Box w (p) 94 (v.cells)) := by rw [hw]; exact HPW.out.alloc _
  have H3 : Hid (Box w (ww.heap.size) 47 (m.cells)) := by rw [hw]; exact Box.new _ _ _
  obtain ⟨B3, hB3⟩ : ∃ B3, B3 = ww.heap.size := ⟨_, rfl⟩
  rw [← hB3] at H3 ⊢
  clear hw hB3 HPW
  go_upto_region 1 with fail
  refine WL.start <| uK (pV p 0) <| ?_
  try simp only [pS]
  refine uC 50 #[pV p 0] (HAsk.out w HK.out) ?_
  rintro e w1 ⟨rfl, hk1⟩
  have HK1 : Hid (Kept No ww w1) := HK.out.then hk1
  have HP1 : Hid (Box w1 (p) 94 (v.cells)) := HP.out.kept hk1 (fun e => e)
  have H31 : Hid (Box w1 (B3) 47 (m.cells)) := H3.out.kept hk1 (fun e => e)
  refine ⟨.pointer (some ⟨q, 0, none⟩), rfl, ?_⟩
  clear hk1 HK HP H3 HAsk
  try simp only [pS]
  refine uK (pV q 0) <| WL.nil <| ?_
  try simp only [pS]
  go_upto_region 2 with fail
  refine WL.start <| uK (pV q 0) <| uB .eql 108 (pV q 0) (.pointer none) (.bool false) (by kernel_rfl) <| uK (.bool false) <| uK (pV p 0) <| uL 47 ⟨B3, 0, none⟩ (.agg m.cells) (load_Ms H31.out) <| ?_
  try simp only [pS]
  refine uC 55 #[pV p 0, .agg m.cells] (answers_any p v m zs w1 HP1.out HZl.out HZn.out (HGr.out.no HK1.out)) ?_
  rintro e w2 ⟨rfl, hk2⟩
  have HK2 : Hid (Kept No ww w2) := HK1.out.then hk2
  have HP2 : Hid (Box w2 (p) 94 (v.cells)) := HP1.out.kept hk2 (fun e => e)
  have H32 : Hid (Box w2 (B3) 47 (m.cells)) := H31.out.kept hk2 (fun e => e)
  refine ⟨.bool true, by rw [HAb.out], ?_⟩
  clear hk2 HK1 HP1 H31
  try simp only [pS]
  refine uK (.bool false) <| uK (.bool false) <| WL.nil <| ?_
  try simp only [pS]
  go_upto_region 4 with fail
  refine WL.start <| uK (pV B3 0) <| uL 3 ⟨B3, 0, none⟩ (.int .i64 m.k) (load_N (H32.out.cell 0)) <| WL.nil <| ?_
  try simp only [pS]
  go_upto_region 5 with fail
  refine WL.start <| uB .eql 3 (.int .i64 m.k) (.int .i64 16) (.bool false) (by rw [eqlN, HK_16.out]) <| uK (.bool false) <| WL.nil <| ?_
  try simp only [pS]
  go_upto_region 7 with fail
  refine WL.start <| uB .eql 3 (.int .i64 m.k) (.int .i64 17) (.bool false) (by rw [eqlN, HK_17.out]) <| uK (.bool false) <| WL.nil <| ?_
  try simp only [pS]
  go_upto_region 9 with fail
  refine WL.start <| uB .eql 3 (.int .i64 m.k) (.int .i64 14) (.bool false) (by rw [eqlN, HK_14.out]) <| uK (.bool false) <| WL.nil <| ?_
  try simp only [pS]
  go_upto_region 13 with fail
  refine WL.start <| uB .eql 3 (.int .i64 m.k) (.int .i64 13) (.bool false) (by rw [eqlN, HK_13.out]) <| uK (.bool false) <| WL.nil <| ?_
  try simp only [pS]
  go_upto_region 14 with fail
  refine WL.start <| uB .eql 3 (.int .i64 m.k) (.int .i64 15) (.bool false) (by rw [eqlN, HK_15.out]) <| uK (.bool false) <| WL.nil <| ?_
  try simp only [pS]
  go_wp2
  rw [HC.out]
  exact ⟨rfl, HK2.out⟩
set_option maxRecDepth 100000 in
set_option maxHeartbeats 4000000 in
theorem take_promise (p : Nat) (v : Pv) (m : Ms) (q : Nat) (zs : List Int) (D : World → Ending → World → Prop) (ww : World) (h : Box ww p 94 v.cells) (hask : ∀ W, Kept No ww W → Calls Try.prog 50 #[.pointer (some ⟨p, 0, none⟩)] W (fun e w' => e = .returned (.pointer (some ⟨q, 0, none⟩)) ∧ Kept No W w')) (hz : zs.length = v.ga.l) (hn : v.ga.l ≤ 2000000) (hg : Nums .i64 ww v.ga.a zs) (hab : ansB v zs m = true) (h16 : (m.k == 16) = false) (h17 : (m.k == 17) = false) (h14 : (m.k == 14) = false) (h13 : (m.k == 13) = true) (hret : ∀ W e w', D W e w' → ∃ x : Sl, e = .returned x.v) (hagr : ∀ W, Kept No ww W → Calls Try.prog 58 #[.pointer (some ⟨p, 0, none⟩), .agg m.cells] W (D W)) : Calls Try.prog 28 #[.pointer (some ⟨p, 0, none⟩), .agg m.cells] ww (fun e w' => ∃ W, Kept No ww W ∧ D W e w') := by
  refine hideC fun C HC => ?_
  have HPW : Hid (Box ww p 94 v.cells) := h
  have HAsk : Hid (∀ W, Kept No ww W → Calls Try.prog 50 #[.pointer (some ⟨p, 0, none⟩)] W (fun e w' => e = .returned (.pointer (some ⟨q, 0, none⟩)) ∧ Kept No W w')) := hask
  have HZl : Hid (zs.length = v.ga.l) := hz
  have HZn : Hid (v.ga.l ≤ 2000000) := hn
  have HGr : Hid (Nums .i64 ww v.ga.a zs) := hg
  have HAb : Hid (ansB v zs m = true) := hab
  clear hz hn hg hab
  have HK_16 : Hid ((m.k == 16) = false) := h16
  clear h16
  have HK_17 : Hid ((m.k == 17) = false) := h17
  clear h17
  have HK_14 : Hid ((m.k == 14) = false) := h14
  clear h14
  have HK_13 : Hid ((m.k == 13) = true) := h13
  clear h13
  have HRet : Hid (∀ W e w', D W e w' → ∃ x : Sl, e = .returned x.v) := hret
  have HAgr : Hid (∀ W, Kept No ww W → Calls Try.prog 58 #[.pointer (some ⟨p, 0, none⟩), .agg m.cells] W (D W)) := hagr
  clear hret hagr
  clear h hask
  go_enter Try.func28, Try.ntmps28
  go_upto_region 0 with fail
  refine WL.start ?_
  refine uR (pV ww.heap.size 0) (ww.alloc (.cells m.cells 47)) (exec_box 47 _ rfl m.cells (by kernel_rfl)) ?_
  try simp only [pS]
  refine uK (.slice none 0 0) <| WL.nil <| ?_
  try simp only [pS]
  obtain ⟨w, hw⟩ : ∃ w, w = ww.alloc (.cells m.cells 47) := ⟨_, rfl⟩
  rw [← hw]
  have HK : Hid (Kept No ww w) := by rw [hw]; exact (Kept.refl No ww).alloc _
  have HP : Hid (Box w (p) 94 (v.cells)) := by rw [hw]; exact HPW.out.alloc _
  have H3 : Hid (Box w (ww.heap.size) 47 (m.cells)) := by rw [hw]; exact Box.new _ _ _
  obtain ⟨B3, hB3⟩ : ∃ B3, B3 = ww.heap.size := ⟨_, rfl⟩
  rw [← hB3] at H3 ⊢
  clear hw hB3 HPW
  go_upto_region 1 with fail
  refine WL.start <| uK (pV p 0) <| ?_
  try simp only [pS]
  refine uC 50 #[pV p 0] (HAsk.out w HK.out) ?_
  rintro e w1 ⟨rfl, hk1⟩
  have HK1 : Hid (Kept No ww w1) := HK.out.then hk1
  have HP1 : Hid (Box w1 (p) 94 (v.cells)) := HP.out.kept hk1 (fun e => e)
  have H31 : Hid (Box w1 (B3) 47 (m.cells)) := H3.out.kept hk1 (fun e => e)
  refine ⟨.pointer (some ⟨q, 0, none⟩), rfl, ?_⟩
  clear hk1 HK HP H3 HAsk
  try simp only [pS]
  refine uK (pV q 0) <| WL.nil <| ?_
  try simp only [pS]
  go_upto_region 2 with fail
  refine WL.start <| uK (pV q 0) <| uB .eql 108 (pV q 0) (.pointer none) (.bool false) (by kernel_rfl) <| uK (.bool false) <| uK (pV p 0) <| uL 47 ⟨B3, 0, none⟩ (.agg m.cells) (load_Ms H31.out) <| ?_
  try simp only [pS]
  refine uC 55 #[pV p 0, .agg m.cells] (answers_any p v m zs w1 HP1.out HZl.out HZn.out (HGr.out.no HK1.out)) ?_
  rintro e w2 ⟨rfl, hk2⟩
  have HK2 : Hid (Kept No ww w2) := HK1.out.then hk2
  have HP2 : Hid (Box w2 (p) 94 (v.cells)) := HP1.out.kept hk2 (fun e => e)
  have H32 : Hid (Box w2 (B3) 47 (m.cells)) := H31.out.kept hk2 (fun e => e)
  refine ⟨.bool true, by rw [HAb.out], ?_⟩
  clear hk2 HK1 HP1 H31
  try simp only [pS]
  refine uK (.bool false) <| uK (.bool false) <| WL.nil <| ?_
  try simp only [pS]
  go_upto_region 4 with fail
  refine WL.start <| uK (pV B3 0) <| uL 3 ⟨B3, 0, none⟩ (.int .i64 m.k) (load_N (H32.out.cell 0)) <| WL.nil <| ?_
  try simp only [pS]
  go_upto_region 5 with fail
  refine WL.start <| uB .eql 3 (.int .i64 m.k) (.int .i64 16) (.bool false) (by rw [eqlN, HK_16.out]) <| uK (.bool false) <| WL.nil <| ?_
  try simp only [pS]
  go_upto_region 7 with fail
  refine WL.start <| uB .eql 3 (.int .i64 m.k) (.int .i64 17) (.bool false) (by rw [eqlN, HK_17.out]) <| uK (.bool false) <| WL.nil <| ?_
  try simp only [pS]
  go_upto_region 9 with fail
  refine WL.start <| uB .eql 3 (.int .i64 m.k) (.int .i64 14) (.bool false) (by rw [eqlN, HK_14.out]) <| uK (.bool false) <| WL.nil <| ?_
  try simp only [pS]
  go_upto_region 13 with fail
  refine WL.start <| uB .eql 3 (.int .i64 m.k) (.int .i64 13) (.bool true) (by rw [eqlN, HK_13.out]) <| uK (.bool true) <| WL.nil <| ?_
  try simp only [pS]
  go_upto_region 15 with fail
  refine WL.start <| uK (pV p 0) <| uL 47 ⟨B3, 0, none⟩ (.agg m.cells) (load_Ms H32.out) <| ?_
  try simp only [pS]
  refine uC 58 #[pV p 0, .agg m.cells] (HAgr.out w2 HK2.out) ?_
  rintro e w3 hD
  obtain ⟨⟨la, ll, lc⟩, rfl⟩ := HRet.out _ _ _ hD
  have HD : Hid (D w2 (.returned (.slice la ll lc)) w3) := hD
  refine ⟨.slice la ll lc, rfl, ?_⟩
  clear hD
  try simp only [pS]
  refine uK (.slice la ll lc) <| WL.nil <| ?_
  try simp only [pS]
  go_wp2
  rw [HC.out]
  exact ⟨w2, HK2.out, HD.out⟩
set_option maxRecDepth 100000 in
set_option maxHeartbeats 4000000 in
theorem take_accepted (p : Nat) (v : Pv) (m : Ms) (q : Nat) (zs : List Int) (D : World → Ending → World → Prop) (ww : World) (h : Box ww p 94 v.cells) (hask : ∀ W, Kept No ww W → Calls Try.prog 50 #[.pointer (some ⟨p, 0, none⟩)] W (fun e w' => e = .returned (.pointer (some ⟨q, 0, none⟩)) ∧ Kept No W w')) (hz : zs.length = v.ga.l) (hn : v.ga.l ≤ 2000000) (hg : Nums .i64 ww v.ga.a zs) (hab : ansB v zs m = true) (h16 : (m.k == 16) = false) (h17 : (m.k == 17) = false) (h14 : (m.k == 14) = false) (h13 : (m.k == 13) = false) (h15 : (m.k == 15) = true) (hret : ∀ W e w', D W e w' → ∃ x : Sl, e = .returned x.v) (hagr : ∀ W, Kept No ww W → Calls Try.prog 58 #[.pointer (some ⟨p, 0, none⟩), .agg m.cells] W (D W)) : Calls Try.prog 28 #[.pointer (some ⟨p, 0, none⟩), .agg m.cells] ww (fun e w' => ∃ W, Kept No ww W ∧ D W e w') := by
  refine hideC fun C HC => ?_
  have HPW : Hid (Box ww p 94 v.cells) := h
  have HAsk : Hid (∀ W, Kept No ww W → Calls Try.prog 50 #[.pointer (some ⟨p, 0, none⟩)] W (fun e w' => e = .returned (.pointer (some ⟨q, 0, none⟩)) ∧ Kept No W w')) := hask
  have HZl : Hid (zs.length = v.ga.l) := hz
  have HZn : Hid (v.ga.l ≤ 2000000) := hn
  have HGr : Hid (Nums .i64 ww v.ga.a zs) := hg
  have HAb : Hid (ansB v zs m = true) := hab
  clear hz hn hg hab
  have HK_16 : Hid ((m.k == 16) = false) := h16
  clear h16
  have HK_17 : Hid ((m.k == 17) = false) := h17
  clear h17
  have HK_14 : Hid ((m.k == 14) = false) := h14
  clear h14
  have HK_13 : Hid ((m.k == 13) = false) := h13
  clear h13
  have HK_15 : Hid ((m.k == 15) = true) := h15
  clear h15
  have HRet : Hid (∀ W e w', D W e w' → ∃ x : Sl, e = .returned x.v) := hret
  have HAgr : Hid (∀ W, Kept No ww W → Calls Try.prog 58 #[.pointer (some ⟨p, 0, none⟩), .agg m.cells] W (D W)) := hagr
  clear hret hagr
  clear h hask
  go_enter Try.func28, Try.ntmps28
  go_upto_region 0 with fail
  refine WL.start ?_
  refine uR (pV ww.heap.size 0) (ww.alloc (.cells m.cells 47)) (exec_box 47 _ rfl m.cells (by kernel_rfl)) ?_
  try simp only [pS]
  refine uK (.slice none 0 0) <| WL.nil <| ?_
  try simp only [pS]
  obtain ⟨w, hw⟩ : ∃ w, w = ww.alloc (.cells m.cells 47) := ⟨_, rfl⟩
  rw [← hw]
  have HK : Hid (Kept No ww w) := by rw [hw]; exact (Kept.refl No ww).alloc _
  have HP : Hid (Box w (p) 94 (v.cells)) := by rw [hw]; exact HPW.out.alloc _
  have H3 : Hid (Box w (ww.heap.size) 47 (m.cells)) := by rw [hw]; exact Box.new _ _ _
  obtain ⟨B3, hB3⟩ : ∃ B3, B3 = ww.heap.size := ⟨_, rfl⟩
  rw [← hB3] at H3 ⊢
  clear hw hB3 HPW
  go_upto_region 1 with fail
  refine WL.start <| uK (pV p 0) <| ?_
  try simp only [pS]
  refine uC 50 #[pV p 0] (HAsk.out w HK.out) ?_
  rintro e w1 ⟨rfl, hk1⟩
  have HK1 : Hid (Kept No ww w1) := HK.out.then hk1
  have HP1 : Hid (Box w1 (p) 94 (v.cells)) := HP.out.kept hk1 (fun e => e)
  have H31 : Hid (Box w1 (B3) 47 (m.cells)) := H3.out.kept hk1 (fun e => e)
  refine ⟨.pointer (some ⟨q, 0, none⟩), rfl, ?_⟩
  clear hk1 HK HP H3 HAsk
  try simp only [pS]
  refine uK (pV q 0) <| WL.nil <| ?_
  try simp only [pS]
  go_upto_region 2 with fail
  refine WL.start <| uK (pV q 0) <| uB .eql 108 (pV q 0) (.pointer none) (.bool false) (by kernel_rfl) <| uK (.bool false) <| uK (pV p 0) <| uL 47 ⟨B3, 0, none⟩ (.agg m.cells) (load_Ms H31.out) <| ?_
  try simp only [pS]
  refine uC 55 #[pV p 0, .agg m.cells] (answers_any p v m zs w1 HP1.out HZl.out HZn.out (HGr.out.no HK1.out)) ?_
  rintro e w2 ⟨rfl, hk2⟩
  have HK2 : Hid (Kept No ww w2) := HK1.out.then hk2
  have HP2 : Hid (Box w2 (p) 94 (v.cells)) := HP1.out.kept hk2 (fun e => e)
  have H32 : Hid (Box w2 (B3) 47 (m.cells)) := H31.out.kept hk2 (fun e => e)
  refine ⟨.bool true, by rw [HAb.out], ?_⟩
  clear hk2 HK1 HP1 H31
  try simp only [pS]
  refine uK (.bool false) <| uK (.bool false) <| WL.nil <| ?_
  try simp only [pS]
  go_upto_region 4 with fail
  refine WL.start <| uK (pV B3 0) <| uL 3 ⟨B3, 0, none⟩ (.int .i64 m.k) (load_N (H32.out.cell 0)) <| WL.nil <| ?_
  try simp only [pS]
  go_upto_region 5 with fail
  refine WL.start <| uB .eql 3 (.int .i64 m.k) (.int .i64 16) (.bool false) (by rw [eqlN, HK_16.out]) <| uK (.bool false) <| WL.nil <| ?_
  try simp only [pS]
  go_upto_region 7 with fail
  refine WL.start <| uB .eql 3 (.int .i64 m.k) (.int .i64 17) (.bool false) (by rw [eqlN, HK_17.out]) <| uK (.bool false) <| WL.nil <| ?_
  try simp only [pS]
  go_upto_region 9 with fail
  refine WL.start <| uB .eql 3 (.int .i64 m.k) (.int .i64 14) (.bool false) (by rw [eqlN, HK_14.out]) <| uK (.bool false) <| WL.nil <| ?_
  try simp only [pS]
  go_upto_region 13 with fail
  refine WL.start <| uB .eql 3 (.int .i64 m.k) (.int .i64 13) (.bool false) (by rw [eqlN, HK_13.out]) <| uK (.bool false) <| WL.nil <| ?_
  try simp only [pS]
  go_upto_region 14 with fail
  refine WL.start <| uB .eql 3 (.int .i64 m.k) (.int .i64 15) (.bool true) (by rw [eqlN, HK_15.out]) <| uK (.bool true) <| WL.nil <| ?_
  try simp only [pS]
  go_upto_region 15 with fail
  refine WL.start <| uK (pV p 0) <| uL 47 ⟨B3, 0, none⟩ (.agg m.cells) (load_Ms H32.out) <| ?_
  try simp only [pS]
  refine uC 58 #[pV p 0, .agg m.cells] (HAgr.out w2 HK2.out) ?_
  rintro e w3 hD
  obtain ⟨⟨la, ll, lc⟩, rfl⟩ := HRet.out _ _ _ hD
  have HD : Hid (D w2 (.returned (.slice la ll lc)) w3) := hD
  refine ⟨.slice la ll lc, rfl, ?_⟩
  clear hD
  try simp only [pS]
  refine uK (.slice la ll lc) <| WL.nil <| ?_
  try simp only [pS]
  go_wp2
  rw [HC.out]
  exact ⟨w2, HK2.out, HD.out⟩

end Go.Proofs.Ytpabpeppgpeaoaa
namespace Go.Proofs.Ytpabpeppgpeaoaa
open Go.RowKit Gt
set_option linter.unusedVariables false
set_option linter.unusedSimpArgs false

set_option maxRecDepth 100000 in
set_option maxHeartbeats 4000000 in
theorem take_known (p : Nat) (v : Pv) (m : Ms) (q : Nat) (zs : List Int) (ww : World) (h : Box ww p 94 v.cells) (hask : ∀ W, Kept No ww W → Calls Try.prog 50 #[.pointer (some ⟨p, 0, none⟩)] W (fun e w' => e = .returned (.pointer (some ⟨q, 0, none⟩)) ∧ Kept No W w')) (hz : zs.length = v.ga.l) (hn : v.ga.l ≤ 2000000) (hg : Nums .i64 ww v.ga.a zs) (hab : ansB v zs m = true) (h16 : (m.k == 16) = true) : Calls Try.prog 28 #[.pointer (some ⟨p, 0, none⟩), .agg m.cells] ww (fun e w' => e = .returned (.slice none 0 0) ∧ Box w' p 94 ({ v with ph := phDec m.c } : Pv).cells ∧ Kept (Only p) ww w') := by
  refine hideC fun C HC => ?_
  have HPW : Hid (Box ww p 94 v.cells) := h
  have HAsk : Hid (∀ W, Kept No ww W → Calls Try.prog 50 #[.pointer (some ⟨p, 0, none⟩)] W (fun e w' => e = .returned (.pointer (some ⟨q, 0, none⟩)) ∧ Kept No W w')) := hask
  have HZl : Hid (zs.length = v.ga.l) := hz
  have HZn : Hid (v.ga.l ≤ 2000000) := hn
  have HGr : Hid (Nums .i64 ww v.ga.a zs) := hg
  have HAb : Hid (ansB v zs m = true) := hab
  clear hz hn hg hab
  have HK_16 : Hid ((m.k == 16) = true) := h16
  clear h16
  clear h hask
  go_enter Try.func28, Try.ntmps28
  go_upto_region 0 with fail
  refine WL.start ?_
  refine uR (pV ww.heap.size 0) (ww.alloc (.cells m.cells 47)) (exec_box 47 _ rfl m.cells (by kernel_rfl)) ?_
  try simp only [pS]
  refine uK (.slice none 0 0) <| WL.nil <| ?_
  try simp only [pS]
  obtain ⟨w, hw⟩ : ∃ w, w = ww.alloc (.cells m.cells 47) := ⟨_, rfl⟩
  rw [← hw]
  have HK : Hid (Kept No ww w) := by rw [hw]; exact (Kept.refl No ww).alloc _
  have HP : Hid (Box w (p) 94 (v.cells)) := by rw [hw]; exact HPW.out.alloc _
  have H3 : Hid (Box w (ww.heap.size) 47 (m.cells)) := by rw [hw]; exact Box.new _ _ _
  obtain ⟨B3, hB3⟩ : ∃ B3, B3 = ww.heap.size := ⟨_, rfl⟩
  rw [← hB3] at H3 ⊢
  clear hw hB3 HPW
  go_upto_region 1 with fail
  refine WL.start <| uK (pV p 0) <| ?_
  try simp only [pS]
  refine uC 50 #[pV p 0] (HAsk.out w HK.out) ?_
  rintro e w1 ⟨rfl, hk1⟩
  have HK1 : Hid (Kept No ww w1) := HK.out.then hk1
  have HP1 : Hid (Box w1 (p) 94 (v.cells)) := HP.out.kept hk1 (fun e => e)
  have H31 : Hid (Box w1 (B3) 47 (m.cells)) := H3.out.kept hk1 (fun e => e)
  refine ⟨.pointer (some ⟨q, 0, none⟩), rfl, ?_⟩
  clear hk1 HK HP H3 HAsk
  try simp only [pS]
  refine uK (pV q 0) <| WL.nil <| ?_
  try simp only [pS]
  go_upto_region 2 with fail
  refine WL.start <| uK (pV q 0) <| uB .eql 108 (pV q 0) (.pointer none) (.bool false) (by kernel_rfl) <| uK (.bool false) <| uK (pV p 0) <| uL 47 ⟨B3, 0, none⟩ (.agg m.cells) (load_Ms H31.out) <| ?_
  try simp only [pS]
  refine uC 55 #[pV p 0, .agg m.cells] (answers_any p v m zs w1 HP1.out HZl.out HZn.out (HGr.out.no HK1.out)) ?_
  rintro e w2 ⟨rfl, hk2⟩
  have HK2 : Hid (Kept No ww w2) := HK1.out.then hk2
  have HP2 : Hid (Box w2 (p) 94 (v.cells)) := HP1.out.kept hk2 (fun e => e)
  have H32 : Hid (Box w2 (B3) 47 (m.cells)) := H31.out.kept hk2 (fun e => e)
  refine ⟨.bool true, by rw [HAb.out], ?_⟩
  clear hk2 HK1 HP1 H31
  try simp only [pS]
  refine uK (.bool false) <| uK (.bool false) <| WL.nil <| ?_
  try simp only [pS]
  go_upto_region 4 with fail
  refine WL.start <| uK (pV B3 0) <| uL 3 ⟨B3, 0, none⟩ (.int .i64 m.k) (load_N (H32.out.cell 0)) <| WL.nil <| ?_
  try simp only [pS]
  go_upto_region 5 with fail
  refine WL.start <| uB .eql 3 (.int .i64 m.k) (.int .i64 16) (.bool true) (by rw [eqlN, HK_16.out]) <| uK (.bool true) <| WL.nil <| ?_
  try simp only [pS]
  obtain ⟨c, hc⟩ : ∃ c, c = m.c := ⟨_, rfl⟩
  have HCc : Hid (c = m.c) := hc
  have HL : Hid ((loadVar 28 ⟨B3, 16, none⟩).run Try.prog w2 = .ok (.agg c.cells) w2) := by rw [hc]; exact load_mc H32.out
  clear hc H32
  go_upto_region 6 with fail
  refine WL.start <| uK (pV p 0) <| uK (pV B3 16) <| uL 28 ⟨B3, 16, none⟩ (.agg c.cells) HL.out <| uW (.agg (c.cells)) (exec_build 118 _ rfl (c.cells) (by kernel_rfl)) <| uK (phDec c) <| uK (pV p 0) <| uK (pV p 21) <| ?_
  try simp only [pS]
  refine uT 92 ⟨p, 21, none⟩ (phDec c) _ (store_ph HP2.out (phDec c) rfl rfl) ?_
  try simp only [pS]
  refine WL.nil ?_
  try simp only [pS]
  obtain ⟨w4, hw⟩ : ∃ w4, w4 = w2.setRow p ({ v with ph := phDec c } : Pv).cells := ⟨_, rfl⟩
  have hks : Kept (Only p) w2 w4 := by rw [hw]; exact Kept.setRow _ _ _
  have HP4 : Hid (Box w4 (p) 94 (({ v with ph := phDec c } : Pv).cells)) := by rw [hw]; exact HP2.out.setRow _
  have HK4 : Hid (Kept (Only p) ww w4) := (HK2.out.of_no : Kept (Only p) ww w2).then hks
  rw [← hw]
  clear hw hks HP2 HK2
  go_wp2
  rw [HC.out]
  have e := HCc.out
  subst e
  exact ⟨rfl, HP4.out, HK4.out⟩

end Go.Proofs.Ytpabpeppgpeaoaa
