import Derived.Test.YtpabpeppgpeaoaaZg
namespace Go.Proofs.Ytpabpeppgpeaoaa
open Go.RowKit Gt
set_option linter.unusedVariables false
set_option linter.unusedSimpArgs false
theorem copied_of (b : Bv) (es : List En) (ls : List La) (w : World) (hbe : b.e.l * 40 ≤ 140737488355328) (hbl : b.l.l * 56 ≤ 140737488355328) (he : RdE w b.e es) (hl : RdL w b.l ls) : Calls Try.prog 56 #[.agg b.cells] w (CopOut w b.up es ls) := by
  obtain ⟨up, ⟨ae, ne, ce⟩, ⟨al, nl, cl⟩⟩ := b
  exact copied_any up ae ne ce al nl cl es ls w hbe hbl he hl
theorem Ms.partB (m : Ms) : Part m.cs 25 (Bv.cs ⟨m.up, m.en, m.la⟩) := fun j v h => by
  have hj := (List.getElem?_eq_some_iff.1 h).1
  have h3 : (Bv.cs ⟨m.up, m.en, m.la⟩).length = 3 := rfl
  rw [h3] at hj
  match j, hj with
  | 0, _ => exact h
  | 1, _ => exact h
  | 2, _ => exact h
theorem load_mb {w : World} {g : Nat} {m : Ms} (hb : Box w g 47 m.cells) : (loadVar 44 ⟨g, 25, none⟩).run Try.prog w = .ok (.agg (Bv.cells ⟨m.up, m.en, m.la⟩)) w := run_load_part hb m.partB Try.und44 rfl Try.size44
set_option maxRecDepth 100000 in
set_option maxHeartbeats 4000000 in
theorem take_bucket (p : Nat) (v : Pv) (m : Ms) (q : Nat) (zs : List Int) (es : List En) (ls : List La) (ww : World) (h : Box ww p 94 v.cells) (hask : ∀ W, Kept No ww W → Calls Try.prog 50 #[.pointer (some ⟨p, 0, none⟩)] W (fun e w' => e = .returned (.pointer (some ⟨q, 0, none⟩)) ∧ Kept No W w')) (hz : zs.length = v.ga.l) (hn : v.ga.l ≤ 2000000) (hg : Nums .i64 ww v.ga.a zs) (hab : ansB v zs m = true) (h16 : (m.k == 16) = false) (h17 : (m.k == 17) = true) (hbe : m.en.l * 40 ≤ 140737488355328) (hbl : m.la.l * 56 ≤ 140737488355328) (he : RdE ww m.en es) (hl : RdL ww m.la ls) : Calls Try.prog 28 #[.pointer (some ⟨p, 0, none⟩), .agg m.cells] ww (fun e w' => ∃ se sl : Sl, e = .returned (.slice none 0 0) ∧ Box w' p 94 ({ v with ph := phTri m.up se sl } : Pv).cells ∧ OwE w' ww.heap.size se es ∧ OwL w' ww.heap.size sl ls ∧ Kept (Only p) ww w') := by
  refine hideC fun C HC => ?_
  have HPW : Hid (Box ww p 94 v.cells) := h
  have HAsk : Hid (∀ W, Kept No ww W → Calls Try.prog 50 #[.pointer (some ⟨p, 0, none⟩)] W (fun e w' => e = .returned (.pointer (some ⟨q, 0, none⟩)) ∧ Kept No W w')) := hask
  have HZl : Hid (zs.length = v.ga.l) := hz
  have HZn : Hid (v.ga.l ≤ 2000000) := hn
  have HGr : Hid (Nums .i64 ww v.ga.a zs) := hg
  have HAb : Hid (ansB v zs m = true) := hab
  clear hz hn hg hab
  have HK_16 : Hid ((m.k == 16) = false) := h16
  clear h16
  have HK_17 : Hid ((m.k == 17) = true) := h17
  clear h17
  have HBe : Hid (m.en.l * 40 ≤ 140737488355328) := hbe
  have HBl : Hid (m.la.l * 56 ≤ 140737488355328) := hbl
  have HE : Hid (RdE ww m.en es) := he
  have HL : Hid (RdL ww m.la ls) := hl
  clear hbe hbl he hl
  clear h hask
  go_enter Try.func28, Try.ntmps28
  go_upto_region 0 with fail
  refine WL.start ?_
  refine uR (pV ww.heap.size 0) (ww.alloc (.cells m.cells 47)) (exec_box 47 _ rfl m.cells (by kernel_rfl)) ?_
  try simp only [pS]
  refine uK (.slice none 0 0) <| WL.nil <| ?_
  try simp only [pS]
  obtain ⟨w, hw⟩ : ∃ w, w = ww.alloc (.cells m.cells 47) := ⟨_, rfl⟩
  rw [← hw]
  have HK : Hid (Kept No ww w) := by rw [hw]; exact (Kept.refl No ww).alloc _
  have HP : Hid (Box w (p) 94 (v.cells)) := by rw [hw]; exact HPW.out.alloc _
  have H3 : Hid (Box w (ww.heap.size) 47 (m.cells)) := by rw [hw]; exact Box.new _ _ _
  obtain ⟨B3, hB3⟩ : ∃ B3, B3 = ww.heap.size := ⟨_, rfl⟩
  rw [← hB3] at H3 ⊢
  clear hw hB3 HPW
  go_upto_region 1 with fail
  refine WL.start <| uK (pV p 0) <| ?_
  try simp only [pS]
  refine uC 50 #[pV p 0] (HAsk.out w HK.out) ?_
  rintro e w1 ⟨rfl, hk1⟩
  have HK1 : Hid (Kept No ww w1) := HK.out.then hk1
  have HP1 : Hid (Box w1 (p) 94 (v.cells)) := HP.out.kept hk1 (fun e => e)
  have H31 : Hid (Box w1 (B3) 47 (m.cells)) := H3.out.kept hk1 (fun e => e)
  refine ⟨.pointer (some ⟨q, 0, none⟩), rfl, ?_⟩
  clear hk1 HK HP H3 HAsk
  try simp only [pS]
  refine uK (pV q 0) <| WL.nil <| ?_
  try simp only [pS]
  go_upto_region 2 with fail
  refine WL.start <| uK (pV q 0) <| uB .eql 108 (pV q 0) (.pointer none) (.bool false) (by kernel_rfl) <| uK (.bool false) <| uK (pV p 0) <| uL 47 ⟨B3, 0, none⟩ (.agg m.cells) (load_Ms H31.out) <| ?_
  try simp only [pS]
  refine uC 55 #[pV p 0, .agg m.cells] (answers_any p v m zs w1 HP1.out HZl.out HZn.out (HGr.out.no HK1.out)) ?_
  rintro e w2 ⟨rfl, hk2⟩
  have HK2 : Hid (Kept No ww w2) := HK1.out.then hk2
  have HP2 : Hid (Box w2 (p) 94 (v.cells)) := HP1.out.kept hk2 (fun e => e)
  have H32 : Hid (Box w2 (B3) 47 (m.cells)) := H31.out.kept hk2 (fun e => e)
  refine ⟨.bool true, by rw [HAb.out], ?_⟩
  clear hk2 HK1 HP1 H31
  try simp only [pS]
  refine uK (.bool false) <| uK (.bool false) <| WL.nil <| ?_
  try simp only [pS]
  go_upto_region 4 with fail
  refine WL.start <| uK (pV B3 0) <| uL 3 ⟨B3, 0, none⟩ (.int .i64 m.k) (load_N (H32.out.cell 0)) <| WL.nil <| ?_
  try simp only [pS]
  go_upto_region 5 with fail
  refine WL.start <| uB .eql 3 (.int .i64 m.k) (.int .i64 16) (.bool false) (by rw [eqlN, HK_16.out]) <| uK (.bool false) <| WL.nil <| ?_
  try simp only [pS]
  go_upto_region 7 with fail
  refine WL.start <| uB .eql 3 (.int .i64 m.k) (.int .i64 17) (.bool true) (by rw [eqlN, HK_17.out]) <| uK (.bool true) <| WL.nil <| ?_
  try simp only [pS]
  obtain ⟨b, hb⟩ : ∃ b : Bv, b = ⟨m.up, m.en, m.la⟩ := ⟨_, rfl⟩
  have hcc : b.up = m.up := by rw [hb]
  have HCc : Hid (b.up = m.up) := hcc
  clear hcc
  have HLo : Hid ((loadVar 44 ⟨B3, 25, none⟩).run Try.prog w2 = .ok (.agg b.cells) w2) := by rw [hb]; exact load_mb H32.out
  have HCo : Hid (Calls Try.prog 56 #[.agg b.cells] w2 (CopOut w2 b.up es ls)) := copied_of b es ls w2 (by rw [hb]; exact HBe.out) (by rw [hb]; exact HBl.out) (by rw [hb]; exact HE.out.no HK2.out) (by rw [hb]; exact HL.out.no HK2.out)
  clear hb H32 HE HL HBe HBl
  go_upto_region 8 with fail
  refine WL.start <| uK (pV p 0) <| uK (pV B3 25) <| uL 44 ⟨B3, 25, none⟩ (.agg b.cells) HLo.out <| ?_
  try simp only [pS]
  refine uC 56 #[.agg b.cells] HCo.out ?_
  rintro e w4 ⟨se, sl, rfl, hE4, hL4, hk4⟩
  have HP4 : Hid (Box w4 p 94 v.cells) := HP2.out.kept hk4 (fun e => e)
  have HE4 : Hid (OwE w4 ww.heap.size se es) := hE4.lower HK2.out.size
  have HL4 : Hid (OwL w4 ww.heap.size sl ls) := hL4.lower HK2.out.size
  have HK4 : Hid (Kept No ww w4) := HK2.out.then hk4
  obtain ⟨c, hc⟩ : ∃ c : Bv, c = ⟨b.up, se, sl⟩ := ⟨_, rfl⟩
  have htc : Value.iface 120 (.agg c.cells) = phTri m.up se sl := by rw [hc, HCc.out]; rfl
  have HTc : Hid (Value.iface 120 (.agg c.cells) = phTri m.up se sl) := htc
  clear htc
  refine ⟨.agg c.cells, by rw [hc], ?_⟩
  clear hE4 hL4 hk4 HP2 HK2 HLo HCo hc HCc
  try simp only [pS]
  refine uW (.agg (c.cells)) (exec_build 120 _ rfl (c.cells) (by kernel_rfl)) <| uK (.iface 120 (.agg c.cells)) <| uK (pV p 0) <| uK (pV p 21) <| ?_
  try simp only [pS]
  refine uT 92 ⟨p, 21, none⟩ (.iface 120 (.agg c.cells)) _ (store_ph HP4.out (.iface 120 (.agg c.cells)) rfl rfl) ?_
  try simp only [pS]
  refine WL.nil ?_
  try simp only [pS]
  rw [HTc.out]
  obtain ⟨w5, hw⟩ : ∃ w5, w5 = w4.setRow p ({ v with ph := phTri m.up se sl } : Pv).cells := ⟨_, rfl⟩
  have hks : Kept (Only p) w4 w5 := by rw [hw]; exact Kept.setRow _ _ _
  have HP5 : Hid (Box w5 (p) 94 (({ v with ph := phTri m.up se sl } : Pv).cells)) := by rw [hw]; exact HP4.out.setRow _
  have HE5 : Hid (OwE w5 ww.heap.size se es) := HE4.out.kept hks (fun k h e => (HE4.out.own.notBox HP4.out (by decide)) ((show k = p from e) ▸ h))
  have HL5 : Hid (OwL w5 ww.heap.size sl ls) := HL4.out.kept hks (fun k h e => (HL4.out.own.notBox HP4.out (by decide)) ((show k = p from e) ▸ h))
  have HK5 : Hid (Kept (Only p) ww w5) := (HK4.out.of_no : Kept (Only p) ww w4).then hks
  rw [← hw]
  clear hw hks HP4 HK4 HE4 HL4
  go_wp2
  rw [HC.out]
  exact ⟨se, sl, rfl, HP5.out, HE5.out, HL5.out, HK5.out⟩

theorem Oc.partB (o : Oc) : Part o.cs 12 (Bv.cs ⟨o.u, o.e, o.l⟩) := fun j v h => by
  have hj := (List.getElem?_eq_some_iff.1 h).1
  have h3 : (Bv.cs ⟨o.u, o.e, o.l⟩).length = 3 := rfl
  rw [h3] at hj
  match j, hj with
  | 0, _ => exact h
  | 1, _ => exact h
  | 2, _ => exact h
theorem load_OB {w : World} {g : Nat} {o : Oc} (hb : Box w g 102 o.cells) : (loadVar 44 ⟨g, 12, none⟩).run Try.prog w = .ok (.agg (Bv.cells ⟨o.u, o.e, o.l⟩)) w := run_load_part hb o.partB Try.und44 rfl Try.size44
set_option maxRecDepth 100000 in
set_option maxHeartbeats 4000000 in
theorem trimmed_any (p : Nat) (v : Pv) (o : Oc) (es : List En) (ls : List La) (w : World) (h : Box w p 94 v.cells) (hO : ∀ W, Calls Try.prog 45 #[v.ph] W (fun e w' => e = .returned (.agg o.cells) ∧ Kept No W w')) (hbe : o.e.l * 40 ≤ 140737488355328) (hbl : o.l.l * 56 ≤ 140737488355328) (he : RdE w o.e es) (hl : RdL w o.l ls) : Calls Try.prog 30 #[.pointer (some ⟨p, 0, none⟩)] w (fun e w' => ∃ se sl : Sl, e = .returned (.tuple #[.agg (Bv.cells ⟨o.u, se, sl⟩), .bool o.t]) ∧ OwE w' w.heap.size se es ∧ OwL w' w.heap.size sl ls ∧ Kept No w w') := by
  refine hideC fun C HC => ?_
  have HPW : Hid (Box w p 94 v.cells) := h
  have HO : Hid (∀ W, Calls Try.prog 45 #[v.ph] W (fun e w' => e = .returned (.agg o.cells) ∧ Kept No W w')) := hO
  have HBe : Hid (o.e.l * 40 ≤ 140737488355328) := hbe
  have HBl : Hid (o.l.l * 56 ≤ 140737488355328) := hbl
  have HE : Hid (RdE w o.e es) := he
  have HL : Hid (RdL w o.l ls) := hl
  clear h hO hbe hbl he hl
  go_enter Try.func30, Try.ntmps30
  go_upto_region 0 with fail
  refine WL.start ?_
  refine wp_allocW 44 rfl bvZ.cells zero44 w.heap.size rfl (by kernel_rfl) ?_
  try simp only [pS]
  refine uK (.bool false) <| WL.nil <| ?_
  try simp only [pS]
  obtain ⟨w1, hw1⟩ : ∃ w1, w1 = w.alloc (.cells bvZ.cells 44) := ⟨_, rfl⟩
  rw [← hw1]
  have H2 : Hid (Box w1 w.heap.size 44 bvZ.cells) := by rw [hw1]; exact Box.new _ _ _
  have HP : Hid (Box w1 p 94 v.cells) := by rw [hw1]; exact HPW.out.alloc _
  have HK : Hid (Kept No w w1) := by rw [hw1]; exact (Kept.refl No w).alloc _
  obtain ⟨B, hB⟩ : ∃ B, B = w.heap.size := ⟨_, rfl⟩
  rw [← hB] at H2 ⊢
  have HBw : Hid (w.heap.size ≤ B) := by show _ ≤ _; omega
  clear hw1 hB HPW
  go_upto_region 1 with fail
  refine WL.start <| uK (pV p 0) <| uK (pV p 0) <| uK (pV p 21) <| uL 92 ⟨p, 21, none⟩ (v.ph) (load_92 HP.out) <| ?_
  try simp only [pS]
  refine uC 45 #[v.ph] (HO.out w1) ?_
  rintro e w2 ⟨rfl, hk⟩
  have HK2 : Hid (Kept No w w2) := HK.out.then hk
  have H22 : Hid (Box w2 B 44 bvZ.cells) := H2.out.kept hk (fun e => e)
  refine ⟨.agg o.cells, rfl, ?_⟩
  clear hk HK H2 HP
  try simp only [pS]
  refine wp_allocW 102 rfl ocZ.cells zero102 w2.heap.size rfl (by kernel_rfl) ?_
  try simp only [pS]
  obtain ⟨w3, hw3⟩ : ∃ w3, w3 = w2.alloc (.cells ocZ.cells 102) := ⟨_, rfl⟩
  rw [← hw3]
  have H4 : Hid (Box w3 w2.heap.size 102 ocZ.cells) := by rw [hw3]; exact Box.new _ _ _
  have H23 : Hid (Box w3 B 44 bvZ.cells) := by rw [hw3]; exact H22.out.alloc _
  have HK3 : Hid (Kept No w w3) := by rw [hw3]; exact HK2.out.alloc _
  obtain ⟨B4, hB4⟩ : ∃ B4, B4 = w2.heap.size := ⟨_, rfl⟩
  rw [← hB4] at H4 ⊢
  have HB4 : Hid (w.heap.size ≤ B4 ∧ B < B4) := ⟨by have := HK2.out.size; omega, by have := H22.out.lt; omega⟩
  clear hw3 hB4 HK2 H22
  refine uT 102 ⟨B4, 0, none⟩ (.agg o.cells) _ (store_O H4.out) ?_
  try simp only [pS]
  refine WL.nil ?_
  try simp only [pS]
  obtain ⟨w4, hw4⟩ : ∃ w4, w4 = w3.setRow B4 o.cells := ⟨_, rfl⟩
  rw [← hw4]
  have H44 : Hid (Box w4 B4 102 o.cells) := by rw [hw4]; exact H4.out.setRow _
  have H24 : Hid (Box w4 B 44 bvZ.cells) := by rw [hw4]; exact H23.out.rowNe (by have := HB4.out; omega) _
  have HK4 : Hid (Kept No w w4) := by rw [hw4]; exact HK3.out.newRow HB4.out.1 _
  clear hw4 H4 H23 HK3
  obtain ⟨b, hb⟩ : ∃ b : Bv, b = ⟨o.u, o.e, o.l⟩ := ⟨_, rfl⟩
  have hbu : b.up = o.u := by rw [hb]
  have HBu : Hid (b.up = o.u) := hbu
  have HLo : Hid (∀ w', Box w' B4 102 o.cells → (loadVar 44 ⟨B4, 12, none⟩).run Try.prog w' = .ok (.agg b.cells) w') := fun w' h => by rw [hb]; exact load_OB h
  have HCo : Hid (Calls Try.prog 56 #[.agg b.cells] w4.drew (CopOut w4.drew b.up es ls)) := copied_of b es ls w4.drew (by rw [hb]; exact HBe.out) (by rw [hb]; exact HBl.out) (by rw [hb]; exact HE.out.no HK4.out.drew) (by rw [hb]; exact HL.out.no HK4.out.drew)
  clear hb hbu HE HL HBe HBl
  go_upto_region 2 with fail
  refine wp_region_held_drew (S := fun w' => Box w' B4 102 o.cells) rfl H44.out (fun hH => ?_)
  refine xV 0 10 (pV B4 12) hH <| xL 1 11 44 ⟨B4, 12, none⟩ (.agg b.cells) (fun _ hw => HLo.out _ hw) hH <| xV 3 13 (pV B4 1) hH <| xL 4 14 4 ⟨B4, 1, none⟩ (.bool o.t) (fun _ hw => load_B (hw.cell 1)) hH <| ?_
  try simp only [pS]
  refine xC 2 12 56 #[.agg b.cells] HCo.out ?_
  rintro e w5 ⟨se, sl, rfl, hE5, hL5, hk5⟩
  have HE5 : Hid (OwE w5 w.heap.size se es) := hE5.lower HK4.out.drew.size
  have HL5 : Hid (OwL w5 w.heap.size sl ls) := hL5.lower HK4.out.drew.size
  have HK5 : Hid (Kept No w w5) := HK4.out.drew.then hk5
  have H25 : Hid (Box w5 B 44 bvZ.cells) := Box.kept (w := w4.drew) H24.out hk5 (fun e => e)
  have H45 : Hid (Box w5 B4 102 o.cells) := Box.kept (w := w4.drew) H44.out hk5 (fun e => e)
  obtain ⟨c, hc⟩ : ∃ c : Bv, c = ⟨b.up, se, sl⟩ := ⟨_, rfl⟩
  have hcc : c = ⟨o.u, se, sl⟩ := by rw [hc, HBu.out]
  have HCc : Hid (c = ⟨o.u, se, sl⟩) := hcc
  refine ⟨.agg c.cells, by rw [hc], H45.out, fun hH => ?_⟩
  clear hE5 hL5 hk5 hc hcc HCo HLo HBu H44 H24 HK4
  try simp only [pS]
  refine xS 5 44 ⟨B, 0, none⟩ (.agg c.cells) (st44 H25.out rfl) (hH.rowNe (by have := HB4.out; omega) _) (fun hH => ?_)
  try simp only [pS]
  refine xV 6 3 (.bool o.t) hH ?_
  try simp only [pS]
  refine wpAnyH_done (by kernel_rfl) ?_ _
  try simp only [pS]
  obtain ⟨w6, hw⟩ : ∃ w6, w6 = w5.setRow B c.cells := ⟨_, rfl⟩
  have hks : Kept (Only B) w5 w6 := by rw [hw]; exact Kept.setRow _ _ _
  have H26 : Hid (Box w6 B 44 c.cells) := by rw [hw]; exact H25.out.setRow _
  have HE6 : Hid (OwE w6 w.heap.size se es) := HE5.out.kept hks (fun k h e => (HE5.out.own.notBox H25.out (by decide)) ((show k = B from e) ▸ h))
  have HL6 : Hid (OwL w6 w.heap.size sl ls) := HL5.out.kept hks (fun k h e => (HL5.out.own.notBox H25.out (by decide)) ((show k = B from e) ▸ h))
  have HK6 : Hid (Kept No w w6) := by rw [hw]; exact HK5.out.newRow HBw.out _
  rw [← hw]
  clear hw hks H25 HE5 HL5 HK5
  go_wp2
  rw [HC.out]
  refine bodyPost_ret (results_row_tmp (by rfl) _ _ B c.cells (by rfl) (ld44 H26.out)) rfl ?_
  exact ⟨se, sl, by rw [HCc.out]; rfl, HE6.out, HL6.out, HK6.out⟩

end Go.Proofs.Ytpabpeppgpeaoaa
