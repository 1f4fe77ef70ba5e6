import Derived.Test.YtpabpeppgpeaoaaM
namespace Go.Proofs.Ytpabpeppgpeaoaa
open Go.RowKit Gt
set_option linter.unusedVariables false
set_option linter.unusedSimpArgs false

/-- What the group is told at the end. -/
def lrnM (v : Pv) (c : Cm) : Ms := v.msg { msZ with k := 5, c := c }
def LearnOut (w : World) (p : Nat) (v : Pv) (c : Cm) (zs : List Int) (e : Ending) (w' : World) : Prop :=
  ∃ (la : Option Addr) (lc : Nat), e = .returned (.slice la zs.length lc) ∧ Own 47 30 w' w.heap.size la lc zs.length (msL (zs.map (lrnM v c).to)) ∧ Box w' p 94 ({ v with ph := phDec c } : Pv).cells ∧ Kept (Only p) w w'
set_option maxRecDepth 100000 in
set_option maxHeartbeats 2000000 in
theorem learn_any (p : Nat) (v : Pv) (c : Cm) (zs : List Int) (ww : World) (h : Box ww p 94 v.cells) (hz : zs.length = v.ga.l) (hn : v.ga.l ≤ 2000000) (hg : Own 3 1 ww 0 v.ga.a v.ga.k v.ga.l (zs.map (Value.int .i64))) :
    Calls Try.prog 83 #[.pointer (some ⟨p, 0, none⟩), .agg c.cells] ww (LearnOut ww p v c zs) := by
  refine hideC fun C HC => ?_
  have HPW : Hid (Box ww p 94 v.cells) := h
  have HZ : Hid (zs.length = v.ga.l) := hz
  have HG0 : Hid (Own 3 1 ww 0 v.ga.a v.ga.k v.ga.l (zs.map (Value.int .i64))) := hg
  have HOff : Hid (∀ k, At v.ga.a k → k ≠ p) := fun k hk => box_row h (by decide) hg hk
  have hpl := h.lt
  clear h hz hg
  go_enter Try.func83, Try.ntmps83
  go_upto_region 0 with fail
  refine WL.start ?_
  refine uR (pV ww.heap.size 0) (ww.alloc (.cells c.cells 28)) (exec_box 28 _ rfl c.cells (by kernel_rfl)) ?_
  try simp only [pS]
  refine uK (.slice none 0 0) <| WL.nil <| ?_
  try simp only [pS]
  obtain ⟨wa, hwa⟩ : ∃ wa, wa = ww.alloc (.cells c.cells 28) := ⟨_, rfl⟩
  rw [← hwa]
  have HKa : Hid (Kept No ww wa) := by rw [hwa]; exact (Kept.refl No ww).alloc _
  have HP : Hid (Box wa (p) 94 (v.cells)) := by rw [hwa]; exact HPW.out.alloc _
  have H3 : Hid (Box wa (ww.heap.size) 28 (c.cells)) := by rw [hwa]; exact Box.new _ _ _
  obtain ⟨B3, hB3⟩ : ∃ B3, B3 = ww.heap.size := ⟨_, rfl⟩
  rw [← hB3] at H3 ⊢
  have HB3 : Hid (p < B3) := by show _ < _; omega
  clear hwa hB3 hpl HPW
  go_upto_region 1 with fail
  refine WL.start <| uK (pV p 0) <| uL 28 ⟨B3, 0, none⟩ (.agg c.cells) (load_C H3.out) <| uW (.agg (c.cells)) (exec_build 118 _ rfl (c.cells) (by kernel_rfl)) <| uK (phDec c) <| uK (pV p 0) <| uK (pV p 21) <| ?_
  try simp only [pS]
  refine uT 92 ⟨p, 21, none⟩ (phDec c) _ (store_ph HP.out (phDec c) rfl rfl) ?_
  try simp only [pS]
  refine WL.nil ?_
  try simp only [pS]
  obtain ⟨w, hw⟩ : ∃ w, w = wa.setRow p ({ v with ph := phDec c } : Pv).cells := ⟨_, rfl⟩
  have hks : Kept (Only p) wa w := by rw [hw]; exact Kept.setRow _ _ _
  have H3 : Hid (Box w (B3) 28 (c.cells)) := H3.out.kept hks (fun e => by have e : B3 = p := e; have := HB3.out; omega)
  have HG : Hid (Own 3 1 w 0 v.ga.a v.ga.k v.ga.l (zs.map (Value.int .i64))) := (HG0.out.no HKa.out).kept hks (fun k e f => HOff.out k e f)
  have HP : Hid (Box w (p) 94 (({ v with ph := phDec c } : Pv).cells)) := by rw [hw]; exact HP.out.setRow _
  have HKp : Hid (Kept (Only p) ww w) := (HKa.out.of_no : Kept (Only p) ww wa).then hks
  rw [← hw]
  clear hw hks HG0
  go_upto_region 2 with fail
  refine wp_region_held_drew (S := fun w' => Box w' (p) 94 (({ v with ph := phDec c } : Pv).cells) ∧ Box w' (B3) 28 (c.cells)) rfl ⟨HP.out, H3.out⟩ (fun hH => ?_)
  refine xV 0 11 (pV p 0) hH <| xV 1 12 (pV p 0) hH <| xV 2 13 (pV p 7) hH <| xL 3 14 24 ⟨p, 7, none⟩ (.slice v.ga.a v.ga.l v.ga.k) (fun _ hw => load_24 (hw.1.cell 7)) hH <| xV 4 15 (pV p 0) hH <| xL 5 16 28 ⟨B3, 0, none⟩ (.agg c.cells) (fun _ hw => load_C hw.2) hH <| ?_
  try simp only [pS]
  refine xU 6 17 (.agg (({ msZ with k := 5, c := c } : Ms).cells)) (fun w' hw => exec_build 47 _ rfl (({ msZ with k := 5, c := c } : Ms).cells) (by kernel_rfl)) hH ?_
  try simp only [pS]
  refine xC 7 18 74 #[pV p 0, .agg ({ msZ with k := 5, c := c } : Ms).cells] (message_any p { v with ph := phDec c } { msZ with k := 5, c := c } w.drew HP.out) ?_
  rintro e w2 ⟨rfl, hk⟩
  have HK2 : Hid (Kept No w w2) := (Kept.refl No w).drew.then hk
  have HP2 : Hid (Box w2 (p) 94 (({ v with ph := phDec c } : Pv).cells)) := HP.out.kept HK2.out (fun e => e)
  have H32 : Hid (Box w2 (B3) 28 (c.cells)) := H3.out.kept HK2.out (fun e => e)
  refine ⟨.agg (lrnM v c).cells, rfl, ⟨HP2.out, H32.out⟩, fun hH => ?_⟩
  clear hk
  try simp only [pS]
  refine xC 8 19 51 #[.slice v.ga.a v.ga.l v.ga.k, .agg (lrnM v c).cells] (toEach_any v.ga.a v.ga.l v.ga.k zs (lrnM v c) w2 HZ.out hn ((HG.out.no HK2.out).nums HZ.out)) ?_
  rintro e w3 ⟨la, lc, rfl, hL, hk⟩
  have hl : (zs.map (lrnM v c).to).length = zs.length := List.length_map _
  rw [hl] at hL ⊢
  have HL : Hid (Own 47 30 w3 w2.heap.size la lc zs.length (msL (zs.map (lrnM v c).to))) := hL
  have HK3 : Hid (Kept No w w3) := HK2.out.then hk
  have HP3 : Hid (Box w3 (p) 94 (({ v with ph := phDec c } : Pv).cells)) := HP.out.kept HK3.out (fun e => e)
  have HS2 : Hid (ww.heap.size ≤ w2.heap.size) := Nat.le_trans HKp.out.size HK2.out.size
  refine ⟨.slice la zs.length lc, rfl, ⟨HP3.out, H3.out.kept HK3.out (fun e => e)⟩, fun hH => ?_⟩
  clear hL hk hl
  try simp only [pS]
  refine xV 9 4 (.slice la zs.length lc) hH ?_
  try simp only [pS]
  refine wpAnyH_done (by kernel_rfl) ?_ _
  try simp only [pS]
  clear hH
  go_wp2
  rw [HC.out]
  exact ⟨la, lc, rfl, Own.lower HL.out HS2.out, HP3.out, HKp.out.then HK3.out.of_no⟩

end Go.Proofs.Ytpabpeppgpeaoaa
