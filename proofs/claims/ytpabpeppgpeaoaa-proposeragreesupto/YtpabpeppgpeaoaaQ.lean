import Derived.Test.YtpabpeppgpeaoaaO
namespace Go.Proofs.Ytpabpeppgpeaoaa
open Go.RowKit Gt
set_option linter.unusedVariables false
set_option linter.unusedSimpArgs false

/-- The second phase's message. -/
def accM (v : Pv) (c : Cm) : Ms := v.msg { msZ with k := 4, st := ⟨v.n, v.cl⟩, c := c }
def AccOut (w : World) (p : Nat) (v : Pv) (c : Cm) (zs : List Int) (e : Ending) (w' : World) : Prop :=
  ∃ (q h b : Nat) (a : Option Addr) (cap t tb : Nat) (ta : Option Addr) (tc : Nat) (la : Option Addr) (lc : Nat), e = .returned (.slice la zs.length lc) ∧ Own 47 30 w' w.heap.size la lc zs.length (msL (zs.map (accM v c).to)) ∧
    Box w' p 94 ({ v with ph := phAcc q t } : Pv).cells ∧ Box w' q 111 (qcs (accM v c) h false).toArray ∧ Tal 132 U.ans w' h b a cap (tNew Unit zs (zs.length : Int)) ∧ Tal 132 U.ans w' t tb ta tc (tNew Unit zs (needN zs.length)) ∧ (b ≠ tb ∧ h ≠ t) ∧
    (w.heap.size ≤ q ∧ w.heap.size ≤ h ∧ w.heap.size ≤ b ∧ w.heap.size ≤ t ∧ w.heap.size ≤ tb) ∧ (∀ k, At a k → w.heap.size ≤ k) ∧ (∀ k, At ta k → w.heap.size ≤ k) ∧ Kept (Only p) w w'
theorem meet1 {J : World → Prop} {G : World → Prop} {g : Prop} (h : (∀ W, J W → G W) → g) (t : ∀ W, J W → G W) : g := h t
set_option maxRecDepth 100000 in
set_option maxHeartbeats 2000000 in
theorem accept_no (p : Nat) (v0 : Pv) (c : Cm) (ww : World) (h : Box ww p 94 v0.cells) (ho : (okN v0.n && okN (wr1 v0.rd)) = false) : Calls Try.prog 81 #[.pointer (some ⟨p, 0, none⟩), .agg c.cells] ww (fun e w' => e = .returned (.slice none 0 0) ∧ Box w' p 94 ({ v0 with ph := phWorn } : Pv).cells ∧ Kept (Only p) ww w') := by
  refine hideC fun C HC => ?_
  have HPW : Hid (Box ww p 94 v0.cells) := h
  have HN : Hid ((okN v0.n && okN (wr1 v0.rd)) = false) := ho
  have hpl := h.lt
  clear h ho
  go_enter Try.func81, Try.ntmps81
  go_upto_region 0 with fail
  refine WL.start ?_
  refine uR (pV ww.heap.size 0) (ww.alloc (.cells c.cells 28)) (exec_box 28 _ rfl c.cells (by kernel_rfl)) ?_
  try simp only [pS]
  refine uK (.slice none 0 0) <| WL.nil <| ?_
  try simp only [pS]
  obtain ⟨wa, hwa⟩ : ∃ wa, wa = ww.alloc (.cells c.cells 28) := ⟨_, rfl⟩
  rw [← hwa]
  have HKa : Hid (Kept No ww wa) := by rw [hwa]; exact (Kept.refl No ww).alloc _
  have HP : Hid (Box wa (p) 94 (v0.cells)) := by rw [hwa]; exact HPW.out.alloc _
  have H3 : Hid (Box wa (ww.heap.size) 28 (c.cells)) := by rw [hwa]; exact Box.new _ _ _
  obtain ⟨B3, hB3⟩ : ∃ B3, B3 = ww.heap.size := ⟨_, rfl⟩
  rw [← hB3] at H3 ⊢
  have HB3 : Hid (p < B3) := by show _ < _; omega
  clear hwa hB3 hpl HPW
  go_upto_region 1 with fail
  have D1 : Hid (wa.drew.cell? ⟨p, 17, none⟩ = some (.int .i64 v0.n)) := (Pv.cel HP.out).2.1
  have D2 : Hid (wa.drew.cell? ⟨p, 20, none⟩ = some (.int .i64 v0.rd)) := (Pv.cel HP.out).2.2.2.1
  refine' meet1 (J := fun W => MovOut wa p v0 v0.n (wr1 v0.rd) (.returned (.bool (okN v0.n && okN (wr1 v0.rd)))) W) (fun hh => ?region) (fun w hJ => ?tail)
  case region =>
    refine wp_region_held_drew (S := fun _ => True) rfl trivial (fun hH => ?_)
    refine xV 0 6 (pV p 0) hH <| xV 1 7 (pV p 0) hH <| xV 2 8 (pV p 0) hH <| xV 3 9 (pV p 17) hH <| xV 4 10 (pV p 17) hH <| xV 6 12 (pV p 0) hH <| ?_
    try simp only [pS]
    refine xV 7 13 (pV p 0) hH <| xV 8 14 (pV p 20) hH <| ?_
    try simp only [pS]
    refine any_pick (rs := [5, 9]) (by kernel_rfl) (by simp) ?_
    intro i hi
    rcases pick2 hi with rfl | rfl
    ·skip
     clear hi
     refine step_run (i := 5) (o := { dst := some 11, op := Op.load 3 (Operand.tmp 10), type := 3, pos := "proposer.go:149", after := #[{ on := 4, ground := Ground.data }], guard := none }) (v := .int .i64 v0.n) (w' := wa.drew) rfl (by kernel_rfl) (exec_load 3 _ rfl ⟨p, 17, none⟩ (by kernel_rfl) _ (load_N D1.out)) trivial (fun hH => ?_)
     try simp only [pS]
     refine xP 9 15 (.int .i64 v0.rd) (w' := wa.drew) (exec_load 3 _ rfl ⟨p, 20, none⟩ (by kernel_rfl) _ (load_N D2.out)) trivial (fun hH => ?_)
     try simp only [pS]
     refine xB 10 16 .add 3 (.int .i64 v0.rd) (.int .i64 1) (.int .i64 (wr1 v0.rd)) (fun _ _ => addN _ _) hH ?_
     try simp only [pS]
     refine xC 11 17 72 #[pV p 0, .int .i64 v0.n, .int .i64 (wr1 v0.rd)] (moved_any p v0 v0.n (wr1 v0.rd) wa.drew HP.out) ?_
     rintro e w2 ⟨rfl, hb, hk⟩
     refine ⟨.bool (okN v0.n && okN (wr1 v0.rd)), rfl, trivial, fun hH => ?_⟩
     try simp only [pS]
     refine xV 12 18 (.bool (!(okN v0.n && okN (wr1 v0.rd)))) hH ?_
     try simp only [pS]
     refine wpAnyH_done (by kernel_rfl) ?_ _
     try simp only [pS]
     exact hh w2 ⟨rfl, hb, ((Kept.refl (Only p) wa).drew).then hk⟩
    ·skip
     clear hi
     refine step_run (i := 9) (o := { dst := some 15, op := Op.load 3 (Operand.tmp 14), type := 3, pos := "proposer.go:149", after := #[{ on := 8, ground := Ground.data }], guard := none }) (v := .int .i64 v0.rd) (w' := wa.drew) rfl (by kernel_rfl) (exec_load 3 _ rfl ⟨p, 20, none⟩ (by kernel_rfl) _ (load_N D2.out)) trivial (fun hH => ?_)
     try simp only [pS]
     refine xB 10 16 .add 3 (.int .i64 v0.rd) (.int .i64 1) (.int .i64 (wr1 v0.rd)) (fun _ _ => addN _ _) hH ?_
     try simp only [pS]
     refine xP 5 11 (.int .i64 v0.n) (w' := wa.drew) (exec_load 3 _ rfl ⟨p, 17, none⟩ (by kernel_rfl) _ (load_N D1.out)) trivial (fun hH => ?_)
     try simp only [pS]
     refine xC 11 17 72 #[pV p 0, .int .i64 v0.n, .int .i64 (wr1 v0.rd)] (moved_any p v0 v0.n (wr1 v0.rd) wa.drew HP.out) ?_
     rintro e w2 ⟨rfl, hb, hk⟩
     refine ⟨.bool (okN v0.n && okN (wr1 v0.rd)), rfl, trivial, fun hH => ?_⟩
     try simp only [pS]
     refine xV 12 18 (.bool (!(okN v0.n && okN (wr1 v0.rd)))) hH ?_
     try simp only [pS]
     refine wpAnyH_done (by kernel_rfl) ?_ _
     try simp only [pS]
     exact hh w2 ⟨rfl, hb, ((Kept.refl (Only p) wa).drew).then hk⟩
  case tail =>
    obtain ⟨_, hb, hk⟩ := hJ
    rw [movP_no HN.out] at hb
    have HB : Hid (Box w p 94 ({ v0 with ph := phWorn } : Pv).cells) := hb
    have HK : Hid (Kept (Only p) ww w) := (HKa.out.of_no : Kept (Only p) ww wa).then hk
    clear hb hk
    rw [HN.out]
    simp only [Bool.not_false]
    go_wp2
    rw [HC.out]
    exact ⟨rfl, HB.out, HK.out⟩
set_option maxRecDepth 100000 in
set_option maxHeartbeats 4000000 in
theorem accept_yes (p : Nat) (v0 : Pv) (c : Cm) (zs : List Int) (ww : World) (h : Box ww p 94 v0.cells) (ho : (okN v0.n && okN (wr1 v0.rd)) = true) (hz : zs.length = v0.ga.l) (hn : v0.ga.l ≤ 2000000) (hg : Own 3 1 ww 0 v0.ga.a v0.ga.k v0.ga.l (zs.map (Value.int .i64))) : Calls Try.prog 81 #[.pointer (some ⟨p, 0, none⟩), .agg c.cells] ww (AccOut ww p (movP v0 v0.n (wr1 v0.rd)) c zs) := by
  refine hideC fun C HC => ?_
  have HPW : Hid (Box ww p 94 v0.cells) := h
  have HN : Hid ((okN v0.n && okN (wr1 v0.rd)) = true) := ho
  have hpl := h.lt
  have ega : (movP v0 v0.n (wr1 v0.rd)).ga = v0.ga := by rw [movP_yes ho]
  rw [← ega] at hz hn hg
  have HOff : Hid (∀ k, At (movP v0 v0.n (wr1 v0.rd)).ga.a k → k ≠ p) := fun k hk => box_row h (by decide) hg hk
  generalize hv : movP v0 v0.n (wr1 v0.rd) = v at HC hz hn hg HOff
  have HV : Hid (movP v0 v0.n (wr1 v0.rd) = v) := hv
  have HZ : Hid (zs.length = v.ga.l) := hz
  have HG0 : Hid (Own 3 1 ww 0 v.ga.a v.ga.k v.ga.l (zs.map (Value.int .i64))) := hg
  clear h ho ega hz hg hv
  go_enter Try.func81, Try.ntmps81
  go_upto_region 0 with fail
  refine WL.start ?_
  refine uR (pV ww.heap.size 0) (ww.alloc (.cells c.cells 28)) (exec_box 28 _ rfl c.cells (by kernel_rfl)) ?_
  try simp only [pS]
  refine uK (.slice none 0 0) <| WL.nil <| ?_
  try simp only [pS]
  obtain ⟨wa, hwa⟩ : ∃ wa, wa = ww.alloc (.cells c.cells 28) := ⟨_, rfl⟩
  rw [← hwa]
  have HKa : Hid (Kept No ww wa) := by rw [hwa]; exact (Kept.refl No ww).alloc _
  have HP : Hid (Box wa (p) 94 (v0.cells)) := by rw [hwa]; exact HPW.out.alloc _
  have H3 : Hid (Box wa (ww.heap.size) 28 (c.cells)) := by rw [hwa]; exact Box.new _ _ _
  obtain ⟨B3, hB3⟩ : ∃ B3, B3 = ww.heap.size := ⟨_, rfl⟩
  rw [← hB3] at H3 ⊢
  have HB3 : Hid (p < B3) := by show _ < _; omega
  clear hwa hB3 hpl HPW
  go_upto_region 1 with fail
  have D1 : Hid (wa.drew.cell? ⟨p, 17, none⟩ = some (.int .i64 v0.n)) := (Pv.cel HP.out).2.1
  have D2 : Hid (wa.drew.cell? ⟨p, 20, none⟩ = some (.int .i64 v0.rd)) := (Pv.cel HP.out).2.2.2.1
  refine' meet1 (J := fun W => MovOut wa p v0 v0.n (wr1 v0.rd) (.returned (.bool (okN v0.n && okN (wr1 v0.rd)))) W) (fun hh => ?region) (fun w hJ => ?tail)
  case region =>
    refine wp_region_held_drew (S := fun _ => True) rfl trivial (fun hH => ?_)
    refine xV 0 6 (pV p 0) hH <| xV 1 7 (pV p 0) hH <| xV 2 8 (pV p 0) hH <| xV 3 9 (pV p 17) hH <| xV 4 10 (pV p 17) hH <| xV 6 12 (pV p 0) hH <| ?_
    try simp only [pS]
    refine xV 7 13 (pV p 0) hH <| xV 8 14 (pV p 20) hH <| ?_
    try simp only [pS]
    refine any_pick (rs := [5, 9]) (by kernel_rfl) (by simp) ?_
    intro i hi
    rcases pick2 hi with rfl | rfl
    ·skip
     clear hi
     refine step_run (i := 5) (o := { dst := some 11, op := Op.load 3 (Operand.tmp 10), type := 3, pos := "proposer.go:149", after := #[{ on := 4, ground := Ground.data }], guard := none }) (v := .int .i64 v0.n) (w' := wa.drew) rfl (by kernel_rfl) (exec_load 3 _ rfl ⟨p, 17, none⟩ (by kernel_rfl) _ (load_N D1.out)) trivial (fun hH => ?_)
     try simp only [pS]
     refine xP 9 15 (.int .i64 v0.rd) (w' := wa.drew) (exec_load 3 _ rfl ⟨p, 20, none⟩ (by kernel_rfl) _ (load_N D2.out)) trivial (fun hH => ?_)
     try simp only [pS]
     refine xB 10 16 .add 3 (.int .i64 v0.rd) (.int .i64 1) (.int .i64 (wr1 v0.rd)) (fun _ _ => addN _ _) hH ?_
     try simp only [pS]
     refine xC 11 17 72 #[pV p 0, .int .i64 v0.n, .int .i64 (wr1 v0.rd)] (moved_any p v0 v0.n (wr1 v0.rd) wa.drew HP.out) ?_
     rintro e w2 ⟨rfl, hb, hk⟩
     refine ⟨.bool (okN v0.n && okN (wr1 v0.rd)), rfl, trivial, fun hH => ?_⟩
     try simp only [pS]
     refine xV 12 18 (.bool (!(okN v0.n && okN (wr1 v0.rd)))) hH ?_
     try simp only [pS]
     refine wpAnyH_done (by kernel_rfl) ?_ _
     try simp only [pS]
     exact hh w2 ⟨rfl, hb, ((Kept.refl (Only p) wa).drew).then hk⟩
    ·skip
     clear hi
     refine step_run (i := 9) (o := { dst := some 15, op := Op.load 3 (Operand.tmp 14), type := 3, pos := "proposer.go:149", after := #[{ on := 8, ground := Ground.data }], guard := none }) (v := .int .i64 v0.rd) (w' := wa.drew) rfl (by kernel_rfl) (exec_load 3 _ rfl ⟨p, 20, none⟩ (by kernel_rfl) _ (load_N D2.out)) trivial (fun hH => ?_)
     try simp only [pS]
     refine xB 10 16 .add 3 (.int .i64 v0.rd) (.int .i64 1) (.int .i64 (wr1 v0.rd)) (fun _ _ => addN _ _) hH ?_
     try simp only [pS]
     refine xP 5 11 (.int .i64 v0.n) (w' := wa.drew) (exec_load 3 _ rfl ⟨p, 17, none⟩ (by kernel_rfl) _ (load_N D1.out)) trivial (fun hH => ?_)
     try simp only [pS]
     refine xC 11 17 72 #[pV p 0, .int .i64 v0.n, .int .i64 (wr1 v0.rd)] (moved_any p v0 v0.n (wr1 v0.rd) wa.drew HP.out) ?_
     rintro e w2 ⟨rfl, hb, hk⟩
     refine ⟨.bool (okN v0.n && okN (wr1 v0.rd)), rfl, trivial, fun hH => ?_⟩
     try simp only [pS]
     refine xV 12 18 (.bool (!(okN v0.n && okN (wr1 v0.rd)))) hH ?_
     try simp only [pS]
     refine wpAnyH_done (by kernel_rfl) ?_ _
     try simp only [pS]
     exact hh w2 ⟨rfl, hb, ((Kept.refl (Only p) wa).drew).then hk⟩
  case tail =>
    obtain ⟨_, hb, hk⟩ := hJ
    rw [HV.out] at hb
    have HP : Hid (Box w (p) 94 (v.cells)) := hb
    have HKw : Hid (Kept (Only p) ww w) := (HKa.out.of_no : Kept (Only p) ww wa).then hk
    have H3 : Hid (Box w (B3) 28 (c.cells)) := H3.out.kept hk (fun e => by have e : B3 = p := e; have := HB3.out; omega)
    have HG : Hid (Own 3 1 w 0 v.ga.a v.ga.k v.ga.l (zs.map (Value.int .i64))) := HG0.out.kept HKw.out (fun k e f => HOff.out k e f)
    have HLW : Hid (ww.heap.size ≤ w.heap.size) := HKw.out.size
    clear hb hk HG0 D1 D2
    rw [HN.out]
    simp only [Bool.not_true]
    go_upto_region 3 with fail
    refine wp_region_held_drew (S := fun w' => Box w' (p) 94 (v.cells) ∧ Box w' (B3) 28 (c.cells)) rfl ⟨HP.out, H3.out⟩ (fun hH => ?_)
    refine xV 0 19 (pV p 0) hH <| xV 1 20 (pV p 0) hH <| xV 2 21 (pV p 0) hH <| xV 3 22 (pV p 0) hH <| xV 4 23 (pV p 17) hH <| xL 5 24 39 ⟨p, 17, none⟩ (.agg #[.int .i64 v.n, .int .i64 v.cl]) (fun _ hw => load_pB hw.1) hH <| ?_
    try simp only [pS]
    refine xL 6 25 28 ⟨B3, 0, none⟩ (.agg c.cells) (fun _ hw => load_C hw.2) hH <| xU 7 26 (.agg (({ msZ with k := 4, st := ⟨v.n, v.cl⟩, c := c } : Ms).cells)) (fun w' hw => exec_build 47 _ rfl (({ msZ with k := 4, st := ⟨v.n, v.cl⟩, c := c } : Ms).cells) (by kernel_rfl)) hH <| ?_
    try simp only [pS]
    refine xC 8 27 74 #[pV p 0, .agg ({ msZ with k := 4, st := ⟨v.n, v.cl⟩, c := c } : Ms).cells] (message_any p v { msZ with k := 4, st := ⟨v.n, v.cl⟩, c := c } w.drew HP.out) ?_
    rintro e w2 ⟨rfl, hk⟩
    have HK2 : Hid (Kept No w w2) := (Kept.refl No w).drew.then hk
    have HP2 : Hid (Box w2 (p) 94 (v.cells)) := HP.out.kept HK2.out (fun e => e)
    have HG2 : Hid (Own 3 1 w2 0 v.ga.a v.ga.k v.ga.l (zs.map (Value.int .i64))) := HG.out.no HK2.out
    refine ⟨.agg (accM v c).cells, rfl, ⟨HP2.out, H3.out.kept HK2.out (fun e => e)⟩, fun hH => ?_⟩
    clear hk
    try simp only [pS]
    refine xC 9 28 73 #[pV p 0, .agg (accM v c).cells] (question_any p v (accM v c) zs w2 HP2.out HZ.out (by omega) (HG2.out.nums HZ.out)) ?_
    rintro e wq ⟨q, h, b, a, cap, rfl, hq, hT, g1, g2, g3, g4, hk⟩
    have hsz := HK2.out.size
    have hk3 : Kept No w wq := HK2.out.then hk
    have HQ : Hid (Box wq (q) 111 ((qcs (accM v c) h false).toArray)) := hq
    have HT : Hid (Tal 132 U.ans wq h b a cap (tNew Unit zs (zs.length : Int))) := hT
    have HFr : Hid (w.heap.size ≤ q ∧ w.heap.size ≤ h ∧ w.heap.size ≤ b ∧ ∀ k, At a k → w.heap.size ≤ k) := ⟨by omega, by omega, by omega, fun k e => by have := g4 k e; omega⟩
    have HP : Hid (Box wq (p) 94 (v.cells)) := HP.out.kept hk3 (fun e => e)
    have HG : Hid (Own 3 1 wq 0 v.ga.a v.ga.k v.ga.l (zs.map (Value.int .i64))) := HG.out.no hk3
    have HK : Hid (Kept No w wq) := hk3
    refine ⟨.pointer (some ⟨q, 0, none⟩), rfl, ⟨HP.out, H3.out.kept hk3 (fun e => e)⟩, fun hH => ?_⟩
    clear hq hT g1 g2 g3 g4 hk hk3 hsz
    try simp only [pS]
    refine xV 10 5 (pV q 0) hH ?_
    try simp only [pS]
    refine wpAnyH_done (by kernel_rfl) ?_ _
    try simp only [pS]
    clear hH HK2 HP2 HG2 H3
    have HLT : Hid (p < wq.heap.size) := HP.out.lt
    go_upto_region 4 with fail
    have C7 : Hid (wq.cell? ⟨p, 7, none⟩ = some (.slice v.ga.a v.ga.l v.ga.k)) := HP.out.cell 7
    refine wp_region_held_drew (S := fun w' => w'.cell? ⟨p, 7, none⟩ = some (.slice v.ga.a v.ga.l v.ga.k)) rfl C7.out (fun hH => ?_)
    have HP : Hid (Box wq.drew (p) 94 (v.cells)) := HP.out
    have HQ : Hid (Box wq.drew (q) 111 ((qcs (accM v c) h false).toArray)) := HQ.out
    have C7 : Hid (wq.drew.cell? ⟨p, 7, none⟩ = some (.slice v.ga.a v.ga.l v.ga.k)) := C7.out
    have HK : Hid (Kept No w wq.drew) := HK.out.drew
    have HG : Hid (Own 3 1 (wq.drew) 0 v.ga.a v.ga.k v.ga.l (zs.map (Value.int .i64))) := HG.out.no (Kept.refl No _).drew
    have HT : Hid (Tal 132 U.ans (wq.drew) h b a cap (tNew Unit zs (zs.length : Int))) := HT.out.no (Kept.refl No _).drew
    have HLT : Hid (p < wq.drew.heap.size) := HLT.out
    generalize wq.drew = wk1 at HP HQ C7 HK HLT hH HG HT ⊢
    refine xV 0 29 (pV p 0) hH <| xV 1 30 (pV q 0) hH <| xV 2 31 (pV p 0) hH <| xV 3 32 (pV p 0) hH <| xV 4 33 (pV p 7) hH <| xL 5 34 24 ⟨p, 7, none⟩ (.slice v.ga.a v.ga.l v.ga.k) (fun _ hw => load_24 hw) hH <| ?_
    try simp only [pS]
    refine xV 6 35 (pV p 0) hH ?_
    try simp only [pS]
    refine xC 7 36 76 #[pV p 0] (need_any p v wk1 HP.out (by omega)) ?_
    rintro e wq ⟨rfl, hwq⟩
    rw [hwq]
    clear hwq wq
    refine ⟨.int .i64 (needN v.ga.l), rfl, hH, fun hH => ?_⟩
    try simp only [pS]
    have HSt : Hid (w.heap.size ≤ wk1.heap.size) := HK.out.size
    have HBl : Hid (b < wk1.heap.size ∧ h < wk1.heap.size) := ⟨HT.out.map.lt, HT.out.box.lt⟩
    refine xC 8 37 33 #[.slice v.ga.a v.ga.l v.ga.k, .int .i64 (needN v.ga.l)] (U.new_any v.ga.a v.ga.l v.ga.k zs (needN v.ga.l) wk1 HZ.out (by omega) (HG.out.nums HZ.out)) ?_
    rintro e wt ⟨ta, tc, rfl, hT2, hF2, hk⟩
    have HT2 : Hid (Tal 132 U.ans wt (wk1.heap.size + 1) wk1.heap.size ta tc (tNew Unit zs (needN v.ga.l))) := hT2
    have HF2 : Hid (∀ k, At ta k → wk1.heap.size ≤ k) := hF2
    have HP : Hid (Box wt (p) 94 (v.cells)) := HP.out.kept hk (fun e => e)
    have HQ : Hid (Box wt (q) 111 ((qcs (accM v c) h false).toArray)) := HQ.out.kept hk (fun e => e)
    have HG : Hid (Own 3 1 wt 0 v.ga.a v.ga.k v.ga.l (zs.map (Value.int .i64))) := HG.out.no hk
    have HT : Hid (Tal 132 U.ans wt h b a cap (tNew Unit zs (zs.length : Int))) := HT.out.no hk
    have HK : Hid (Kept No w wt) := HK.out.then hk
    have C7 : Hid (wt.cell? ⟨p, 7, none⟩ = some (.slice v.ga.a v.ga.l v.ga.k)) := HP.out.cell 7
    refine ⟨.pointer (some ⟨wk1.heap.size + 1, 0, none⟩), rfl, C7.out, fun hH => ?_⟩
    try simp only [pS]
    clear hT2 hF2 hk HLT
    generalize wk1.heap.size = Bt at HT2 HF2 HSt HBl ⊢
    refine xU 9 38 (.agg (#[pV q 0, pV (Bt + 1) 0])) (fun w' hw => exec_build 162 _ rfl (#[pV q 0, pV (Bt + 1) 0]) (by kernel_rfl)) hH <| xV 10 39 (phAcc q (Bt + 1)) hH <| xV 11 40 (pV p 0) hH <| xV 12 41 (pV p 21) hH <| ?_
    try simp only [pS]
    refine xS 13 92 ⟨p, 21, none⟩ (phAcc q (Bt + 1)) (store_ph HP.out (phAcc q (Bt + 1)) rfl rfl) ((HP.out.setRow _).cell 7) (fun hH => ?_)
    try simp only [pS]
    refine wpAnyH_done (by kernel_rfl) ?_ _
    try simp only [pS]
    clear hH C7
    obtain ⟨wu, hwu⟩ : ∃ wu, wu = wt.setRow p ({ v with ph := phAcc q (Bt + 1) } : Pv).cells := ⟨_, rfl⟩
    have hks : Kept (Only p) wt wu := by rw [hwu]; exact Kept.setRow _ _ _
    have hqp : q ≠ p := box_ne HQ.out HP.out (by decide)
    have HQ : Hid (Box wu (q) 111 ((qcs (accM v c) h false).toArray)) := HQ.out.kept hks hqp
    have HT : Hid (Tal 132 U.ans wu h b a cap (tNew Unit zs (zs.length : Int))) := HT.out.kept hks (fun k e f => tal_ne HT.out HP.out (by decide) (by decide) e f)
    have HT2 : Hid (Tal 132 U.ans wu (Bt + 1) Bt ta tc (tNew Unit zs (needN v.ga.l))) := HT2.out.kept hks (fun k e f => tal_ne HT2.out HP.out (by decide) (by decide) e f)
    have HG : Hid (Own 3 1 wu 0 v.ga.a v.ga.k v.ga.l (zs.map (Value.int .i64))) := HG.out.kept hks (fun k e f => HOff.out k e f)
    have HP : Hid (Box wu (p) 94 (({ v with ph := phAcc q (Bt + 1) } : Pv).cells)) := by rw [hwu]; exact HP.out.setRow _
    have HKp : Hid (Kept (Only p) w wu) := (HK.out.of_no : Kept (Only p) w wt).then hks
    rw [← hwu]
    clear hwu hks hqp HK
    go_upto_region 5 with fail
    refine wp_region_held_drew (S := fun w' => Box w' (p) 94 (({ v with ph := phAcc q (Bt + 1) } : Pv).cells) ∧ Box w' (q) 111 ((qcs (accM v c) h false).toArray)) rfl ⟨HP.out, HQ.out⟩ (fun hH => ?_)
    refine xV 0 42 (pV p 0) hH <| xV 1 43 (pV p 0) hH <| xV 2 44 (pV p 7) hH <| xL 3 45 24 ⟨p, 7, none⟩ (.slice v.ga.a v.ga.l v.ga.k) (fun _ hw => load_24 (hw.1.cell 7)) hH <| xV 4 46 (pV q 0) hH <| xV 5 47 (pV q 0) hH <| ?_
    try simp only [pS]
    refine xV 6 48 (pV q 0) hH <| xL 7 49 47 ⟨q, 0, none⟩ (.agg (accM v c).cells) (fun _ hw => load_Q hw.2) hH <| ?_
    try simp only [pS]
    refine xC 8 50 51 #[.slice v.ga.a v.ga.l v.ga.k, .agg (accM v c).cells] (toEach_any v.ga.a v.ga.l v.ga.k zs (accM v c) wu.drew HZ.out hn ((HG.out.no (Kept.refl No wu).drew).nums HZ.out)) ?_
    rintro e wz ⟨la, lc, rfl, hL, hk⟩
    have hk1 : Kept No wu wz := (Kept.refl No wu).drew.then hk
    have hl : (zs.map (accM v c).to).length = zs.length := List.length_map _
    rw [hl] at hL ⊢
    have HL : Hid (Own 47 30 wz wu.drew.heap.size la lc zs.length (msL (zs.map (accM v c).to))) := hL
    have HK1 : Hid (Kept No wu wz) := hk1
    have HPz : Hid (Box wz (p) 94 (({ v with ph := phAcc q (Bt + 1) } : Pv).cells)) := HP.out.kept hk1 (fun e => e)
    have HQz : Hid (Box wz (q) 111 ((qcs (accM v c) h false).toArray)) := HQ.out.kept hk1 (fun e => e)
    refine ⟨.slice la zs.length lc, rfl, ⟨HPz.out, HQz.out⟩, fun hH => ?_⟩
    try simp only [pS]
    refine xV 9 4 (.slice la zs.length lc) hH ?_
    try simp only [pS]
    refine wpAnyH_done (by kernel_rfl) ?_ _
    try simp only [pS]
    clear hH hL hk hk1 hl
    go_wp2
    rw [HC.out]
    have hfr := HFr.out
    have hlw := HLW.out
    have hst := HSt.out
    have hbl := HBl.out
    have hsu : w.heap.size ≤ wu.heap.size := HKp.out.size
    refine ⟨q, h, b, a, cap, Bt + 1, Bt, ta, tc, la, lc, rfl, Own.lower HL.out (by show ww.heap.size ≤ wu.heap.size; omega), HPz.out, HQz.out, HT.out.no HK1.out, ?_, ⟨by omega, by omega⟩, ⟨by omega, by omega, by omega, by omega, by omega⟩, fun k e => by have := hfr.2.2.2 k e; omega, fun k e => by have := HF2.out k e; omega, (HKw.out.then HKp.out).then HK1.out.of_no⟩
    rw [HZ.out]
    exact HT2.out.no HK1.out

end Go.Proofs.Ytpabpeppgpeaoaa
