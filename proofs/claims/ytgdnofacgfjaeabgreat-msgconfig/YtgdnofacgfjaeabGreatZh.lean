import Derived.Test.YtgdnofacgfjaeabGreatZg
namespace Go.Proofs.YtgdnofacgfjaeabGreat
open Go.RowKit Go.Sort
set_option linter.unusedVariables false

set_option maxRecDepth 100000 in
set_option maxHeartbeats 2000000 in
theorem rightFields_1 (m : MsgD) (hk : m.kind = 1) (cv : Array Value) (w : World) (hc : cv.size = 6) (c0 c1 c2 c3 c4 c5 : Value) (he : cv = #[c0, c1, c2, c3, c4, c5]) :
    Calls Tryz.prog 111 #[.agg m.cells, .agg cv] w fun e w' => e = .returned (.bool true) ∧ Kept No w w' := by
  subst he
  have TB : Hid (1 = 1) := rfl
  go_enter Tryz.func111, Tryz.ntmps111
  go_upto_region 1 with (have hguard := TB; clear hguard; refine wp_boxV rfl 71 _ rfl m.cells rfl w.heap.size rfl ?_; clear TB)
  obtain ⟨w0, hw0⟩ : ∃ w0, w0 = (w.alloc (.cells m.cells 71)).alloc (.cells #[c0, c1, c2, c3, c4, c5] 24) := ⟨_, rfl⟩
  rw [← hw0]
  have HK0 : Hid (Kept No w w0) := by rw [hw0]; exact ((Kept.refl No w).alloc _).alloc _
  have HM0 : Hid (MsgAt w0 w.heap.size m) := by rw [hw0]; exact (MsgAt.new w m).no ((Kept.refl No _).alloc _)
  have q0 := HM0.out.ends.1
  rw [hk] at q0
  clear hw0 HM0 hk
  go_wp2
  go_ret
  exact ⟨rfl, HK0.out⟩

theorem fieldsOf_nil (k : Int) (h : fieldsL k = []) (w : World) : Calls Tryz.prog 110 #[.int .i64 k] w fun e w' => e = .returned (.slice none 0 0) ∧ Kept No w w' := by
  have h1 : ¬ (k = 2 ∨ k = 11) := fun e => by unfold fieldsL at h; rw [if_pos e] at h; cases h
  have h2 : ¬ (k = 3 ∨ k = 14 ∨ k = 15 ∨ k = 21) := fun e => by unfold fieldsL at h; rw [if_neg h1, if_pos e] at h; cases h
  have h3 : ¬ k = 4 := fun e => by unfold fieldsL at h; rw [if_neg h1, if_neg h2, if_pos e] at h; cases h
  have h4 : ¬ (k = 5 ∨ k = 16) := fun e => by unfold fieldsL at h; rw [if_neg h1, if_neg h2, if_neg h3, if_pos e] at h; cases h
  have h5 : ¬ k = 13 := fun e => by unfold fieldsL at h; rw [if_neg h1, if_neg h2, if_neg h3, if_neg h4, if_pos e] at h; cases h
  have h6 : ¬ k = 17 := fun e => by unfold fieldsL at h; rw [if_neg h1, if_neg h2, if_neg h3, if_neg h4, if_neg h5, if_pos e] at h; cases h
  have h7 : ¬ k = 22 := fun e => by unfold fieldsL at h; rw [if_neg h1, if_neg h2, if_neg h3, if_neg h4, if_neg h5, if_neg h6, if_pos e] at h; cases h
  clear h
  have a1 : (k == 2) = false := by simp; omega
  have a2 : (k == 11) = false := by simp; omega
  have a3 : (k == 3) = false := by simp; omega
  have a4 : (k == 14) = false := by simp; omega
  have a5 : (k == 15) = false := by simp; omega
  have a6 : (k == 21) = false := by simp; omega
  have a7 : (k == 4) = false := by simp; omega
  have a8 : (k == 5) = false := by simp; omega
  have a9 : (k == 16) = false := by simp; omega
  have a10 : (k == 13) = false := by simp; omega
  have a11 : (k == 17) = false := by simp; omega
  have a12 : (k == 22) = false := by simp; omega
  clear h1 h2 h3 h4 h5 h6 h7
  go_enter Tryz.func110, Tryz.ntmps110
  go_wp2
  go_ret
  exact ⟨rfl, Kept.refl _ _⟩

theorem bel {w w' : World} (h : Kept No w w') : Below w.heap.size w w' := h.below (Nat.le_refl _) (fun _ e => e.elim)

set_option maxRecDepth 100000 in
set_option maxHeartbeats 4000000 in
/-- Of a kind without fields. -/
theorem rightMsg_nil (m : MsgD) (hf : fieldsL m.kind = []) (fB : Bool) (sa : Option Addr) (sn sc : Nat) (zs : List Int) (f p bu bl ro : Int) (w : World) (h : Cfg w sa sn sc zs) (h0 : 0 ≤ bu) (h1 : bu ≤ 9223372036854775807)
    (hF : ∀ W, Kept No w W → Calls Tryz.prog 111 #[.agg m.cells, cfgV (.slice sa sn sc) f p bu bl ro] W fun e w' => e = .returned (.bool fB) ∧ Kept No W w') :
    Calls Tryz.prog 55 #[.agg m.cells, cfgV (.slice sa sn sc) f p bu bl ro] w fun e w' => e = .returned (.bool (endsB m zs && (keyOkB m bu && (onlyB m [] && fB)))) ∧ Kept No w w' := by
  have TB : Hid (1 = 1) := rfl
  go_enter Tryz.func55, Tryz.ntmps55
  go_upto_region 1 with (have hguard := TB; clear hguard; refine wp_boxV rfl 71 _ rfl m.cells rfl w.heap.size rfl ?_; clear TB)
  obtain ⟨w0, hw0⟩ : ∃ w0, w0 = (w.alloc (.cells m.cells 71)).alloc (.cells #[.slice sa sn sc, .int .i64 f, .int .i64 p, .int .i64 bu, .int .i64 bl, .int .i64 ro] 24) := ⟨_, rfl⟩
  rw [← hw0]
  have HK0 : Hid (Kept No w w0) := by rw [hw0]; exact ((Kept.refl No w).alloc _).alloc _
  have HM0 : Hid (MsgAt w0 w.heap.size m) := by rw [hw0]; exact (MsgAt.new w m).no ((Kept.refl No _).alloc _)
  have hB0 : Box w0 (w.heap.size + 1) 24 #[.slice sa sn sc, .int .i64 f, .int .i64 p, .int .i64 bu, .int .i64 bl, .int .i64 ro] := by
    rw [hw0]
    have := Box.new (w.alloc (.cells m.cells 71)) 24 #[.slice sa sn sc, .int .i64 f, .int .i64 p, .int .i64 bu, .int .i64 bl, .int .i64 ro]
    simpa using this
  clear hw0
  have HR : Hid (∀ d os, Kept No w (grow (redrawn w0 d) os)) := fun d os => HK0.out.then (Kept.of_below (below_regrown w0 d os))
  have HMd : Hid (∀ w', (∃ p : Regrown, w' = grow (redrawn w0 p.d) p.os) → Box w' w.heap.size 71 m.cells) := by
    rintro w' ⟨p, rfl⟩
    exact HM0.out.box.kept (Kept.of_below (below_regrown w0 p.d p.os)) (fun e => e)
  have d0 := fun d os => cell_regrown (hB0.cell 0) d os
  have d1 := fun d os => cell_regrown (hB0.cell 1) d os
  have d2 := fun d os => cell_regrown (hB0.cell 2) d os
  have d3 := fun d os => cell_regrown (hB0.cell 3) d os
  have d4 := fun d os => cell_regrown (hB0.cell 4) d os
  have d5 := fun d os => cell_regrown (hB0.cell 5) d os
  have k0 := fun d os => cell_regrown HM0.out.ends.1 d os
  have HC1 : Hid (∀ d os, Calls Tryz.prog 107 #[.agg m.cells, cfgV (.slice sa sn sc) f p bu bl ro] (grow (redrawn w0 d) os) fun e w' => e = .returned (.bool (endsB m zs)) ∧ Below (grow (redrawn w0 d) os).heap.size (grow (redrawn w0 d) os) w') := fun d os => (rightEnds_any m sa sn sc zs f p bu bl ro _ (h.no (HR.out d os))).mono (fun e w' ⟨a, b⟩ => ⟨a, bel b⟩)
  have HC2 : Hid (∀ d os, Calls Tryz.prog 108 #[.agg m.cells, cfgV (.slice sa sn sc) f p bu bl ro] (grow (redrawn w0 d) os) fun e w' => e = .returned (.bool (keyOkB m bu)) ∧ Below (grow (redrawn w0 d) os).heap.size (grow (redrawn w0 d) os) w') := fun d os => (rightKey_any m sa sn sc f p bu bl ro _ h0 h1).mono (fun e w' ⟨a, b⟩ => ⟨a, bel b⟩)
  have HC3 : Hid (∀ d os, Calls Tryz.prog 110 #[.int .i64 m.kind] (grow (redrawn w0 d) os) fun e w' => e = .returned (.slice none 0 0) ∧ Below (grow (redrawn w0 d) os).heap.size (grow (redrawn w0 d) os) w') := fun d os => (fieldsOf_nil m.kind hf _).mono (fun e w' ⟨a, b⟩ => ⟨a, bel b⟩)
  have HC4 : Hid (∀ d os, Calls Tryz.prog 109 #[.agg m.cells, .slice none 0 0] (grow (redrawn w0 d) os) fun e w' => e = .returned (.bool (onlyB m [])) ∧ Below (grow (redrawn w0 d) os).heap.size (grow (redrawn w0 d) os) w') := fun d os => (only_any m none 0 0 [] _ rfl (by omega) (Nums.nil _ _ _)).mono (fun e w' ⟨a, b⟩ => ⟨a, bel b⟩)
  have HC5 : Hid (∀ d os, Calls Tryz.prog 111 #[.agg m.cells, cfgV (.slice sa sn sc) f p bu bl ro] (grow (redrawn w0 d) os) fun e w' => e = .returned (.bool fB) ∧ Below (grow (redrawn w0 d) os).heap.size (grow (redrawn w0 d) os) w') := fun d os => (hF _ (HR.out d os)).mono (fun e w' ⟨a, b⟩ => ⟨a, bel b⟩)
  clear hF h hf hB0 HM0
  obtain ⟨e1, he1⟩ : ∃ e1, endsB m zs = e1 := ⟨_, rfl⟩
  obtain ⟨e2, he2⟩ : ∃ e2, keyOkB m bu = e2 := ⟨_, rfl⟩
  obtain ⟨e3, he3⟩ : ∃ e3, onlyB m [] = e3 := ⟨_, rfl⟩
  rw [he1] at HC1
  rw [he2] at HC2
  rw [he3] at HC4
  have HE1 : Hid (endsB m zs = e1) := he1
  have HE2 : Hid (keyOkB m bu = e2) := he2
  have HE3 : Hid (onlyB m [] = e3) := he3
  clear he1 he2 he3
  have hmix : Tryz.prog.follows .mixedOrders = true := by kernel_rfl
  cases e1 with
  | false =>
    refine wp_region_quiet_below hmix (by kernel_rfl) ?_
    refine quiet_loadM (by simp [Region.wanted]) _ rfl w.heap.size m.cells rfl m.size HMd.out ?_
    quiet_step (fail)
    quiet_step (exact Calls.regrown_of (HC1.out _ _))
    quiet_step (fail)
    quiet_step (fail)
    quiet_step (fail)
    quiet_step (fail)
    quiet_step (fail)
    quiet_step (fail)
    quiet_step (fail)
    quiet_step (fail)
    quiet_step (fail)
    quiet_step (fail)
    quiet_step (fail)
    quiet_step (fail)
    quiet_step (fail)
    quiet_step (fail)
    quiet_step (fail)
    quiet_step (fail)
    quiet_step (fail)
    quiet_step (fail)
    refine wpQuiet_nil ?_
    intro w' hw'
    have hkw : Kept No w0 w' := by obtain ⟨q, rfl⟩ := hw'; exact Kept.of_below (below_regrown w0 q.d q.os)
    have HKw : Hid (Kept No w w') := HK0.out.then hkw
    clear hw' hkw
    go_wp2
    go_ret
    exact ⟨ret_bool (by rw [HE1.out, HE2.out, HE3.out]; rfl), HKw.out⟩
  | true =>
    cases e2 with
    | false =>
      refine wp_region_quiet_below hmix (by kernel_rfl) ?_
      refine quiet_loadM (by simp [Region.wanted]) _ rfl w.heap.size m.cells rfl m.size HMd.out ?_
      quiet_step (fail)
      quiet_step (exact Calls.regrown_of (HC1.out _ _))
      quiet_step (fail)
      refine quiet_loadM (by simp [Region.wanted, yielded]) _ rfl w.heap.size m.cells rfl m.size HMd.out ?_
      quiet_step (fail)
      quiet_step (exact Calls.regrown_of (HC2.out _ _))
      quiet_step (fail)
      quiet_step (fail)
      quiet_step (fail)
      quiet_step (fail)
      quiet_step (fail)
      quiet_step (fail)
      quiet_step (fail)
      quiet_step (fail)
      quiet_step (fail)
      quiet_step (fail)
      quiet_step (fail)
      quiet_step (fail)
      quiet_step (fail)
      quiet_step (fail)
      refine wpQuiet_nil ?_
      intro w' hw'
      have hkw : Kept No w0 w' := by obtain ⟨q, rfl⟩ := hw'; exact Kept.of_below (below_regrown w0 q.d q.os)
      have HKw : Hid (Kept No w w') := HK0.out.then hkw
      clear hw' hkw
      go_wp2
      go_ret
      exact ⟨ret_bool (by rw [HE1.out, HE2.out, HE3.out]; rfl), HKw.out⟩
    | true =>
      cases e3 with
      | false =>
        refine wp_region_quiet_below hmix (by kernel_rfl) ?_
        refine quiet_loadM (by simp [Region.wanted]) _ rfl w.heap.size m.cells rfl m.size HMd.out ?_
        quiet_step (fail)
        quiet_step (exact Calls.regrown_of (HC1.out _ _))
        quiet_step (fail)
        refine quiet_loadM (by simp [Region.wanted, yielded]) _ rfl w.heap.size m.cells rfl m.size HMd.out ?_
        quiet_step (fail)
        quiet_step (exact Calls.regrown_of (HC2.out _ _))
        quiet_step (fail)
        quiet_step (fail)
        refine quiet_loadM (by simp [Region.wanted, yielded]) _ rfl w.heap.size m.cells rfl m.size HMd.out ?_
        quiet_step (fail)
        quiet_step (fail)
        quiet_step (exact Calls.regrown_of (HC3.out _ _))
        quiet_step (exact Calls.regrown_of (HC4.out _ _))
        quiet_step (fail)
        quiet_step (fail)
        quiet_step (fail)
        quiet_step (fail)
        quiet_step (fail)
        quiet_step (fail)
        quiet_step (fail)
        refine wpQuiet_nil ?_
        intro w' hw'
        have hkw : Kept No w0 w' := by obtain ⟨q, rfl⟩ := hw'; exact Kept.of_below (below_regrown w0 q.d q.os)
        have HKw : Hid (Kept No w w') := HK0.out.then hkw
        clear hw' hkw
        go_wp2
        go_ret
        exact ⟨ret_bool (by rw [HE1.out, HE2.out, HE3.out]; rfl), HKw.out⟩
      | true =>
        refine wp_region_quiet_below hmix (by kernel_rfl) ?_
        refine quiet_loadM (by simp [Region.wanted]) _ rfl w.heap.size m.cells rfl m.size HMd.out ?_
        quiet_step (fail)
        quiet_step (exact Calls.regrown_of (HC1.out _ _))
        quiet_step (fail)
        refine quiet_loadM (by simp [Region.wanted, yielded]) _ rfl w.heap.size m.cells rfl m.size HMd.out ?_
        quiet_step (fail)
        quiet_step (exact Calls.regrown_of (HC2.out _ _))
        quiet_step (fail)
        quiet_step (fail)
        refine quiet_loadM (by simp [Region.wanted, yielded]) _ rfl w.heap.size m.cells rfl m.size HMd.out ?_
        quiet_step (fail)
        quiet_step (fail)
        quiet_step (exact Calls.regrown_of (HC3.out _ _))
        quiet_step (exact Calls.regrown_of (HC4.out _ _))
        quiet_step (fail)
        quiet_step (fail)
        refine quiet_loadM (by simp [Region.wanted, yielded]) _ rfl w.heap.size m.cells rfl m.size HMd.out ?_
        quiet_step (fail)
        quiet_step (exact Calls.regrown_of (HC5.out _ _))
        quiet_step (fail)
        quiet_step (fail)
        refine wpQuiet_nil ?_
        intro w' hw'
        have hkw : Kept No w0 w' := by obtain ⟨q, rfl⟩ := hw'; exact Kept.of_below (below_regrown w0 q.d q.os)
        have HKw : Hid (Kept No w w') := HK0.out.then hkw
        clear hw' hkw
        go_wp2
        go_ret
        exact ⟨ret_bool (by rw [HE1.out, HE2.out, HE3.out]; rfl), HKw.out⟩

end Go.Proofs.YtgdnofacgfjaeabGreat
