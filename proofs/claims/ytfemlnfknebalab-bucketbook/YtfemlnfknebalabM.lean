import Derived.Test.YtfemlnfknebalabL
namespace Go.Proofs.Ytfemlnfknebalab
open Go.RowKit
set_option linter.unusedVariables false
set_option linter.unusedSimpArgs false

/-- What acting on a bucket leaves. -/
def ActOut (w : World) (base p : Nat) (up : Int) (se sl : Sl) (ls : List La) (r : List En × An) (e : Ending) (w' : World) : Prop :=
  ∃ se' sx : Sl, e = .returned (.agg (Av.cells ⟨r.2.er, r.2.e, sx⟩)) ∧ Bkt w' base p up se' sl r.1 ls ∧ OwE w' w.heap.size sx r.2.l ∧ (∀ k, At sx.a k → ¬ At se'.a k) ∧ Kept (fun k => k = p ∨ At se.a k) w w' ∧ (∀ k, At se'.a k → At se.a k ∨ w.heap.size ≤ k)
theorem creS_yes {es : List En} {c : Cm} {room : Int} (h : eIs es c.nm = true) : creS es c room = (es, ⟨101, eAt es (eIx es c.nm), []⟩) := by unfold creS; rw [h]; rfl
theorem creS_full {es : List En} {c : Cm} {room : Int} (h : eIs es c.nm = false) (h2 : decide (room ≤ (es.length : Int)) = true) : creS es c room = (es, ⟨103, enZ, []⟩) := by unfold creS; rw [h, h2]; rfl
theorem creS_new {es : List En} {c : Cm} {room : Int} (h : eIs es c.nm = false) (h2 : decide (room ≤ (es.length : Int)) = false) : creS es c room = (insL es (eIx es c.nm) (newE c), ⟨0, newE c, []⟩) := by unfold creS; rw [h, h2]; rfl
set_option maxRecDepth 100000 in
set_option maxHeartbeats 4000000 in
theorem create_any (p base : Nat) (up : Int) (ea : Option Addr) (en ec : Nat) (la : Option Addr) (ln lc : Nat) (es : List En) (ls : List La) (c : Cm) (room : Int) (w : World) (h : Bkt w base p up ⟨ea, en, ec⟩ ⟨la, ln, lc⟩ es ls) (hb : (en + 1) * 40 ≤ 140737488355328) (hbase : base ≤ w.heap.size) : Calls Try.prog 38 #[.pointer (some ⟨p, 0, none⟩), .agg c.cells, .int .i64 room] w (ActOut w base p up ⟨ea, en, ec⟩ ⟨la, ln, lc⟩ ls (creS es c room)) := by
  obtain ⟨C, hC⟩ : ∃ C : Ending → World → Prop, C = (ActOut w base p up ⟨ea, en, ec⟩ ⟨la, ln, lc⟩ ls (creS es c room)) := ⟨_, rfl⟩
  have HC : Hid (C = (ActOut w base p up ⟨ea, en, ec⟩ ⟨la, ln, lc⟩ ls (creS es c room))) := hC
  rw [← hC]
  clear hC
  have hll : es.length = en := h.e.len
  have hpl := h.box.lt
  have HP : Hid (Box w p 26 (Bv.cells ⟨up, ⟨ea, en, ec⟩, ⟨la, ln, lc⟩⟩)) := h.box
  have HE : Hid (OwE w base ⟨ea, en, ec⟩ es) := h.e
  have HL : Hid (OwL w base ⟨la, ln, lc⟩ ls) := h.l
  have HX : Hid (∀ W, Kept No w W → Calls Try.prog 28 #[.slice ea en ec, .string c.nm] W (fun e w' => e = .returned (.tuple #[.int .i64 (eIx es c.nm : Nat), .bool (eIs es c.nm)]) ∧ Kept No W w')) := fun W hk => entryAt_any ea en ec es c.nm W hll (by omega) (RowsAt.no h.e.rd.row hk)
  have hix : eIx es c.nm ≤ en := by rw [← hll]; exact eIx_le _ _
  cases hq : eIs es c.nm
  · have HK1 : Hid (decide (room ≤ ((en : Nat) : Int)) = true → creS es c room = (es, ⟨103, enZ, []⟩)) := fun h2 => creS_full hq (by rw [hll]; exact h2)
    have HK2 : Hid (decide (room ≤ ((en : Nat) : Int)) = false → creS es c room = (insL es (eIx es c.nm) (newE c), ⟨0, newE c, []⟩)) := fun h2 => creS_new hq (by rw [hll]; exact h2)
    rw [hq] at HX
    clear hq hll h
    obtain ⟨ix, hix2⟩ : ∃ ix, ix = eIx es c.nm := ⟨_, rfl⟩
    rw [← hix2] at HX HK2 hix
    clear hix2
    have HF : Hid (Fr No w w []) := Fr.start _ _
    go_enter Try.func38, Try.ntmps38
    go_upto_region 0 with fail
    refine WL.start ?_
    refine wp_runW (.pointer (some ⟨w.heap.size, 0, none⟩)) (w.alloc (.cells (Cm.cells c) 31)) (exec_box 31 _ rfl (Cm.cells c) (by kernel_rfl)) (by kernel_rfl) ?_
    try simp only [pA, pB, p1, p2, p3]
    have HF : Hid (Fr No w (w.alloc (.cells (Cm.cells c) 31)) [(w.heap.size, 31, Cm.cells c)]) := HF.out.alloc _ _
    generalize w.alloc (.cells (Cm.cells c) 31) = wk2 at HF ⊢
    generalize w.heap.size = gk1 at HF ⊢
    refine wp_runW (.pointer (some ⟨wk2.heap.size, 0, none⟩)) (wk2.alloc (.cells (Av.cells avZ) 36)) (exec_alloc 36 rfl (Av.cells avZ) zero56) (by kernel_rfl) ?_
    try simp only [pA, pB, p1, p2, p3]
    have HF : Hid (Fr No w (wk2.alloc (.cells (Av.cells avZ) 36)) [(gk1, 31, Cm.cells c), (wk2.heap.size, 36, Av.cells avZ)]) := HF.out.alloc _ _
    generalize wk2.alloc (.cells (Av.cells avZ) 36) = wk4 at HF ⊢
    generalize wk2.heap.size = gk3 at HF ⊢
    refine WL.nil ?_
    try simp only [pA, pB, p1, p2, p3]
    go_upto_region 1 with fail
    refine wp_region_held_drew (S := fun w' => Box w' gk1 31 (Cm.cells c) ∧ Box w' p 26 (Bv.cells ⟨up, ⟨ea, en, ec⟩, ⟨la, ln, lc⟩⟩)) rfl ⟨HF.out.box 0 _ _ _ rfl, HP.out.no HF.out.kept.drew⟩ (fun hH => ?_)
    have HF : Hid (Fr No w (wk4.drew) [(gk1, 31, Cm.cells c), (gk3, 36, Av.cells avZ)]) := HF.out.drew
    generalize wk4.drew = wk5 at HF hH ⊢
    refine aK (i := 0) (oi := { dst := some 11, op := Op.move (Operand.tmp 0), type := 65, pos := "step.go:71", after := #[], guard := none }) (v := .pointer (some ⟨p, 0, none⟩)) hH ?_
    try simp only [pA, pB, p1, p2, p3]
    refine aK (i := 1) (oi := { dst := some 12, op := Op.nilCheck (Operand.tmp 11), type := 0, pos := "step.go:71", after := #[{ on := 0, ground := Ground.data }], guard := none }) (v := .pointer (some ⟨p, 0, none⟩)) hH ?_
    try simp only [pA, pB, p1, p2, p3]
    refine aK (i := 2) (oi := { dst := some 13, op := Op.fieldAddr 26 (Operand.tmp 12) 1, type := 0, pos := "step.go:71", after := #[{ on := 1, ground := Ground.data }], guard := none }) (v := .pointer (some ⟨p, 1, none⟩)) hH ?_
    try simp only [pA, pB, p1, p2, p3]
    refine aT (i := 3) (oi := { dst := some 14, op := Op.load 23 (Operand.tmp 13), type := 23, pos := "step.go:71", after := #[{ on := 2, ground := Ground.data }], guard := none }) (v := .slice ea en ec) (fun w' hw => exec_load 23 _ rfl ⟨p, 1, none⟩ (by kernel_rfl) (.slice ea en ec) (ld22 (hw.2.cell 1))) hH ?_
    try simp only [pA, pB, p1, p2, p3]
    refine aK (i := 4) (oi := { dst := some 15, op := Op.fieldAddr 31 (Operand.tmp 4) 3, type := 0, pos := "step.go:71", after := #[], guard := none }) (v := .pointer (some ⟨gk1, 3, none⟩)) hH ?_
    try simp only [pA, pB, p1, p2, p3]
    refine aT (i := 5) (oi := { dst := some 16, op := Op.load 9 (Operand.tmp 15), type := 9, pos := "step.go:71", after := #[{ on := 4, ground := Ground.data }], guard := none }) (v := .string c.nm) (fun w' hw => exec_load 9 _ rfl ⟨gk1, 3, none⟩ (by kernel_rfl) (.string c.nm) (ld9 (hw.1.cell 3))) hH ?_
    try simp only [pA, pB, p1, p2, p3]
    refine any_call (i := 6) (o := { dst := some 17, op := Op.call { callee := Callee.value (Operand.func 28), args := #[Operand.tmp 14, Operand.tmp 16], argTypes := #[23, 9] }, type := 72, pos := "step.go:71", after := #[{ on := 3, ground := Ground.data }, { on := 5, ground := Ground.data }], guard := none }) rfl (by kernel_rfl) (by kernel_rfl) 28 #[.slice ea en ec, .string c.nm] (by kernel_rfl) _ (HX.out _ HF.out.kept) ?_
    rintro e wk6 ⟨rfl, hk⟩
    have hH2 : Box wk6 gk1 31 (Cm.cells c) ∧ Box wk6 p 26 (Bv.cells ⟨up, ⟨ea, en, ec⟩, ⟨la, ln, lc⟩⟩) := ⟨hH.1.kept hk (fun e => e), hH.2.no hk⟩
    have HF : Hid (Fr No w (wk6) [(gk1, 31, Cm.cells c), (gk3, 36, Av.cells avZ)]) := HF.out.no hk
    clear hk
    refine ⟨.tuple #[.int .i64 (ix : Nat), .bool false], rfl, hH2, fun hH => ?_⟩
    clear hH2
    try simp only [pA, pB, p1, p2, p3]
    refine aK (i := 7) (oi := { dst := some 10, op := Op.move (Operand.tmp 17), type := 72, pos := "step.go:71", after := #[{ on := 6, ground := Ground.data }], guard := none }) (v := .tuple #[.int .i64 (ix : Nat), .bool false]) hH ?_
    try simp only [pA, pB, p1, p2, p3]
    refine aK (i := 8) (oi := { dst := some 18, op := Op.extract (Operand.tmp 10) 0, type := 3, pos := "step.go:71", after := #[{ on := 7, ground := Ground.data }], guard := none }) (v := .int .i64 ((ix : Nat) : Int)) hH ?_
    try simp only [pA, pB, p1, p2, p3]
    refine aK (i := 9) (oi := { dst := some 19, op := Op.extract (Operand.tmp 10) 1, type := 4, pos := "step.go:71", after := #[{ on := 7, ground := Ground.data }, { on := 10, ground := Ground.gcOnly Departure.lateStores }], guard := none }) (v := .bool false) hH ?_
    try simp only [pA, pB, p1, p2, p3]
    refine aK (i := 10) (oi := { dst := some 7, op := Op.assign (Operand.tmp 18), type := 3, pos := "step.go:71", after := #[{ on := 8, ground := Ground.data }, { on := 6, ground := Ground.chain }, { on := 0, ground := Ground.phase }, { on := 1, ground := Ground.phase }, { on := 2, ground := Ground.phase }, { on := 3, ground := Ground.phase }, { on := 4, ground := Ground.phase }, { on := 5, ground := Ground.phase }, { on := 6, ground := Ground.phase }, { on := 7, ground := Ground.phase }, { on := 8, ground := Ground.phase }, { on := 9, ground := Ground.textOnly Departure.lateStores }], guard := none }) (v := .int .i64 ((ix : Nat) : Int)) hH ?_
    try simp only [pA, pB, p1, p2, p3]
    refine aK (i := 11) (oi := { dst := some 8, op := Op.assign (Operand.tmp 19), type := 4, pos := "step.go:71", after := #[{ on := 9, ground := Ground.data }, { on := 10, ground := Ground.chain }, { on := 0, ground := Ground.phase }, { on := 1, ground := Ground.phase }, { on := 2, ground := Ground.phase }, { on := 3, ground := Ground.phase }, { on := 4, ground := Ground.phase }, { on := 5, ground := Ground.phase }, { on := 6, ground := Ground.phase }, { on := 7, ground := Ground.phase }, { on := 8, ground := Ground.phase }, { on := 9, ground := Ground.phase }, { on := 10, ground := Ground.phase }], guard := none }) (v := .bool false) hH ?_
    try simp only [pA, pB, p1, p2, p3]
    refine wpAnyH_done (by kernel_rfl) ?_ _
    try simp only [pA, pB, p1, p2, p3]
    clear hH
    go_upto_region 2 with fail
    refine WL.start ?_
    refine tK (.bool false) ?_
    try simp only [pA, pB, p1, p2, p3]
    refine WL.nil ?_
    try simp only [pA, pB, p1, p2, p3]
    go_upto_region 4 with fail
    refine WL.start ?_
    refine tK (.pointer (some ⟨p, 0, none⟩)) ?_
    try simp only [pA, pB, p1, p2, p3]
    refine tK (.pointer (some ⟨p, 0, none⟩)) ?_
    try simp only [pA, pB, p1, p2, p3]
    refine tK (.pointer (some ⟨p, 1, none⟩)) ?_
    try simp only [pA, pB, p1, p2, p3]
    refine tW (.slice ea en ec) (exec_load 23 _ rfl ⟨p, 1, none⟩ (by kernel_rfl) (.slice ea en ec) (ld22 ((HP.out.no HF.out.kept).cell 1))) ?_
    try simp only [pA, pB, p1, p2, p3]
    refine tK (.int .i64 ((en : Nat) : Int)) ?_
    try simp only [pA, pB, p1, p2, p3]
    refine tK (.int .i64 room) ?_
    try simp only [pA, pB, p1, p2, p3]
    cases q1 : (decide (room ≤ ((en : Nat) : Int)))
    ·skip
     refine tW (.bool false) (exec_bin .geq 3 _ _ _ rfl (.int .i64 ((en : Nat) : Int)) (.int .i64 room) (.bool false) (by kernel_rfl) (by kernel_rfl) (by kernel_rfl) (by rw [b_geq, q1]; try rfl)) ?_
     try simp only [pA, pB, p1, p2, p3]
     refine WL.nil ?_
     try simp only [pA, pB, p1, p2, p3]
     go_upto_region 6 with fail
     refine WL.start ?_
     refine tK (.pointer (some ⟨gk1, 3, none⟩)) ?_
     try simp only [pA, pB, p1, p2, p3]
     refine tW (.string c.nm) (exec_load 9 _ rfl ⟨gk1, 3, none⟩ (by kernel_rfl) (.string c.nm) (ld9 ((HF.out.box 0 _ _ _ rfl).cell 3))) ?_
     try simp only [pA, pB, p1, p2, p3]
     refine tK (.pointer (some ⟨gk1, 1, none⟩)) ?_
     try simp only [pA, pB, p1, p2, p3]
     refine tW (.int .i64 c.cl) (exec_load 3 _ rfl ⟨gk1, 1, none⟩ (by kernel_rfl) (.int .i64 c.cl) (ld3 ((HF.out.box 0 _ _ _ rfl).cell 1))) ?_
     try simp only [pA, pB, p1, p2, p3]
     refine tK (.pointer (some ⟨gk1, 2, none⟩)) ?_
     try simp only [pA, pB, p1, p2, p3]
     refine tW (.int .i64 c.op) (exec_load 3 _ rfl ⟨gk1, 2, none⟩ (by kernel_rfl) (.int .i64 c.op) (ld3 ((HF.out.box 0 _ _ _ rfl).cell 2))) ?_
     try simp only [pA, pB, p1, p2, p3]
     refine tW (.agg (#[.int .i64 c.cl, .int .i64 c.op])) (exec_build 29 _ rfl (#[.int .i64 c.cl, .int .i64 c.op]) (by kernel_rfl)) ?_
     try simp only [pA, pB, p1, p2, p3]
     refine tW (.agg (En.cells ⟨c.nm, c.cl, c.op, 0⟩)) (exec_build 34 _ rfl (En.cells ⟨c.nm, c.cl, c.op, 0⟩) (by kernel_rfl)) ?_
     try simp only [pA, pB, p1, p2, p3]
     refine wp_runW (.pointer (some ⟨wk6.heap.size, 0, none⟩)) (wk6.alloc (.cells (En.cells enZ) 34)) (exec_alloc 34 rfl (En.cells enZ) zero54) (by kernel_rfl) ?_
     try simp only [pA, pB, p1, p2, p3]
     have HF : Hid (Fr No w (wk6.alloc (.cells (En.cells enZ) 34)) [(gk1, 31, Cm.cells c), (gk3, 36, Av.cells avZ), (wk6.heap.size, 34, En.cells enZ)]) := HF.out.alloc _ _
     generalize wk6.alloc (.cells (En.cells enZ) 34) = wk8 at HF ⊢
     generalize wk6.heap.size = gk7 at HF ⊢
     refine wp_storeW 34 _ _ rfl ⟨gk7, 0, none⟩ (.agg (En.cells ⟨c.nm, c.cl, c.op, 0⟩)) (by kernel_rfl) (by kernel_rfl) (wk8.setRow gk7 (En.cells ⟨c.nm, c.cl, c.op, 0⟩)) (st54 (HF.out.box 2 _ _ _ rfl) rfl) (by kernel_rfl) ?_
     try simp only [pA, pB, p1, p2, p3]
     have HF : Hid (Fr No w (wk8.setRow gk7 (En.cells ⟨c.nm, c.cl, c.op, 0⟩)) [(gk1, 31, Cm.cells c), (gk3, 36, Av.cells avZ), (gk7, 34, En.cells ⟨c.nm, c.cl, c.op, 0⟩)]) := HF.out.set 2 rfl _
     generalize wk8.setRow gk7 (En.cells ⟨c.nm, c.cl, c.op, 0⟩) = wk9 at HF ⊢
     refine WL.nil ?_
     try simp only [pA, pB, p1, p2, p3]
     go_upto_region 7 with fail
     refine wp_region_held_drew (S := fun _ => True) rfl trivial (fun hH => ?_)
     have HF : Hid (Fr No w (wk9.drew) [(gk1, 31, Cm.cells c), (gk3, 36, Av.cells avZ), (gk7, 34, En.cells ⟨c.nm, c.cl, c.op, 0⟩)]) := HF.out.drew
     generalize wk9.drew = wk10 at HF hH ⊢
     refine aK (i := 0) (oi := { dst := some 45, op := Op.move (Operand.tmp 0), type := 65, pos := "step.go:79", after := #[], guard := none }) (v := .pointer (some ⟨p, 0, none⟩)) hH ?_
     try simp only [pA, pB, p1, p2, p3]
     refine aK (i := 1) (oi := { dst := some 46, op := Op.move (Operand.tmp 0), type := 65, pos := "step.go:79", after := #[], guard := none }) (v := .pointer (some ⟨p, 0, none⟩)) hH ?_
     try simp only [pA, pB, p1, p2, p3]
     refine aK (i := 2) (oi := { dst := some 47, op := Op.nilCheck (Operand.tmp 46), type := 0, pos := "step.go:79", after := #[{ on := 1, ground := Ground.data }], guard := none }) (v := .pointer (some ⟨p, 0, none⟩)) hH ?_
     try simp only [pA, pB, p1, p2, p3]
     refine aK (i := 3) (oi := { dst := some 48, op := Op.fieldAddr 26 (Operand.tmp 47) 1, type := 0, pos := "step.go:79", after := #[{ on := 2, ground := Ground.data }], guard := none }) (v := .pointer (some ⟨p, 1, none⟩)) hH ?_
     try simp only [pA, pB, p1, p2, p3]
     refine aK (i := 5) (oi := { dst := some 50, op := Op.move (Operand.tmp 7), type := 3, pos := "step.go:79", after := #[], guard := none }) (v := .int .i64 ((ix : Nat) : Int)) hH ?_
     try simp only [pA, pB, p1, p2, p3]
     refine any_pick (rs := [4, 6]) (by kernel_rfl) (by simp) ?_
     intro i hi
     rcases pick2 hi with rfl | rfl
     ·skip
      clear hi
      refine step_run (i := 4) (o := { dst := some 49, op := Op.load 23 (Operand.tmp 48), type := 23, pos := "step.go:79", after := #[{ on := 3, ground := Ground.data }], guard := none }) rfl (by kernel_rfl) (exec_load 23 _ rfl ⟨p, 1, none⟩ (by kernel_rfl) (.slice ea en ec) (ld22 ((HP.out.no HF.out.kept).cell 1))) trivial (fun hH => ?_)
      try simp only [pA, pB, p1, p2, p3]
      refine any_step (i := 6) (o := { dst := some 51, op := Op.load 34 (Operand.tmp 9), type := 34, pos := "step.go:79", after := #[], guard := none }) rfl (by kernel_rfl) (by kernel_rfl) (exec_load 34 _ rfl ⟨gk7, 0, none⟩ (by kernel_rfl) (.agg (En.cells ⟨c.nm, c.cl, c.op, 0⟩)) (ld54 (HF.out.box 2 _ _ _ rfl))) trivial (fun hH => ?_)
      try simp only [pA, pB, p1, p2, p3]
      refine any_step (i := 7) (o := { dst := some 52, op := Op.buildSlice 23 1 #[(0, Operand.tmp 51)], type := 23, pos := "step.go:79", after := #[{ on := 6, ground := Ground.data }], guard := none }) rfl (by kernel_rfl) (by kernel_rfl) (exec_slice2 23 34 _ rfl (En.cells ⟨c.nm, c.cl, c.op, 0⟩) (.agg (En.cells ⟨c.nm, c.cl, c.op, 0⟩)) (by kernel_rfl) (slice1_en ⟨c.nm, c.cl, c.op, 0⟩ _)) trivial (fun hH => ?_)
      try simp only [pA, pB, p1, p2, p3]
      have HF : Hid (Fr No w (wk10.alloc (.cells (En.cells ⟨c.nm, c.cl, c.op, 0⟩) 34)) [(gk1, 31, Cm.cells c), (gk3, 36, Av.cells avZ), (gk7, 34, En.cells ⟨c.nm, c.cl, c.op, 0⟩), (wk10.heap.size, 34, En.cells ⟨c.nm, c.cl, c.op, 0⟩)]) := HF.out.alloc _ _
      generalize wk10.alloc (.cells (En.cells ⟨c.nm, c.cl, c.op, 0⟩) 34) = wk12 at HF hH ⊢
      generalize wk10.heap.size = gk11 at HF ⊢
      have HEw : Hid (OwE wk12 base ⟨ea, en, ec⟩ es) := HE.out.no HF.out.kept
      have HPw : Hid (Box wk12 p 26 (Bv.cells ⟨up, ⟨ea, en, ec⟩, ⟨la, ln, lc⟩⟩)) := HP.out.no HF.out.kept
      have HLw : Hid (OwL wk12 base ⟨la, ln, lc⟩ ls) := HL.out.no HF.out.kept
      have hvb : ¬ At ea gk11 := fun e => by have h1 := HE.out.own.lt e; have h2 := HF.out.low 3 _ _ _ rfl; omega
      refine any_call (i := 8) (o := { dst := some 53, op := Op.call { callee := Callee.value (Operand.func 44), args := #[Operand.tmp 49, Operand.tmp 50, Operand.tmp 52], argTypes := #[23, 3, 23] }, type := 23, pos := "step.go:79", after := #[{ on := 4, ground := Ground.data }, { on := 5, ground := Ground.data }, { on := 7, ground := Ground.data }], guard := none }) rfl (by kernel_rfl) (by kernel_rfl) 44 #[.slice ea en ec, .int .i64 ((ix : Nat) : Int), .slice (some ⟨gk11, 0, none⟩) 1 1] (by kernel_rfl) _ (insE_any ea en ec ix gk11 base es ⟨c.nm, c.cl, c.op, 0⟩ wk12 HEw.out (HF.out.box 3 _ _ _ rfl) hvb hix hb (Nat.le_trans hbase HF.out.kept.size)) ?_
      rintro e wk13 ⟨s', rfl, hO, hk, hA⟩
      obtain ⟨sa, sn, sc⟩ := s'
      refine ⟨.slice sa sn sc, rfl, trivial, fun hH => ?_⟩
      try simp only [pA, pB, p1, p2, p3]
      have HO : Hid (OwE wk13 base ⟨sa, sn, sc⟩ (insL es ix ⟨c.nm, c.cl, c.op, 0⟩)) := hO
      have HA : Hid (∀ k, At sa k → At ea k ∨ w.heap.size ≤ k) := fun k h => (hA k h).imp id (fun e => Nat.le_trans HF.out.kept.size e)
      have HPw : Hid (Box wk13 p 26 (Bv.cells ⟨up, ⟨ea, en, ec⟩, ⟨la, ln, lc⟩⟩)) := HPw.out.kept hk (HEw.out.own.notBox HPw.out (by decide))
      have HLw : Hid (OwL wk13 base ⟨la, ln, lc⟩ ls) := HLw.out.kept hk (fun k h => HLw.out.own.apart HEw.out.own (by decide) h)
      have HF : Hid (Fr (fun k => k = p ∨ At ea k) w wk13 [(gk1, 31, Cm.cells c), (gk3, 36, Av.cells avZ), (gk7, 34, En.cells ⟨c.nm, c.cl, c.op, 0⟩), (gk11, 34, En.cells ⟨c.nm, c.cl, c.op, 0⟩)]) := Fr.via ⟨HF.out.kept.of_no, HF.out.box, HF.out.low, HF.out.inj⟩ hk (fun k e => ⟨HE.out.own.lt e, .inr e⟩)
      clear hO hk hA hvb HEw
      refine aK (i := 9) (oi := { dst := some 54, op := Op.nilCheck (Operand.tmp 45), type := 0, pos := "step.go:79", after := #[{ on := 0, ground := Ground.data }, { on := 0, ground := Ground.phase }, { on := 1, ground := Ground.phase }, { on := 2, ground := Ground.phase }, { on := 3, ground := Ground.phase }, { on := 4, ground := Ground.phase }, { on := 5, ground := Ground.phase }, { on := 6, ground := Ground.phase }, { on := 7, ground := Ground.phase }, { on := 8, ground := Ground.phase }], guard := none }) (v := .pointer (some ⟨p, 0, none⟩)) hH ?_
      try simp only [pA, pB, p1, p2, p3]
      refine aK (i := 10) (oi := { dst := some 55, op := Op.fieldAddr 26 (Operand.tmp 54) 1, type := 0, pos := "step.go:79", after := #[{ on := 9, ground := Ground.data }, { on := 0, ground := Ground.phase }, { on := 1, ground := Ground.phase }, { on := 2, ground := Ground.phase }, { on := 3, ground := Ground.phase }, { on := 4, ground := Ground.phase }, { on := 5, ground := Ground.phase }, { on := 6, ground := Ground.phase }, { on := 7, ground := Ground.phase }, { on := 8, ground := Ground.phase }], guard := none }) (v := .pointer (some ⟨p, 1, none⟩)) hH ?_
      try simp only [pA, pB, p1, p2, p3]
      refine any_store (i := 11) (o := { dst := none, op := Op.store 23 (Operand.tmp 55) (Operand.tmp 53), type := 0, pos := "step.go:79", after := #[{ on := 10, ground := Ground.data }, { on := 8, ground := Ground.data }, { on := 8, ground := Ground.chain }, { on := 0, ground := Ground.phase }, { on := 1, ground := Ground.phase }, { on := 2, ground := Ground.phase }, { on := 3, ground := Ground.phase }, { on := 4, ground := Ground.phase }, { on := 5, ground := Ground.phase }, { on := 6, ground := Ground.phase }, { on := 7, ground := Ground.phase }, { on := 8, ground := Ground.phase }], guard := none }) (w' := wk13.setRow p (Bv.cells ⟨up, ⟨sa, sn, sc⟩, ⟨la, ln, lc⟩⟩)) rfl (by kernel_rfl) (by kernel_rfl) 23 _ _ rfl ⟨p, 1, none⟩ (.slice sa sn sc) (by kernel_rfl) (by kernel_rfl) (run_store_at (cur := Bv.cs ⟨up, ⟨ea, en, ec⟩, ⟨la, ln, lc⟩⟩) (vs := [.slice sa sn sc]) HPw.out rfl Try.size22 (by exact Nat.le_of_ble_eq_true rfl) (by simp [Value.oneCell'])) trivial (fun hH => ?_)
      try simp only [pA, pB, p1, p2, p3]
      have HBB : Hid (Bkt (wk13.setRow p (Bv.cells ⟨up, ⟨sa, sn, sc⟩, ⟨la, ln, lc⟩⟩)) base p up ⟨sa, sn, sc⟩ ⟨la, ln, lc⟩ (insL es ix (newE c)) ls) :=
        ⟨HPw.out.setRow _, HO.out.kept (Kept.setRow _ _ _) (fun k h e => HO.out.own.notBox HPw.out (by decide) ((show k = p from e) ▸ h)), HLw.out.kept (Kept.setRow _ _ _) (fun k h e => HLw.out.own.notBox HPw.out (by decide) ((show k = p from e) ▸ h))⟩
      have HF : Hid (Fr (fun k => k = p ∨ At ea k) w (wk13.setRow p (Bv.cells ⟨up, ⟨sa, sn, sc⟩, ⟨la, ln, lc⟩⟩)) [(gk1, 31, Cm.cells c), (gk3, 36, Av.cells avZ), (gk7, 34, En.cells ⟨c.nm, c.cl, c.op, 0⟩), (gk11, 34, En.cells ⟨c.nm, c.cl, c.op, 0⟩)]) := HF.out.via (Kept.setRow _ _ _) (fun k e => ⟨(show k = p from e) ▸ hpl, .inl e⟩)
      clear HO HPw HLw
      generalize wk13.setRow p (Bv.cells ⟨up, ⟨sa, sn, sc⟩, ⟨la, ln, lc⟩⟩) = wk14 at HF HBB ⊢
      refine wpAnyH_done (by kernel_rfl) ?_ _
      try simp only [pA, pB, p1, p2, p3]
      have HKK : Hid True := trivial
      clear HKK
      go_upto_region 8 with fail
      refine WL.start ?_
      refine tW (.agg (En.cells ⟨c.nm, c.cl, c.op, 0⟩)) (exec_load 34 _ rfl ⟨gk7, 0, none⟩ (by kernel_rfl) (.agg (En.cells ⟨c.nm, c.cl, c.op, 0⟩)) (ld54 (HF.out.box 2 _ _ _ rfl))) ?_
      try simp only [pA, pB, p1, p2, p3]
      refine tW (.agg (Av.cells ⟨0, ⟨c.nm, c.cl, c.op, 0⟩, ⟨none, 0, 0⟩⟩)) (exec_build 36 _ rfl (Av.cells ⟨0, ⟨c.nm, c.cl, c.op, 0⟩, ⟨none, 0, 0⟩⟩) (by kernel_rfl)) ?_
      try simp only [pA, pB, p1, p2, p3]
      refine wp_storeW 36 _ _ rfl ⟨gk3, 0, none⟩ (.agg (Av.cells ⟨0, ⟨c.nm, c.cl, c.op, 0⟩, ⟨none, 0, 0⟩⟩)) (by kernel_rfl) (by kernel_rfl) (wk14.setRow gk3 (Av.cells ⟨0, ⟨c.nm, c.cl, c.op, 0⟩, ⟨none, 0, 0⟩⟩)) (st56 (HF.out.box 1 _ _ _ rfl) rfl) (by kernel_rfl) ?_
      try simp only [pA, pB, p1, p2, p3]
      have HBB : Hid (Bkt (wk14.setRow gk3 (Av.cells ⟨0, ⟨c.nm, c.cl, c.op, 0⟩, ⟨none, 0, 0⟩⟩)) base p up ⟨sa, sn, sc⟩ ⟨la, ln, lc⟩ (insL es ix (newE c)) ls) := ⟨HBB.out.box.rowNe (box_ne HBB.out.box (HF.out.box 1 _ _ _ rfl) (by decide)) _, HBB.out.e.kept (Kept.setRow _ _ _) (fun k h e => HBB.out.e.own.notBox (HF.out.box 1 _ _ _ rfl) (by decide) ((show k = gk3 from e) ▸ h)), HBB.out.l.kept (Kept.setRow _ _ _) (fun k h e => HBB.out.l.own.notBox (HF.out.box 1 _ _ _ rfl) (by decide) ((show k = gk3 from e) ▸ h))⟩
      have HF : Hid (Fr (fun k => k = p ∨ At ea k) w (wk14.setRow gk3 (Av.cells ⟨0, ⟨c.nm, c.cl, c.op, 0⟩, ⟨none, 0, 0⟩⟩)) [(gk1, 31, Cm.cells c), (gk3, 36, Av.cells ⟨0, ⟨c.nm, c.cl, c.op, 0⟩, ⟨none, 0, 0⟩⟩), (gk7, 34, En.cells ⟨c.nm, c.cl, c.op, 0⟩), (gk11, 34, En.cells ⟨c.nm, c.cl, c.op, 0⟩)]) := HF.out.set 1 rfl _
      generalize wk14.setRow gk3 (Av.cells ⟨0, ⟨c.nm, c.cl, c.op, 0⟩, ⟨none, 0, 0⟩⟩) = wk15 at HF HBB ⊢
      refine WL.nil ?_
      try simp only [pA, pB, p1, p2, p3]
      have HKK : Hid (Kept (fun k => k = p ∨ At ea k) w wk15) := HF.out.kept
      go_wp2
      rw [HC.out]
      refine bodyPost_ret (results_row1 (by rfl) _ _ gk3 (Av.cells ⟨0, ⟨c.nm, c.cl, c.op, 0⟩, ⟨none, 0, 0⟩⟩) (by rfl) (ld56 (HF.out.box 1 _ _ _ rfl))) rfl ?_
      rw [HK2.out q1]
      exact ⟨⟨sa, sn, sc⟩, slZ, rfl, HBB.out, OwE.nil _ _, fun k h => absurd h At.none, HKK.out, HA.out⟩
     ·skip
      clear hi
      refine step_run (i := 6) (o := { dst := some 51, op := Op.load 34 (Operand.tmp 9), type := 34, pos := "step.go:79", after := #[], guard := none }) rfl (by kernel_rfl) (exec_load 34 _ rfl ⟨gk7, 0, none⟩ (by kernel_rfl) (.agg (En.cells ⟨c.nm, c.cl, c.op, 0⟩)) (ld54 (HF.out.box 2 _ _ _ rfl))) trivial (fun hH => ?_)
      try simp only [pA, pB, p1, p2, p3]
      refine any_pick (rs := [4, 7]) (by kernel_rfl) (by simp) ?_
      intro i hi
      rcases pick2 hi with rfl | rfl
      ·skip
       clear hi
       refine step_run (i := 4) (o := { dst := some 49, op := Op.load 23 (Operand.tmp 48), type := 23, pos := "step.go:79", after := #[{ on := 3, ground := Ground.data }], guard := none }) rfl (by kernel_rfl) (exec_load 23 _ rfl ⟨p, 1, none⟩ (by kernel_rfl) (.slice ea en ec) (ld22 ((HP.out.no HF.out.kept).cell 1))) trivial (fun hH => ?_)
       try simp only [pA, pB, p1, p2, p3]
       refine any_step (i := 7) (o := { dst := some 52, op := Op.buildSlice 23 1 #[(0, Operand.tmp 51)], type := 23, pos := "step.go:79", after := #[{ on := 6, ground := Ground.data }], guard := none }) rfl (by kernel_rfl) (by kernel_rfl) (exec_slice2 23 34 _ rfl (En.cells ⟨c.nm, c.cl, c.op, 0⟩) (.agg (En.cells ⟨c.nm, c.cl, c.op, 0⟩)) (by kernel_rfl) (slice1_en ⟨c.nm, c.cl, c.op, 0⟩ _)) trivial (fun hH => ?_)
       try simp only [pA, pB, p1, p2, p3]
       have HF : Hid (Fr No w (wk10.alloc (.cells (En.cells ⟨c.nm, c.cl, c.op, 0⟩) 34)) [(gk1, 31, Cm.cells c), (gk3, 36, Av.cells avZ), (gk7, 34, En.cells ⟨c.nm, c.cl, c.op, 0⟩), (wk10.heap.size, 34, En.cells ⟨c.nm, c.cl, c.op, 0⟩)]) := HF.out.alloc _ _
       generalize wk10.alloc (.cells (En.cells ⟨c.nm, c.cl, c.op, 0⟩) 34) = wk17 at HF hH ⊢
       generalize wk10.heap.size = gk16 at HF ⊢
       have HEw : Hid (OwE wk17 base ⟨ea, en, ec⟩ es) := HE.out.no HF.out.kept
       have HPw : Hid (Box wk17 p 26 (Bv.cells ⟨up, ⟨ea, en, ec⟩, ⟨la, ln, lc⟩⟩)) := HP.out.no HF.out.kept
       have HLw : Hid (OwL wk17 base ⟨la, ln, lc⟩ ls) := HL.out.no HF.out.kept
       have hvb : ¬ At ea gk16 := fun e => by have h1 := HE.out.own.lt e; have h2 := HF.out.low 3 _ _ _ rfl; omega
       refine any_call (i := 8) (o := { dst := some 53, op := Op.call { callee := Callee.value (Operand.func 44), args := #[Operand.tmp 49, Operand.tmp 50, Operand.tmp 52], argTypes := #[23, 3, 23] }, type := 23, pos := "step.go:79", after := #[{ on := 4, ground := Ground.data }, { on := 5, ground := Ground.data }, { on := 7, ground := Ground.data }], guard := none }) rfl (by kernel_rfl) (by kernel_rfl) 44 #[.slice ea en ec, .int .i64 ((ix : Nat) : Int), .slice (some ⟨gk16, 0, none⟩) 1 1] (by kernel_rfl) _ (insE_any ea en ec ix gk16 base es ⟨c.nm, c.cl, c.op, 0⟩ wk17 HEw.out (HF.out.box 3 _ _ _ rfl) hvb hix hb (Nat.le_trans hbase HF.out.kept.size)) ?_
       rintro e wk18 ⟨s', rfl, hO, hk, hA⟩
       obtain ⟨sa, sn, sc⟩ := s'
       refine ⟨.slice sa sn sc, rfl, trivial, fun hH => ?_⟩
       try simp only [pA, pB, p1, p2, p3]
       have HO : Hid (OwE wk18 base ⟨sa, sn, sc⟩ (insL es ix ⟨c.nm, c.cl, c.op, 0⟩)) := hO
       have HA : Hid (∀ k, At sa k → At ea k ∨ w.heap.size ≤ k) := fun k h => (hA k h).imp id (fun e => Nat.le_trans HF.out.kept.size e)
       have HPw : Hid (Box wk18 p 26 (Bv.cells ⟨up, ⟨ea, en, ec⟩, ⟨la, ln, lc⟩⟩)) := HPw.out.kept hk (HEw.out.own.notBox HPw.out (by decide))
       have HLw : Hid (OwL wk18 base ⟨la, ln, lc⟩ ls) := HLw.out.kept hk (fun k h => HLw.out.own.apart HEw.out.own (by decide) h)
       have HF : Hid (Fr (fun k => k = p ∨ At ea k) w wk18 [(gk1, 31, Cm.cells c), (gk3, 36, Av.cells avZ), (gk7, 34, En.cells ⟨c.nm, c.cl, c.op, 0⟩), (gk16, 34, En.cells ⟨c.nm, c.cl, c.op, 0⟩)]) := Fr.via ⟨HF.out.kept.of_no, HF.out.box, HF.out.low, HF.out.inj⟩ hk (fun k e => ⟨HE.out.own.lt e, .inr e⟩)
       clear hO hk hA hvb HEw
       refine aK (i := 9) (oi := { dst := some 54, op := Op.nilCheck (Operand.tmp 45), type := 0, pos := "step.go:79", after := #[{ on := 0, ground := Ground.data }, { on := 0, ground := Ground.phase }, { on := 1, ground := Ground.phase }, { on := 2, ground := Ground.phase }, { on := 3, ground := Ground.phase }, { on := 4, ground := Ground.phase }, { on := 5, ground := Ground.phase }, { on := 6, ground := Ground.phase }, { on := 7, ground := Ground.phase }, { on := 8, ground := Ground.phase }], guard := none }) (v := .pointer (some ⟨p, 0, none⟩)) hH ?_
       try simp only [pA, pB, p1, p2, p3]
       refine aK (i := 10) (oi := { dst := some 55, op := Op.fieldAddr 26 (Operand.tmp 54) 1, type := 0, pos := "step.go:79", after := #[{ on := 9, ground := Ground.data }, { on := 0, ground := Ground.phase }, { on := 1, ground := Ground.phase }, { on := 2, ground := Ground.phase }, { on := 3, ground := Ground.phase }, { on := 4, ground := Ground.phase }, { on := 5, ground := Ground.phase }, { on := 6, ground := Ground.phase }, { on := 7, ground := Ground.phase }, { on := 8, ground := Ground.phase }], guard := none }) (v := .pointer (some ⟨p, 1, none⟩)) hH ?_
       try simp only [pA, pB, p1, p2, p3]
       refine any_store (i := 11) (o := { dst := none, op := Op.store 23 (Operand.tmp 55) (Operand.tmp 53), type := 0, pos := "step.go:79", after := #[{ on := 10, ground := Ground.data }, { on := 8, ground := Ground.data }, { on := 8, ground := Ground.chain }, { on := 0, ground := Ground.phase }, { on := 1, ground := Ground.phase }, { on := 2, ground := Ground.phase }, { on := 3, ground := Ground.phase }, { on := 4, ground := Ground.phase }, { on := 5, ground := Ground.phase }, { on := 6, ground := Ground.phase }, { on := 7, ground := Ground.phase }, { on := 8, ground := Ground.phase }], guard := none }) (w' := wk18.setRow p (Bv.cells ⟨up, ⟨sa, sn, sc⟩, ⟨la, ln, lc⟩⟩)) rfl (by kernel_rfl) (by kernel_rfl) 23 _ _ rfl ⟨p, 1, none⟩ (.slice sa sn sc) (by kernel_rfl) (by kernel_rfl) (run_store_at (cur := Bv.cs ⟨up, ⟨ea, en, ec⟩, ⟨la, ln, lc⟩⟩) (vs := [.slice sa sn sc]) HPw.out rfl Try.size22 (by exact Nat.le_of_ble_eq_true rfl) (by simp [Value.oneCell'])) trivial (fun hH => ?_)
       try simp only [pA, pB, p1, p2, p3]
       have HBB : Hid (Bkt (wk18.setRow p (Bv.cells ⟨up, ⟨sa, sn, sc⟩, ⟨la, ln, lc⟩⟩)) base p up ⟨sa, sn, sc⟩ ⟨la, ln, lc⟩ (insL es ix (newE c)) ls) :=
         ⟨HPw.out.setRow _, HO.out.kept (Kept.setRow _ _ _) (fun k h e => HO.out.own.notBox HPw.out (by decide) ((show k = p from e) ▸ h)), HLw.out.kept (Kept.setRow _ _ _) (fun k h e => HLw.out.own.notBox HPw.out (by decide) ((show k = p from e) ▸ h))⟩
       have HF : Hid (Fr (fun k => k = p ∨ At ea k) w (wk18.setRow p (Bv.cells ⟨up, ⟨sa, sn, sc⟩, ⟨la, ln, lc⟩⟩)) [(gk1, 31, Cm.cells c), (gk3, 36, Av.cells avZ), (gk7, 34, En.cells ⟨c.nm, c.cl, c.op, 0⟩), (gk16, 34, En.cells ⟨c.nm, c.cl, c.op, 0⟩)]) := HF.out.via (Kept.setRow _ _ _) (fun k e => ⟨(show k = p from e) ▸ hpl, .inl e⟩)
       clear HO HPw HLw
       generalize wk18.setRow p (Bv.cells ⟨up, ⟨sa, sn, sc⟩, ⟨la, ln, lc⟩⟩) = wk19 at HF HBB ⊢
       refine wpAnyH_done (by kernel_rfl) ?_ _
       try simp only [pA, pB, p1, p2, p3]
       have HKK : Hid True := trivial
       clear HKK
       go_upto_region 8 with fail
       refine WL.start ?_
       refine tW (.agg (En.cells ⟨c.nm, c.cl, c.op, 0⟩)) (exec_load 34 _ rfl ⟨gk7, 0, none⟩ (by kernel_rfl) (.agg (En.cells ⟨c.nm, c.cl, c.op, 0⟩)) (ld54 (HF.out.box 2 _ _ _ rfl))) ?_
       try simp only [pA, pB, p1, p2, p3]
       refine tW (.agg (Av.cells ⟨0, ⟨c.nm, c.cl, c.op, 0⟩, ⟨none, 0, 0⟩⟩)) (exec_build 36 _ rfl (Av.cells ⟨0, ⟨c.nm, c.cl, c.op, 0⟩, ⟨none, 0, 0⟩⟩) (by kernel_rfl)) ?_
       try simp only [pA, pB, p1, p2, p3]
       refine wp_storeW 36 _ _ rfl ⟨gk3, 0, none⟩ (.agg (Av.cells ⟨0, ⟨c.nm, c.cl, c.op, 0⟩, ⟨none, 0, 0⟩⟩)) (by kernel_rfl) (by kernel_rfl) (wk19.setRow gk3 (Av.cells ⟨0, ⟨c.nm, c.cl, c.op, 0⟩, ⟨none, 0, 0⟩⟩)) (st56 (HF.out.box 1 _ _ _ rfl) rfl) (by kernel_rfl) ?_
       try simp only [pA, pB, p1, p2, p3]
       have HBB : Hid (Bkt (wk19.setRow gk3 (Av.cells ⟨0, ⟨c.nm, c.cl, c.op, 0⟩, ⟨none, 0, 0⟩⟩)) base p up ⟨sa, sn, sc⟩ ⟨la, ln, lc⟩ (insL es ix (newE c)) ls) := ⟨HBB.out.box.rowNe (box_ne HBB.out.box (HF.out.box 1 _ _ _ rfl) (by decide)) _, HBB.out.e.kept (Kept.setRow _ _ _) (fun k h e => HBB.out.e.own.notBox (HF.out.box 1 _ _ _ rfl) (by decide) ((show k = gk3 from e) ▸ h)), HBB.out.l.kept (Kept.setRow _ _ _) (fun k h e => HBB.out.l.own.notBox (HF.out.box 1 _ _ _ rfl) (by decide) ((show k = gk3 from e) ▸ h))⟩
       have HF : Hid (Fr (fun k => k = p ∨ At ea k) w (wk19.setRow gk3 (Av.cells ⟨0, ⟨c.nm, c.cl, c.op, 0⟩, ⟨none, 0, 0⟩⟩)) [(gk1, 31, Cm.cells c), (gk3, 36, Av.cells ⟨0, ⟨c.nm, c.cl, c.op, 0⟩, ⟨none, 0, 0⟩⟩), (gk7, 34, En.cells ⟨c.nm, c.cl, c.op, 0⟩), (gk16, 34, En.cells ⟨c.nm, c.cl, c.op, 0⟩)]) := HF.out.set 1 rfl _
       generalize wk19.setRow gk3 (Av.cells ⟨0, ⟨c.nm, c.cl, c.op, 0⟩, ⟨none, 0, 0⟩⟩) = wk20 at HF HBB ⊢
       refine WL.nil ?_
       try simp only [pA, pB, p1, p2, p3]
       have HKK : Hid (Kept (fun k => k = p ∨ At ea k) w wk20) := HF.out.kept
       go_wp2
       rw [HC.out]
       refine bodyPost_ret (results_row1 (by rfl) _ _ gk3 (Av.cells ⟨0, ⟨c.nm, c.cl, c.op, 0⟩, ⟨none, 0, 0⟩⟩) (by rfl) (ld56 (HF.out.box 1 _ _ _ rfl))) rfl ?_
       rw [HK2.out q1]
       exact ⟨⟨sa, sn, sc⟩, slZ, rfl, HBB.out, OwE.nil _ _, fun k h => absurd h At.none, HKK.out, HA.out⟩
      ·skip
       clear hi
       refine step_run (i := 7) (o := { dst := some 52, op := Op.buildSlice 23 1 #[(0, Operand.tmp 51)], type := 23, pos := "step.go:79", after := #[{ on := 6, ground := Ground.data }], guard := none }) rfl (by kernel_rfl) (exec_slice2 23 34 _ rfl (En.cells ⟨c.nm, c.cl, c.op, 0⟩) (.agg (En.cells ⟨c.nm, c.cl, c.op, 0⟩)) (by kernel_rfl) (slice1_en ⟨c.nm, c.cl, c.op, 0⟩ _)) trivial (fun hH => ?_)
       try simp only [pA, pB, p1, p2, p3]
       have HF : Hid (Fr No w (wk10.alloc (.cells (En.cells ⟨c.nm, c.cl, c.op, 0⟩) 34)) [(gk1, 31, Cm.cells c), (gk3, 36, Av.cells avZ), (gk7, 34, En.cells ⟨c.nm, c.cl, c.op, 0⟩), (wk10.heap.size, 34, En.cells ⟨c.nm, c.cl, c.op, 0⟩)]) := HF.out.alloc _ _
       generalize wk10.alloc (.cells (En.cells ⟨c.nm, c.cl, c.op, 0⟩) 34) = wk22 at HF hH ⊢
       generalize wk10.heap.size = gk21 at HF ⊢
       refine any_step (i := 4) (o := { dst := some 49, op := Op.load 23 (Operand.tmp 48), type := 23, pos := "step.go:79", after := #[{ on := 3, ground := Ground.data }], guard := none }) rfl (by kernel_rfl) (by kernel_rfl) (exec_load 23 _ rfl ⟨p, 1, none⟩ (by kernel_rfl) (.slice ea en ec) (ld22 ((HP.out.no HF.out.kept).cell 1))) trivial (fun hH => ?_)
       try simp only [pA, pB, p1, p2, p3]
       have HEw : Hid (OwE wk22 base ⟨ea, en, ec⟩ es) := HE.out.no HF.out.kept
       have HPw : Hid (Box wk22 p 26 (Bv.cells ⟨up, ⟨ea, en, ec⟩, ⟨la, ln, lc⟩⟩)) := HP.out.no HF.out.kept
       have HLw : Hid (OwL wk22 base ⟨la, ln, lc⟩ ls) := HL.out.no HF.out.kept
       have hvb : ¬ At ea gk21 := fun e => by have h1 := HE.out.own.lt e; have h2 := HF.out.low 3 _ _ _ rfl; omega
       refine any_call (i := 8) (o := { dst := some 53, op := Op.call { callee := Callee.value (Operand.func 44), args := #[Operand.tmp 49, Operand.tmp 50, Operand.tmp 52], argTypes := #[23, 3, 23] }, type := 23, pos := "step.go:79", after := #[{ on := 4, ground := Ground.data }, { on := 5, ground := Ground.data }, { on := 7, ground := Ground.data }], guard := none }) rfl (by kernel_rfl) (by kernel_rfl) 44 #[.slice ea en ec, .int .i64 ((ix : Nat) : Int), .slice (some ⟨gk21, 0, none⟩) 1 1] (by kernel_rfl) _ (insE_any ea en ec ix gk21 base es ⟨c.nm, c.cl, c.op, 0⟩ wk22 HEw.out (HF.out.box 3 _ _ _ rfl) hvb hix hb (Nat.le_trans hbase HF.out.kept.size)) ?_
       rintro e wk23 ⟨s', rfl, hO, hk, hA⟩
       obtain ⟨sa, sn, sc⟩ := s'
       refine ⟨.slice sa sn sc, rfl, trivial, fun hH => ?_⟩
       try simp only [pA, pB, p1, p2, p3]
       have HO : Hid (OwE wk23 base ⟨sa, sn, sc⟩ (insL es ix ⟨c.nm, c.cl, c.op, 0⟩)) := hO
       have HA : Hid (∀ k, At sa k → At ea k ∨ w.heap.size ≤ k) := fun k h => (hA k h).imp id (fun e => Nat.le_trans HF.out.kept.size e)
       have HPw : Hid (Box wk23 p 26 (Bv.cells ⟨up, ⟨ea, en, ec⟩, ⟨la, ln, lc⟩⟩)) := HPw.out.kept hk (HEw.out.own.notBox HPw.out (by decide))
       have HLw : Hid (OwL wk23 base ⟨la, ln, lc⟩ ls) := HLw.out.kept hk (fun k h => HLw.out.own.apart HEw.out.own (by decide) h)
       have HF : Hid (Fr (fun k => k = p ∨ At ea k) w wk23 [(gk1, 31, Cm.cells c), (gk3, 36, Av.cells avZ), (gk7, 34, En.cells ⟨c.nm, c.cl, c.op, 0⟩), (gk21, 34, En.cells ⟨c.nm, c.cl, c.op, 0⟩)]) := Fr.via ⟨HF.out.kept.of_no, HF.out.box, HF.out.low, HF.out.inj⟩ hk (fun k e => ⟨HE.out.own.lt e, .inr e⟩)
       clear hO hk hA hvb HEw
       refine aK (i := 9) (oi := { dst := some 54, op := Op.nilCheck (Operand.tmp 45), type := 0, pos := "step.go:79", after := #[{ on := 0, ground := Ground.data }, { on := 0, ground := Ground.phase }, { on := 1, ground := Ground.phase }, { on := 2, ground := Ground.phase }, { on := 3, ground := Ground.phase }, { on := 4, ground := Ground.phase }, { on := 5, ground := Ground.phase }, { on := 6, ground := Ground.phase }, { on := 7, ground := Ground.phase }, { on := 8, ground := Ground.phase }], guard := none }) (v := .pointer (some ⟨p, 0, none⟩)) hH ?_
       try simp only [pA, pB, p1, p2, p3]
       refine aK (i := 10) (oi := { dst := some 55, op := Op.fieldAddr 26 (Operand.tmp 54) 1, type := 0, pos := "step.go:79", after := #[{ on := 9, ground := Ground.data }, { on := 0, ground := Ground.phase }, { on := 1, ground := Ground.phase }, { on := 2, ground := Ground.phase }, { on := 3, ground := Ground.phase }, { on := 4, ground := Ground.phase }, { on := 5, ground := Ground.phase }, { on := 6, ground := Ground.phase }, { on := 7, ground := Ground.phase }, { on := 8, ground := Ground.phase }], guard := none }) (v := .pointer (some ⟨p, 1, none⟩)) hH ?_
       try simp only [pA, pB, p1, p2, p3]
       refine any_store (i := 11) (o := { dst := none, op := Op.store 23 (Operand.tmp 55) (Operand.tmp 53), type := 0, pos := "step.go:79", after := #[{ on := 10, ground := Ground.data }, { on := 8, ground := Ground.data }, { on := 8, ground := Ground.chain }, { on := 0, ground := Ground.phase }, { on := 1, ground := Ground.phase }, { on := 2, ground := Ground.phase }, { on := 3, ground := Ground.phase }, { on := 4, ground := Ground.phase }, { on := 5, ground := Ground.phase }, { on := 6, ground := Ground.phase }, { on := 7, ground := Ground.phase }, { on := 8, ground := Ground.phase }], guard := none }) (w' := wk23.setRow p (Bv.cells ⟨up, ⟨sa, sn, sc⟩, ⟨la, ln, lc⟩⟩)) rfl (by kernel_rfl) (by kernel_rfl) 23 _ _ rfl ⟨p, 1, none⟩ (.slice sa sn sc) (by kernel_rfl) (by kernel_rfl) (run_store_at (cur := Bv.cs ⟨up, ⟨ea, en, ec⟩, ⟨la, ln, lc⟩⟩) (vs := [.slice sa sn sc]) HPw.out rfl Try.size22 (by exact Nat.le_of_ble_eq_true rfl) (by simp [Value.oneCell'])) trivial (fun hH => ?_)
       try simp only [pA, pB, p1, p2, p3]
       have HBB : Hid (Bkt (wk23.setRow p (Bv.cells ⟨up, ⟨sa, sn, sc⟩, ⟨la, ln, lc⟩⟩)) base p up ⟨sa, sn, sc⟩ ⟨la, ln, lc⟩ (insL es ix (newE c)) ls) :=
         ⟨HPw.out.setRow _, HO.out.kept (Kept.setRow _ _ _) (fun k h e => HO.out.own.notBox HPw.out (by decide) ((show k = p from e) ▸ h)), HLw.out.kept (Kept.setRow _ _ _) (fun k h e => HLw.out.own.notBox HPw.out (by decide) ((show k = p from e) ▸ h))⟩
       have HF : Hid (Fr (fun k => k = p ∨ At ea k) w (wk23.setRow p (Bv.cells ⟨up, ⟨sa, sn, sc⟩, ⟨la, ln, lc⟩⟩)) [(gk1, 31, Cm.cells c), (gk3, 36, Av.cells avZ), (gk7, 34, En.cells ⟨c.nm, c.cl, c.op, 0⟩), (gk21, 34, En.cells ⟨c.nm, c.cl, c.op, 0⟩)]) := HF.out.via (Kept.setRow _ _ _) (fun k e => ⟨(show k = p from e) ▸ hpl, .inl e⟩)
       clear HO HPw HLw
       generalize wk23.setRow p (Bv.cells ⟨up, ⟨sa, sn, sc⟩, ⟨la, ln, lc⟩⟩) = wk24 at HF HBB ⊢
       refine wpAnyH_done (by kernel_rfl) ?_ _
       try simp only [pA, pB, p1, p2, p3]
       have HKK : Hid True := trivial
       clear HKK
       go_upto_region 8 with fail
       refine WL.start ?_
       refine tW (.agg (En.cells ⟨c.nm, c.cl, c.op, 0⟩)) (exec_load 34 _ rfl ⟨gk7, 0, none⟩ (by kernel_rfl) (.agg (En.cells ⟨c.nm, c.cl, c.op, 0⟩)) (ld54 (HF.out.box 2 _ _ _ rfl))) ?_
       try simp only [pA, pB, p1, p2, p3]
       refine tW (.agg (Av.cells ⟨0, ⟨c.nm, c.cl, c.op, 0⟩, ⟨none, 0, 0⟩⟩)) (exec_build 36 _ rfl (Av.cells ⟨0, ⟨c.nm, c.cl, c.op, 0⟩, ⟨none, 0, 0⟩⟩) (by kernel_rfl)) ?_
       try simp only [pA, pB, p1, p2, p3]
       refine wp_storeW 36 _ _ rfl ⟨gk3, 0, none⟩ (.agg (Av.cells ⟨0, ⟨c.nm, c.cl, c.op, 0⟩, ⟨none, 0, 0⟩⟩)) (by kernel_rfl) (by kernel_rfl) (wk24.setRow gk3 (Av.cells ⟨0, ⟨c.nm, c.cl, c.op, 0⟩, ⟨none, 0, 0⟩⟩)) (st56 (HF.out.box 1 _ _ _ rfl) rfl) (by kernel_rfl) ?_
       try simp only [pA, pB, p1, p2, p3]
       have HBB : Hid (Bkt (wk24.setRow gk3 (Av.cells ⟨0, ⟨c.nm, c.cl, c.op, 0⟩, ⟨none, 0, 0⟩⟩)) base p up ⟨sa, sn, sc⟩ ⟨la, ln, lc⟩ (insL es ix (newE c)) ls) := ⟨HBB.out.box.rowNe (box_ne HBB.out.box (HF.out.box 1 _ _ _ rfl) (by decide)) _, HBB.out.e.kept (Kept.setRow _ _ _) (fun k h e => HBB.out.e.own.notBox (HF.out.box 1 _ _ _ rfl) (by decide) ((show k = gk3 from e) ▸ h)), HBB.out.l.kept (Kept.setRow _ _ _) (fun k h e => HBB.out.l.own.notBox (HF.out.box 1 _ _ _ rfl) (by decide) ((show k = gk3 from e) ▸ h))⟩
       have HF : Hid (Fr (fun k => k = p ∨ At ea k) w (wk24.setRow gk3 (Av.cells ⟨0, ⟨c.nm, c.cl, c.op, 0⟩, ⟨none, 0, 0⟩⟩)) [(gk1, 31, Cm.cells c), (gk3, 36, Av.cells ⟨0, ⟨c.nm, c.cl, c.op, 0⟩, ⟨none, 0, 0⟩⟩), (gk7, 34, En.cells ⟨c.nm, c.cl, c.op, 0⟩), (gk21, 34, En.cells ⟨c.nm, c.cl, c.op, 0⟩)]) := HF.out.set 1 rfl _
       generalize wk24.setRow gk3 (Av.cells ⟨0, ⟨c.nm, c.cl, c.op, 0⟩, ⟨none, 0, 0⟩⟩) = wk25 at HF HBB ⊢
       refine WL.nil ?_
       try simp only [pA, pB, p1, p2, p3]
       have HKK : Hid (Kept (fun k => k = p ∨ At ea k) w wk25) := HF.out.kept
       go_wp2
       rw [HC.out]
       refine bodyPost_ret (results_row1 (by rfl) _ _ gk3 (Av.cells ⟨0, ⟨c.nm, c.cl, c.op, 0⟩, ⟨none, 0, 0⟩⟩) (by rfl) (ld56 (HF.out.box 1 _ _ _ rfl))) rfl ?_
       rw [HK2.out q1]
       exact ⟨⟨sa, sn, sc⟩, slZ, rfl, HBB.out, OwE.nil _ _, fun k h => absurd h At.none, HKK.out, HA.out⟩
    ·skip
     refine tW (.bool true) (exec_bin .geq 3 _ _ _ rfl (.int .i64 ((en : Nat) : Int)) (.int .i64 room) (.bool true) (by kernel_rfl) (by kernel_rfl) (by kernel_rfl) (by rw [b_geq, q1]; try rfl)) ?_
     try simp only [pA, pB, p1, p2, p3]
     refine WL.nil ?_
     try simp only [pA, pB, p1, p2, p3]
     go_upto_region 5 with fail
     refine WL.start ?_
     refine tW (.agg (Av.cells ⟨103, enZ, ⟨none, 0, 0⟩⟩)) (exec_build 36 _ rfl (Av.cells ⟨103, enZ, ⟨none, 0, 0⟩⟩) (by kernel_rfl)) ?_
     try simp only [pA, pB, p1, p2, p3]
     refine wp_storeW 36 _ _ rfl ⟨gk3, 0, none⟩ (.agg (Av.cells ⟨103, enZ, ⟨none, 0, 0⟩⟩)) (by kernel_rfl) (by kernel_rfl) (wk6.setRow gk3 (Av.cells ⟨103, enZ, ⟨none, 0, 0⟩⟩)) (st56 (HF.out.box 1 _ _ _ rfl) rfl) (by kernel_rfl) ?_
     try simp only [pA, pB, p1, p2, p3]
     have HF : Hid (Fr No w (wk6.setRow gk3 (Av.cells ⟨103, enZ, ⟨none, 0, 0⟩⟩)) [(gk1, 31, Cm.cells c), (gk3, 36, Av.cells ⟨103, enZ, ⟨none, 0, 0⟩⟩)]) := HF.out.set 1 rfl _
     generalize wk6.setRow gk3 (Av.cells ⟨103, enZ, ⟨none, 0, 0⟩⟩) = wk26 at HF ⊢
     refine WL.nil ?_
     try simp only [pA, pB, p1, p2, p3]
     go_wp2
     rw [HC.out]
     refine bodyPost_ret (results_row1 (by rfl) _ _ gk3 (Av.cells ⟨103, enZ, ⟨none, 0, 0⟩⟩) (by rfl) (ld56 (HF.out.box 1 _ _ _ rfl))) rfl ?_
     rw [HK1.out q1]
     exact ⟨_, slZ, rfl, ⟨HP.out.no HF.out.kept, HE.out.no HF.out.kept, HL.out.no HF.out.kept⟩, OwE.nil _ _, fun k h => absurd h At.none, HF.out.kept.of_no, fun k h => .inl h⟩
  · have hlt := eIs_lt hq
    obtain ⟨b, off, rfl, hcell⟩ := Es.at h.e.rd.row hlt
    have HCE : Hid (∀ (j : Nat) v, (eAt es (eIx es c.nm)).cs[j]? = some v → w.cell? ⟨b, off + (eIx es c.nm) * 4 + j, none⟩ = some v) := hcell
    have HKS : Hid (creS es c room = (es, ⟨101, eAt es (eIx es c.nm), []⟩)) := creS_yes hq
    have hxm : eIx es c.nm < en := by rw [← hll]; exact hlt
    rw [hq] at HX
    clear hcell hq hlt hll h
    generalize eAt es (eIx es c.nm) = x at HCE HKS
    obtain ⟨ix, hix2⟩ : ∃ ix, ix = eIx es c.nm := ⟨_, rfl⟩
    rw [← hix2] at HCE HX hxm
    clear hix2 hix
    have HF : Hid (Fr No w w []) := Fr.start _ _
    go_enter Try.func38, Try.ntmps38
    go_upto_region 0 with fail
    refine WL.start ?_
    refine wp_runW (.pointer (some ⟨w.heap.size, 0, none⟩)) (w.alloc (.cells (Cm.cells c) 31)) (exec_box 31 _ rfl (Cm.cells c) (by kernel_rfl)) (by kernel_rfl) ?_
    try simp only [pA, pB, p1, p2, p3]
    have HF : Hid (Fr No w (w.alloc (.cells (Cm.cells c) 31)) [(w.heap.size, 31, Cm.cells c)]) := HF.out.alloc _ _
    generalize w.alloc (.cells (Cm.cells c) 31) = wk2 at HF ⊢
    generalize w.heap.size = gk1 at HF ⊢
    refine wp_runW (.pointer (some ⟨wk2.heap.size, 0, none⟩)) (wk2.alloc (.cells (Av.cells avZ) 36)) (exec_alloc 36 rfl (Av.cells avZ) zero56) (by kernel_rfl) ?_
    try simp only [pA, pB, p1, p2, p3]
    have HF : Hid (Fr No w (wk2.alloc (.cells (Av.cells avZ) 36)) [(gk1, 31, Cm.cells c), (wk2.heap.size, 36, Av.cells avZ)]) := HF.out.alloc _ _
    generalize wk2.alloc (.cells (Av.cells avZ) 36) = wk4 at HF ⊢
    generalize wk2.heap.size = gk3 at HF ⊢
    refine WL.nil ?_
    try simp only [pA, pB, p1, p2, p3]
    go_upto_region 1 with fail
    refine wp_region_held_drew (S := fun w' => Box w' gk1 31 (Cm.cells c) ∧ Box w' p 26 (Bv.cells ⟨up, ⟨(some ⟨b, off, none⟩), en, ec⟩, ⟨la, ln, lc⟩⟩)) rfl ⟨HF.out.box 0 _ _ _ rfl, HP.out.no HF.out.kept.drew⟩ (fun hH => ?_)
    have HF : Hid (Fr No w (wk4.drew) [(gk1, 31, Cm.cells c), (gk3, 36, Av.cells avZ)]) := HF.out.drew
    generalize wk4.drew = wk5 at HF hH ⊢
    refine aK (i := 0) (oi := { dst := some 11, op := Op.move (Operand.tmp 0), type := 65, pos := "step.go:71", after := #[], guard := none }) (v := .pointer (some ⟨p, 0, none⟩)) hH ?_
    try simp only [pA, pB, p1, p2, p3]
    refine aK (i := 1) (oi := { dst := some 12, op := Op.nilCheck (Operand.tmp 11), type := 0, pos := "step.go:71", after := #[{ on := 0, ground := Ground.data }], guard := none }) (v := .pointer (some ⟨p, 0, none⟩)) hH ?_
    try simp only [pA, pB, p1, p2, p3]
    refine aK (i := 2) (oi := { dst := some 13, op := Op.fieldAddr 26 (Operand.tmp 12) 1, type := 0, pos := "step.go:71", after := #[{ on := 1, ground := Ground.data }], guard := none }) (v := .pointer (some ⟨p, 1, none⟩)) hH ?_
    try simp only [pA, pB, p1, p2, p3]
    refine aT (i := 3) (oi := { dst := some 14, op := Op.load 23 (Operand.tmp 13), type := 23, pos := "step.go:71", after := #[{ on := 2, ground := Ground.data }], guard := none }) (v := .slice (some ⟨b, off, none⟩) en ec) (fun w' hw => exec_load 23 _ rfl ⟨p, 1, none⟩ (by kernel_rfl) (.slice (some ⟨b, off, none⟩) en ec) (ld22 (hw.2.cell 1))) hH ?_
    try simp only [pA, pB, p1, p2, p3]
    refine aK (i := 4) (oi := { dst := some 15, op := Op.fieldAddr 31 (Operand.tmp 4) 3, type := 0, pos := "step.go:71", after := #[], guard := none }) (v := .pointer (some ⟨gk1, 3, none⟩)) hH ?_
    try simp only [pA, pB, p1, p2, p3]
    refine aT (i := 5) (oi := { dst := some 16, op := Op.load 9 (Operand.tmp 15), type := 9, pos := "step.go:71", after := #[{ on := 4, ground := Ground.data }], guard := none }) (v := .string c.nm) (fun w' hw => exec_load 9 _ rfl ⟨gk1, 3, none⟩ (by kernel_rfl) (.string c.nm) (ld9 (hw.1.cell 3))) hH ?_
    try simp only [pA, pB, p1, p2, p3]
    refine any_call (i := 6) (o := { dst := some 17, op := Op.call { callee := Callee.value (Operand.func 28), args := #[Operand.tmp 14, Operand.tmp 16], argTypes := #[23, 9] }, type := 72, pos := "step.go:71", after := #[{ on := 3, ground := Ground.data }, { on := 5, ground := Ground.data }], guard := none }) rfl (by kernel_rfl) (by kernel_rfl) 28 #[.slice (some ⟨b, off, none⟩) en ec, .string c.nm] (by kernel_rfl) _ (HX.out _ HF.out.kept) ?_
    rintro e wk6 ⟨rfl, hk⟩
    have hH2 : Box wk6 gk1 31 (Cm.cells c) ∧ Box wk6 p 26 (Bv.cells ⟨up, ⟨(some ⟨b, off, none⟩), en, ec⟩, ⟨la, ln, lc⟩⟩) := ⟨hH.1.kept hk (fun e => e), hH.2.no hk⟩
    have HF : Hid (Fr No w (wk6) [(gk1, 31, Cm.cells c), (gk3, 36, Av.cells avZ)]) := HF.out.no hk
    clear hk
    refine ⟨.tuple #[.int .i64 (ix : Nat), .bool true], rfl, hH2, fun hH => ?_⟩
    clear hH2
    try simp only [pA, pB, p1, p2, p3]
    refine aK (i := 7) (oi := { dst := some 10, op := Op.move (Operand.tmp 17), type := 72, pos := "step.go:71", after := #[{ on := 6, ground := Ground.data }], guard := none }) (v := .tuple #[.int .i64 (ix : Nat), .bool true]) hH ?_
    try simp only [pA, pB, p1, p2, p3]
    refine aK (i := 8) (oi := { dst := some 18, op := Op.extract (Operand.tmp 10) 0, type := 3, pos := "step.go:71", after := #[{ on := 7, ground := Ground.data }], guard := none }) (v := .int .i64 ((ix : Nat) : Int)) hH ?_
    try simp only [pA, pB, p1, p2, p3]
    refine aK (i := 9) (oi := { dst := some 19, op := Op.extract (Operand.tmp 10) 1, type := 4, pos := "step.go:71", after := #[{ on := 7, ground := Ground.data }, { on := 10, ground := Ground.gcOnly Departure.lateStores }], guard := none }) (v := .bool true) hH ?_
    try simp only [pA, pB, p1, p2, p3]
    refine aK (i := 10) (oi := { dst := some 7, op := Op.assign (Operand.tmp 18), type := 3, pos := "step.go:71", after := #[{ on := 8, ground := Ground.data }, { on := 6, ground := Ground.chain }, { on := 0, ground := Ground.phase }, { on := 1, ground := Ground.phase }, { on := 2, ground := Ground.phase }, { on := 3, ground := Ground.phase }, { on := 4, ground := Ground.phase }, { on := 5, ground := Ground.phase }, { on := 6, ground := Ground.phase }, { on := 7, ground := Ground.phase }, { on := 8, ground := Ground.phase }, { on := 9, ground := Ground.textOnly Departure.lateStores }], guard := none }) (v := .int .i64 ((ix : Nat) : Int)) hH ?_
    try simp only [pA, pB, p1, p2, p3]
    refine aK (i := 11) (oi := { dst := some 8, op := Op.assign (Operand.tmp 19), type := 4, pos := "step.go:71", after := #[{ on := 9, ground := Ground.data }, { on := 10, ground := Ground.chain }, { on := 0, ground := Ground.phase }, { on := 1, ground := Ground.phase }, { on := 2, ground := Ground.phase }, { on := 3, ground := Ground.phase }, { on := 4, ground := Ground.phase }, { on := 5, ground := Ground.phase }, { on := 6, ground := Ground.phase }, { on := 7, ground := Ground.phase }, { on := 8, ground := Ground.phase }, { on := 9, ground := Ground.phase }, { on := 10, ground := Ground.phase }], guard := none }) (v := .bool true) hH ?_
    try simp only [pA, pB, p1, p2, p3]
    refine wpAnyH_done (by kernel_rfl) ?_ _
    try simp only [pA, pB, p1, p2, p3]
    clear hH
    go_upto_region 2 with fail
    refine WL.start ?_
    refine tK (.bool true) ?_
    try simp only [pA, pB, p1, p2, p3]
    refine WL.nil ?_
    try simp only [pA, pB, p1, p2, p3]
    go_upto_region 3 with fail
    refine WL.start ?_
    refine tK (.pointer (some ⟨p, 0, none⟩)) ?_
    try simp only [pA, pB, p1, p2, p3]
    refine tK (.pointer (some ⟨p, 0, none⟩)) ?_
    try simp only [pA, pB, p1, p2, p3]
    refine tK (.pointer (some ⟨p, 1, none⟩)) ?_
    try simp only [pA, pB, p1, p2, p3]
    refine tW (.slice (some ⟨b, off, none⟩) en ec) (exec_load 23 _ rfl ⟨p, 1, none⟩ (by kernel_rfl) (.slice (some ⟨b, off, none⟩) en ec) (ld22 ((HP.out.no HF.out.kept).cell 1))) ?_
    try simp only [pA, pB, p1, p2, p3]
    refine tK (.int .i64 ((ix : Nat) : Int)) ?_
    try simp only [pA, pB, p1, p2, p3]
    refine tW (.pointer (some ⟨b, off + ix * 4, none⟩)) (exec_ixA 23 4 Try.und22e Try.size22e _ _ rfl b off en ec ix (by kernel_rfl) (by kernel_rfl) hxm) ?_
    try simp only [pA, pB, p1, p2, p3]
    refine tW (.agg (En.cells x)) (exec_load 34 _ rfl ⟨b, off + ix * 4, none⟩ (by kernel_rfl) (.agg (En.cells x)) (load_E (fun j v h => HF.out.kept.cell (HCE.out j v h) (fun e => e)))) ?_
    try simp only [pA, pB, p1, p2, p3]
    refine tW (.agg (Av.cells ⟨101, x, ⟨none, 0, 0⟩⟩)) (exec_build 36 _ rfl (Av.cells ⟨101, x, ⟨none, 0, 0⟩⟩) (by kernel_rfl)) ?_
    try simp only [pA, pB, p1, p2, p3]
    refine wp_storeW 36 _ _ rfl ⟨gk3, 0, none⟩ (.agg (Av.cells ⟨101, x, ⟨none, 0, 0⟩⟩)) (by kernel_rfl) (by kernel_rfl) (wk6.setRow gk3 (Av.cells ⟨101, x, ⟨none, 0, 0⟩⟩)) (st56 (HF.out.box 1 _ _ _ rfl) rfl) (by kernel_rfl) ?_
    try simp only [pA, pB, p1, p2, p3]
    have HF : Hid (Fr No w (wk6.setRow gk3 (Av.cells ⟨101, x, ⟨none, 0, 0⟩⟩)) [(gk1, 31, Cm.cells c), (gk3, 36, Av.cells ⟨101, x, ⟨none, 0, 0⟩⟩)]) := HF.out.set 1 rfl _
    generalize wk6.setRow gk3 (Av.cells ⟨101, x, ⟨none, 0, 0⟩⟩) = wk7 at HF ⊢
    refine WL.nil ?_
    try simp only [pA, pB, p1, p2, p3]
    go_wp2
    rw [HC.out]
    refine bodyPost_ret (results_row1 (by rfl) _ _ gk3 (Av.cells ⟨101, x, ⟨none, 0, 0⟩⟩) (by rfl) (ld56 (HF.out.box 1 _ _ _ rfl))) rfl ?_
    rw [HKS.out]
    exact ⟨_, slZ, rfl, ⟨HP.out.no HF.out.kept, HE.out.no HF.out.kept, HL.out.no HF.out.kept⟩, OwE.nil _ _, fun k h => absurd h At.none, HF.out.kept.of_no, fun k h => .inl h⟩

end Go.Proofs.Ytfemlnfknebalab
