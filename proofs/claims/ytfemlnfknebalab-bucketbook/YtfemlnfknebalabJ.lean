import Derived.Test.YtfemlnfknebalabI
namespace Go.Proofs.Ytfemlnfknebalab
open Go.RowKit
set_option linter.unusedVariables false
set_option linter.unusedSimpArgs false

theorem Box.no {w w' : World} {g : Nat} {t : TypeId} {cs : Array Value} (h : Box w g t cs) (hk : Kept No w w') : Box w' g t cs := h.kept hk (fun e => e)
/-- A bucket in memory behind a pointer. -/
structure Bkt (w : World) (base p : Nat) (up : Int) (se sl : Sl) (es : List En) (ls : List La) : Prop where
  box : Box w p 26 (Bv.cells ⟨up, se, sl⟩)
  e : OwE w base se es
  l : OwL w base sl ls
theorem Bkt.no {w w' : World} {base p : Nat} {up : Int} {se sl : Sl} {es : List En} {ls : List La} (h : Bkt w base p up se sl es ls) (hk : Kept No w w') : Bkt w' base p up se sl es ls := ⟨h.box.kept hk (fun e => e), h.e.no hk, h.l.no hk⟩
theorem laL_set (ls : List La) (i : Nat) (x : La) (cur : List Value) (hi : i < ls.length) (h : cur.take (ls.length * 7) = laL ls) (hc : ls.length * 7 ≤ cur.length) : (putL cur (i * 7) x.cs).take (ls.length * 7) = laL (ls.set i x) := by
  have hAl : (laL (ls.take i)).length = i * 7 := by rw [laL_len, List.length_take]; congr 1; omega
  have hBl : (laL (ls.drop (i + 1))).length = (ls.length - (i + 1)) * 7 := by rw [laL_len, List.length_drop]
  have hcut : ls = ls.take i ++ ([lAt ls i] ++ ls.drop (i + 1)) := by
    have h0 : ls.drop i = lAt ls i :: ls.drop (i + 1) := by
      rw [List.drop_eq_getElem_cons hi]
      congr 1
      simp [lAt, List.getElem?_eq_getElem hi]
    rw [show ([lAt ls i] ++ ls.drop (i + 1)) = lAt ls i :: ls.drop (i + 1) from rfl, ← h0, List.take_append_drop]
  have hset : ls.set i x = ls.take i ++ ([x] ++ ls.drop (i + 1)) := by
    rw [List.set_eq_take_append_cons_drop, if_pos hi]; rfl
  have h2 : laL ls = laL (ls.take i) ++ ((lAt ls i).cs ++ laL (ls.drop (i + 1))) := by
    rw [← laL_1, ← laL_app, ← laL_app, ← hcut]
  have hxl : x.cs.length = 7 := rfl
  have hyl : (lAt ls i).cs.length = 7 := rfl
  rw [hset, laL_app, laL_app, laL_1]
  rw [h2] at h
  generalize laL (ls.take i) = A at *
  generalize laL (ls.drop (i + 1)) = B at *
  generalize (lAt ls i).cs = Y at *
  generalize x.cs = X at *
  have hA : cur.take (i * 7) = A := by
    have := congrArg (List.take (i * 7)) h
    rw [List.take_take, Nat.min_eq_left (by omega), ← hAl, List.take_left] at this
    rw [← hAl]; exact this
  have hB : (cur.drop (i * 7 + 7)).take ((ls.length - (i + 1)) * 7) = B := by
    have := congrArg (List.drop (i * 7 + 7)) h
    rw [List.drop_take, ← List.append_assoc, show i * 7 + 7 = (A ++ Y).length by rw [List.length_append, hAl, hyl], List.drop_left] at this
    rw [show (A ++ Y).length = i * 7 + 7 by rw [List.length_append, hAl, hyl]] at this
    rw [← this]; congr 1; omega
  unfold putL
  rw [hA, hxl, ← List.append_assoc, List.take_append, List.take_of_length_le (by rw [List.length_append, hAl, hxl]; omega), List.length_append, hAl, hxl, List.append_assoc, show ls.length * 7 - (i * 7 + 7) = (ls.length - (i + 1)) * 7 by omega, hB]
def KeepOut (w : World) (base p : Nat) (up : Int) (se sl : Sl) (es : List En) (ls : List La) (l : La) (e : Ending) (w' : World) : Prop :=
  e = .returned (.tuple #[]) ∧ ∃ sl', Bkt w' base p up se sl' es (keepS ls l) ∧ Kept (fun k => k = p ∨ At sl.a k) w w' ∧ (∀ k, At sl'.a k → At sl.a k ∨ w.heap.size ≤ k)
theorem keepS_yes {ls : List La} {l : La} (h : lIs ls l.cl = true) : keepS ls l = ls.set (lIx ls l.cl) l := by unfold keepS; rw [h]; rfl
theorem keepS_no {ls : List La} {l : La} (h : lIs ls l.cl = false) : keepS ls l = insL ls (lIx ls l.cl) l := by unfold keepS; rw [h]; rfl
theorem lIx_le (ls : List La) (c : Int) : lIx ls c ≤ ls.length := srch_le _ _
theorem eIx_le (ls : List En) (c : ByteArray) : eIx ls c ≤ ls.length := srch_le _ _
set_option maxRecDepth 100000 in
set_option maxHeartbeats 4000000 in
theorem keep_any (p base : Nat) (up : Int) (ea : Option Addr) (en ec : Nat) (la : Option Addr) (ln lc : Nat) (es : List En) (ls : List La) (l : La) (w : World) (h : Bkt w base p up ⟨ea, en, ec⟩ ⟨la, ln, lc⟩ es ls) (hb : (ln + 1) * 56 ≤ 140737488355328) (hbase : base ≤ w.heap.size) : Calls Try.prog 32 #[.pointer (some ⟨p, 0, none⟩), .agg l.cells] w (KeepOut w base p up ⟨ea, en, ec⟩ ⟨la, ln, lc⟩ es ls l) := by
  obtain ⟨C, hC⟩ : ∃ C : Ending → World → Prop, C = (KeepOut w base p up ⟨ea, en, ec⟩ ⟨la, ln, lc⟩ es ls l) := ⟨_, rfl⟩
  have HC : Hid (C = (KeepOut w base p up ⟨ea, en, ec⟩ ⟨la, ln, lc⟩ es ls l)) := hC
  rw [← hC]
  clear hC
  have hll : ls.length = ln := h.l.len
  have hpl := h.box.lt
  have HP : Hid (Box w p 26 (Bv.cells ⟨up, ⟨ea, en, ec⟩, ⟨la, ln, lc⟩⟩)) := h.box
  have HE : Hid (OwE w base ⟨ea, en, ec⟩ es) := h.e
  have HL : Hid (OwL w base ⟨la, ln, lc⟩ ls) := h.l
  have HX : Hid (∀ W, Kept No w W → Calls Try.prog 41 #[.slice la ln lc, .int .i64 l.cl] W (fun e w' => e = .returned (.tuple #[.int .i64 (lIx ls l.cl : Nat), .bool (lIs ls l.cl)]) ∧ Kept No W w')) := fun W hk => lastAt_any la ln lc ls l.cl W hll (by omega) (RowsAt.no h.l.rd.row hk)
  have hix : lIx ls l.cl ≤ ln := by rw [← hll]; exact lIx_le _ _
  clear h
  cases hq : lIs ls l.cl
  · have HKS : Hid (keepS ls l = insL ls (lIx ls l.cl) l) := keepS_no hq
    rw [hq] at HX
    clear hq hll
    obtain ⟨ix, hix2⟩ : ∃ ix, ix = lIx ls l.cl := ⟨_, rfl⟩
    rw [← hix2] at HX HKS hix
    clear hix2
    have HF : Hid (Fr No w w []) := Fr.start _ _
    go_enter Try.func32, Try.ntmps32
    go_upto_region 0 with fail
    refine WL.start ?_
    refine wp_runW (.pointer (some ⟨w.heap.size, 0, none⟩)) (w.alloc (.cells (La.cells l) 67)) (exec_box 67 _ rfl (La.cells l) (by kernel_rfl)) (by kernel_rfl) ?_
    try simp only [pA, pB, p1, p2, p3]
    have HF : Hid (Fr No w (w.alloc (.cells (La.cells l) 67)) [(w.heap.size, 67, La.cells l)]) := HF.out.alloc _ _
    generalize w.alloc (.cells (La.cells l) 67) = wk2 at HF ⊢
    generalize w.heap.size = gk1 at HF ⊢
    refine WL.nil ?_
    try simp only [pA, pB, p1, p2, p3]
    go_upto_region 1 with fail
    refine wp_region_held_drew (S := fun w' => Box w' gk1 67 (La.cells l) ∧ Box w' p 26 (Bv.cells ⟨up, ⟨ea, en, ec⟩, ⟨la, ln, lc⟩⟩)) rfl ⟨HF.out.box 0 _ _ _ rfl, HP.out.no HF.out.kept.drew⟩ (fun hH => ?_)
    have HF : Hid (Fr No w (wk2.drew) [(gk1, 67, La.cells l)]) := HF.out.drew
    generalize wk2.drew = wk3 at HF hH ⊢
    refine aK (i := 0) (oi := { dst := some 7, op := Op.move (Operand.tmp 0), type := 65, pos := "step.go:101", after := #[], guard := none }) (v := .pointer (some ⟨p, 0, none⟩)) hH ?_
    try simp only [pA, pB, p1, p2, p3]
    refine aK (i := 1) (oi := { dst := some 8, op := Op.nilCheck (Operand.tmp 7), type := 0, pos := "step.go:101", after := #[{ on := 0, ground := Ground.data }], guard := none }) (v := .pointer (some ⟨p, 0, none⟩)) hH ?_
    try simp only [pA, pB, p1, p2, p3]
    refine aK (i := 2) (oi := { dst := some 9, op := Op.fieldAddr 26 (Operand.tmp 8) 2, type := 0, pos := "step.go:101", after := #[{ on := 1, ground := Ground.data }], guard := none }) (v := .pointer (some ⟨p, 2, none⟩)) hH ?_
    try simp only [pA, pB, p1, p2, p3]
    refine aT (i := 3) (oi := { dst := some 10, op := Op.load 24 (Operand.tmp 9), type := 24, pos := "step.go:101", after := #[{ on := 2, ground := Ground.data }], guard := none }) (v := .slice la ln lc) (fun w' hw => exec_load 24 _ rfl ⟨p, 2, none⟩ (by kernel_rfl) (.slice la ln lc) (ld23 (hw.2.cell 2))) hH ?_
    try simp only [pA, pB, p1, p2, p3]
    refine aK (i := 4) (oi := { dst := some 11, op := Op.fieldAddr 67 (Operand.tmp 3) 0, type := 0, pos := "step.go:101", after := #[], guard := none }) (v := .pointer (some ⟨gk1, 0, none⟩)) hH ?_
    try simp only [pA, pB, p1, p2, p3]
    refine aT (i := 5) (oi := { dst := some 12, op := Op.load 3 (Operand.tmp 11), type := 3, pos := "step.go:101", after := #[{ on := 4, ground := Ground.data }], guard := none }) (v := .int .i64 l.cl) (fun w' hw => exec_load 3 _ rfl ⟨gk1, 0, none⟩ (by kernel_rfl) (.int .i64 l.cl) (ld3 (hw.1.cell 0))) hH ?_
    try simp only [pA, pB, p1, p2, p3]
    refine any_call (i := 6) (o := { dst := some 13, op := Op.call { callee := Callee.value (Operand.func 41), args := #[Operand.tmp 10, Operand.tmp 12], argTypes := #[24, 3] }, type := 72, pos := "step.go:101", after := #[{ on := 3, ground := Ground.data }, { on := 5, ground := Ground.data }], guard := none }) rfl (by kernel_rfl) (by kernel_rfl) 41 #[.slice la ln lc, .int .i64 l.cl] (by kernel_rfl) _ (HX.out _ HF.out.kept) ?_
    rintro e wk4 ⟨rfl, hk⟩
    have hH2 : Box wk4 gk1 67 (La.cells l) ∧ Box wk4 p 26 (Bv.cells ⟨up, ⟨ea, en, ec⟩, ⟨la, ln, lc⟩⟩) := ⟨hH.1.kept hk (fun e => e), hH.2.no hk⟩
    have HF : Hid (Fr No w (wk4) [(gk1, 67, La.cells l)]) := HF.out.no hk
    clear hk
    refine ⟨.tuple #[.int .i64 (ix : Nat), .bool false], rfl, hH2, fun hH => ?_⟩
    clear hH2
    try simp only [pA, pB, p1, p2, p3]
    refine aK (i := 7) (oi := { dst := some 6, op := Op.move (Operand.tmp 13), type := 72, pos := "step.go:101", after := #[{ on := 6, ground := Ground.data }], guard := none }) (v := .tuple #[.int .i64 (ix : Nat), .bool false]) hH ?_
    try simp only [pA, pB, p1, p2, p3]
    refine aK (i := 8) (oi := { dst := some 14, op := Op.extract (Operand.tmp 6) 0, type := 3, pos := "step.go:101", after := #[{ on := 7, ground := Ground.data }], guard := none }) (v := .int .i64 ((ix : Nat) : Int)) hH ?_
    try simp only [pA, pB, p1, p2, p3]
    refine aK (i := 9) (oi := { dst := some 15, op := Op.extract (Operand.tmp 6) 1, type := 4, pos := "step.go:101", after := #[{ on := 7, ground := Ground.data }, { on := 10, ground := Ground.gcOnly Departure.lateStores }], guard := none }) (v := .bool false) hH ?_
    try simp only [pA, pB, p1, p2, p3]
    refine aK (i := 10) (oi := { dst := some 4, op := Op.assign (Operand.tmp 14), type := 3, pos := "step.go:101", after := #[{ on := 8, ground := Ground.data }, { on := 6, ground := Ground.chain }, { on := 0, ground := Ground.phase }, { on := 1, ground := Ground.phase }, { on := 2, ground := Ground.phase }, { on := 3, ground := Ground.phase }, { on := 4, ground := Ground.phase }, { on := 5, ground := Ground.phase }, { on := 6, ground := Ground.phase }, { on := 7, ground := Ground.phase }, { on := 8, ground := Ground.phase }, { on := 9, ground := Ground.textOnly Departure.lateStores }], guard := none }) (v := .int .i64 ((ix : Nat) : Int)) hH ?_
    try simp only [pA, pB, p1, p2, p3]
    refine aK (i := 11) (oi := { dst := some 5, op := Op.assign (Operand.tmp 15), type := 4, pos := "step.go:101", after := #[{ on := 9, ground := Ground.data }, { on := 10, ground := Ground.chain }, { on := 0, ground := Ground.phase }, { on := 1, ground := Ground.phase }, { on := 2, ground := Ground.phase }, { on := 3, ground := Ground.phase }, { on := 4, ground := Ground.phase }, { on := 5, ground := Ground.phase }, { on := 6, ground := Ground.phase }, { on := 7, ground := Ground.phase }, { on := 8, ground := Ground.phase }, { on := 9, ground := Ground.phase }, { on := 10, ground := Ground.phase }], guard := none }) (v := .bool false) hH ?_
    try simp only [pA, pB, p1, p2, p3]
    refine wpAnyH_done (by kernel_rfl) ?_ _
    try simp only [pA, pB, p1, p2, p3]
    clear hH
    go_upto_region 2 with fail
    refine WL.start ?_
    refine tK (.bool false) ?_
    try simp only [pA, pB, p1, p2, p3]
    refine WL.nil ?_
    try simp only [pA, pB, p1, p2, p3]
    go_upto_region 4 with fail
    refine wp_region_held_drew (S := fun _ => True) rfl trivial (fun hH => ?_)
    have HF : Hid (Fr No w (wk4.drew) [(gk1, 67, La.cells l)]) := HF.out.drew
    generalize wk4.drew = wk5 at HF hH ⊢
    refine aK (i := 0) (oi := { dst := some 24, op := Op.move (Operand.tmp 0), type := 65, pos := "step.go:106", after := #[], guard := none }) (v := .pointer (some ⟨p, 0, none⟩)) hH ?_
    try simp only [pA, pB, p1, p2, p3]
    refine aK (i := 1) (oi := { dst := some 25, op := Op.move (Operand.tmp 0), type := 65, pos := "step.go:106", after := #[], guard := none }) (v := .pointer (some ⟨p, 0, none⟩)) hH ?_
    try simp only [pA, pB, p1, p2, p3]
    refine aK (i := 2) (oi := { dst := some 26, op := Op.nilCheck (Operand.tmp 25), type := 0, pos := "step.go:106", after := #[{ on := 1, ground := Ground.data }], guard := none }) (v := .pointer (some ⟨p, 0, none⟩)) hH ?_
    try simp only [pA, pB, p1, p2, p3]
    refine aK (i := 3) (oi := { dst := some 27, op := Op.fieldAddr 26 (Operand.tmp 26) 2, type := 0, pos := "step.go:106", after := #[{ on := 2, ground := Ground.data }], guard := none }) (v := .pointer (some ⟨p, 2, none⟩)) hH ?_
    try simp only [pA, pB, p1, p2, p3]
    refine aK (i := 5) (oi := { dst := some 29, op := Op.move (Operand.tmp 4), type := 3, pos := "step.go:106", after := #[], guard := none }) (v := .int .i64 ((ix : Nat) : Int)) hH ?_
    try simp only [pA, pB, p1, p2, p3]
    refine any_pick (rs := [4, 6]) (by kernel_rfl) (by simp) ?_
    intro i hi
    rcases pick2 hi with rfl | rfl
    ·skip
     clear hi
     refine step_run (i := 4) (o := { dst := some 28, op := Op.load 24 (Operand.tmp 27), type := 24, pos := "step.go:106", after := #[{ on := 3, ground := Ground.data }], guard := none }) rfl (by kernel_rfl) (exec_load 24 _ rfl ⟨p, 2, none⟩ (by kernel_rfl) (.slice la ln lc) (ld23 ((HP.out.no HF.out.kept).cell 2))) trivial (fun hH => ?_)
     try simp only [pA, pB, p1, p2, p3]
     refine any_step (i := 6) (o := { dst := some 30, op := Op.load 67 (Operand.tmp 3), type := 67, pos := "step.go:106", after := #[], guard := none }) rfl (by kernel_rfl) (by kernel_rfl) (exec_load 67 _ rfl ⟨gk1, 0, none⟩ (by kernel_rfl) (.agg (La.cells l)) (ld64 (HF.out.box 0 _ _ _ rfl))) trivial (fun hH => ?_)
     try simp only [pA, pB, p1, p2, p3]
     refine any_step (i := 7) (o := { dst := some 31, op := Op.buildSlice 24 1 #[(0, Operand.tmp 30)], type := 24, pos := "step.go:106", after := #[{ on := 6, ground := Ground.data }], guard := none }) rfl (by kernel_rfl) (by kernel_rfl) (exec_slice2 24 67 _ rfl (La.cells l) (.agg (La.cells l)) (by kernel_rfl) (slice1_la l _)) trivial (fun hH => ?_)
     try simp only [pA, pB, p1, p2, p3]
     have HF : Hid (Fr No w (wk5.alloc (.cells (La.cells l) 67)) [(gk1, 67, La.cells l), (wk5.heap.size, 67, La.cells l)]) := HF.out.alloc _ _
     generalize wk5.alloc (.cells (La.cells l) 67) = wk7 at HF hH ⊢
     generalize wk5.heap.size = gk6 at HF ⊢
     have HLw : Hid (OwL wk7 base ⟨la, ln, lc⟩ ls) := HL.out.no HF.out.kept
     have HPw : Hid (Box wk7 p 26 (Bv.cells ⟨up, ⟨ea, en, ec⟩, ⟨la, ln, lc⟩⟩)) := HP.out.no HF.out.kept
     have HEw : Hid (OwE wk7 base ⟨ea, en, ec⟩ es) := HE.out.no HF.out.kept
     have hvb : ¬ At la gk6 := fun e => by have h1 := HL.out.own.lt e; have h2 := HF.out.low 1 _ _ _ rfl; omega
     refine any_call (i := 8) (o := { dst := some 32, op := Op.call { callee := Callee.value (Operand.func 42), args := #[Operand.tmp 28, Operand.tmp 29, Operand.tmp 31], argTypes := #[24, 3, 24] }, type := 24, pos := "step.go:106", after := #[{ on := 4, ground := Ground.data }, { on := 5, ground := Ground.data }, { on := 7, ground := Ground.data }], guard := none }) rfl (by kernel_rfl) (by kernel_rfl) 42 #[.slice la ln lc, .int .i64 ((ix : Nat) : Int), .slice (some ⟨gk6, 0, none⟩) 1 1] (by kernel_rfl) _ (insLa_any la ln lc ix gk6 base ls l wk7 HLw.out (HF.out.box 1 _ _ _ rfl) hvb hix hb (Nat.le_trans hbase HF.out.kept.size)) ?_
     rintro e wk8 ⟨s', rfl, hO, hk, hA⟩
     obtain ⟨sa, sn, sc⟩ := s'
     refine ⟨.slice sa sn sc, rfl, trivial, fun hH => ?_⟩
     try simp only [pA, pB, p1, p2, p3]
     have HO : Hid (OwL wk8 base ⟨sa, sn, sc⟩ (insL ls ix l)) := hO
     have HKK : Hid (Kept (fun k => k = p ∨ At la k) w wk8) := (HF.out.kept.of_no (S := fun k => k = p ∨ At la k)).trans hk (fun _ e => e) (fun k _ e => .inr e)
     have HA : Hid (∀ k, At sa k → At la k ∨ w.heap.size ≤ k) := fun k h => (hA k h).imp id (fun e => Nat.le_trans HF.out.kept.size e)
     have HPw : Hid (Box wk8 p 26 (Bv.cells ⟨up, ⟨ea, en, ec⟩, ⟨la, ln, lc⟩⟩)) := HPw.out.kept hk (HLw.out.own.notBox HPw.out (by decide))
     have HEw : Hid (OwE wk8 base ⟨ea, en, ec⟩ es) := HEw.out.kept hk (fun k h => HEw.out.own.apart HLw.out.own (by decide) h)
     clear hO hk hA hvb HLw HF
     refine aK (i := 9) (oi := { dst := some 33, op := Op.nilCheck (Operand.tmp 24), type := 0, pos := "step.go:106", after := #[{ on := 0, ground := Ground.data }, { on := 0, ground := Ground.phase }, { on := 1, ground := Ground.phase }, { on := 2, ground := Ground.phase }, { on := 3, ground := Ground.phase }, { on := 4, ground := Ground.phase }, { on := 5, ground := Ground.phase }, { on := 6, ground := Ground.phase }, { on := 7, ground := Ground.phase }, { on := 8, ground := Ground.phase }], guard := none }) (v := .pointer (some ⟨p, 0, none⟩)) hH ?_
     try simp only [pA, pB, p1, p2, p3]
     refine aK (i := 10) (oi := { dst := some 34, op := Op.fieldAddr 26 (Operand.tmp 33) 2, type := 0, pos := "step.go:106", after := #[{ on := 9, ground := Ground.data }, { on := 0, ground := Ground.phase }, { on := 1, ground := Ground.phase }, { on := 2, ground := Ground.phase }, { on := 3, ground := Ground.phase }, { on := 4, ground := Ground.phase }, { on := 5, ground := Ground.phase }, { on := 6, ground := Ground.phase }, { on := 7, ground := Ground.phase }, { on := 8, ground := Ground.phase }], guard := none }) (v := .pointer (some ⟨p, 2, none⟩)) hH ?_
     try simp only [pA, pB, p1, p2, p3]
     refine any_store (i := 11) (o := { dst := none, op := Op.store 24 (Operand.tmp 34) (Operand.tmp 32), type := 0, pos := "step.go:106", after := #[{ on := 10, ground := Ground.data }, { on := 8, ground := Ground.data }, { on := 8, ground := Ground.chain }, { on := 0, ground := Ground.phase }, { on := 1, ground := Ground.phase }, { on := 2, ground := Ground.phase }, { on := 3, ground := Ground.phase }, { on := 4, ground := Ground.phase }, { on := 5, ground := Ground.phase }, { on := 6, ground := Ground.phase }, { on := 7, ground := Ground.phase }, { on := 8, ground := Ground.phase }], guard := none }) (w' := wk8.setRow p (Bv.cells ⟨up, ⟨ea, en, ec⟩, ⟨sa, sn, sc⟩⟩)) rfl (by kernel_rfl) (by kernel_rfl) 24 _ _ rfl ⟨p, 2, none⟩ (.slice sa sn sc) (by kernel_rfl) (by kernel_rfl) (run_store_at (cur := Bv.cs ⟨up, ⟨ea, en, ec⟩, ⟨la, ln, lc⟩⟩) (vs := [.slice sa sn sc]) HPw.out rfl Try.size23 (by exact Nat.le_of_ble_eq_true rfl) (by simp [Value.oneCell'])) trivial (fun hH => ?_)
     try simp only [pA, pB, p1, p2, p3]
     have HBB : Hid (Bkt (wk8.setRow p (Bv.cells ⟨up, ⟨ea, en, ec⟩, ⟨sa, sn, sc⟩⟩)) base p up ⟨ea, en, ec⟩ ⟨sa, sn, sc⟩ es (keepS ls l)) := by
       rw [HKS.out]
       exact ⟨HPw.out.setRow _, HEw.out.kept (Kept.setRow _ _ _) (fun k h e => HEw.out.own.notBox HPw.out (by decide) ((show k = p from e) ▸ h)), HO.out.kept (Kept.setRow _ _ _) (fun k h e => HO.out.own.notBox HPw.out (by decide) ((show k = p from e) ▸ h))⟩
     have HKK : Hid (Kept (fun k => k = p ∨ At la k) w (wk8.setRow p (Bv.cells ⟨up, ⟨ea, en, ec⟩, ⟨sa, sn, sc⟩⟩))) := HKK.out.inRow (.inl rfl) _
     clear HO HPw HEw
     generalize wk8.setRow p (Bv.cells ⟨up, ⟨ea, en, ec⟩, ⟨sa, sn, sc⟩⟩) = wk9 at HKK HBB ⊢
     refine wpAnyH_done (by kernel_rfl) ?_ _
     try simp only [pA, pB, p1, p2, p3]
     go_wp2
     rw [HC.out]
     refine bodyPost_ret (results_none (by rfl) _ _ _) rfl ?_
     exact ⟨rfl, _, HBB.out, HKK.out, HA.out⟩
    ·skip
     clear hi
     refine step_run (i := 6) (o := { dst := some 30, op := Op.load 67 (Operand.tmp 3), type := 67, pos := "step.go:106", after := #[], guard := none }) rfl (by kernel_rfl) (exec_load 67 _ rfl ⟨gk1, 0, none⟩ (by kernel_rfl) (.agg (La.cells l)) (ld64 (HF.out.box 0 _ _ _ rfl))) trivial (fun hH => ?_)
     try simp only [pA, pB, p1, p2, p3]
     refine any_pick (rs := [4, 7]) (by kernel_rfl) (by simp) ?_
     intro i hi
     rcases pick2 hi with rfl | rfl
     ·skip
      clear hi
      refine step_run (i := 4) (o := { dst := some 28, op := Op.load 24 (Operand.tmp 27), type := 24, pos := "step.go:106", after := #[{ on := 3, ground := Ground.data }], guard := none }) rfl (by kernel_rfl) (exec_load 24 _ rfl ⟨p, 2, none⟩ (by kernel_rfl) (.slice la ln lc) (ld23 ((HP.out.no HF.out.kept).cell 2))) trivial (fun hH => ?_)
      try simp only [pA, pB, p1, p2, p3]
      refine any_step (i := 7) (o := { dst := some 31, op := Op.buildSlice 24 1 #[(0, Operand.tmp 30)], type := 24, pos := "step.go:106", after := #[{ on := 6, ground := Ground.data }], guard := none }) rfl (by kernel_rfl) (by kernel_rfl) (exec_slice2 24 67 _ rfl (La.cells l) (.agg (La.cells l)) (by kernel_rfl) (slice1_la l _)) trivial (fun hH => ?_)
      try simp only [pA, pB, p1, p2, p3]
      have HF : Hid (Fr No w (wk5.alloc (.cells (La.cells l) 67)) [(gk1, 67, La.cells l), (wk5.heap.size, 67, La.cells l)]) := HF.out.alloc _ _
      generalize wk5.alloc (.cells (La.cells l) 67) = wk11 at HF hH ⊢
      generalize wk5.heap.size = gk10 at HF ⊢
      have HLw : Hid (OwL wk11 base ⟨la, ln, lc⟩ ls) := HL.out.no HF.out.kept
      have HPw : Hid (Box wk11 p 26 (Bv.cells ⟨up, ⟨ea, en, ec⟩, ⟨la, ln, lc⟩⟩)) := HP.out.no HF.out.kept
      have HEw : Hid (OwE wk11 base ⟨ea, en, ec⟩ es) := HE.out.no HF.out.kept
      have hvb : ¬ At la gk10 := fun e => by have h1 := HL.out.own.lt e; have h2 := HF.out.low 1 _ _ _ rfl; omega
      refine any_call (i := 8) (o := { dst := some 32, op := Op.call { callee := Callee.value (Operand.func 42), args := #[Operand.tmp 28, Operand.tmp 29, Operand.tmp 31], argTypes := #[24, 3, 24] }, type := 24, pos := "step.go:106", after := #[{ on := 4, ground := Ground.data }, { on := 5, ground := Ground.data }, { on := 7, ground := Ground.data }], guard := none }) rfl (by kernel_rfl) (by kernel_rfl) 42 #[.slice la ln lc, .int .i64 ((ix : Nat) : Int), .slice (some ⟨gk10, 0, none⟩) 1 1] (by kernel_rfl) _ (insLa_any la ln lc ix gk10 base ls l wk11 HLw.out (HF.out.box 1 _ _ _ rfl) hvb hix hb (Nat.le_trans hbase HF.out.kept.size)) ?_
      rintro e wk12 ⟨s', rfl, hO, hk, hA⟩
      obtain ⟨sa, sn, sc⟩ := s'
      refine ⟨.slice sa sn sc, rfl, trivial, fun hH => ?_⟩
      try simp only [pA, pB, p1, p2, p3]
      have HO : Hid (OwL wk12 base ⟨sa, sn, sc⟩ (insL ls ix l)) := hO
      have HKK : Hid (Kept (fun k => k = p ∨ At la k) w wk12) := (HF.out.kept.of_no (S := fun k => k = p ∨ At la k)).trans hk (fun _ e => e) (fun k _ e => .inr e)
      have HA : Hid (∀ k, At sa k → At la k ∨ w.heap.size ≤ k) := fun k h => (hA k h).imp id (fun e => Nat.le_trans HF.out.kept.size e)
      have HPw : Hid (Box wk12 p 26 (Bv.cells ⟨up, ⟨ea, en, ec⟩, ⟨la, ln, lc⟩⟩)) := HPw.out.kept hk (HLw.out.own.notBox HPw.out (by decide))
      have HEw : Hid (OwE wk12 base ⟨ea, en, ec⟩ es) := HEw.out.kept hk (fun k h => HEw.out.own.apart HLw.out.own (by decide) h)
      clear hO hk hA hvb HLw HF
      refine aK (i := 9) (oi := { dst := some 33, op := Op.nilCheck (Operand.tmp 24), type := 0, pos := "step.go:106", after := #[{ on := 0, ground := Ground.data }, { on := 0, ground := Ground.phase }, { on := 1, ground := Ground.phase }, { on := 2, ground := Ground.phase }, { on := 3, ground := Ground.phase }, { on := 4, ground := Ground.phase }, { on := 5, ground := Ground.phase }, { on := 6, ground := Ground.phase }, { on := 7, ground := Ground.phase }, { on := 8, ground := Ground.phase }], guard := none }) (v := .pointer (some ⟨p, 0, none⟩)) hH ?_
      try simp only [pA, pB, p1, p2, p3]
      refine aK (i := 10) (oi := { dst := some 34, op := Op.fieldAddr 26 (Operand.tmp 33) 2, type := 0, pos := "step.go:106", after := #[{ on := 9, ground := Ground.data }, { on := 0, ground := Ground.phase }, { on := 1, ground := Ground.phase }, { on := 2, ground := Ground.phase }, { on := 3, ground := Ground.phase }, { on := 4, ground := Ground.phase }, { on := 5, ground := Ground.phase }, { on := 6, ground := Ground.phase }, { on := 7, ground := Ground.phase }, { on := 8, ground := Ground.phase }], guard := none }) (v := .pointer (some ⟨p, 2, none⟩)) hH ?_
      try simp only [pA, pB, p1, p2, p3]
      refine any_store (i := 11) (o := { dst := none, op := Op.store 24 (Operand.tmp 34) (Operand.tmp 32), type := 0, pos := "step.go:106", after := #[{ on := 10, ground := Ground.data }, { on := 8, ground := Ground.data }, { on := 8, ground := Ground.chain }, { on := 0, ground := Ground.phase }, { on := 1, ground := Ground.phase }, { on := 2, ground := Ground.phase }, { on := 3, ground := Ground.phase }, { on := 4, ground := Ground.phase }, { on := 5, ground := Ground.phase }, { on := 6, ground := Ground.phase }, { on := 7, ground := Ground.phase }, { on := 8, ground := Ground.phase }], guard := none }) (w' := wk12.setRow p (Bv.cells ⟨up, ⟨ea, en, ec⟩, ⟨sa, sn, sc⟩⟩)) rfl (by kernel_rfl) (by kernel_rfl) 24 _ _ rfl ⟨p, 2, none⟩ (.slice sa sn sc) (by kernel_rfl) (by kernel_rfl) (run_store_at (cur := Bv.cs ⟨up, ⟨ea, en, ec⟩, ⟨la, ln, lc⟩⟩) (vs := [.slice sa sn sc]) HPw.out rfl Try.size23 (by exact Nat.le_of_ble_eq_true rfl) (by simp [Value.oneCell'])) trivial (fun hH => ?_)
      try simp only [pA, pB, p1, p2, p3]
      have HBB : Hid (Bkt (wk12.setRow p (Bv.cells ⟨up, ⟨ea, en, ec⟩, ⟨sa, sn, sc⟩⟩)) base p up ⟨ea, en, ec⟩ ⟨sa, sn, sc⟩ es (keepS ls l)) := by
        rw [HKS.out]
        exact ⟨HPw.out.setRow _, HEw.out.kept (Kept.setRow _ _ _) (fun k h e => HEw.out.own.notBox HPw.out (by decide) ((show k = p from e) ▸ h)), HO.out.kept (Kept.setRow _ _ _) (fun k h e => HO.out.own.notBox HPw.out (by decide) ((show k = p from e) ▸ h))⟩
      have HKK : Hid (Kept (fun k => k = p ∨ At la k) w (wk12.setRow p (Bv.cells ⟨up, ⟨ea, en, ec⟩, ⟨sa, sn, sc⟩⟩))) := HKK.out.inRow (.inl rfl) _
      clear HO HPw HEw
      generalize wk12.setRow p (Bv.cells ⟨up, ⟨ea, en, ec⟩, ⟨sa, sn, sc⟩⟩) = wk13 at HKK HBB ⊢
      refine wpAnyH_done (by kernel_rfl) ?_ _
      try simp only [pA, pB, p1, p2, p3]
      go_wp2
      rw [HC.out]
      refine bodyPost_ret (results_none (by rfl) _ _ _) rfl ?_
      exact ⟨rfl, _, HBB.out, HKK.out, HA.out⟩
     ·skip
      clear hi
      refine step_run (i := 7) (o := { dst := some 31, op := Op.buildSlice 24 1 #[(0, Operand.tmp 30)], type := 24, pos := "step.go:106", after := #[{ on := 6, ground := Ground.data }], guard := none }) rfl (by kernel_rfl) (exec_slice2 24 67 _ rfl (La.cells l) (.agg (La.cells l)) (by kernel_rfl) (slice1_la l _)) trivial (fun hH => ?_)
      try simp only [pA, pB, p1, p2, p3]
      have HF : Hid (Fr No w (wk5.alloc (.cells (La.cells l) 67)) [(gk1, 67, La.cells l), (wk5.heap.size, 67, La.cells l)]) := HF.out.alloc _ _
      generalize wk5.alloc (.cells (La.cells l) 67) = wk15 at HF hH ⊢
      generalize wk5.heap.size = gk14 at HF ⊢
      refine any_step (i := 4) (o := { dst := some 28, op := Op.load 24 (Operand.tmp 27), type := 24, pos := "step.go:106", after := #[{ on := 3, ground := Ground.data }], guard := none }) rfl (by kernel_rfl) (by kernel_rfl) (exec_load 24 _ rfl ⟨p, 2, none⟩ (by kernel_rfl) (.slice la ln lc) (ld23 ((HP.out.no HF.out.kept).cell 2))) trivial (fun hH => ?_)
      try simp only [pA, pB, p1, p2, p3]
      have HLw : Hid (OwL wk15 base ⟨la, ln, lc⟩ ls) := HL.out.no HF.out.kept
      have HPw : Hid (Box wk15 p 26 (Bv.cells ⟨up, ⟨ea, en, ec⟩, ⟨la, ln, lc⟩⟩)) := HP.out.no HF.out.kept
      have HEw : Hid (OwE wk15 base ⟨ea, en, ec⟩ es) := HE.out.no HF.out.kept
      have hvb : ¬ At la gk14 := fun e => by have h1 := HL.out.own.lt e; have h2 := HF.out.low 1 _ _ _ rfl; omega
      refine any_call (i := 8) (o := { dst := some 32, op := Op.call { callee := Callee.value (Operand.func 42), args := #[Operand.tmp 28, Operand.tmp 29, Operand.tmp 31], argTypes := #[24, 3, 24] }, type := 24, pos := "step.go:106", after := #[{ on := 4, ground := Ground.data }, { on := 5, ground := Ground.data }, { on := 7, ground := Ground.data }], guard := none }) rfl (by kernel_rfl) (by kernel_rfl) 42 #[.slice la ln lc, .int .i64 ((ix : Nat) : Int), .slice (some ⟨gk14, 0, none⟩) 1 1] (by kernel_rfl) _ (insLa_any la ln lc ix gk14 base ls l wk15 HLw.out (HF.out.box 1 _ _ _ rfl) hvb hix hb (Nat.le_trans hbase HF.out.kept.size)) ?_
      rintro e wk16 ⟨s', rfl, hO, hk, hA⟩
      obtain ⟨sa, sn, sc⟩ := s'
      refine ⟨.slice sa sn sc, rfl, trivial, fun hH => ?_⟩
      try simp only [pA, pB, p1, p2, p3]
      have HO : Hid (OwL wk16 base ⟨sa, sn, sc⟩ (insL ls ix l)) := hO
      have HKK : Hid (Kept (fun k => k = p ∨ At la k) w wk16) := (HF.out.kept.of_no (S := fun k => k = p ∨ At la k)).trans hk (fun _ e => e) (fun k _ e => .inr e)
      have HA : Hid (∀ k, At sa k → At la k ∨ w.heap.size ≤ k) := fun k h => (hA k h).imp id (fun e => Nat.le_trans HF.out.kept.size e)
      have HPw : Hid (Box wk16 p 26 (Bv.cells ⟨up, ⟨ea, en, ec⟩, ⟨la, ln, lc⟩⟩)) := HPw.out.kept hk (HLw.out.own.notBox HPw.out (by decide))
      have HEw : Hid (OwE wk16 base ⟨ea, en, ec⟩ es) := HEw.out.kept hk (fun k h => HEw.out.own.apart HLw.out.own (by decide) h)
      clear hO hk hA hvb HLw HF
      refine aK (i := 9) (oi := { dst := some 33, op := Op.nilCheck (Operand.tmp 24), type := 0, pos := "step.go:106", after := #[{ on := 0, ground := Ground.data }, { on := 0, ground := Ground.phase }, { on := 1, ground := Ground.phase }, { on := 2, ground := Ground.phase }, { on := 3, ground := Ground.phase }, { on := 4, ground := Ground.phase }, { on := 5, ground := Ground.phase }, { on := 6, ground := Ground.phase }, { on := 7, ground := Ground.phase }, { on := 8, ground := Ground.phase }], guard := none }) (v := .pointer (some ⟨p, 0, none⟩)) hH ?_
      try simp only [pA, pB, p1, p2, p3]
      refine aK (i := 10) (oi := { dst := some 34, op := Op.fieldAddr 26 (Operand.tmp 33) 2, type := 0, pos := "step.go:106", after := #[{ on := 9, ground := Ground.data }, { on := 0, ground := Ground.phase }, { on := 1, ground := Ground.phase }, { on := 2, ground := Ground.phase }, { on := 3, ground := Ground.phase }, { on := 4, ground := Ground.phase }, { on := 5, ground := Ground.phase }, { on := 6, ground := Ground.phase }, { on := 7, ground := Ground.phase }, { on := 8, ground := Ground.phase }], guard := none }) (v := .pointer (some ⟨p, 2, none⟩)) hH ?_
      try simp only [pA, pB, p1, p2, p3]
      refine any_store (i := 11) (o := { dst := none, op := Op.store 24 (Operand.tmp 34) (Operand.tmp 32), type := 0, pos := "step.go:106", after := #[{ on := 10, ground := Ground.data }, { on := 8, ground := Ground.data }, { on := 8, ground := Ground.chain }, { on := 0, ground := Ground.phase }, { on := 1, ground := Ground.phase }, { on := 2, ground := Ground.phase }, { on := 3, ground := Ground.phase }, { on := 4, ground := Ground.phase }, { on := 5, ground := Ground.phase }, { on := 6, ground := Ground.phase }, { on := 7, ground := Ground.phase }, { on := 8, ground := Ground.phase }], guard := none }) (w' := wk16.setRow p (Bv.cells ⟨up, ⟨ea, en, ec⟩, ⟨sa, sn, sc⟩⟩)) rfl (by kernel_rfl) (by kernel_rfl) 24 _ _ rfl ⟨p, 2, none⟩ (.slice sa sn sc) (by kernel_rfl) (by kernel_rfl) (run_store_at (cur := Bv.cs ⟨up, ⟨ea, en, ec⟩, ⟨la, ln, lc⟩⟩) (vs := [.slice sa sn sc]) HPw.out rfl Try.size23 (by exact Nat.le_of_ble_eq_true rfl) (by simp [Value.oneCell'])) trivial (fun hH => ?_)
      try simp only [pA, pB, p1, p2, p3]
      have HBB : Hid (Bkt (wk16.setRow p (Bv.cells ⟨up, ⟨ea, en, ec⟩, ⟨sa, sn, sc⟩⟩)) base p up ⟨ea, en, ec⟩ ⟨sa, sn, sc⟩ es (keepS ls l)) := by
        rw [HKS.out]
        exact ⟨HPw.out.setRow _, HEw.out.kept (Kept.setRow _ _ _) (fun k h e => HEw.out.own.notBox HPw.out (by decide) ((show k = p from e) ▸ h)), HO.out.kept (Kept.setRow _ _ _) (fun k h e => HO.out.own.notBox HPw.out (by decide) ((show k = p from e) ▸ h))⟩
      have HKK : Hid (Kept (fun k => k = p ∨ At la k) w (wk16.setRow p (Bv.cells ⟨up, ⟨ea, en, ec⟩, ⟨sa, sn, sc⟩⟩))) := HKK.out.inRow (.inl rfl) _
      clear HO HPw HEw
      generalize wk16.setRow p (Bv.cells ⟨up, ⟨ea, en, ec⟩, ⟨sa, sn, sc⟩⟩) = wk17 at HKK HBB ⊢
      refine wpAnyH_done (by kernel_rfl) ?_ _
      try simp only [pA, pB, p1, p2, p3]
      go_wp2
      rw [HC.out]
      refine bodyPost_ret (results_none (by rfl) _ _ _) rfl ?_
      exact ⟨rfl, _, HBB.out, HKK.out, HA.out⟩
  · have hlt : lIx ls l.cl < ln := by rw [← hll]; exact lIs_lt hq
    obtain ⟨g, cur, rfl, o1, o2, o3, o4, o5, o6⟩ := Own.op HL.out.own (show 0 < ln by omega)
    have o3 : ln ≤ lc := o3
    have o4 : lc ≤ 9223372036854775807 := o4
    have HO1 : Hid (base ≤ g) := o1
    have HO2 : Hid (Box w g 67 cur.toArray) := o2
    have HO6 : Hid (cur.take (ln * 7) = laL ls) := o6
    have HO5 : Hid (cur.length = lc * 7) := o5
    have hgl : g < w.heap.size := o2.lt
    have hpg : p ≠ g := box_ne HP.out o2 (by decide)
    have HLL : Hid (ls.length = ln) := hll
    have HKS : Hid (keepS ls l = ls.set (lIx ls l.cl) l) := keepS_yes hq
    rw [hq] at HX
    clear o1 o2 o5 o6 hq hll HL
    obtain ⟨ix, hix2⟩ : ∃ ix, ix = lIx ls l.cl := ⟨_, rfl⟩
    rw [← hix2] at HX hlt HKS hix
    clear hix2
    have HF : Hid (Fr No w w []) := Fr.start _ _
    go_enter Try.func32, Try.ntmps32
    go_upto_region 0 with fail
    refine WL.start ?_
    refine wp_runW (.pointer (some ⟨w.heap.size, 0, none⟩)) (w.alloc (.cells (La.cells l) 67)) (exec_box 67 _ rfl (La.cells l) (by kernel_rfl)) (by kernel_rfl) ?_
    try simp only [pA, pB, p1, p2, p3]
    have HF : Hid (Fr No w (w.alloc (.cells (La.cells l) 67)) [(w.heap.size, 67, La.cells l)]) := HF.out.alloc _ _
    generalize w.alloc (.cells (La.cells l) 67) = wk2 at HF ⊢
    generalize w.heap.size = gk1 at HF ⊢
    refine WL.nil ?_
    try simp only [pA, pB, p1, p2, p3]
    go_upto_region 1 with fail
    refine wp_region_held_drew (S := fun w' => Box w' gk1 67 (La.cells l) ∧ Box w' p 26 (Bv.cells ⟨up, ⟨ea, en, ec⟩, ⟨(some ⟨g, 0, none⟩), ln, lc⟩⟩)) rfl ⟨HF.out.box 0 _ _ _ rfl, HP.out.no HF.out.kept.drew⟩ (fun hH => ?_)
    have HF : Hid (Fr No w (wk2.drew) [(gk1, 67, La.cells l)]) := HF.out.drew
    generalize wk2.drew = wk3 at HF hH ⊢
    refine aK (i := 0) (oi := { dst := some 7, op := Op.move (Operand.tmp 0), type := 65, pos := "step.go:101", after := #[], guard := none }) (v := .pointer (some ⟨p, 0, none⟩)) hH ?_
    try simp only [pA, pB, p1, p2, p3]
    refine aK (i := 1) (oi := { dst := some 8, op := Op.nilCheck (Operand.tmp 7), type := 0, pos := "step.go:101", after := #[{ on := 0, ground := Ground.data }], guard := none }) (v := .pointer (some ⟨p, 0, none⟩)) hH ?_
    try simp only [pA, pB, p1, p2, p3]
    refine aK (i := 2) (oi := { dst := some 9, op := Op.fieldAddr 26 (Operand.tmp 8) 2, type := 0, pos := "step.go:101", after := #[{ on := 1, ground := Ground.data }], guard := none }) (v := .pointer (some ⟨p, 2, none⟩)) hH ?_
    try simp only [pA, pB, p1, p2, p3]
    refine aT (i := 3) (oi := { dst := some 10, op := Op.load 24 (Operand.tmp 9), type := 24, pos := "step.go:101", after := #[{ on := 2, ground := Ground.data }], guard := none }) (v := .slice (some ⟨g, 0, none⟩) ln lc) (fun w' hw => exec_load 24 _ rfl ⟨p, 2, none⟩ (by kernel_rfl) (.slice (some ⟨g, 0, none⟩) ln lc) (ld23 (hw.2.cell 2))) hH ?_
    try simp only [pA, pB, p1, p2, p3]
    refine aK (i := 4) (oi := { dst := some 11, op := Op.fieldAddr 67 (Operand.tmp 3) 0, type := 0, pos := "step.go:101", after := #[], guard := none }) (v := .pointer (some ⟨gk1, 0, none⟩)) hH ?_
    try simp only [pA, pB, p1, p2, p3]
    refine aT (i := 5) (oi := { dst := some 12, op := Op.load 3 (Operand.tmp 11), type := 3, pos := "step.go:101", after := #[{ on := 4, ground := Ground.data }], guard := none }) (v := .int .i64 l.cl) (fun w' hw => exec_load 3 _ rfl ⟨gk1, 0, none⟩ (by kernel_rfl) (.int .i64 l.cl) (ld3 (hw.1.cell 0))) hH ?_
    try simp only [pA, pB, p1, p2, p3]
    refine any_call (i := 6) (o := { dst := some 13, op := Op.call { callee := Callee.value (Operand.func 41), args := #[Operand.tmp 10, Operand.tmp 12], argTypes := #[24, 3] }, type := 72, pos := "step.go:101", after := #[{ on := 3, ground := Ground.data }, { on := 5, ground := Ground.data }], guard := none }) rfl (by kernel_rfl) (by kernel_rfl) 41 #[.slice (some ⟨g, 0, none⟩) ln lc, .int .i64 l.cl] (by kernel_rfl) _ (HX.out _ HF.out.kept) ?_
    rintro e wk4 ⟨rfl, hk⟩
    have hH2 : Box wk4 gk1 67 (La.cells l) ∧ Box wk4 p 26 (Bv.cells ⟨up, ⟨ea, en, ec⟩, ⟨(some ⟨g, 0, none⟩), ln, lc⟩⟩) := ⟨hH.1.kept hk (fun e => e), hH.2.no hk⟩
    have HF : Hid (Fr No w (wk4) [(gk1, 67, La.cells l)]) := HF.out.no hk
    clear hk
    refine ⟨.tuple #[.int .i64 (ix : Nat), .bool true], rfl, hH2, fun hH => ?_⟩
    clear hH2
    try simp only [pA, pB, p1, p2, p3]
    refine aK (i := 7) (oi := { dst := some 6, op := Op.move (Operand.tmp 13), type := 72, pos := "step.go:101", after := #[{ on := 6, ground := Ground.data }], guard := none }) (v := .tuple #[.int .i64 (ix : Nat), .bool true]) hH ?_
    try simp only [pA, pB, p1, p2, p3]
    refine aK (i := 8) (oi := { dst := some 14, op := Op.extract (Operand.tmp 6) 0, type := 3, pos := "step.go:101", after := #[{ on := 7, ground := Ground.data }], guard := none }) (v := .int .i64 ((ix : Nat) : Int)) hH ?_
    try simp only [pA, pB, p1, p2, p3]
    refine aK (i := 9) (oi := { dst := some 15, op := Op.extract (Operand.tmp 6) 1, type := 4, pos := "step.go:101", after := #[{ on := 7, ground := Ground.data }, { on := 10, ground := Ground.gcOnly Departure.lateStores }], guard := none }) (v := .bool true) hH ?_
    try simp only [pA, pB, p1, p2, p3]
    refine aK (i := 10) (oi := { dst := some 4, op := Op.assign (Operand.tmp 14), type := 3, pos := "step.go:101", after := #[{ on := 8, ground := Ground.data }, { on := 6, ground := Ground.chain }, { on := 0, ground := Ground.phase }, { on := 1, ground := Ground.phase }, { on := 2, ground := Ground.phase }, { on := 3, ground := Ground.phase }, { on := 4, ground := Ground.phase }, { on := 5, ground := Ground.phase }, { on := 6, ground := Ground.phase }, { on := 7, ground := Ground.phase }, { on := 8, ground := Ground.phase }, { on := 9, ground := Ground.textOnly Departure.lateStores }], guard := none }) (v := .int .i64 ((ix : Nat) : Int)) hH ?_
    try simp only [pA, pB, p1, p2, p3]
    refine aK (i := 11) (oi := { dst := some 5, op := Op.assign (Operand.tmp 15), type := 4, pos := "step.go:101", after := #[{ on := 9, ground := Ground.data }, { on := 10, ground := Ground.chain }, { on := 0, ground := Ground.phase }, { on := 1, ground := Ground.phase }, { on := 2, ground := Ground.phase }, { on := 3, ground := Ground.phase }, { on := 4, ground := Ground.phase }, { on := 5, ground := Ground.phase }, { on := 6, ground := Ground.phase }, { on := 7, ground := Ground.phase }, { on := 8, ground := Ground.phase }, { on := 9, ground := Ground.phase }, { on := 10, ground := Ground.phase }], guard := none }) (v := .bool true) hH ?_
    try simp only [pA, pB, p1, p2, p3]
    refine wpAnyH_done (by kernel_rfl) ?_ _
    try simp only [pA, pB, p1, p2, p3]
    clear hH
    go_upto_region 2 with fail
    refine WL.start ?_
    refine tK (.bool true) ?_
    try simp only [pA, pB, p1, p2, p3]
    refine WL.nil ?_
    try simp only [pA, pB, p1, p2, p3]
    go_upto_region 3 with fail
    refine wp_region_held_drew (S := fun w' => Box w' gk1 67 (La.cells l) ∧ Box w' p 26 (Bv.cells ⟨up, ⟨ea, en, ec⟩, ⟨(some ⟨g, 0, none⟩), ln, lc⟩⟩)) rfl ⟨HF.out.box 0 _ _ _ rfl, HP.out.no HF.out.kept.drew⟩ (fun hH => ?_)
    have HF : Hid (Fr No w (wk4.drew) [(gk1, 67, La.cells l)]) := HF.out.drew
    generalize wk4.drew = wk5 at HF hH ⊢
    refine aK (i := 0) (oi := { dst := some 17, op := Op.move (Operand.tmp 0), type := 65, pos := "step.go:103", after := #[], guard := none }) (v := .pointer (some ⟨p, 0, none⟩)) hH ?_
    try simp only [pA, pB, p1, p2, p3]
    refine aK (i := 1) (oi := { dst := some 18, op := Op.nilCheck (Operand.tmp 17), type := 0, pos := "step.go:103", after := #[{ on := 0, ground := Ground.data }], guard := none }) (v := .pointer (some ⟨p, 0, none⟩)) hH ?_
    try simp only [pA, pB, p1, p2, p3]
    refine aK (i := 2) (oi := { dst := some 19, op := Op.fieldAddr 26 (Operand.tmp 18) 2, type := 0, pos := "step.go:103", after := #[{ on := 1, ground := Ground.data }], guard := none }) (v := .pointer (some ⟨p, 2, none⟩)) hH ?_
    try simp only [pA, pB, p1, p2, p3]
    refine aT (i := 3) (oi := { dst := some 20, op := Op.load 24 (Operand.tmp 19), type := 24, pos := "step.go:103", after := #[{ on := 2, ground := Ground.data }], guard := none }) (v := .slice (some ⟨g, 0, none⟩) ln lc) (fun w' hw => exec_load 24 _ rfl ⟨p, 2, none⟩ (by kernel_rfl) (.slice (some ⟨g, 0, none⟩) ln lc) (ld23 (hw.2.cell 2))) hH ?_
    try simp only [pA, pB, p1, p2, p3]
    refine aK (i := 4) (oi := { dst := some 21, op := Op.move (Operand.tmp 4), type := 3, pos := "step.go:103", after := #[], guard := none }) (v := .int .i64 ((ix : Nat) : Int)) hH ?_
    try simp only [pA, pB, p1, p2, p3]
    refine aT (i := 5) (oi := { dst := some 22, op := Op.load 67 (Operand.tmp 3), type := 67, pos := "step.go:103", after := #[], guard := none }) (v := .agg (La.cells l)) (fun w' hw => exec_load 67 _ rfl ⟨gk1, 0, none⟩ (by kernel_rfl) (.agg (La.cells l)) (ld64 hw.1)) hH ?_
    try simp only [pA, pB, p1, p2, p3]
    refine aT (i := 6) (oi := { dst := some 23, op := Op.indexAddr 24 (Operand.tmp 20) (Operand.tmp 21), type := 0, pos := "step.go:103", after := #[{ on := 3, ground := Ground.data }, { on := 4, ground := Ground.data }, { on := 0, ground := Ground.phase }, { on := 1, ground := Ground.phase }, { on := 2, ground := Ground.phase }, { on := 3, ground := Ground.phase }, { on := 4, ground := Ground.phase }, { on := 5, ground := Ground.phase }], guard := none }) (v := .pointer (some ⟨g, 0 + ix * 7, none⟩)) (fun w' hw => exec_ixA 24 7 Try.und23e Try.size23e _ _ rfl g 0 ln lc ix (by kernel_rfl) (by kernel_rfl) hlt) hH ?_
    try simp only [pA, pB, p1, p2, p3]
    have HGX : Hid (Box wk5 g 67 cur.toArray) := HO2.out.no HF.out.kept
    refine any_store (i := 7) (o := { dst := none, op := Op.store 67 (Operand.tmp 23) (Operand.tmp 22), type := 0, pos := "step.go:103", after := #[{ on := 6, ground := Ground.data }, { on := 5, ground := Ground.data }, { on := 0, ground := Ground.phase }, { on := 1, ground := Ground.phase }, { on := 2, ground := Ground.phase }, { on := 3, ground := Ground.phase }, { on := 4, ground := Ground.phase }, { on := 5, ground := Ground.phase }], guard := none }) (w' := wk5.setRow g (putL cur (0 + ix * 7) l.cs).toArray) rfl (by kernel_rfl) (by kernel_rfl) 67 _ _ rfl ⟨g, 0 + ix * 7, none⟩ (.agg l.cells) (by kernel_rfl) (by kernel_rfl) (run_store_at (vs := l.cs) HGX.out rfl Try.size64 (by rw [HO5.out]; show 0 + ix * 7 + 7 ≤ _; omega) l.oneL) (⟨hH.1.rowNe (Nat.ne_of_gt (Nat.lt_of_lt_of_le hgl (HF.out.low 0 _ _ _ rfl))) _, hH.2.rowNe hpg _⟩) (fun hH => ?_)
    try simp only [pA, pB, p1, p2, p3]
    have HKK : Hid (Kept (fun k => k = p ∨ At (some ⟨g, 0, none⟩) k) w (wk5.setRow g (putL cur (0 + ix * 7) l.cs).toArray)) := (HF.out.kept.of_no (S := fun k => k = p ∨ At (some ⟨g, 0, none⟩) k)).inRow (.inr ⟨_, rfl, rfl⟩) _
    have HBB : Hid (Bkt (wk5.setRow g (putL cur (0 + ix * 7) l.cs).toArray) base p up ⟨ea, en, ec⟩ ⟨some ⟨g, 0, none⟩, ln, lc⟩ es (keepS ls l)) := by
      refine ⟨(HP.out.no HF.out.kept).rowNe hpg _, (HE.out.no HF.out.kept).kept (Kept.setRow _ _ _) (fun k h e => (HE.out.no HF.out.kept).own.notBox HGX.out (by decide) ((show k = g from e) ▸ h)), ⟨?_, ?_⟩⟩
      · refine Own.shut (cur := putL cur (0 + ix * 7) l.cs) HO1.out (HGX.out.setRow _) o3 o4 ?_ ?_
        · rw [putL_len (by rw [HO5.out]; show 0 + ix * 7 + 7 ≤ _; omega), HO5.out]
        · have h1 := laL_set ls ix l cur (by rw [HLL.out]; exact hlt) (by rw [HLL.out]; exact HO6.out) (by rw [HLL.out, HO5.out]; omega)
          rw [HLL.out] at h1
          rw [HKS.out, Nat.zero_add]
          exact h1
      · rw [HKS.out, List.length_set]; exact HLL.out
    clear HF
    generalize wk5.setRow g (putL cur (0 + ix * 7) l.cs).toArray = wk6 at HKK HBB hH ⊢
    refine wpAnyH_done (by kernel_rfl) ?_ _
    try simp only [pA, pB, p1, p2, p3]
    clear hH
    go_wp2
    rw [HC.out]
    refine bodyPost_ret (results_none (by rfl) _ _ _) rfl ?_
    exact ⟨rfl, _, HBB.out, HKK.out, fun k h => .inl h⟩

end Go.Proofs.Ytfemlnfknebalab
