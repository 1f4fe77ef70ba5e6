import Derived.Test.YtfemlnfknebalabP
namespace Go.Proofs.Ytfemlnfknebalab
open Go.RowKit
set_option linter.unusedVariables false
set_option linter.unusedSimpArgs false

def StepOut (w : World) (base p : Nat) (se sl : Sl) (r : Bk × An) (e : Ending) (w' : World) : Prop :=
  ∃ se' sl' sx : Sl, e = .returned (.agg (Av.cells ⟨r.2.er, r.2.e, sx⟩)) ∧ Bkt w' base p r.1.up se' sl' r.1.es r.1.ls ∧ OwE w' w.heap.size sx r.2.l ∧ (∀ k, At sx.a k → ¬ At se'.a k) ∧ Kept (fun k => k = p ∨ At se.a k ∨ At sl.a k) w w' ∧ (∀ k, At se'.a k → At se.a k ∨ w.heap.size ≤ k) ∧ (∀ k, At sl'.a k → At sl.a k ∨ w.heap.size ≤ k)
def lastOf (c : Cm) (up : Int) (a : An) : La := ⟨c.cl, c.op, up, a.er, a.e.f0, a.e.f1, a.e.sz⟩
theorem stepS_q {up : Int} {es : List En} {ls : List La} {c : Cm} {room : Int} (h : quest c = true) : stepS ⟨up, es, ls⟩ c room = (⟨up + 1, (actS es c room).1, ls⟩, (actS es c room).2) := by unfold stepS; rw [h]; rfl
theorem stepS_k {up : Int} {es : List En} {ls : List La} {c : Cm} {room : Int} (h : quest c = false) : stepS ⟨up, es, ls⟩ c room = (⟨up + 1, (actS es c room).1, keepS ls (lastOf c (up + 1) (actS es c room).2)⟩, (actS es c room).2) := by unfold stepS; rw [h]; rfl
theorem b_up (up : Int) (h1 : -9223372036854775808 ≤ up) (h2 : up < 1048576) (w : World) : (binOp .add 3 (.int .i64 up) (.int .i64 1)).run Try.prog w = .ok (.int .i64 (up + 1)) w := by
  have h3 : IntKind.i64.wrap (up + 1) = up + 1 := by rw [IntKind.wrap_i64]; omega
  have h0 : (binOp .add 3 (.int .i64 up) (.int .i64 1)).run Try.prog w = .ok (.int .i64 (IntKind.i64.wrap (up + 1))) w := by kernel_rfl
  rw [h0, h3]
theorem Bkt.up {w : World} {base p : Nat} {up : Int} {se sl : Sl} {es : List En} {ls : List La} (h : Bkt w base p up se sl es ls) (u : Int) : Bkt (w.setRow p (Bv.cells ⟨u, se, sl⟩)) base p u se sl es ls :=
  ⟨h.box.setRow _, h.e.kept (Kept.setRow _ _ _) (fun k hk e => h.e.own.notBox h.box (by decide) ((show k = p from e) ▸ hk)), h.l.kept (Kept.setRow _ _ _) (fun k hk e => h.l.own.notBox h.box (by decide) ((show k = p from e) ▸ hk))⟩
set_option maxRecDepth 100000 in
set_option maxHeartbeats 4000000 in
theorem step_any (p base : Nat) (up : Int) (ea : Option Addr) (en ec : Nat) (la : Option Addr) (ln lc : Nat) (es : List En) (ls : List La) (c : Cm) (room : Int) (w : World) (h : Bkt w base p up ⟨ea, en, ec⟩ ⟨la, ln, lc⟩ es ls) (hb : (en + 1) * 40 ≤ 140737488355328) (hbl : (ln + 1) * 56 ≤ 140737488355328) (hu1 : -9223372036854775808 ≤ up) (hu2 : up < 1048576) (hbase : base ≤ w.heap.size) : Calls Try.prog 24 #[.pointer (some ⟨p, 0, none⟩), .agg c.cells, .int .i64 room] w (StepOut w base p ⟨ea, en, ec⟩ ⟨la, ln, lc⟩ (stepS ⟨up, es, ls⟩ c room)) := by
  obtain ⟨C, hC⟩ : ∃ C : Ending → World → Prop, C = (StepOut w base p ⟨ea, en, ec⟩ ⟨la, ln, lc⟩ (stepS ⟨up, es, ls⟩ c room)) := ⟨_, rfl⟩
  have HC : Hid (C = (StepOut w base p ⟨ea, en, ec⟩ ⟨la, ln, lc⟩ (stepS ⟨up, es, ls⟩ c room))) := hC
  rw [← hC]
  clear hC
  have hpl := h.box.lt
  have HH : Hid (Bkt w base p up ⟨ea, en, ec⟩ ⟨la, ln, lc⟩ es ls) := h
  have HQ1 : Hid (quest c = true → stepS ⟨up, es, ls⟩ c room = (⟨up + 1, (actS es c room).1, ls⟩, (actS es c room).2)) := stepS_q
  have HQ2 : Hid (quest c = false → stepS ⟨up, es, ls⟩ c room = (⟨up + 1, (actS es c room).1, keepS ls (lastOf c (up + 1) (actS es c room).2)⟩, (actS es c room).2)) := stepS_k
  have HQ0 : Hid (quest c = (c.k == 3 || c.k == 4)) := rfl
  have HAC : Hid (∀ W, Kept No w W → Calls Try.prog 31 #[.pointer (some ⟨p, 0, none⟩), .agg (Cm.cells c), .int .i64 room] W (ActOut W base p up ⟨ea, en, ec⟩ ⟨la, ln, lc⟩ ls (actS es c room))) := fun W hk => act_any p base up ea en ec la ln lc es ls c room W (h.no hk) hb (Nat.le_trans hbase hk.size)
  clear h
  generalize actS es c room = R at HQ1 HQ2 HAC
  have HF : Hid (Fr No w w []) := Fr.start _ _
  go_enter Try.func24, Try.ntmps24
  go_upto_region 0 with fail
  refine WL.start ?_
  refine wp_runW (.pointer (some ⟨w.heap.size, 0, none⟩)) (w.alloc (.cells (Cm.cells c) 31)) (exec_box 31 _ rfl (Cm.cells c) (by kernel_rfl)) (by kernel_rfl) ?_
  try simp only [pA, pB, p1, p2, p3]
  have HF : Hid (Fr No w (w.alloc (.cells (Cm.cells c) 31)) [(w.heap.size, 31, Cm.cells c)]) := HF.out.alloc _ _
  generalize w.alloc (.cells (Cm.cells c) 31) = wk2 at HF ⊢
  generalize w.heap.size = gk1 at HF ⊢
  refine wp_runW (.pointer (some ⟨wk2.heap.size, 0, none⟩)) (wk2.alloc (.cells (Av.cells avZ) 36)) (exec_alloc 36 rfl (Av.cells avZ) zero56) (by kernel_rfl) ?_
  try simp only [pA, pB, p1, p2, p3]
  have HF : Hid (Fr No w (wk2.alloc (.cells (Av.cells avZ) 36)) [(gk1, 31, Cm.cells c), (wk2.heap.size, 36, Av.cells avZ)]) := HF.out.alloc _ _
  generalize wk2.alloc (.cells (Av.cells avZ) 36) = wk4 at HF ⊢
  generalize wk2.heap.size = gk3 at HF ⊢
  refine WL.nil ?_
  try simp only [pA, pB, p1, p2, p3]
  go_upto_region 1 with fail
  refine WL.start ?_
  refine tK (.pointer (some ⟨p, 0, none⟩)) ?_
  try simp only [pA, pB, p1, p2, p3]
  refine tW (.agg (Cm.cells c)) (exec_load 31 _ rfl ⟨gk1, 0, none⟩ (by kernel_rfl) (.agg (Cm.cells c)) (ld29 (HF.out.box 0 _ _ _ rfl))) ?_
  try simp only [pA, pB, p1, p2, p3]
  refine tK (.int .i64 room) ?_
  try simp only [pA, pB, p1, p2, p3]
  refine wp_callW 31 #[.pointer (some ⟨p, 0, none⟩), .agg (Cm.cells c), .int .i64 room] (by kernel_rfl) _ (HAC.out _ HF.out.kept) (by kernel_rfl) ?_
  rintro e wk5 ⟨⟨sa, sn, sc⟩, ⟨xa, xn, xc⟩, rfl, hB, hX, hD, hk, hA⟩
  have HBB : Hid (Bkt wk5 base p up ⟨sa, sn, sc⟩ ⟨la, ln, lc⟩ R.1 ls) := hB
  have HOX : Hid (OwE wk5 w.heap.size ⟨xa, xn, xc⟩ R.2.l) := hX.lower HF.out.kept.size
  have HDD : Hid (∀ k, At xa k → ¬ At sa k) := hD
  have HA : Hid (∀ k, At sa k → At ea k ∨ w.heap.size ≤ k) := fun k h => (hA k h).imp id (fun e => Nat.le_trans HF.out.kept.size e)
  have HF : Hid (Fr (fun k => k = p ∨ At ea k ∨ At la k) w wk5 [(gk1, 31, Cm.cells c), (gk3, 36, Av.cells avZ)]) := Fr.via ⟨HF.out.kept.of_no, HF.out.box, HF.out.low, HF.out.inj⟩ hk (fun k e => ⟨e.elim (fun e => e ▸ hpl) (fun e => HH.out.e.own.lt e), e.imp id .inl⟩)
  refine ⟨.agg (Av.cells ⟨R.2.er, R.2.e, ⟨xa, xn, xc⟩⟩), rfl, ?_⟩
  clear hB hX hD hk hA HAC
  try simp only [pA, pB, p1, p2, p3]
  refine wp_runW (.pointer (some ⟨wk5.heap.size, 0, none⟩)) (wk5.alloc (.cells (Av.cells avZ) 36)) (exec_alloc 36 rfl (Av.cells avZ) zero56) (by kernel_rfl) ?_
  try simp only [pA, pB, p1, p2, p3]
  have HBB : Hid (Bkt (wk5.alloc (.cells (Av.cells avZ) 36)) base p up ⟨sa, sn, sc⟩ ⟨la, ln, lc⟩ R.1 ls) := HBB.out.no ((Kept.refl No _).alloc _)
  have HOX : Hid (OwE (wk5.alloc (.cells (Av.cells avZ) 36)) w.heap.size ⟨xa, xn, xc⟩ R.2.l) := HOX.out.no ((Kept.refl No _).alloc _)
  have HF : Hid (Fr (fun k => k = p ∨ At ea k ∨ At la k) w (wk5.alloc (.cells (Av.cells avZ) 36)) [(gk1, 31, Cm.cells c), (gk3, 36, Av.cells avZ), (wk5.heap.size, 36, Av.cells avZ)]) := HF.out.alloc _ _
  generalize wk5.alloc (.cells (Av.cells avZ) 36) = wk7 at HF HBB HOX ⊢
  generalize wk5.heap.size = gk6 at HF ⊢
  refine wp_storeW 36 _ _ rfl ⟨gk6, 0, none⟩ (.agg (Av.cells ⟨R.2.er, R.2.e, ⟨xa, xn, xc⟩⟩)) (by kernel_rfl) (by kernel_rfl) (wk7.setRow gk6 (Av.cells ⟨R.2.er, R.2.e, ⟨xa, xn, xc⟩⟩)) (st56 (HF.out.box 2 _ _ _ rfl) rfl) (by kernel_rfl) ?_
  try simp only [pA, pB, p1, p2, p3]
  have HBB : Hid (Bkt (wk7.setRow gk6 (Av.cells ⟨R.2.er, R.2.e, ⟨xa, xn, xc⟩⟩)) base p up ⟨sa, sn, sc⟩ ⟨la, ln, lc⟩ R.1 ls) := HBB.out.put (HF.out.box 2 _ _ _ rfl) (by decide) (by decide) (by decide) _
  have HOX : Hid (OwE (wk7.setRow gk6 (Av.cells ⟨R.2.er, R.2.e, ⟨xa, xn, xc⟩⟩)) w.heap.size ⟨xa, xn, xc⟩ R.2.l) := HOX.out.kept (Kept.setRow _ _ _) (fun k h e => (HOX.out.own.notBox (HF.out.box 2 _ _ _ rfl) (by decide)) ((show k = gk6 from e) ▸ h))
  have HF : Hid (Fr (fun k => k = p ∨ At ea k ∨ At la k) w (wk7.setRow gk6 (Av.cells ⟨R.2.er, R.2.e, ⟨xa, xn, xc⟩⟩)) [(gk1, 31, Cm.cells c), (gk3, 36, Av.cells avZ), (gk6, 36, Av.cells ⟨R.2.er, R.2.e, ⟨xa, xn, xc⟩⟩)]) := HF.out.set 2 rfl _
  generalize wk7.setRow gk6 (Av.cells ⟨R.2.er, R.2.e, ⟨xa, xn, xc⟩⟩) = wk8 at HF HBB HOX ⊢
  refine WL.nil ?_
  try simp only [pA, pB, p1, p2, p3]
  go_upto_region 2 with fail
  refine WL.start ?_
  refine tK (.pointer (some ⟨p, 0, none⟩)) ?_
  try simp only [pA, pB, p1, p2, p3]
  refine tK (.pointer (some ⟨p, 0, none⟩)) ?_
  try simp only [pA, pB, p1, p2, p3]
  refine tK (.pointer (some ⟨p, 0, none⟩)) ?_
  try simp only [pA, pB, p1, p2, p3]
  refine tW (.int .i64 up) (exec_load 3 _ rfl ⟨p, 0, none⟩ (by kernel_rfl) (.int .i64 up) (ld3 (HBB.out.box.cell 0))) ?_
  try simp only [pA, pB, p1, p2, p3]
  refine tW (.int .i64 (up + 1)) (exec_bin .add 3 _ _ _ rfl (.int .i64 up) (.int .i64 1) (.int .i64 (up + 1)) (by kernel_rfl) (by kernel_rfl) (by kernel_rfl) (b_up up hu1 hu2 _)) ?_
  try simp only [pA, pB, p1, p2, p3]
  refine tK (.pointer (some ⟨p, 0, none⟩)) ?_
  try simp only [pA, pB, p1, p2, p3]
  refine tK (.pointer (some ⟨p, 0, none⟩)) ?_
  try simp only [pA, pB, p1, p2, p3]
  refine wp_storeW 3 _ _ rfl ⟨p, 0, none⟩ (.int .i64 (up + 1)) (by kernel_rfl) (by kernel_rfl) (wk8.setRow p (Bv.cells ⟨up + 1, ⟨sa, sn, sc⟩, ⟨la, ln, lc⟩⟩)) (run_store_at (cur := Bv.cs ⟨up, ⟨sa, sn, sc⟩, ⟨la, ln, lc⟩⟩) (vs := [.int .i64 (up + 1)]) HBB.out.box rfl Try.size3 (by exact Nat.le_of_ble_eq_true rfl) (by simp [Value.oneCell'])) (by kernel_rfl) ?_
  try simp only [pA, pB, p1, p2, p3]
  have HF : Hid (Fr (fun k => k = p ∨ At ea k ∨ At la k) w (wk8.setRow p (Bv.cells ⟨up + 1, ⟨sa, sn, sc⟩, ⟨la, ln, lc⟩⟩)) [(gk1, 31, Cm.cells c), (gk3, 36, Av.cells avZ), (gk6, 36, Av.cells ⟨R.2.er, R.2.e, ⟨xa, xn, xc⟩⟩)]) := HF.out.via (Kept.setRow _ _ _) (fun k e => ⟨(show k = p from e) ▸ hpl, .inl e⟩)
  have HOX : Hid (OwE (wk8.setRow p (Bv.cells ⟨up + 1, ⟨sa, sn, sc⟩, ⟨la, ln, lc⟩⟩)) w.heap.size ⟨xa, xn, xc⟩ R.2.l) := HOX.out.kept (Kept.setRow _ _ _) (fun k h e => HOX.out.own.notBox HBB.out.box (by decide) ((show k = p from e) ▸ h))
  have HBB : Hid (Bkt (wk8.setRow p (Bv.cells ⟨up + 1, ⟨sa, sn, sc⟩, ⟨la, ln, lc⟩⟩)) base p (up + 1) ⟨sa, sn, sc⟩ ⟨la, ln, lc⟩ R.1 ls) := HBB.out.up _
  generalize wk8.setRow p (Bv.cells ⟨up + 1, ⟨sa, sn, sc⟩, ⟨la, ln, lc⟩⟩) = wk9 at HF HOX HBB ⊢
  refine WL.nil ?_
  try simp only [pA, pB, p1, p2, p3]
  go_upto_region 3 with fail
  refine WL.start ?_
  refine tK (.pointer (some ⟨gk1, 0, none⟩)) ?_
  try simp only [pA, pB, p1, p2, p3]
  refine tW (.int .i64 c.k) (exec_load 3 _ rfl ⟨gk1, 0, none⟩ (by kernel_rfl) (.int .i64 c.k) (ld3 ((HF.out.box 0 _ _ _ rfl).cell 0))) ?_
  try simp only [pA, pB, p1, p2, p3]
  cases q1 : (c.k == 3)
  ·skip
   refine tW (.bool true) (exec_bin .neq 3 _ _ _ rfl (.int .i64 c.k) (.int .i64 3) (.bool true) (by kernel_rfl) (by kernel_rfl) (by kernel_rfl) (by rw [b_neq, q1]; try rfl)) ?_
   try simp only [pA, pB, p1, p2, p3]
   refine tK (.bool true) ?_
   try simp only [pA, pB, p1, p2, p3]
   refine tK (.pointer (some ⟨gk1, 0, none⟩)) ?_
   try simp only [pA, pB, p1, p2, p3]
   refine tW (.int .i64 c.k) (exec_load 3 _ rfl ⟨gk1, 0, none⟩ (by kernel_rfl) (.int .i64 c.k) (ld3 ((HF.out.box 0 _ _ _ rfl).cell 0))) ?_
   try simp only [pA, pB, p1, p2, p3]
   cases q2 : (c.k == 4)
   ·skip
    refine tW (.bool true) (exec_bin .neq 3 _ _ _ rfl (.int .i64 c.k) (.int .i64 4) (.bool true) (by kernel_rfl) (by kernel_rfl) (by kernel_rfl) (by rw [b_neq, q2]; try rfl)) ?_
    try simp only [pA, pB, p1, p2, p3]
    refine tK (.bool true) ?_
    try simp only [pA, pB, p1, p2, p3]
    refine WL.nil ?_
    try simp only [pA, pB, p1, p2, p3]
    go_upto_region 4 with fail
    refine wp_region_held_drew (S := fun w' => Box w' gk1 31 (Cm.cells c) ∧ Box w' gk6 36 (Av.cells ⟨R.2.er, R.2.e, ⟨xa, xn, xc⟩⟩) ∧ w'.cell? ⟨p, 0, none⟩ = some (.int .i64 (up + 1))) rfl ⟨HF.out.box 0 _ _ _ rfl, HF.out.box 2 _ _ _ rfl, HBB.out.box.cell 0⟩ (fun hH => ?_)
    have HBB : Hid (Bkt (wk9.drew) base p (up + 1) ⟨sa, sn, sc⟩ ⟨la, ln, lc⟩ R.1 ls) := HBB.out.no (Kept.refl No _).drew
    have HOX : Hid (OwE (wk9.drew) w.heap.size ⟨xa, xn, xc⟩ R.2.l) := HOX.out.no (Kept.refl No _).drew
    have HF : Hid (Fr (fun k => k = p ∨ At ea k ∨ At la k) w (wk9.drew) [(gk1, 31, Cm.cells c), (gk3, 36, Av.cells avZ), (gk6, 36, Av.cells ⟨R.2.er, R.2.e, ⟨xa, xn, xc⟩⟩)]) := HF.out.drew
    generalize wk9.drew = wk10 at HF HBB HOX hH ⊢
    refine aK (i := 0) (oi := { dst := some 27, op := Op.move (Operand.tmp 0), type := 65, pos := "step.go:31", after := #[], guard := none }) (v := .pointer (some ⟨p, 0, none⟩)) hH ?_
    try simp only [pA, pB, p1, p2, p3]
    refine aK (i := 1) (oi := { dst := some 28, op := Op.fieldAddr 31 (Operand.tmp 4) 1, type := 0, pos := "step.go:31", after := #[], guard := none }) (v := .pointer (some ⟨gk1, 1, none⟩)) hH ?_
    try simp only [pA, pB, p1, p2, p3]
    refine aT (i := 2) (oi := { dst := some 29, op := Op.load 3 (Operand.tmp 28), type := 3, pos := "step.go:31", after := #[{ on := 1, ground := Ground.data }], guard := none }) (v := .int .i64 c.cl) (fun w' hw => exec_load 3 _ rfl ⟨gk1, 1, none⟩ (by kernel_rfl) (.int .i64 c.cl) (ld3 (hw.1.cell 1))) hH ?_
    try simp only [pA, pB, p1, p2, p3]
    refine aK (i := 3) (oi := { dst := some 30, op := Op.fieldAddr 31 (Operand.tmp 4) 2, type := 0, pos := "step.go:31", after := #[], guard := none }) (v := .pointer (some ⟨gk1, 2, none⟩)) hH ?_
    try simp only [pA, pB, p1, p2, p3]
    refine aT (i := 4) (oi := { dst := some 31, op := Op.load 3 (Operand.tmp 30), type := 3, pos := "step.go:31", after := #[{ on := 3, ground := Ground.data }], guard := none }) (v := .int .i64 c.op) (fun w' hw => exec_load 3 _ rfl ⟨gk1, 2, none⟩ (by kernel_rfl) (.int .i64 c.op) (ld3 (hw.1.cell 2))) hH ?_
    try simp only [pA, pB, p1, p2, p3]
    refine aK (i := 5) (oi := { dst := some 32, op := Op.move (Operand.tmp 0), type := 65, pos := "step.go:31", after := #[], guard := none }) (v := .pointer (some ⟨p, 0, none⟩)) hH ?_
    try simp only [pA, pB, p1, p2, p3]
    refine aK (i := 6) (oi := { dst := some 33, op := Op.nilCheck (Operand.tmp 32), type := 0, pos := "step.go:31", after := #[{ on := 5, ground := Ground.data }], guard := none }) (v := .pointer (some ⟨p, 0, none⟩)) hH ?_
    try simp only [pA, pB, p1, p2, p3]
    refine aK (i := 7) (oi := { dst := some 34, op := Op.fieldAddr 26 (Operand.tmp 33) 0, type := 0, pos := "step.go:31", after := #[{ on := 6, ground := Ground.data }], guard := none }) (v := .pointer (some ⟨p, 0, none⟩)) hH ?_
    try simp only [pA, pB, p1, p2, p3]
    refine aT (i := 8) (oi := { dst := some 35, op := Op.load 3 (Operand.tmp 34), type := 3, pos := "step.go:31", after := #[{ on := 7, ground := Ground.data }], guard := none }) (v := .int .i64 (up + 1)) (fun w' hw => exec_load 3 _ rfl ⟨p, 0, none⟩ (by kernel_rfl) (.int .i64 (up + 1)) (ld3 hw.2.2)) hH ?_
    try simp only [pA, pB, p1, p2, p3]
    refine aK (i := 9) (oi := { dst := some 36, op := Op.fieldAddr 36 (Operand.tmp 7) 0, type := 0, pos := "step.go:31", after := #[], guard := none }) (v := .pointer (some ⟨gk6, 0, none⟩)) hH ?_
    try simp only [pA, pB, p1, p2, p3]
    refine aT (i := 10) (oi := { dst := some 37, op := Op.load 32 (Operand.tmp 36), type := 32, pos := "step.go:31", after := #[{ on := 9, ground := Ground.data }], guard := none }) (v := .int .i64 R.2.er) (fun w' hw => exec_load 32 _ rfl ⟨gk6, 0, none⟩ (by kernel_rfl) (.int .i64 R.2.er) (ld46 (hw.2.1.cell 0))) hH ?_
    try simp only [pA, pB, p1, p2, p3]
    refine aK (i := 11) (oi := { dst := some 38, op := Op.fieldAddr 36 (Operand.tmp 7) 1, type := 0, pos := "step.go:31", after := #[], guard := none }) (v := .pointer (some ⟨gk6, 1, none⟩)) hH ?_
    try simp only [pA, pB, p1, p2, p3]
    refine aK (i := 12) (oi := { dst := some 39, op := Op.fieldAddr 34 (Operand.tmp 38) 1, type := 0, pos := "step.go:31", after := #[{ on := 11, ground := Ground.data }], guard := none }) (v := .pointer (some ⟨gk6, 2, none⟩)) hH ?_
    try simp only [pA, pB, p1, p2, p3]
    refine aT (i := 13) (oi := { dst := some 40, op := Op.load 29 (Operand.tmp 39), type := 29, pos := "step.go:31", after := #[{ on := 12, ground := Ground.data }], guard := none }) (v := .agg (#[.int .i64 R.2.e.f0, .int .i64 R.2.e.f1])) (fun w' hw => exec_load 29 _ rfl ⟨gk6, 2, none⟩ (by kernel_rfl) (.agg (#[.int .i64 R.2.e.f0, .int .i64 R.2.e.f1])) (ld27 (cs := Av.cs ⟨R.2.er, R.2.e, ⟨xa, xn, xc⟩⟩) hw.2.1 rfl rfl)) hH ?_
    try simp only [pA, pB, p1, p2, p3]
    refine aK (i := 14) (oi := { dst := some 41, op := Op.fieldAddr 36 (Operand.tmp 7) 1, type := 0, pos := "step.go:31", after := #[], guard := none }) (v := .pointer (some ⟨gk6, 1, none⟩)) hH ?_
    try simp only [pA, pB, p1, p2, p3]
    refine aK (i := 15) (oi := { dst := some 42, op := Op.fieldAddr 34 (Operand.tmp 41) 2, type := 0, pos := "step.go:31", after := #[{ on := 14, ground := Ground.data }], guard := none }) (v := .pointer (some ⟨gk6, 4, none⟩)) hH ?_
    try simp only [pA, pB, p1, p2, p3]
    refine aT (i := 16) (oi := { dst := some 43, op := Op.load 3 (Operand.tmp 42), type := 3, pos := "step.go:31", after := #[{ on := 15, ground := Ground.data }], guard := none }) (v := .int .i64 R.2.e.sz) (fun w' hw => exec_load 3 _ rfl ⟨gk6, 4, none⟩ (by kernel_rfl) (.int .i64 R.2.e.sz) (ld3 (hw.2.1.cell 4))) hH ?_
    try simp only [pA, pB, p1, p2, p3]
    refine aT (i := 17) (oi := { dst := some 44, op := Op.build 67 #[(0, Operand.tmp 29), (1, Operand.tmp 31), (2, Operand.tmp 35), (3, Operand.tmp 37), (4, Operand.tmp 40), (5, Operand.tmp 43)], type := 67, pos := "step.go:31", after := #[{ on := 2, ground := Ground.data }, { on := 4, ground := Ground.data }, { on := 8, ground := Ground.data }, { on := 10, ground := Ground.data }, { on := 13, ground := Ground.data }, { on := 16, ground := Ground.data }], guard := none }) (v := .agg (La.cells ⟨c.cl, c.op, (up + 1), R.2.er, R.2.e.f0, R.2.e.f1, R.2.e.sz⟩)) (fun w' hw => exec_build 67 _ rfl (La.cells ⟨c.cl, c.op, (up + 1), R.2.er, R.2.e.f0, R.2.e.f1, R.2.e.sz⟩) (by kernel_rfl)) hH ?_
    try simp only [pA, pB, p1, p2, p3]
    refine any_call (i := 18) (o := { dst := some 45, op := Op.call { callee := Callee.value (Operand.func 32), args := #[Operand.tmp 27, Operand.tmp 44], argTypes := #[65, 67] }, type := 0, pos := "step.go:31", after := #[{ on := 0, ground := Ground.data }, { on := 17, ground := Ground.data }], guard := none }) rfl (by kernel_rfl) (by kernel_rfl) 32 #[.pointer (some ⟨p, 0, none⟩), .agg (La.cells ⟨c.cl, c.op, (up + 1), R.2.er, R.2.e.f0, R.2.e.f1, R.2.e.sz⟩)] (by kernel_rfl) _ (keep_any p base (up + 1) sa sn sc la ln lc R.1 ls ⟨c.cl, c.op, (up + 1), R.2.er, R.2.e.f0, R.2.e.f1, R.2.e.sz⟩ wk10 HBB.out hbl (Nat.le_trans hbase HF.out.kept.size)) ?_
    rintro e wk11 ⟨rfl, ⟨ta, tn, tc⟩, hB, hk, hT⟩
    have HTT : Hid (∀ k, At ta k → At la k ∨ w.heap.size ≤ k) := fun k h => (hT k h).imp id (fun e => Nat.le_trans HF.out.kept.size e)
    have HOX : Hid (OwE wk11 w.heap.size ⟨xa, xn, xc⟩ R.2.l) := HOX.out.kept hk (fun k h e => by
      rcases e with e | e
      · exact HOX.out.own.notBox HBB.out.box (by decide) (e ▸ h)
      · exact HOX.out.own.apart HBB.out.l.own (by decide) h e)
    have HF : Hid (Fr (fun k => k = p ∨ At ea k ∨ At la k) w wk11 [(gk1, 31, Cm.cells c), (gk3, 36, Av.cells avZ), (gk6, 36, Av.cells ⟨R.2.er, R.2.e, ⟨xa, xn, xc⟩⟩)]) := HF.out.via hk (fun k e => ⟨e.elim (fun e => e ▸ hpl) (fun e => HH.out.l.own.lt e), e.imp id .inr⟩)
    have HBB : Hid (Bkt wk11 base p (up + 1) ⟨sa, sn, sc⟩ ⟨ta, tn, tc⟩ R.1 (keepS ls (lastOf c (up + 1) R.2))) := hB
    refine ⟨.tuple #[], rfl, ⟨HF.out.box 0 _ _ _ rfl, HF.out.box 2 _ _ _ rfl, HBB.out.box.cell 0⟩, fun hH => ?_⟩
    clear hB hk hT
    try simp only [pA, pB, p1, p2, p3]
    refine wpAnyH_done (by kernel_rfl) ?_ _
    try simp only [pA, pB, p1, p2, p3]
    clear hH
    go_upto_region 5 with fail
    refine WL.start ?_
    refine tW (.agg (Av.cells ⟨R.2.er, R.2.e, ⟨xa, xn, xc⟩⟩)) (exec_load 36 _ rfl ⟨gk6, 0, none⟩ (by kernel_rfl) (.agg (Av.cells ⟨R.2.er, R.2.e, ⟨xa, xn, xc⟩⟩)) (ld56 (HF.out.box 2 _ _ _ rfl))) ?_
    try simp only [pA, pB, p1, p2, p3]
    refine wp_storeW 36 _ _ rfl ⟨gk3, 0, none⟩ (.agg (Av.cells ⟨R.2.er, R.2.e, ⟨xa, xn, xc⟩⟩)) (by kernel_rfl) (by kernel_rfl) (wk11.setRow gk3 (Av.cells ⟨R.2.er, R.2.e, ⟨xa, xn, xc⟩⟩)) (st56 (HF.out.box 1 _ _ _ rfl) rfl) (by kernel_rfl) ?_
    try simp only [pA, pB, p1, p2, p3]
    have HBB : Hid (Bkt (wk11.setRow gk3 (Av.cells ⟨R.2.er, R.2.e, ⟨xa, xn, xc⟩⟩)) base p (up + 1) ⟨sa, sn, sc⟩ ⟨ta, tn, tc⟩ R.1 (keepS ls (lastOf c (up + 1) R.2))) := HBB.out.put (HF.out.box 1 _ _ _ rfl) (by decide) (by decide) (by decide) _
    have HOX : Hid (OwE (wk11.setRow gk3 (Av.cells ⟨R.2.er, R.2.e, ⟨xa, xn, xc⟩⟩)) w.heap.size ⟨xa, xn, xc⟩ R.2.l) := HOX.out.kept (Kept.setRow _ _ _) (fun k h e => (HOX.out.own.notBox (HF.out.box 1 _ _ _ rfl) (by decide)) ((show k = gk3 from e) ▸ h))
    have HF : Hid (Fr (fun k => k = p ∨ At ea k ∨ At la k) w (wk11.setRow gk3 (Av.cells ⟨R.2.er, R.2.e, ⟨xa, xn, xc⟩⟩)) [(gk1, 31, Cm.cells c), (gk3, 36, Av.cells ⟨R.2.er, R.2.e, ⟨xa, xn, xc⟩⟩), (gk6, 36, Av.cells ⟨R.2.er, R.2.e, ⟨xa, xn, xc⟩⟩)]) := HF.out.set 1 rfl _
    generalize wk11.setRow gk3 (Av.cells ⟨R.2.er, R.2.e, ⟨xa, xn, xc⟩⟩) = wk12 at HF HBB HOX ⊢
    refine WL.nil ?_
    try simp only [pA, pB, p1, p2, p3]
    go_wp2
    rw [HC.out]
    refine bodyPost_ret (results_row1 (by rfl) _ _ gk3 (Av.cells ⟨R.2.er, R.2.e, ⟨xa, xn, xc⟩⟩) (by rfl) (ld56 (HF.out.box 1 _ _ _ rfl))) rfl ?_
    rw [HQ2.out (by rw [HQ0.out, q1, q2]; rfl)]
    exact ⟨⟨sa, sn, sc⟩, ⟨ta, tn, tc⟩, ⟨xa, xn, xc⟩, rfl, HBB.out, HOX.out, HDD.out, HF.out.kept, HA.out, HTT.out⟩
   ·skip
    refine tW (.bool false) (exec_bin .neq 3 _ _ _ rfl (.int .i64 c.k) (.int .i64 4) (.bool false) (by kernel_rfl) (by kernel_rfl) (by kernel_rfl) (by rw [b_neq, q2]; try rfl)) ?_
    try simp only [pA, pB, p1, p2, p3]
    refine tK (.bool false) ?_
    try simp only [pA, pB, p1, p2, p3]
    refine WL.nil ?_
    try simp only [pA, pB, p1, p2, p3]
    go_upto_region 5 with fail
    refine WL.start ?_
    refine tW (.agg (Av.cells ⟨R.2.er, R.2.e, ⟨xa, xn, xc⟩⟩)) (exec_load 36 _ rfl ⟨gk6, 0, none⟩ (by kernel_rfl) (.agg (Av.cells ⟨R.2.er, R.2.e, ⟨xa, xn, xc⟩⟩)) (ld56 (HF.out.box 2 _ _ _ rfl))) ?_
    try simp only [pA, pB, p1, p2, p3]
    refine wp_storeW 36 _ _ rfl ⟨gk3, 0, none⟩ (.agg (Av.cells ⟨R.2.er, R.2.e, ⟨xa, xn, xc⟩⟩)) (by kernel_rfl) (by kernel_rfl) (wk9.setRow gk3 (Av.cells ⟨R.2.er, R.2.e, ⟨xa, xn, xc⟩⟩)) (st56 (HF.out.box 1 _ _ _ rfl) rfl) (by kernel_rfl) ?_
    try simp only [pA, pB, p1, p2, p3]
    have HBB : Hid (Bkt (wk9.setRow gk3 (Av.cells ⟨R.2.er, R.2.e, ⟨xa, xn, xc⟩⟩)) base p (up + 1) ⟨sa, sn, sc⟩ ⟨la, ln, lc⟩ R.1 ls) := HBB.out.put (HF.out.box 1 _ _ _ rfl) (by decide) (by decide) (by decide) _
    have HOX : Hid (OwE (wk9.setRow gk3 (Av.cells ⟨R.2.er, R.2.e, ⟨xa, xn, xc⟩⟩)) w.heap.size ⟨xa, xn, xc⟩ R.2.l) := HOX.out.kept (Kept.setRow _ _ _) (fun k h e => (HOX.out.own.notBox (HF.out.box 1 _ _ _ rfl) (by decide)) ((show k = gk3 from e) ▸ h))
    have HF : Hid (Fr (fun k => k = p ∨ At ea k ∨ At la k) w (wk9.setRow gk3 (Av.cells ⟨R.2.er, R.2.e, ⟨xa, xn, xc⟩⟩)) [(gk1, 31, Cm.cells c), (gk3, 36, Av.cells ⟨R.2.er, R.2.e, ⟨xa, xn, xc⟩⟩), (gk6, 36, Av.cells ⟨R.2.er, R.2.e, ⟨xa, xn, xc⟩⟩)]) := HF.out.set 1 rfl _
    generalize wk9.setRow gk3 (Av.cells ⟨R.2.er, R.2.e, ⟨xa, xn, xc⟩⟩) = wk13 at HF HBB HOX ⊢
    refine WL.nil ?_
    try simp only [pA, pB, p1, p2, p3]
    go_wp2
    rw [HC.out]
    refine bodyPost_ret (results_row1 (by rfl) _ _ gk3 (Av.cells ⟨R.2.er, R.2.e, ⟨xa, xn, xc⟩⟩) (by rfl) (ld56 (HF.out.box 1 _ _ _ rfl))) rfl ?_
    rw [HQ1.out (by rw [HQ0.out, q1, q2]; rfl)]
    exact ⟨⟨sa, sn, sc⟩, _, ⟨xa, xn, xc⟩, rfl, HBB.out, HOX.out, HDD.out, HF.out.kept, HA.out, fun k h => .inl h⟩
  ·skip
   refine tW (.bool false) (exec_bin .neq 3 _ _ _ rfl (.int .i64 c.k) (.int .i64 3) (.bool false) (by kernel_rfl) (by kernel_rfl) (by kernel_rfl) (by rw [b_neq, q1]; try rfl)) ?_
   try simp only [pA, pB, p1, p2, p3]
   refine tK (.bool false) ?_
   try simp only [pA, pB, p1, p2, p3]
   refine sK ?_
   try simp only [pA, pB, p1, p2, p3]
   refine sK ?_
   try simp only [pA, pB, p1, p2, p3]
   refine sK ?_
   try simp only [pA, pB, p1, p2, p3]
   refine tK (.bool false) ?_
   try simp only [pA, pB, p1, p2, p3]
   refine WL.nil ?_
   try simp only [pA, pB, p1, p2, p3]
   go_upto_region 5 with fail
   refine WL.start ?_
   refine tW (.agg (Av.cells ⟨R.2.er, R.2.e, ⟨xa, xn, xc⟩⟩)) (exec_load 36 _ rfl ⟨gk6, 0, none⟩ (by kernel_rfl) (.agg (Av.cells ⟨R.2.er, R.2.e, ⟨xa, xn, xc⟩⟩)) (ld56 (HF.out.box 2 _ _ _ rfl))) ?_
   try simp only [pA, pB, p1, p2, p3]
   refine wp_storeW 36 _ _ rfl ⟨gk3, 0, none⟩ (.agg (Av.cells ⟨R.2.er, R.2.e, ⟨xa, xn, xc⟩⟩)) (by kernel_rfl) (by kernel_rfl) (wk9.setRow gk3 (Av.cells ⟨R.2.er, R.2.e, ⟨xa, xn, xc⟩⟩)) (st56 (HF.out.box 1 _ _ _ rfl) rfl) (by kernel_rfl) ?_
   try simp only [pA, pB, p1, p2, p3]
   have HBB : Hid (Bkt (wk9.setRow gk3 (Av.cells ⟨R.2.er, R.2.e, ⟨xa, xn, xc⟩⟩)) base p (up + 1) ⟨sa, sn, sc⟩ ⟨la, ln, lc⟩ R.1 ls) := HBB.out.put (HF.out.box 1 _ _ _ rfl) (by decide) (by decide) (by decide) _
   have HOX : Hid (OwE (wk9.setRow gk3 (Av.cells ⟨R.2.er, R.2.e, ⟨xa, xn, xc⟩⟩)) w.heap.size ⟨xa, xn, xc⟩ R.2.l) := HOX.out.kept (Kept.setRow _ _ _) (fun k h e => (HOX.out.own.notBox (HF.out.box 1 _ _ _ rfl) (by decide)) ((show k = gk3 from e) ▸ h))
   have HF : Hid (Fr (fun k => k = p ∨ At ea k ∨ At la k) w (wk9.setRow gk3 (Av.cells ⟨R.2.er, R.2.e, ⟨xa, xn, xc⟩⟩)) [(gk1, 31, Cm.cells c), (gk3, 36, Av.cells ⟨R.2.er, R.2.e, ⟨xa, xn, xc⟩⟩), (gk6, 36, Av.cells ⟨R.2.er, R.2.e, ⟨xa, xn, xc⟩⟩)]) := HF.out.set 1 rfl _
   generalize wk9.setRow gk3 (Av.cells ⟨R.2.er, R.2.e, ⟨xa, xn, xc⟩⟩) = wk14 at HF HBB HOX ⊢
   refine WL.nil ?_
   try simp only [pA, pB, p1, p2, p3]
   go_wp2
   rw [HC.out]
   refine bodyPost_ret (results_row1 (by rfl) _ _ gk3 (Av.cells ⟨R.2.er, R.2.e, ⟨xa, xn, xc⟩⟩) (by rfl) (ld56 (HF.out.box 1 _ _ _ rfl))) rfl ?_
   rw [HQ1.out (by rw [HQ0.out, q1]; rfl)]
   exact ⟨⟨sa, sn, sc⟩, _, ⟨xa, xn, xc⟩, rfl, HBB.out, HOX.out, HDD.out, HF.out.kept, HA.out, fun k h => .inl h⟩

end Go.Proofs.Ytfemlnfknebalab
