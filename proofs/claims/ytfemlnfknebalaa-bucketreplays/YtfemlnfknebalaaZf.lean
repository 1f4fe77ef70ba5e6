import Derived.Test.YtfemlnfknebalaaZe
namespace Go.Proofs.Ytfemlnfknebalaa
open Go.RowKit
set_option linter.unusedVariables false
set_option linter.unusedSimpArgs false
@[reducible] def oqZf0 : Oper := { dst := some 77, op := Op.load 25 (Operand.tmp 11), type := 25, pos := "ref.go:206", after := #[], guard := none }
@[reducible] def oqZf1 : Oper := { dst := some 78, op := Op.load 56 (Operand.tmp 9), type := 56, pos := "ref.go:206", after := #[{ on := 2, ground := Ground.gcOnly Departure.lateStores }], guard := none }
@[reducible] def oqZf2 : Oper := { dst := none, op := Op.store 25 (Operand.tmp 6) (Operand.tmp 77), type := 0, pos := "ref.go:206", after := #[{ on := 0, ground := Ground.data }, { on := 0, ground := Ground.phase }, { on := 1, ground := Ground.textOnly Departure.lateStores }], guard := none }
@[reducible] def oqZf3 : Oper := { dst := none, op := Op.store 56 (Operand.tmp 7) (Operand.tmp 78), type := 0, pos := "ref.go:206", after := #[{ on := 1, ground := Ground.data }, { on := 2, ground := Ground.chain }, { on := 0, ground := Ground.phase }, { on := 1, ground := Ground.phase }, { on := 2, ground := Ground.phase }], guard := none }
@[reducible] def oqZf4 : Oper := { dst := some 8, op := Op.assign (Operand.const (Value.int IntKind.i64 0)), type := 3, pos := "ref.go:206", after := #[{ on := 3, ground := Ground.chain }, { on := 0, ground := Ground.phase }, { on := 1, ground := Ground.phase }, { on := 2, ground := Ground.phase }, { on := 3, ground := Ground.phase }], guard := none }

/-- A list that is what came in, or one's own. -/
structure OrE (w : World) (base : Nat) (s0 : Sl) (es0 : List En) (s : Sl) (es : List En) : Prop where
  out : (s = s0 ∧ es = es0) ∨ OwE w base s es
structure OrL (w : World) (base : Nat) (s0 : Sl) (es0 : List La) (s : Sl) (es : List La) : Prop where
  out : (s = s0 ∧ es = es0) ∨ OwL w base s es
theorem OrE.no {w w' : World} {base : Nat} {s0 s : Sl} {es0 es : List En} (h : OrE w base s0 es0 s es) (hk : Kept No w w') : OrE w' base s0 es0 s es := ⟨h.out.imp id (fun h => h.no hk)⟩
theorem OrL.no {w w' : World} {base : Nat} {s0 s : Sl} {es0 es : List La} (h : OrL w base s0 es0 s es) (hk : Kept No w w') : OrL w' base s0 es0 s es := ⟨h.out.imp id (fun h => h.no hk)⟩
theorem OrE.row {w : World} {base g : Nat} {s0 s : Sl} {es0 es : List En} {T : TypeId} {cs : Array Value} (h : OrE w base s0 es0 s es) (hb : Box w g T cs) (hT : 54 ≠ T) (cs' : Array Value) : OrE (w.setRow g cs') base s0 es0 s es := ⟨h.out.imp id (fun h => h.kept (Kept.setRow _ _ _) (fun k hk e => h.own.notBox hb hT ((show k = g from e) ▸ hk)))⟩
theorem OrL.row {w : World} {base g : Nat} {s0 s : Sl} {es0 es : List La} {T : TypeId} {cs : Array Value} (h : OrL w base s0 es0 s es) (hb : Box w g T cs) (hT : 64 ≠ T) (cs' : Array Value) : OrL (w.setRow g cs') base s0 es0 s es := ⟨h.out.imp id (fun h => h.kept (Kept.setRow _ _ _) (fun k hk e => h.own.notBox hb hT ((show k = g from e) ▸ hk)))⟩
theorem OrE.lower {w : World} {base base' : Nat} {s0 s : Sl} {es0 es : List En} (h : OrE w base s0 es0 s es) (hb : base' ≤ base) : OrE w base' s0 es0 s es := ⟨h.out.imp id (fun h => h.lower hb)⟩
theorem OrL.lower {w : World} {base base' : Nat} {s0 s : Sl} {es0 es : List La} (h : OrL w base s0 es0 s es) (hb : base' ≤ base) : OrL w base' s0 es0 s es := ⟨h.out.imp id (fun h => h.lower hb)⟩
theorem OrE.rd {w : World} {base : Nat} {s0 s : Sl} {es0 es : List En} (h : OrE w base s0 es0 s es) (he : RdE w s0 es0) : RdE w s es := h.out.elim (fun e => by rw [e.1, e.2]; exact he) (fun h => h.rd)
theorem OrL.rd {w : World} {base : Nat} {s0 s : Sl} {es0 es : List La} (h : OrL w base s0 es0 s es) (he : RdL w s0 es0) : RdL w s es := h.out.elim (fun e => by rw [e.1, e.2]; exact he) (fun h => h.rd)
set_option maxRecDepth 100000 in
set_option maxHeartbeats 4000000 in
theorem refApply_mem (up : Int) (ea : Option Addr) (en ec : Nat) (la : Option Addr) (ln lc : Nat) (es : List En) (ls : List La) (c : Cm) (room : Int) (w : World) (hr : refS up c = 0) (he : RdE w ⟨ea, en, ec⟩ es) (hl : RdL w ⟨la, ln, lc⟩ ls) (hec : en ≤ ec) (hb : en + 1 ≤ 3518437208883) (hbl : ln + 1 ≤ 2513169434916) (hu1 : -9223372036854775808 ≤ up) : Calls Try.prog 26 #[.agg (Bv.cells ⟨up, ⟨ea, en, ec⟩, ⟨la, ln, lc⟩⟩), .agg (Cm.cells c), .int .i64 room] w (fun e w' => ∃ se sl sx : Sl, e = .returned (.tuple #[.agg (Bv.cells ⟨up + 1, se, sl⟩), .agg (Av.cells ⟨(actR es c room).2.er, (actR es c room).2.e, sx⟩), .int .i64 0]) ∧ OrE w' w.heap.size ⟨ea, en, ec⟩ es se (actR es c room).1 ∧ se.l ≤ se.k ∧ OrL w' w.heap.size ⟨la, ln, lc⟩ ls sl (if quest c then ls else noteS ls (lastOf c (up + 1) (actR es c room).2) false) ∧ OwE w' w.heap.size sx (actR es c room).2.l ∧ Kept No w w') := by
  obtain ⟨C, hC⟩ : ∃ C : Ending → World → Prop, C = (fun e w' => ∃ se sl sx : Sl, e = .returned (.tuple #[.agg (Bv.cells ⟨up + 1, se, sl⟩), .agg (Av.cells ⟨(actR es c room).2.er, (actR es c room).2.e, sx⟩), .int .i64 0]) ∧ OrE w' w.heap.size ⟨ea, en, ec⟩ es se (actR es c room).1 ∧ se.l ≤ se.k ∧ OrL w' w.heap.size ⟨la, ln, lc⟩ ls sl (if quest c then ls else noteS ls (lastOf c (up + 1) (actR es c room).2) false) ∧ OwE w' w.heap.size sx (actR es c room).2.l ∧ Kept No w w') := ⟨_, rfl⟩
  have HC : Hid (C = (fun e w' => ∃ se sl sx : Sl, e = .returned (.tuple #[.agg (Bv.cells ⟨up + 1, se, sl⟩), .agg (Av.cells ⟨(actR es c room).2.er, (actR es c room).2.e, sx⟩), .int .i64 0]) ∧ OrE w' w.heap.size ⟨ea, en, ec⟩ es se (actR es c room).1 ∧ se.l ≤ se.k ∧ OrL w' w.heap.size ⟨la, ln, lc⟩ ls sl (if quest c then ls else noteS ls (lastOf c (up + 1) (actR es c room).2) false) ∧ OwE w' w.heap.size sx (actR es c room).2.l ∧ Kept No w w')) := hC
  rw [← hC]
  clear hC
  have hbad : badC c = false := by
    unfold refS at hr
    split at hr
    · cases hr
    · rename_i h; simpa using h
  have hu2 : up < 1048576 := by
    unfold refS at hr
    rw [hbad] at hr
    simp only [Bool.false_eq_true, if_false] at hr
    split at hr
    · cases hr
    · rename_i h; simpa using h
  simp only [badC, Bool.or_eq_false_iff, decide_eq_false_iff_not] at hbad
  have hi1 : inB c.k 1 7 = true := by simp only [inB, Bool.and_eq_true, decide_eq_true_eq]; omega
  have hi2 : inB c.cl 1 255 = true := by simp only [inB, Bool.and_eq_true, decide_eq_true_eq]; omega
  have hi3 : inB c.op 1 1099511627776 = true := by simp only [inB, Bool.and_eq_true, decide_eq_true_eq]; omega
  have hud : decide (1048576 ≤ up) = false := decide_eq_false (by omega)
  have HAN : Hid (∀ W, RdE W ⟨ea, en, ec⟩ es → Calls Try.prog 43 #[.slice ea en ec, .agg (Cm.cells c), .int .i64 room] W (fun e w' => ∃ sx s : Sl, e = .returned (.tuple #[.agg (Av.cells ⟨(actR es c room).2.er, (actR es c room).2.e, sx⟩), s.v]) ∧ OwE w' W.heap.size sx (actR es c room).2.l ∧ RdE w' s (actR es c room).1 ∧ ((s = ⟨ea, en, ec⟩ ∧ (actR es c room).1 = es) ∨ OwE w' W.heap.size s (actR es c room).1) ∧ s.l ≤ s.k ∧ Kept No W w')) := fun W h => by
    cases hq : pIs es c.nm
    · exact answered_no ea en ec es c room W h hec hb (by omega) (by omega) hq
    · exact answered_yes ea en ec es c room W h hec hb (by omega) (by omega) hq
  have HE : Hid (RdE w ⟨ea, en, ec⟩ es) := he
  have HL : Hid (RdL w ⟨la, ln, lc⟩ ls) := hl
  clear hr hbad he hl
  generalize actR es c room = R at HC HAN
  have HF : Hid (Fr No w w []) := Fr.start _ _
  go_enter Try.func26, Try.ntmps26
  go_upto_region 0 with fail
  refine WL.start ?_
  refine wp_runW (.pointer (some ⟨w.heap.size, 0, none⟩)) (w.alloc (.cells (Bv.cells ⟨up, ⟨ea, en, ec⟩, ⟨la, ln, lc⟩⟩) 25)) (exec_box 25 _ rfl (Bv.cells ⟨up, ⟨ea, en, ec⟩, ⟨la, ln, lc⟩⟩) (by kernel_rfl)) (by kernel_rfl) ?_
  try simp only [pA, pB, p1, p2, p3]
  have HF : Hid (Fr No w (w.alloc (.cells (Bv.cells ⟨up, ⟨ea, en, ec⟩, ⟨la, ln, lc⟩⟩) 25)) [(w.heap.size, 25, Bv.cells ⟨up, ⟨ea, en, ec⟩, ⟨la, ln, lc⟩⟩)]) := HF.out.alloc _ _
  generalize w.alloc (.cells (Bv.cells ⟨up, ⟨ea, en, ec⟩, ⟨la, ln, lc⟩⟩) 25) = wk2 at HF ⊢
  generalize w.heap.size = gk1 at HF ⊢
  refine wp_runW (.pointer (some ⟨wk2.heap.size, 0, none⟩)) (wk2.alloc (.cells (Cm.cells c) 29)) (exec_box 29 _ rfl (Cm.cells c) (by kernel_rfl)) (by kernel_rfl) ?_
  try simp only [pA, pB, p1, p2, p3]
  have HF : Hid (Fr No w (wk2.alloc (.cells (Cm.cells c) 29)) [(gk1, 25, Bv.cells ⟨up, ⟨ea, en, ec⟩, ⟨la, ln, lc⟩⟩), (wk2.heap.size, 29, Cm.cells c)]) := HF.out.alloc _ _
  generalize wk2.alloc (.cells (Cm.cells c) 29) = wk4 at HF ⊢
  generalize wk2.heap.size = gk3 at HF ⊢
  refine wp_runW (.pointer (some ⟨wk4.heap.size, 0, none⟩)) (wk4.alloc (.cells (Bv.cells bvZ) 25)) (exec_alloc 25 rfl (Bv.cells bvZ) zero25) (by kernel_rfl) ?_
  try simp only [pA, pB, p1, p2, p3]
  have HF : Hid (Fr No w (wk4.alloc (.cells (Bv.cells bvZ) 25)) [(gk1, 25, Bv.cells ⟨up, ⟨ea, en, ec⟩, ⟨la, ln, lc⟩⟩), (gk3, 29, Cm.cells c), (wk4.heap.size, 25, Bv.cells bvZ)]) := HF.out.alloc _ _
  generalize wk4.alloc (.cells (Bv.cells bvZ) 25) = wk6 at HF ⊢
  generalize wk4.heap.size = gk5 at HF ⊢
  refine wp_runW (.pointer (some ⟨wk6.heap.size, 0, none⟩)) (wk6.alloc (.cells (Av.cells avZ) 56)) (exec_alloc 56 rfl (Av.cells avZ) zero56) (by kernel_rfl) ?_
  try simp only [pA, pB, p1, p2, p3]
  have HF : Hid (Fr No w (wk6.alloc (.cells (Av.cells avZ) 56)) [(gk1, 25, Bv.cells ⟨up, ⟨ea, en, ec⟩, ⟨la, ln, lc⟩⟩), (gk3, 29, Cm.cells c), (gk5, 25, Bv.cells bvZ), (wk6.heap.size, 56, Av.cells avZ)]) := HF.out.alloc _ _
  generalize wk6.alloc (.cells (Av.cells avZ) 56) = wk8 at HF ⊢
  generalize wk6.heap.size = gk7 at HF ⊢
  refine tK (.int .i64 0) ?_
  try simp only [pA, pB, p1, p2, p3]
  refine WL.nil ?_
  try simp only [pA, pB, p1, p2, p3]
  go_upto_region 1 with fail
  refine WL.start ?_
  refine tK (.pointer (some ⟨gk3, 0, none⟩)) ?_
  refine tW (.int .i64 c.k) (exec_load 3 _ rfl ⟨gk3, 0, none⟩ (by kernel_rfl) (.int .i64 c.k) (ld3 ((HF.out.box 1 _ _ _ rfl).cell 0))) ?_
  try simp only [pA, pB, p1, p2, p3]
  refine wp_callW 28 #[.int .i64 c.k, .int .i64 1, .int .i64 7] (by kernel_rfl) _ (within_any _ _ _ _) (by kernel_rfl) ?_
  rintro e wq ⟨rfl, hwq⟩
  rw [hwq]
  clear hwq wq
  refine ⟨.bool true, by rw [hi1], ?_⟩
  try simp only [pA, pB, p1, p2, p3]
  refine tK (.bool false) ?_
  refine tK (.bool false) ?_
  refine tK (.pointer (some ⟨gk3, 1, none⟩)) ?_
  refine tW (.int .i64 c.cl) (exec_load 3 _ rfl ⟨gk3, 1, none⟩ (by kernel_rfl) (.int .i64 c.cl) (ld3 ((HF.out.box 1 _ _ _ rfl).cell 1))) ?_
  try simp only [pA, pB, p1, p2, p3]
  refine wp_callW 28 #[.int .i64 c.cl, .int .i64 1, .int .i64 255] (by kernel_rfl) _ (within_any _ _ _ _) (by kernel_rfl) ?_
  rintro e wq ⟨rfl, hwq⟩
  rw [hwq]
  clear hwq wq
  refine ⟨.bool true, by rw [hi2], ?_⟩
  try simp only [pA, pB, p1, p2, p3]
  refine tK (.bool false) ?_
  refine tK (.bool false) ?_
  refine tK (.bool false) ?_
  refine tK (.pointer (some ⟨gk3, 2, none⟩)) ?_
  refine tW (.int .i64 c.op) (exec_load 3 _ rfl ⟨gk3, 2, none⟩ (by kernel_rfl) (.int .i64 c.op) (ld3 ((HF.out.box 1 _ _ _ rfl).cell 2))) ?_
  try simp only [pA, pB, p1, p2, p3]
  refine wp_callW 28 #[.int .i64 c.op, .int .i64 1, .int .i64 1099511627776] (by kernel_rfl) _ (within_any _ _ _ _) (by kernel_rfl) ?_
  rintro e wq ⟨rfl, hwq⟩
  rw [hwq]
  clear hwq wq
  refine ⟨.bool true, by rw [hi3], ?_⟩
  try simp only [pA, pB, p1, p2, p3]
  refine tK (.bool false) ?_
  refine tK (.bool false) ?_
  try simp only [pA, pB, p1, p2, p3]
  refine WL.nil ?_
  try simp only [pA, pB, p1, p2, p3]
  go_upto_region 3 with fail
  refine WL.start ?_
  refine tK (.pointer (some ⟨gk1, 0, none⟩)) ?_
  refine tW (.int .i64 up) (exec_load 3 _ rfl ⟨gk1, 0, none⟩ (by kernel_rfl) (.int .i64 up) (ld3 ((HF.out.box 0 _ _ _ rfl).cell 0))) ?_
  refine tW (.bool false) (exec_bin .geq 3 _ _ _ rfl (.int .i64 up) (.int .i64 1048576) (.bool false) (by kernel_rfl) (by kernel_rfl) (by kernel_rfl) (by rw [b_geq, hud]; try rfl)) ?_
  try simp only [pA, pB, p1, p2, p3]
  refine WL.nil ?_
  try simp only [pA, pB, p1, p2, p3]
  go_upto_region 5 with fail
  refine WL.start ?_
  refine tK (.pointer (some ⟨gk1, 1, none⟩)) ?_
  refine tW (.slice ea en ec) (exec_load 22 _ rfl ⟨gk1, 1, none⟩ (by kernel_rfl) (.slice ea en ec) (ld22 ((HF.out.box 0 _ _ _ rfl).cell 1))) ?_
  refine tW (.agg (Cm.cells c)) (exec_load 29 _ rfl ⟨gk3, 0, none⟩ (by kernel_rfl) (.agg (Cm.cells c)) (ld29 (HF.out.box 1 _ _ _ rfl))) ?_
  refine tK (.int .i64 room) ?_
  try simp only [pA, pB, p1, p2, p3]
  refine wp_callW 43 #[.slice ea en ec, .agg (Cm.cells c), .int .i64 room] (by kernel_rfl) _ (HAN.out _ (HE.out.no HF.out.kept)) (by kernel_rfl) ?_
  rintro e wk9 ⟨⟨xa, xn, xc⟩, ⟨qa, qn, qc⟩, rfl, hX, hQ, hS, hle, hk⟩
  have HOX : Hid (OwE wk9 w.heap.size ⟨xa, xn, xc⟩ R.2.l) := hX.lower HF.out.kept.size
  have HQ : Hid (OrE wk9 w.heap.size ⟨ea, en, ec⟩ es ⟨qa, qn, qc⟩ R.1) := ⟨hS.imp id (fun h => h.lower HF.out.kept.size)⟩
  have HLe : Hid (qn ≤ qc) := hle
  have HF : Hid (Fr No w (wk9) [(gk1, 25, Bv.cells ⟨up, ⟨ea, en, ec⟩, ⟨la, ln, lc⟩⟩), (gk3, 29, Cm.cells c), (gk5, 25, Bv.cells bvZ), (gk7, 56, Av.cells avZ)]) := HF.out.no hk
  clear hX hQ hS hle hk HAN
  refine ⟨.tuple #[.agg (Av.cells ⟨R.2.er, R.2.e, ⟨xa, xn, xc⟩⟩), .slice qa qn qc], rfl, ?_⟩
  try simp only [pA, pB, p1, p2, p3]
  refine tK (.tuple #[.agg (Av.cells ⟨R.2.er, R.2.e, ⟨xa, xn, xc⟩⟩), .slice qa qn qc]) ?_
  refine tK (.agg (Av.cells ⟨R.2.er, R.2.e, ⟨xa, xn, xc⟩⟩)) ?_
  refine tK (.slice qa qn qc) ?_
  try simp only [pA, pB, p1, p2, p3]
  refine wp_runW (.pointer (some ⟨wk9.heap.size, 0, none⟩)) (wk9.alloc (.cells (Av.cells avZ) 56)) (exec_alloc 56 rfl (Av.cells avZ) zero56) (by kernel_rfl) ?_
  try simp only [pA, pB, p1, p2, p3]
  have HOX : Hid (OwE (wk9.alloc (.cells (Av.cells avZ) 56)) w.heap.size ⟨xa, xn, xc⟩ R.2.l) := HOX.out.no ((Kept.refl No _).alloc _)
  have HQ : Hid (OrE (wk9.alloc (.cells (Av.cells avZ) 56)) w.heap.size ⟨ea, en, ec⟩ es ⟨qa, qn, qc⟩ R.1) := HQ.out.no ((Kept.refl No _).alloc _)
  have HF : Hid (Fr No w (wk9.alloc (.cells (Av.cells avZ) 56)) [(gk1, 25, Bv.cells ⟨up, ⟨ea, en, ec⟩, ⟨la, ln, lc⟩⟩), (gk3, 29, Cm.cells c), (gk5, 25, Bv.cells bvZ), (gk7, 56, Av.cells avZ), (wk9.heap.size, 56, Av.cells avZ)]) := HF.out.alloc _ _
  generalize wk9.alloc (.cells (Av.cells avZ) 56) = wk11 at HF HOX HQ ⊢
  generalize wk9.heap.size = gk10 at HF ⊢
  refine wp_storeW 56 _ _ rfl ⟨gk10, 0, none⟩ (.agg (Av.cells ⟨R.2.er, R.2.e, ⟨xa, xn, xc⟩⟩)) (by kernel_rfl) (by kernel_rfl) (wk11.setRow gk10 (Av.cells ⟨R.2.er, R.2.e, ⟨xa, xn, xc⟩⟩)) (st56 (HF.out.box 4 _ _ _ rfl) rfl) (by kernel_rfl) ?_
  try simp only [pA, pB, p1, p2, p3]
  have HOX : Hid (OwE (wk11.setRow gk10 (Av.cells ⟨R.2.er, R.2.e, ⟨xa, xn, xc⟩⟩)) w.heap.size ⟨xa, xn, xc⟩ R.2.l) := HOX.out.kept (Kept.setRow _ _ _) (fun k h e => (HOX.out.own.notBox (HF.out.box 4 _ _ _ rfl) (by decide)) ((show k = gk10 from e) ▸ h))
  have HQ : Hid (OrE (wk11.setRow gk10 (Av.cells ⟨R.2.er, R.2.e, ⟨xa, xn, xc⟩⟩)) w.heap.size ⟨ea, en, ec⟩ es ⟨qa, qn, qc⟩ R.1) := HQ.out.row (HF.out.box 4 _ _ _ rfl) (by decide) _
  have HF : Hid (Fr No w (wk11.setRow gk10 (Av.cells ⟨R.2.er, R.2.e, ⟨xa, xn, xc⟩⟩)) [(gk1, 25, Bv.cells ⟨up, ⟨ea, en, ec⟩, ⟨la, ln, lc⟩⟩), (gk3, 29, Cm.cells c), (gk5, 25, Bv.cells bvZ), (gk7, 56, Av.cells avZ), (gk10, 56, Av.cells ⟨R.2.er, R.2.e, ⟨xa, xn, xc⟩⟩)]) := HF.out.set 4 rfl _
  generalize wk11.setRow gk10 (Av.cells ⟨R.2.er, R.2.e, ⟨xa, xn, xc⟩⟩) = wk12 at HF HOX HQ ⊢
  refine tK (.slice qa qn qc) ?_
  try simp only [pA, pB, p1, p2, p3]
  refine WL.nil ?_
  try simp only [pA, pB, p1, p2, p3]
  go_upto_region 6 with fail
  refine WL.start ?_
  refine tK (.pointer (some ⟨gk1, 0, none⟩)) ?_
  refine tW (.int .i64 up) (exec_load 3 _ rfl ⟨gk1, 0, none⟩ (by kernel_rfl) (.int .i64 up) (ld3 ((HF.out.box 0 _ _ _ rfl).cell 0))) ?_
  refine tW (.int .i64 (up + 1)) (exec_bin .add 3 _ _ _ rfl (.int .i64 up) (.int .i64 1) (.int .i64 (up + 1)) (by kernel_rfl) (by kernel_rfl) (by kernel_rfl) (b_up up hu1 hu2 _)) ?_
  refine tK (.slice qa qn qc) ?_
  refine tK (.pointer (some ⟨gk1, 2, none⟩)) ?_
  refine tW (.slice la ln lc) (exec_load 23 _ rfl ⟨gk1, 2, none⟩ (by kernel_rfl) (.slice la ln lc) (ld23 ((HF.out.box 0 _ _ _ rfl).cell 2))) ?_
  refine tW (.agg (Bv.cells ⟨(up + 1), ⟨qa, qn, qc⟩, ⟨la, ln, lc⟩⟩)) (exec_build 25 _ rfl (Bv.cells ⟨(up + 1), ⟨qa, qn, qc⟩, ⟨la, ln, lc⟩⟩) (by kernel_rfl)) ?_
  try simp only [pA, pB, p1, p2, p3]
  refine wp_runW (.pointer (some ⟨wk12.heap.size, 0, none⟩)) (wk12.alloc (.cells (Bv.cells bvZ) 25)) (exec_alloc 25 rfl (Bv.cells bvZ) zero25) (by kernel_rfl) ?_
  try simp only [pA, pB, p1, p2, p3]
  have HOX : Hid (OwE (wk12.alloc (.cells (Bv.cells bvZ) 25)) w.heap.size ⟨xa, xn, xc⟩ R.2.l) := HOX.out.no ((Kept.refl No _).alloc _)
  have HQ : Hid (OrE (wk12.alloc (.cells (Bv.cells bvZ) 25)) w.heap.size ⟨ea, en, ec⟩ es ⟨qa, qn, qc⟩ R.1) := HQ.out.no ((Kept.refl No _).alloc _)
  have HF : Hid (Fr No w (wk12.alloc (.cells (Bv.cells bvZ) 25)) [(gk1, 25, Bv.cells ⟨up, ⟨ea, en, ec⟩, ⟨la, ln, lc⟩⟩), (gk3, 29, Cm.cells c), (gk5, 25, Bv.cells bvZ), (gk7, 56, Av.cells avZ), (gk10, 56, Av.cells ⟨R.2.er, R.2.e, ⟨xa, xn, xc⟩⟩), (wk12.heap.size, 25, Bv.cells bvZ)]) := HF.out.alloc _ _
  generalize wk12.alloc (.cells (Bv.cells bvZ) 25) = wk14 at HF HOX HQ ⊢
  generalize wk12.heap.size = gk13 at HF ⊢
  refine wp_storeW 25 _ _ rfl ⟨gk13, 0, none⟩ (.agg (Bv.cells ⟨(up + 1), ⟨qa, qn, qc⟩, ⟨la, ln, lc⟩⟩)) (by kernel_rfl) (by kernel_rfl) (wk14.setRow gk13 (Bv.cells ⟨(up + 1), ⟨qa, qn, qc⟩, ⟨la, ln, lc⟩⟩)) (st25 (HF.out.box 5 _ _ _ rfl) rfl) (by kernel_rfl) ?_
  try simp only [pA, pB, p1, p2, p3]
  have HOX : Hid (OwE (wk14.setRow gk13 (Bv.cells ⟨(up + 1), ⟨qa, qn, qc⟩, ⟨la, ln, lc⟩⟩)) w.heap.size ⟨xa, xn, xc⟩ R.2.l) := HOX.out.kept (Kept.setRow _ _ _) (fun k h e => (HOX.out.own.notBox (HF.out.box 5 _ _ _ rfl) (by decide)) ((show k = gk13 from e) ▸ h))
  have HQ : Hid (OrE (wk14.setRow gk13 (Bv.cells ⟨(up + 1), ⟨qa, qn, qc⟩, ⟨la, ln, lc⟩⟩)) w.heap.size ⟨ea, en, ec⟩ es ⟨qa, qn, qc⟩ R.1) := HQ.out.row (HF.out.box 5 _ _ _ rfl) (by decide) _
  have HF : Hid (Fr No w (wk14.setRow gk13 (Bv.cells ⟨(up + 1), ⟨qa, qn, qc⟩, ⟨la, ln, lc⟩⟩)) [(gk1, 25, Bv.cells ⟨up, ⟨ea, en, ec⟩, ⟨la, ln, lc⟩⟩), (gk3, 29, Cm.cells c), (gk5, 25, Bv.cells bvZ), (gk7, 56, Av.cells avZ), (gk10, 56, Av.cells ⟨R.2.er, R.2.e, ⟨xa, xn, xc⟩⟩), (gk13, 25, Bv.cells ⟨(up + 1), ⟨qa, qn, qc⟩, ⟨la, ln, lc⟩⟩)]) := HF.out.set 5 rfl _
  generalize wk14.setRow gk13 (Bv.cells ⟨(up + 1), ⟨qa, qn, qc⟩, ⟨la, ln, lc⟩⟩) = wk15 at HF HOX HQ ⊢
  refine WL.nil ?_
  try simp only [pA, pB, p1, p2, p3]
  go_upto_region 7 with fail
  refine WL.start ?_
  refine tK (.pointer (some ⟨gk3, 0, none⟩)) ?_
  refine tW (.int .i64 c.k) (exec_load 3 _ rfl ⟨gk3, 0, none⟩ (by kernel_rfl) (.int .i64 c.k) (ld3 ((HF.out.box 1 _ _ _ rfl).cell 0))) ?_
  try simp only [pA, pB, p1, p2, p3]
  cases q1 : (c.k == 3)
  ·skip
   refine tW (.bool true) (exec_bin .neq 3 _ _ _ rfl (.int .i64 c.k) (.int .i64 3) (.bool true) (by kernel_rfl) (by kernel_rfl) (by kernel_rfl) (by rw [b_neq, q1]; try rfl)) ?_
   refine tK (.bool true) ?_
   refine tK (.pointer (some ⟨gk3, 0, none⟩)) ?_
   refine tW (.int .i64 c.k) (exec_load 3 _ rfl ⟨gk3, 0, none⟩ (by kernel_rfl) (.int .i64 c.k) (ld3 ((HF.out.box 1 _ _ _ rfl).cell 0))) ?_
   try simp only [pA, pB, p1, p2, p3]
   cases q2 : (c.k == 4)
   ·skip
    refine tW (.bool true) (exec_bin .neq 3 _ _ _ rfl (.int .i64 c.k) (.int .i64 4) (.bool true) (by kernel_rfl) (by kernel_rfl) (by kernel_rfl) (by rw [b_neq, q2]; try rfl)) ?_
    refine tK (.bool true) ?_
    try simp only [pA, pB, p1, p2, p3]
    refine WL.nil ?_
    try simp only [pA, pB, p1, p2, p3]
    go_upto_region 8 with fail
    refine WL.start ?_
    refine tK (.pointer (some ⟨gk1, 2, none⟩)) ?_
    refine tW (.slice la ln lc) (exec_load 23 _ rfl ⟨gk1, 2, none⟩ (by kernel_rfl) (.slice la ln lc) (ld23 ((HF.out.box 0 _ _ _ rfl).cell 2))) ?_
    refine tK (.pointer (some ⟨gk3, 1, none⟩)) ?_
    refine tW (.int .i64 c.cl) (exec_load 3 _ rfl ⟨gk3, 1, none⟩ (by kernel_rfl) (.int .i64 c.cl) (ld3 ((HF.out.box 1 _ _ _ rfl).cell 1))) ?_
    refine tK (.pointer (some ⟨gk3, 2, none⟩)) ?_
    refine tW (.int .i64 c.op) (exec_load 3 _ rfl ⟨gk3, 2, none⟩ (by kernel_rfl) (.int .i64 c.op) (ld3 ((HF.out.box 1 _ _ _ rfl).cell 2))) ?_
    refine tK (.pointer (some ⟨gk13, 0, none⟩)) ?_
    refine tW (.int .i64 (up + 1)) (exec_load 3 _ rfl ⟨gk13, 0, none⟩ (by kernel_rfl) (.int .i64 (up + 1)) (ld3 ((HF.out.box 5 _ _ _ rfl).cell 0))) ?_
    refine tK (.pointer (some ⟨gk10, 0, none⟩)) ?_
    refine tW (.int .i64 R.2.er) (exec_load 46 _ rfl ⟨gk10, 0, none⟩ (by kernel_rfl) (.int .i64 R.2.er) (ld46 ((HF.out.box 4 _ _ _ rfl).cell 0))) ?_
    refine tK (.pointer (some ⟨gk10, 1, none⟩)) ?_
    refine tK (.pointer (some ⟨gk10, 2, none⟩)) ?_
    refine tW (.agg (#[.int .i64 R.2.e.f0, .int .i64 R.2.e.f1])) (exec_load 27 _ rfl ⟨gk10, 2, none⟩ (by kernel_rfl) (.agg (#[.int .i64 R.2.e.f0, .int .i64 R.2.e.f1])) (ld27 (cs := Av.cs ⟨R.2.er, R.2.e, ⟨xa, xn, xc⟩⟩) (HF.out.box 4 _ _ _ rfl) rfl rfl)) ?_
    refine tK (.pointer (some ⟨gk10, 1, none⟩)) ?_
    refine tK (.pointer (some ⟨gk10, 4, none⟩)) ?_
    refine tW (.int .i64 R.2.e.sz) (exec_load 3 _ rfl ⟨gk10, 4, none⟩ (by kernel_rfl) (.int .i64 R.2.e.sz) (ld3 ((HF.out.box 4 _ _ _ rfl).cell 4))) ?_
    refine tW (.agg (La.cells ⟨c.cl, c.op, (up + 1), R.2.er, R.2.e.f0, R.2.e.f1, R.2.e.sz⟩)) (exec_build 64 _ rfl (La.cells ⟨c.cl, c.op, (up + 1), R.2.er, R.2.e.f0, R.2.e.f1, R.2.e.sz⟩) (by kernel_rfl)) ?_
    try simp only [pA, pB, p1, p2, p3]
    refine wp_callW 44 #[.slice la ln lc, .agg (La.cells ⟨c.cl, c.op, (up + 1), R.2.er, R.2.e.f0, R.2.e.f1, R.2.e.sz⟩)] (by kernel_rfl) _ (noted_any la ln lc ls ⟨c.cl, c.op, (up + 1), R.2.er, R.2.e.f0, R.2.e.f1, R.2.e.sz⟩ _ (HL.out.no HF.out.kept) (mul56 hbl)) (by kernel_rfl) ?_
    rintro e wk16 ⟨⟨ta, tn, tc⟩, rfl, hO, hk⟩
    have HT : Hid (OwL wk16 w.heap.size ⟨ta, tn, tc⟩ (noteS ls ⟨c.cl, c.op, (up + 1), R.2.er, R.2.e.f0, R.2.e.f1, R.2.e.sz⟩ false)) := hO.lower HF.out.kept.size
    have HOX : Hid (OwE (wk16) w.heap.size ⟨xa, xn, xc⟩ R.2.l) := HOX.out.no hk
    have HQ : Hid (OrE (wk16) w.heap.size ⟨ea, en, ec⟩ es ⟨qa, qn, qc⟩ R.1) := HQ.out.no hk
    have HF : Hid (Fr No w (wk16) [(gk1, 25, Bv.cells ⟨up, ⟨ea, en, ec⟩, ⟨la, ln, lc⟩⟩), (gk3, 29, Cm.cells c), (gk5, 25, Bv.cells bvZ), (gk7, 56, Av.cells avZ), (gk10, 56, Av.cells ⟨R.2.er, R.2.e, ⟨xa, xn, xc⟩⟩), (gk13, 25, Bv.cells ⟨(up + 1), ⟨qa, qn, qc⟩, ⟨la, ln, lc⟩⟩)]) := HF.out.no hk
    clear hO hk
    refine ⟨.slice ta tn tc, rfl, ?_⟩
    try simp only [pA, pB, p1, p2, p3]
    refine tK (.pointer (some ⟨gk13, 2, none⟩)) ?_
    try simp only [pA, pB, p1, p2, p3]
    refine wp_storeW 23 _ _ rfl ⟨gk13, 2, none⟩ (.slice ta tn tc) (by kernel_rfl) (by kernel_rfl) (wk16.setRow gk13 (Bv.cells ⟨(up + 1), ⟨qa, qn, qc⟩, ⟨ta, tn, tc⟩⟩)) (run_store_at (cur := Bv.cs ⟨(up + 1), ⟨qa, qn, qc⟩, ⟨la, ln, lc⟩⟩) (vs := [.slice ta tn tc]) (HF.out.box 5 _ _ _ rfl) rfl Try.size23 (by exact Nat.le_of_ble_eq_true rfl) (by simp [Value.oneCell'])) (by kernel_rfl) ?_
    try simp only [pA, pB, p1, p2, p3]
    have HOX : Hid (OwE (wk16.setRow gk13 (Bv.cells ⟨(up + 1), ⟨qa, qn, qc⟩, ⟨ta, tn, tc⟩⟩)) w.heap.size ⟨xa, xn, xc⟩ R.2.l) := HOX.out.kept (Kept.setRow _ _ _) (fun k h e => (HOX.out.own.notBox (HF.out.box 5 _ _ _ rfl) (by decide)) ((show k = gk13 from e) ▸ h))
    have HQ : Hid (OrE (wk16.setRow gk13 (Bv.cells ⟨(up + 1), ⟨qa, qn, qc⟩, ⟨ta, tn, tc⟩⟩)) w.heap.size ⟨ea, en, ec⟩ es ⟨qa, qn, qc⟩ R.1) := HQ.out.row (HF.out.box 5 _ _ _ rfl) (by decide) _
    have HT : Hid (OwL (wk16.setRow gk13 (Bv.cells ⟨(up + 1), ⟨qa, qn, qc⟩, ⟨ta, tn, tc⟩⟩)) w.heap.size ⟨ta, tn, tc⟩ (noteS ls ⟨c.cl, c.op, (up + 1), R.2.er, R.2.e.f0, R.2.e.f1, R.2.e.sz⟩ false)) := HT.out.kept (Kept.setRow _ _ _) (fun k h e => (HT.out.own.notBox (HF.out.box 5 _ _ _ rfl) (by decide)) ((show k = gk13 from e) ▸ h))
    have HF : Hid (Fr No w (wk16.setRow gk13 (Bv.cells ⟨(up + 1), ⟨qa, qn, qc⟩, ⟨ta, tn, tc⟩⟩)) [(gk1, 25, Bv.cells ⟨up, ⟨ea, en, ec⟩, ⟨la, ln, lc⟩⟩), (gk3, 29, Cm.cells c), (gk5, 25, Bv.cells bvZ), (gk7, 56, Av.cells avZ), (gk10, 56, Av.cells ⟨R.2.er, R.2.e, ⟨xa, xn, xc⟩⟩), (gk13, 25, Bv.cells ⟨(up + 1), ⟨qa, qn, qc⟩, ⟨ta, tn, tc⟩⟩)]) := HF.out.set 5 rfl _
    generalize wk16.setRow gk13 (Bv.cells ⟨(up + 1), ⟨qa, qn, qc⟩, ⟨ta, tn, tc⟩⟩) = wk17 at HF HOX HQ HT ⊢
    refine WL.nil ?_
    try simp only [pA, pB, p1, p2, p3]
    go_upto_region 9 with fail
    refine wp_region_held_drew (S := fun w' => Box w' gk10 56 (Av.cells ⟨R.2.er, R.2.e, ⟨xa, xn, xc⟩⟩) ∧ Box w' gk13 25 (Bv.cells ⟨(up + 1), ⟨qa, qn, qc⟩, ⟨ta, tn, tc⟩⟩)) rfl ⟨HF.out.box 4 _ _ _ rfl, HF.out.box 5 _ _ _ rfl⟩ (fun hH => ?_)
    have HOX : Hid (OwE (wk17.drew) w.heap.size ⟨xa, xn, xc⟩ R.2.l) := HOX.out.no (Kept.refl No _).drew
    have HQ : Hid (OrE (wk17.drew) w.heap.size ⟨ea, en, ec⟩ es ⟨qa, qn, qc⟩ R.1) := HQ.out.no (Kept.refl No _).drew
    have HT : Hid (OwL (wk17.drew) w.heap.size ⟨ta, tn, tc⟩ (noteS ls ⟨c.cl, c.op, (up + 1), R.2.er, R.2.e.f0, R.2.e.f1, R.2.e.sz⟩ false)) := HT.out.no (Kept.refl No _).drew
    have HF : Hid (Fr No w (wk17.drew) [(gk1, 25, Bv.cells ⟨up, ⟨ea, en, ec⟩, ⟨la, ln, lc⟩⟩), (gk3, 29, Cm.cells c), (gk5, 25, Bv.cells bvZ), (gk7, 56, Av.cells avZ), (gk10, 56, Av.cells ⟨R.2.er, R.2.e, ⟨xa, xn, xc⟩⟩), (gk13, 25, Bv.cells ⟨(up + 1), ⟨qa, qn, qc⟩, ⟨ta, tn, tc⟩⟩)]) := HF.out.drew
    generalize wk17.drew = wk18 at HF HOX HQ HT hH ⊢
    refine aT (i := 0) (oi := oqZf0) (v := .agg (Bv.cells ⟨(up + 1), ⟨qa, qn, qc⟩, ⟨ta, tn, tc⟩⟩)) (fun w' hw => exec_load 25 _ rfl ⟨gk13, 0, none⟩ (by kernel_rfl) (.agg (Bv.cells ⟨(up + 1), ⟨qa, qn, qc⟩, ⟨ta, tn, tc⟩⟩)) (ld25 hw.2)) hH ?_
    refine aT (i := 1) (oi := oqZf1) (v := .agg (Av.cells ⟨R.2.er, R.2.e, ⟨xa, xn, xc⟩⟩)) (fun w' hw => exec_load 56 _ rfl ⟨gk10, 0, none⟩ (by kernel_rfl) (.agg (Av.cells ⟨R.2.er, R.2.e, ⟨xa, xn, xc⟩⟩)) (ld56 hw.1)) hH ?_
    try simp only [pA, pB, p1, p2, p3]
    refine any_store (i := 2) (o := oqZf2) (w' := wk18.setRow gk5 (Bv.cells ⟨(up + 1), ⟨qa, qn, qc⟩, ⟨ta, tn, tc⟩⟩)) rfl (by kernel_rfl) (by kernel_rfl) 25 _ _ rfl ⟨gk5, 0, none⟩ (.agg (Bv.cells ⟨(up + 1), ⟨qa, qn, qc⟩, ⟨ta, tn, tc⟩⟩)) (by kernel_rfl) (by kernel_rfl) (st25 (HF.out.box 2 _ _ _ rfl) rfl) (⟨hH.1.rowNe (HF.out.ne 4 2 rfl rfl (by simp)) _, hH.2.rowNe (HF.out.ne 5 2 rfl rfl (by simp)) _⟩) (fun hH => ?_)
    try simp only [pA, pB, p1, p2, p3]
    have HOX : Hid (OwE (wk18.setRow gk5 (Bv.cells ⟨(up + 1), ⟨qa, qn, qc⟩, ⟨ta, tn, tc⟩⟩)) w.heap.size ⟨xa, xn, xc⟩ R.2.l) := HOX.out.kept (Kept.setRow _ _ _) (fun k h e => (HOX.out.own.notBox (HF.out.box 2 _ _ _ rfl) (by decide)) ((show k = gk5 from e) ▸ h))
    have HQ : Hid (OrE (wk18.setRow gk5 (Bv.cells ⟨(up + 1), ⟨qa, qn, qc⟩, ⟨ta, tn, tc⟩⟩)) w.heap.size ⟨ea, en, ec⟩ es ⟨qa, qn, qc⟩ R.1) := HQ.out.row (HF.out.box 2 _ _ _ rfl) (by decide) _
    have HT : Hid (OwL (wk18.setRow gk5 (Bv.cells ⟨(up + 1), ⟨qa, qn, qc⟩, ⟨ta, tn, tc⟩⟩)) w.heap.size ⟨ta, tn, tc⟩ (noteS ls ⟨c.cl, c.op, (up + 1), R.2.er, R.2.e.f0, R.2.e.f1, R.2.e.sz⟩ false)) := HT.out.kept (Kept.setRow _ _ _) (fun k h e => (HT.out.own.notBox (HF.out.box 2 _ _ _ rfl) (by decide)) ((show k = gk5 from e) ▸ h))
    have HF : Hid (Fr No w (wk18.setRow gk5 (Bv.cells ⟨(up + 1), ⟨qa, qn, qc⟩, ⟨ta, tn, tc⟩⟩)) [(gk1, 25, Bv.cells ⟨up, ⟨ea, en, ec⟩, ⟨la, ln, lc⟩⟩), (gk3, 29, Cm.cells c), (gk5, 25, Bv.cells ⟨(up + 1), ⟨qa, qn, qc⟩, ⟨ta, tn, tc⟩⟩), (gk7, 56, Av.cells avZ), (gk10, 56, Av.cells ⟨R.2.er, R.2.e, ⟨xa, xn, xc⟩⟩), (gk13, 25, Bv.cells ⟨(up + 1), ⟨qa, qn, qc⟩, ⟨ta, tn, tc⟩⟩)]) := HF.out.set 2 rfl _
    generalize wk18.setRow gk5 (Bv.cells ⟨(up + 1), ⟨qa, qn, qc⟩, ⟨ta, tn, tc⟩⟩) = wk19 at HF HOX HQ HT hH ⊢
    refine any_store (i := 3) (o := oqZf3) (w' := wk19.setRow gk7 (Av.cells ⟨R.2.er, R.2.e, ⟨xa, xn, xc⟩⟩)) rfl (by kernel_rfl) (by kernel_rfl) 56 _ _ rfl ⟨gk7, 0, none⟩ (.agg (Av.cells ⟨R.2.er, R.2.e, ⟨xa, xn, xc⟩⟩)) (by kernel_rfl) (by kernel_rfl) (st56 (HF.out.box 3 _ _ _ rfl) rfl) (⟨hH.1.rowNe (HF.out.ne 4 3 rfl rfl (by simp)) _, hH.2.rowNe (HF.out.ne 5 3 rfl rfl (by simp)) _⟩) (fun hH => ?_)
    try simp only [pA, pB, p1, p2, p3]
    have HOX : Hid (OwE (wk19.setRow gk7 (Av.cells ⟨R.2.er, R.2.e, ⟨xa, xn, xc⟩⟩)) w.heap.size ⟨xa, xn, xc⟩ R.2.l) := HOX.out.kept (Kept.setRow _ _ _) (fun k h e => (HOX.out.own.notBox (HF.out.box 3 _ _ _ rfl) (by decide)) ((show k = gk7 from e) ▸ h))
    have HQ : Hid (OrE (wk19.setRow gk7 (Av.cells ⟨R.2.er, R.2.e, ⟨xa, xn, xc⟩⟩)) w.heap.size ⟨ea, en, ec⟩ es ⟨qa, qn, qc⟩ R.1) := HQ.out.row (HF.out.box 3 _ _ _ rfl) (by decide) _
    have HT : Hid (OwL (wk19.setRow gk7 (Av.cells ⟨R.2.er, R.2.e, ⟨xa, xn, xc⟩⟩)) w.heap.size ⟨ta, tn, tc⟩ (noteS ls ⟨c.cl, c.op, (up + 1), R.2.er, R.2.e.f0, R.2.e.f1, R.2.e.sz⟩ false)) := HT.out.kept (Kept.setRow _ _ _) (fun k h e => (HT.out.own.notBox (HF.out.box 3 _ _ _ rfl) (by decide)) ((show k = gk7 from e) ▸ h))
    have HF : Hid (Fr No w (wk19.setRow gk7 (Av.cells ⟨R.2.er, R.2.e, ⟨xa, xn, xc⟩⟩)) [(gk1, 25, Bv.cells ⟨up, ⟨ea, en, ec⟩, ⟨la, ln, lc⟩⟩), (gk3, 29, Cm.cells c), (gk5, 25, Bv.cells ⟨(up + 1), ⟨qa, qn, qc⟩, ⟨ta, tn, tc⟩⟩), (gk7, 56, Av.cells ⟨R.2.er, R.2.e, ⟨xa, xn, xc⟩⟩), (gk10, 56, Av.cells ⟨R.2.er, R.2.e, ⟨xa, xn, xc⟩⟩), (gk13, 25, Bv.cells ⟨(up + 1), ⟨qa, qn, qc⟩, ⟨ta, tn, tc⟩⟩)]) := HF.out.set 3 rfl _
    generalize wk19.setRow gk7 (Av.cells ⟨R.2.er, R.2.e, ⟨xa, xn, xc⟩⟩) = wk20 at HF HOX HQ HT hH ⊢
    refine aT (i := 4) (oi := oqZf4) (v := .int .i64 0) (fun _ _ => by kernel_rfl) hH ?_
    try simp only [pA, pB, p1, p2, p3]
    refine wpAnyH_done (by kernel_rfl) ?_ _
    try simp only [pA, pB, p1, p2, p3]
    clear hH
    have hqu : quest c = false := by unfold quest; rw [q1, q2]; rfl
    go_wp2
    rw [HC.out]
    refine bodyPost_ret (results_row2_tmp (by rfl) _ _ gk5 gk7 (Bv.cells ⟨(up + 1), ⟨qa, qn, qc⟩, ⟨ta, tn, tc⟩⟩) (Av.cells ⟨R.2.er, R.2.e, ⟨xa, xn, xc⟩⟩) (by rfl) (by rfl) (ld25 (HF.out.box 2 _ _ _ rfl)) (ld56 (HF.out.box 3 _ _ _ rfl))) rfl ?_
    rw [hqu]
    exact ⟨⟨qa, qn, qc⟩, ⟨ta, tn, tc⟩, ⟨xa, xn, xc⟩, rfl, HQ.out, HLe.out, ⟨.inr HT.out⟩, HOX.out, HF.out.kept⟩
   ·skip
    refine tW (.bool false) (exec_bin .neq 3 _ _ _ rfl (.int .i64 c.k) (.int .i64 4) (.bool false) (by kernel_rfl) (by kernel_rfl) (by kernel_rfl) (by rw [b_neq, q2]; try rfl)) ?_
    refine tK (.bool false) ?_
    try simp only [pA, pB, p1, p2, p3]
    refine WL.nil ?_
    try simp only [pA, pB, p1, p2, p3]
    go_upto_region 9 with fail
    refine wp_region_held_drew (S := fun w' => Box w' gk10 56 (Av.cells ⟨R.2.er, R.2.e, ⟨xa, xn, xc⟩⟩) ∧ Box w' gk13 25 (Bv.cells ⟨(up + 1), ⟨qa, qn, qc⟩, ⟨la, ln, lc⟩⟩)) rfl ⟨HF.out.box 4 _ _ _ rfl, HF.out.box 5 _ _ _ rfl⟩ (fun hH => ?_)
    have HOX : Hid (OwE (wk15.drew) w.heap.size ⟨xa, xn, xc⟩ R.2.l) := HOX.out.no (Kept.refl No _).drew
    have HQ : Hid (OrE (wk15.drew) w.heap.size ⟨ea, en, ec⟩ es ⟨qa, qn, qc⟩ R.1) := HQ.out.no (Kept.refl No _).drew
    have HF : Hid (Fr No w (wk15.drew) [(gk1, 25, Bv.cells ⟨up, ⟨ea, en, ec⟩, ⟨la, ln, lc⟩⟩), (gk3, 29, Cm.cells c), (gk5, 25, Bv.cells bvZ), (gk7, 56, Av.cells avZ), (gk10, 56, Av.cells ⟨R.2.er, R.2.e, ⟨xa, xn, xc⟩⟩), (gk13, 25, Bv.cells ⟨(up + 1), ⟨qa, qn, qc⟩, ⟨la, ln, lc⟩⟩)]) := HF.out.drew
    generalize wk15.drew = wk21 at HF HOX HQ hH ⊢
    refine aT (i := 0) (oi := oqZf0) (v := .agg (Bv.cells ⟨(up + 1), ⟨qa, qn, qc⟩, ⟨la, ln, lc⟩⟩)) (fun w' hw => exec_load 25 _ rfl ⟨gk13, 0, none⟩ (by kernel_rfl) (.agg (Bv.cells ⟨(up + 1), ⟨qa, qn, qc⟩, ⟨la, ln, lc⟩⟩)) (ld25 hw.2)) hH ?_
    refine aT (i := 1) (oi := oqZf1) (v := .agg (Av.cells ⟨R.2.er, R.2.e, ⟨xa, xn, xc⟩⟩)) (fun w' hw => exec_load 56 _ rfl ⟨gk10, 0, none⟩ (by kernel_rfl) (.agg (Av.cells ⟨R.2.er, R.2.e, ⟨xa, xn, xc⟩⟩)) (ld56 hw.1)) hH ?_
    try simp only [pA, pB, p1, p2, p3]
    refine any_store (i := 2) (o := oqZf2) (w' := wk21.setRow gk5 (Bv.cells ⟨(up + 1), ⟨qa, qn, qc⟩, ⟨la, ln, lc⟩⟩)) rfl (by kernel_rfl) (by kernel_rfl) 25 _ _ rfl ⟨gk5, 0, none⟩ (.agg (Bv.cells ⟨(up + 1), ⟨qa, qn, qc⟩, ⟨la, ln, lc⟩⟩)) (by kernel_rfl) (by kernel_rfl) (st25 (HF.out.box 2 _ _ _ rfl) rfl) (⟨hH.1.rowNe (HF.out.ne 4 2 rfl rfl (by simp)) _, hH.2.rowNe (HF.out.ne 5 2 rfl rfl (by simp)) _⟩) (fun hH => ?_)
    try simp only [pA, pB, p1, p2, p3]
    have HOX : Hid (OwE (wk21.setRow gk5 (Bv.cells ⟨(up + 1), ⟨qa, qn, qc⟩, ⟨la, ln, lc⟩⟩)) w.heap.size ⟨xa, xn, xc⟩ R.2.l) := HOX.out.kept (Kept.setRow _ _ _) (fun k h e => (HOX.out.own.notBox (HF.out.box 2 _ _ _ rfl) (by decide)) ((show k = gk5 from e) ▸ h))
    have HQ : Hid (OrE (wk21.setRow gk5 (Bv.cells ⟨(up + 1), ⟨qa, qn, qc⟩, ⟨la, ln, lc⟩⟩)) w.heap.size ⟨ea, en, ec⟩ es ⟨qa, qn, qc⟩ R.1) := HQ.out.row (HF.out.box 2 _ _ _ rfl) (by decide) _
    have HF : Hid (Fr No w (wk21.setRow gk5 (Bv.cells ⟨(up + 1), ⟨qa, qn, qc⟩, ⟨la, ln, lc⟩⟩)) [(gk1, 25, Bv.cells ⟨up, ⟨ea, en, ec⟩, ⟨la, ln, lc⟩⟩), (gk3, 29, Cm.cells c), (gk5, 25, Bv.cells ⟨(up + 1), ⟨qa, qn, qc⟩, ⟨la, ln, lc⟩⟩), (gk7, 56, Av.cells avZ), (gk10, 56, Av.cells ⟨R.2.er, R.2.e, ⟨xa, xn, xc⟩⟩), (gk13, 25, Bv.cells ⟨(up + 1), ⟨qa, qn, qc⟩, ⟨la, ln, lc⟩⟩)]) := HF.out.set 2 rfl _
    generalize wk21.setRow gk5 (Bv.cells ⟨(up + 1), ⟨qa, qn, qc⟩, ⟨la, ln, lc⟩⟩) = wk22 at HF HOX HQ hH ⊢
    refine any_store (i := 3) (o := oqZf3) (w' := wk22.setRow gk7 (Av.cells ⟨R.2.er, R.2.e, ⟨xa, xn, xc⟩⟩)) rfl (by kernel_rfl) (by kernel_rfl) 56 _ _ rfl ⟨gk7, 0, none⟩ (.agg (Av.cells ⟨R.2.er, R.2.e, ⟨xa, xn, xc⟩⟩)) (by kernel_rfl) (by kernel_rfl) (st56 (HF.out.box 3 _ _ _ rfl) rfl) (⟨hH.1.rowNe (HF.out.ne 4 3 rfl rfl (by simp)) _, hH.2.rowNe (HF.out.ne 5 3 rfl rfl (by simp)) _⟩) (fun hH => ?_)
    try simp only [pA, pB, p1, p2, p3]
    have HOX : Hid (OwE (wk22.setRow gk7 (Av.cells ⟨R.2.er, R.2.e, ⟨xa, xn, xc⟩⟩)) w.heap.size ⟨xa, xn, xc⟩ R.2.l) := HOX.out.kept (Kept.setRow _ _ _) (fun k h e => (HOX.out.own.notBox (HF.out.box 3 _ _ _ rfl) (by decide)) ((show k = gk7 from e) ▸ h))
    have HQ : Hid (OrE (wk22.setRow gk7 (Av.cells ⟨R.2.er, R.2.e, ⟨xa, xn, xc⟩⟩)) w.heap.size ⟨ea, en, ec⟩ es ⟨qa, qn, qc⟩ R.1) := HQ.out.row (HF.out.box 3 _ _ _ rfl) (by decide) _
    have HF : Hid (Fr No w (wk22.setRow gk7 (Av.cells ⟨R.2.er, R.2.e, ⟨xa, xn, xc⟩⟩)) [(gk1, 25, Bv.cells ⟨up, ⟨ea, en, ec⟩, ⟨la, ln, lc⟩⟩), (gk3, 29, Cm.cells c), (gk5, 25, Bv.cells ⟨(up + 1), ⟨qa, qn, qc⟩, ⟨la, ln, lc⟩⟩), (gk7, 56, Av.cells ⟨R.2.er, R.2.e, ⟨xa, xn, xc⟩⟩), (gk10, 56, Av.cells ⟨R.2.er, R.2.e, ⟨xa, xn, xc⟩⟩), (gk13, 25, Bv.cells ⟨(up + 1), ⟨qa, qn, qc⟩, ⟨la, ln, lc⟩⟩)]) := HF.out.set 3 rfl _
    generalize wk22.setRow gk7 (Av.cells ⟨R.2.er, R.2.e, ⟨xa, xn, xc⟩⟩) = wk23 at HF HOX HQ hH ⊢
    refine aT (i := 4) (oi := oqZf4) (v := .int .i64 0) (fun _ _ => by kernel_rfl) hH ?_
    try simp only [pA, pB, p1, p2, p3]
    refine wpAnyH_done (by kernel_rfl) ?_ _
    try simp only [pA, pB, p1, p2, p3]
    clear hH
    have hqu : quest c = true := by unfold quest; rw [q1, q2]; rfl
    go_wp2
    rw [HC.out]
    refine bodyPost_ret (results_row2_tmp (by rfl) _ _ gk5 gk7 (Bv.cells ⟨(up + 1), ⟨qa, qn, qc⟩, ⟨la, ln, lc⟩⟩) (Av.cells ⟨R.2.er, R.2.e, ⟨xa, xn, xc⟩⟩) (by rfl) (by rfl) (ld25 (HF.out.box 2 _ _ _ rfl)) (ld56 (HF.out.box 3 _ _ _ rfl))) rfl ?_
    rw [hqu]
    exact ⟨⟨qa, qn, qc⟩, ⟨la, ln, lc⟩, ⟨xa, xn, xc⟩, rfl, HQ.out, HLe.out, ⟨.inl ⟨rfl, rfl⟩⟩, HOX.out, HF.out.kept⟩
  ·skip
   refine tW (.bool false) (exec_bin .neq 3 _ _ _ rfl (.int .i64 c.k) (.int .i64 3) (.bool false) (by kernel_rfl) (by kernel_rfl) (by kernel_rfl) (by rw [b_neq, q1]; try rfl)) ?_
   refine tK (.bool false) ?_
   refine sK ?_
   refine sK ?_
   refine sK ?_
   refine tK (.bool false) ?_
   try simp only [pA, pB, p1, p2, p3]
   refine WL.nil ?_
   try simp only [pA, pB, p1, p2, p3]
   go_upto_region 9 with fail
   refine wp_region_held_drew (S := fun w' => Box w' gk10 56 (Av.cells ⟨R.2.er, R.2.e, ⟨xa, xn, xc⟩⟩) ∧ Box w' gk13 25 (Bv.cells ⟨(up + 1), ⟨qa, qn, qc⟩, ⟨la, ln, lc⟩⟩)) rfl ⟨HF.out.box 4 _ _ _ rfl, HF.out.box 5 _ _ _ rfl⟩ (fun hH => ?_)
   have HOX : Hid (OwE (wk15.drew) w.heap.size ⟨xa, xn, xc⟩ R.2.l) := HOX.out.no (Kept.refl No _).drew
   have HQ : Hid (OrE (wk15.drew) w.heap.size ⟨ea, en, ec⟩ es ⟨qa, qn, qc⟩ R.1) := HQ.out.no (Kept.refl No _).drew
   have HF : Hid (Fr No w (wk15.drew) [(gk1, 25, Bv.cells ⟨up, ⟨ea, en, ec⟩, ⟨la, ln, lc⟩⟩), (gk3, 29, Cm.cells c), (gk5, 25, Bv.cells bvZ), (gk7, 56, Av.cells avZ), (gk10, 56, Av.cells ⟨R.2.er, R.2.e, ⟨xa, xn, xc⟩⟩), (gk13, 25, Bv.cells ⟨(up + 1), ⟨qa, qn, qc⟩, ⟨la, ln, lc⟩⟩)]) := HF.out.drew
   generalize wk15.drew = wk24 at HF HOX HQ hH ⊢
   refine aT (i := 0) (oi := oqZf0) (v := .agg (Bv.cells ⟨(up + 1), ⟨qa, qn, qc⟩, ⟨la, ln, lc⟩⟩)) (fun w' hw => exec_load 25 _ rfl ⟨gk13, 0, none⟩ (by kernel_rfl) (.agg (Bv.cells ⟨(up + 1), ⟨qa, qn, qc⟩, ⟨la, ln, lc⟩⟩)) (ld25 hw.2)) hH ?_
   refine aT (i := 1) (oi := oqZf1) (v := .agg (Av.cells ⟨R.2.er, R.2.e, ⟨xa, xn, xc⟩⟩)) (fun w' hw => exec_load 56 _ rfl ⟨gk10, 0, none⟩ (by kernel_rfl) (.agg (Av.cells ⟨R.2.er, R.2.e, ⟨xa, xn, xc⟩⟩)) (ld56 hw.1)) hH ?_
   try simp only [pA, pB, p1, p2, p3]
   refine any_store (i := 2) (o := oqZf2) (w' := wk24.setRow gk5 (Bv.cells ⟨(up + 1), ⟨qa, qn, qc⟩, ⟨la, ln, lc⟩⟩)) rfl (by kernel_rfl) (by kernel_rfl) 25 _ _ rfl ⟨gk5, 0, none⟩ (.agg (Bv.cells ⟨(up + 1), ⟨qa, qn, qc⟩, ⟨la, ln, lc⟩⟩)) (by kernel_rfl) (by kernel_rfl) (st25 (HF.out.box 2 _ _ _ rfl) rfl) (⟨hH.1.rowNe (HF.out.ne 4 2 rfl rfl (by simp)) _, hH.2.rowNe (HF.out.ne 5 2 rfl rfl (by simp)) _⟩) (fun hH => ?_)
   try simp only [pA, pB, p1, p2, p3]
   have HOX : Hid (OwE (wk24.setRow gk5 (Bv.cells ⟨(up + 1), ⟨qa, qn, qc⟩, ⟨la, ln, lc⟩⟩)) w.heap.size ⟨xa, xn, xc⟩ R.2.l) := HOX.out.kept (Kept.setRow _ _ _) (fun k h e => (HOX.out.own.notBox (HF.out.box 2 _ _ _ rfl) (by decide)) ((show k = gk5 from e) ▸ h))
   have HQ : Hid (OrE (wk24.setRow gk5 (Bv.cells ⟨(up + 1), ⟨qa, qn, qc⟩, ⟨la, ln, lc⟩⟩)) w.heap.size ⟨ea, en, ec⟩ es ⟨qa, qn, qc⟩ R.1) := HQ.out.row (HF.out.box 2 _ _ _ rfl) (by decide) _
   have HF : Hid (Fr No w (wk24.setRow gk5 (Bv.cells ⟨(up + 1), ⟨qa, qn, qc⟩, ⟨la, ln, lc⟩⟩)) [(gk1, 25, Bv.cells ⟨up, ⟨ea, en, ec⟩, ⟨la, ln, lc⟩⟩), (gk3, 29, Cm.cells c), (gk5, 25, Bv.cells ⟨(up + 1), ⟨qa, qn, qc⟩, ⟨la, ln, lc⟩⟩), (gk7, 56, Av.cells avZ), (gk10, 56, Av.cells ⟨R.2.er, R.2.e, ⟨xa, xn, xc⟩⟩), (gk13, 25, Bv.cells ⟨(up + 1), ⟨qa, qn, qc⟩, ⟨la, ln, lc⟩⟩)]) := HF.out.set 2 rfl _
   generalize wk24.setRow gk5 (Bv.cells ⟨(up + 1), ⟨qa, qn, qc⟩, ⟨la, ln, lc⟩⟩) = wk25 at HF HOX HQ hH ⊢
   refine any_store (i := 3) (o := oqZf3) (w' := wk25.setRow gk7 (Av.cells ⟨R.2.er, R.2.e, ⟨xa, xn, xc⟩⟩)) rfl (by kernel_rfl) (by kernel_rfl) 56 _ _ rfl ⟨gk7, 0, none⟩ (.agg (Av.cells ⟨R.2.er, R.2.e, ⟨xa, xn, xc⟩⟩)) (by kernel_rfl) (by kernel_rfl) (st56 (HF.out.box 3 _ _ _ rfl) rfl) (⟨hH.1.rowNe (HF.out.ne 4 3 rfl rfl (by simp)) _, hH.2.rowNe (HF.out.ne 5 3 rfl rfl (by simp)) _⟩) (fun hH => ?_)
   try simp only [pA, pB, p1, p2, p3]
   have HOX : Hid (OwE (wk25.setRow gk7 (Av.cells ⟨R.2.er, R.2.e, ⟨xa, xn, xc⟩⟩)) w.heap.size ⟨xa, xn, xc⟩ R.2.l) := HOX.out.kept (Kept.setRow _ _ _) (fun k h e => (HOX.out.own.notBox (HF.out.box 3 _ _ _ rfl) (by decide)) ((show k = gk7 from e) ▸ h))
   have HQ : Hid (OrE (wk25.setRow gk7 (Av.cells ⟨R.2.er, R.2.e, ⟨xa, xn, xc⟩⟩)) w.heap.size ⟨ea, en, ec⟩ es ⟨qa, qn, qc⟩ R.1) := HQ.out.row (HF.out.box 3 _ _ _ rfl) (by decide) _
   have HF : Hid (Fr No w (wk25.setRow gk7 (Av.cells ⟨R.2.er, R.2.e, ⟨xa, xn, xc⟩⟩)) [(gk1, 25, Bv.cells ⟨up, ⟨ea, en, ec⟩, ⟨la, ln, lc⟩⟩), (gk3, 29, Cm.cells c), (gk5, 25, Bv.cells ⟨(up + 1), ⟨qa, qn, qc⟩, ⟨la, ln, lc⟩⟩), (gk7, 56, Av.cells ⟨R.2.er, R.2.e, ⟨xa, xn, xc⟩⟩), (gk10, 56, Av.cells ⟨R.2.er, R.2.e, ⟨xa, xn, xc⟩⟩), (gk13, 25, Bv.cells ⟨(up + 1), ⟨qa, qn, qc⟩, ⟨la, ln, lc⟩⟩)]) := HF.out.set 3 rfl _
   generalize wk25.setRow gk7 (Av.cells ⟨R.2.er, R.2.e, ⟨xa, xn, xc⟩⟩) = wk26 at HF HOX HQ hH ⊢
   refine aT (i := 4) (oi := oqZf4) (v := .int .i64 0) (fun _ _ => by kernel_rfl) hH ?_
   try simp only [pA, pB, p1, p2, p3]
   refine wpAnyH_done (by kernel_rfl) ?_ _
   try simp only [pA, pB, p1, p2, p3]
   clear hH
   have hqu : quest c = true := by unfold quest; rw [q1]; exact Bool.true_or _
   go_wp2
   rw [HC.out]
   refine bodyPost_ret (results_row2_tmp (by rfl) _ _ gk5 gk7 (Bv.cells ⟨(up + 1), ⟨qa, qn, qc⟩, ⟨la, ln, lc⟩⟩) (Av.cells ⟨R.2.er, R.2.e, ⟨xa, xn, xc⟩⟩) (by rfl) (by rfl) (ld25 (HF.out.box 2 _ _ _ rfl)) (ld56 (HF.out.box 3 _ _ _ rfl))) rfl ?_
   rw [hqu]
   exact ⟨⟨qa, qn, qc⟩, ⟨la, ln, lc⟩, ⟨xa, xn, xc⟩, rfl, HQ.out, HLe.out, ⟨.inl ⟨rfl, rfl⟩⟩, HOX.out, HF.out.kept⟩
theorem refApply_yes (up : Int) (ea : Option Addr) (en ec : Nat) (la : Option Addr) (ln lc : Nat) (es : List En) (ls : List La) (c : Cm) (room : Int) (w : World) (hr : refS up c = 0) (he : RdE w ⟨ea, en, ec⟩ es) (hl : RdL w ⟨la, ln, lc⟩ ls) (hec : en ≤ ec) (hb : en + 1 ≤ 3518437208883) (hbl : ln + 1 ≤ 2513169434916) (hu1 : -9223372036854775808 ≤ up) : Calls Try.prog 26 #[.agg (Bv.cells ⟨up, ⟨ea, en, ec⟩, ⟨la, ln, lc⟩⟩), .agg (Cm.cells c), .int .i64 room] w (fun e w' => ∃ se sl sx : Sl, e = .returned (.tuple #[.agg (Bv.cells ⟨up + 1, se, sl⟩), .agg (Av.cells ⟨(actR es c room).2.er, (actR es c room).2.e, sx⟩), .int .i64 0]) ∧ RdE w' se (actR es c room).1 ∧ RdL w' sl (if quest c then ls else noteS ls (lastOf c (up + 1) (actR es c room).2) false) ∧ RdE w' sx (actR es c room).2.l ∧ Kept No w w') :=
  (refApply_mem up ea en ec la ln lc es ls c room w hr he hl hec hb hbl hu1).mono fun e w' ⟨se, sl, sx, h1, h2, _, h3, h4, h5⟩ => ⟨se, sl, sx, h1, h2.rd (he.no h5), h3.rd (hl.no h5), h4.rd, h5⟩

end Go.Proofs.Ytfemlnfknebalaa
