import Derived.Test.YtfemlnfknebalaaRc
import Derived.Test.YtfemlnfknebalaaZg
import Derived.Test.YtfemlnfknebalaaXa
import Derived.Test.YtfemlnfknebalaaTe
namespace Go.Proofs.Ytfemlnfknebalaa
open Go.RowKit
set_option linter.unusedVariables false
set_option linter.unusedSimpArgs false
@[reducible] def opRd0 : Oper := { dst := some 57, op := Op.load 25 (Operand.tmp 9), type := 25, pos := "law.go:77", after := #[], guard := none }
@[reducible] def opRd1 : Oper := { dst := some 58, op := Op.move (Operand.tmp 11), type := 46, pos := "law.go:77", after := #[], guard := none }
@[reducible] def opRd2 : Oper := { dst := some 59, op := Op.move (Operand.tmp 14), type := 3, pos := "law.go:77", after := #[], guard := none }
@[reducible] def opRd3 : Oper := { dst := some 60, op := Op.binOp BinOp.eql 3 (Operand.tmp 58) (Operand.tmp 59) 3, type := 4, pos := "law.go:77", after := #[{ on := 1, ground := Ground.data }, { on := 2, ground := Ground.data }], guard := none }
@[reducible] def opRd4 : Oper := { dst := some 61, op := Op.move (Operand.tmp 60), type := 4, pos := "law.go:77", after := #[{ on := 3, ground := Ground.data }], guard := none }
@[reducible] def opRd5 : Oper := { dst := some 62, op := Op.load 25 (Operand.tmp 9), type := 25, pos := "law.go:77", after := #[{ on := 4, ground := Ground.guard }], guard := some (4, true) }
@[reducible] def opRd6 : Oper := { dst := some 63, op := Op.load 25 (Operand.tmp 12), type := 25, pos := "law.go:77", after := #[{ on := 4, ground := Ground.guard }], guard := some (4, true) }
@[reducible] def opRd7 : Oper := { dst := some 64, op := Op.call { callee := Callee.value (Operand.func 15), args := #[Operand.tmp 62, Operand.tmp 63], argTypes := #[25, 25] }, type := 4, pos := "law.go:77", after := #[{ on := 5, ground := Ground.data }, { on := 6, ground := Ground.data }, { on := 4, ground := Ground.chain }, { on := 4, ground := Ground.guard }], guard := some (4, true) }
@[reducible] def opRd8 : Oper := { dst := some 65, op := Op.pick (Operand.tmp 61) (Operand.tmp 64) (Operand.const (Value.bool false)), type := 4, pos := "law.go:77", after := #[{ on := 4, ground := Ground.data }, { on := 7, ground := Ground.data }], guard := none }
@[reducible] def opRd9 : Oper := { dst := some 66, op := Op.move (Operand.tmp 65), type := 4, pos := "law.go:77", after := #[{ on := 8, ground := Ground.data }, { on := 7, ground := Ground.chain }], guard := none }
@[reducible] def opRd10 : Oper := { dst := some 67, op := Op.load 56 (Operand.tmp 10), type := 56, pos := "law.go:77", after := #[{ on := 9, ground := Ground.guard }], guard := some (9, true) }
@[reducible] def opRd11 : Oper := { dst := some 68, op := Op.load 56 (Operand.tmp 13), type := 56, pos := "law.go:77", after := #[{ on := 9, ground := Ground.guard }], guard := some (9, true) }
@[reducible] def opRd12 : Oper := { dst := some 69, op := Op.call { callee := Callee.value (Operand.func 27), args := #[Operand.tmp 67, Operand.tmp 68], argTypes := #[56, 56] }, type := 4, pos := "law.go:77", after := #[{ on := 10, ground := Ground.data }, { on := 11, ground := Ground.data }, { on := 9, ground := Ground.chain }, { on := 9, ground := Ground.guard }], guard := some (9, true) }
@[reducible] def opRd13 : Oper := { dst := some 70, op := Op.pick (Operand.tmp 66) (Operand.tmp 69) (Operand.const (Value.bool false)), type := 4, pos := "law.go:77", after := #[{ on := 9, ground := Ground.data }, { on := 12, ground := Ground.data }, { on := 14, ground := Ground.gcOnly Departure.lateStores }], guard := none }
@[reducible] def opRd14 : Oper := { dst := none, op := Op.store 25 (Operand.tmp 6) (Operand.tmp 57), type := 0, pos := "law.go:77", after := #[{ on := 0, ground := Ground.data }, { on := 12, ground := Ground.chain }, { on := 0, ground := Ground.phase }, { on := 1, ground := Ground.textOnly Departure.lateStores }, { on := 2, ground := Ground.textOnly Departure.lateStores }, { on := 3, ground := Ground.textOnly Departure.lateStores }, { on := 4, ground := Ground.textOnly Departure.lateStores }, { on := 5, ground := Ground.textOnly Departure.lateStores }, { on := 6, ground := Ground.textOnly Departure.lateStores }, { on := 7, ground := Ground.textOnly Departure.lateStoresUnsure }, { on := 8, ground := Ground.textOnly Departure.lateStores }, { on := 9, ground := Ground.textOnly Departure.lateStores }, { on := 10, ground := Ground.textOnly Departure.lateStores }, { on := 11, ground := Ground.textOnly Departure.lateStores }, { on := 12, ground := Ground.textOnly Departure.lateStoresUnsure }, { on := 13, ground := Ground.textOnly Departure.lateStores }], guard := none }
@[reducible] def opRd15 : Oper := { dst := some 7, op := Op.assign (Operand.tmp 70), type := 4, pos := "law.go:77", after := #[{ on := 13, ground := Ground.data }, { on := 14, ground := Ground.chain }, { on := 0, ground := Ground.phase }, { on := 1, ground := Ground.phase }, { on := 2, ground := Ground.phase }, { on := 3, ground := Ground.phase }, { on := 4, ground := Ground.phase }, { on := 5, ground := Ground.phase }, { on := 6, ground := Ground.phase }, { on := 7, ground := Ground.phase }, { on := 8, ground := Ground.phase }, { on := 9, ground := Ground.phase }, { on := 10, ground := Ground.phase }, { on := 11, ground := Ground.phase }, { on := 12, ground := Ground.phase }, { on := 13, ground := Ground.phase }, { on := 14, ground := Ground.phase }], guard := none }

theorem Fr.back {w0 w w' : World} {l : List (Nat × TypeId × Array Value)} {g h : Nat} {cg ch : Array Value} (hf : Fr No w0 w l) (hg : Box w g 54 cg) (hh : Box w h 64 ch) (g0 : w0.heap.size ≤ g) (h0 : w0.heap.size ≤ h) (hk : Kept (GH g h) w w') (hT : ∀ x ∈ l, x.2.1 ≠ 54 ∧ x.2.1 ≠ 64) : Fr No w0 w' l := by
  refine ⟨hf.kept.trans hk (fun _ e => e.elim) (fun i hi e => by rcases e with rfl | rfl <;> omega), fun i k T cs hi => ?_, hf.low, hf.inj⟩
  have hb := hf.box i k T cs hi
  have ht := hT _ (List.mem_of_getElem? hi)
  exact hb.kept hk (fun e => by
    rcases e with rfl | rfl
    · exact box_ne hb hg ht.1 rfl
    · exact box_ne hb hh ht.2 rfl)
theorem sameA_refl (r : Int) (x : En) (l : List En) : sameA r x l r x l = true := by
  unfold sameA
  rw [eqE_iff.2 rfl, sameE_iff.2 rfl]
  simp
theorem act_ll (es : List En) (c : Cm) (room : Int) : (actS es c room).2.l.length ≤ es.length := by
  unfold actS creS
  repeat' split
  all_goals first | exact Nat.le_refl _ | exact Nat.zero_le _ | skip
  unfold chgS
  split <;> exact Nat.zero_le _
theorem step_lens {up : Int} {es : List En} {ls : List La} (h : Good up es ls) (c : Cm) (room : Int) : (stepS ⟨up, es, ls⟩ c room).1.es.length ≤ 257 ∧ (stepS ⟨up, es, ls⟩ c room).1.ls.length ≤ 256 ∧ (stepS ⟨up, es, ls⟩ c room).2.l.length ≤ 256 := by
  have h1 := (act_rise h.re c room).2.2
  have h2 := (step_ls (b := ⟨up, es, ls⟩) h.rl c room).2.2
  have h3 := act_ll es c room
  have h4 := h.n
  have h5 := h.ln
  refine ⟨?_, ?_, ?_⟩
  · show (actS es c room).1.length ≤ 257; omega
  · have h2 : (stepS ⟨up, es, ls⟩ c room).1.ls.length ≤ ls.length + 1 := h2
    omega
  · show (actS es c room).2.l.length ≤ 256; omega
/-- What the reference makes of a bucket: where the bucket may be, the same. -/
theorem refOut (up : Int) (ea : Option Addr) (en ec : Nat) (la : Option Addr) (ln lc : Nat) (es : List En) (ls : List La) (c : Cm) (room : Int) (hr : refS up c = 0) (hec : en ≤ ec) (hb : en + 1 ≤ 3518437208883) (hbl : ln + 1 ≤ 2513169434916) (hu1 : -9223372036854775808 ≤ up) :
    ∃ q : Bk × An, (∀ w, RdE w ⟨ea, en, ec⟩ es → RdL w ⟨la, ln, lc⟩ ls → Calls Try.prog 26 #[.agg (Bv.cells ⟨up, ⟨ea, en, ec⟩, ⟨la, ln, lc⟩⟩), .agg (Cm.cells c), .int .i64 room] w (fun e w' => ∃ se sl sx : Sl, e = .returned (.tuple #[.agg (Bv.cells ⟨q.1.up, se, sl⟩), .agg (Av.cells ⟨q.2.er, q.2.e, sx⟩), .int .i64 0]) ∧ OrE w' w.heap.size ⟨ea, en, ec⟩ es se q.1.es ∧ se.l ≤ se.k ∧ OrL w' w.heap.size ⟨la, ln, lc⟩ ls sl q.1.ls ∧ OwE w' w.heap.size sx q.2.l ∧ Kept No w w')) ∧ (RiseE es → RiseL ls → q = stepS ⟨up, es, ls⟩ c room) := by
  refine ⟨(⟨up + 1, (actR es c room).1, if quest c then ls else noteS ls (lastOf c (up + 1) (actR es c room).2) false⟩, (actR es c room).2), fun w he hl => refApply_mem up ea en ec la ln lc es ls c room w hr he hl hec hb hbl hu1, fun hre hrl => ?_⟩
  rw [act_R hre]
  cases hq : quest c
  · rw [stepS_k hq, ← note_keep hrl]; rfl
  · rw [stepS_q hq]; rfl
set_option maxRecDepth 100000 in
set_option maxHeartbeats 4000000 in
theorem applied_yes (up : Int) (ea : Option Addr) (en ec : Nat) (la : Option Addr) (ln lc : Nat) (es : List En) (ls : List La) (c : Cm) (room : Int) (w : World) (he : RdE w ⟨ea, en, ec⟩ es) (hl : RdL w ⟨la, ln, lc⟩ ls) (hec : en ≤ ec) (hb : en + 1 ≤ 3518437208883) (hbl : ln + 1 ≤ 2513169434916) (hu1 : -9223372036854775808 ≤ up) (hr : refS up c = 0) : Calls Try.prog 9 #[.agg (Bv.cells ⟨up, ⟨ea, en, ec⟩, ⟨la, ln, lc⟩⟩), .agg (Cm.cells c), .int .i64 room] w (fun e w' => ∃ b : Bv, e = .returned (.tuple #[.agg b.cells, .bool true]) ∧ (RiseE es → RiseL ls → b.up = (stepS ⟨up, es, ls⟩ c room).1.up ∧ OrE w' w.heap.size ⟨ea, en, ec⟩ es b.e (stepS ⟨up, es, ls⟩ c room).1.es ∧ b.e.l ≤ b.e.k ∧ OrL w' w.heap.size ⟨la, ln, lc⟩ ls b.l (stepS ⟨up, es, ls⟩ c room).1.ls) ∧ Kept No w w') := by
  obtain ⟨C, hC⟩ : ∃ C : Ending → World → Prop, C = (fun e w' => ∃ b : Bv, e = .returned (.tuple #[.agg b.cells, .bool true]) ∧ (RiseE es → RiseL ls → b.up = (stepS ⟨up, es, ls⟩ c room).1.up ∧ OrE w' w.heap.size ⟨ea, en, ec⟩ es b.e (stepS ⟨up, es, ls⟩ c room).1.es ∧ b.e.l ≤ b.e.k ∧ OrL w' w.heap.size ⟨la, ln, lc⟩ ls b.l (stepS ⟨up, es, ls⟩ c room).1.ls) ∧ Kept No w w') := ⟨_, rfl⟩
  have HC : Hid (C = (fun e w' => ∃ b : Bv, e = .returned (.tuple #[.agg b.cells, .bool true]) ∧ (RiseE es → RiseL ls → b.up = (stepS ⟨up, es, ls⟩ c room).1.up ∧ OrE w' w.heap.size ⟨ea, en, ec⟩ es b.e (stepS ⟨up, es, ls⟩ c room).1.es ∧ b.e.l ≤ b.e.k ∧ OrL w' w.heap.size ⟨la, ln, lc⟩ ls b.l (stepS ⟨up, es, ls⟩ c room).1.ls) ∧ Kept No w w')) := hC
  rw [← hC]
  clear hC
  have HEL : Hid (es.length = en) := he.len
  have HLL : Hid (ls.length = ln) := hl.len
  have HE : Hid (RdE w ⟨ea, en, ec⟩ es) := he
  have HL : Hid (RdL w ⟨la, ln, lc⟩ ls) := hl
  have hbad : badC c = false := by
    unfold refS at hr
    split at hr
    · cases hr
    · rename_i h; simpa using h
  have hu2 : up < 1048576 := by
    unfold refS at hr
    rw [hbad] at hr
    simp only [Bool.false_eq_true, if_false] at hr
    split at hr
    · cases hr
    · rename_i h; simpa using h
  have hud : decide (up < 1048576) = true := decide_eq_true hu2
  obtain ⟨q, hq1, hq2⟩ := refOut up ea en ec la ln lc es ls c room hr hec hb hbl hu1
  have HAP : Hid (∀ W g h, Box W g 54 (enL (es ++ [markE])).toArray → Box W h 64 (laL (ls ++ [markL])).toArray → Calls Try.prog 22 #[.agg (Bv.cells ⟨up, ⟨(some ⟨g, 0, none⟩), en, (en + 1)⟩, ⟨(some ⟨h, 0, none⟩), ln, (ln + 1)⟩⟩), .agg (Cm.cells c), .int .i64 room] W (ApYes W (stepS ⟨up, es, ls⟩ c room))) := fun W g h h1 h2 => apply_yes up (some ⟨g, 0, none⟩) en (en + 1) (some ⟨h, 0, none⟩) ln (ln + 1) es ls c room W hr (lent_en h1 he.len (by omega)) (lent_la h2 hl.len (by omega)) (by omega) (by omega) hu1
  have HLN : Hid (Good up es ls → (stepS ⟨up, es, ls⟩ c room).1.es.length ≤ 257 ∧ (stepS ⟨up, es, ls⟩ c room).1.ls.length ≤ 256 ∧ (stepS ⟨up, es, ls⟩ c room).2.l.length ≤ 256) := fun h => step_lens h c room
  have HRF : Hid (∀ w, RdE w ⟨ea, en, ec⟩ es → RdL w ⟨la, ln, lc⟩ ls → Calls Try.prog 26 #[.agg (Bv.cells ⟨up, ⟨ea, en, ec⟩, ⟨la, ln, lc⟩⟩), .agg (Cm.cells c), .int .i64 room] w (fun e w' => ∃ se sl sx : Sl, e = .returned (.tuple #[.agg (Bv.cells ⟨q.1.up, se, sl⟩), .agg (Av.cells ⟨q.2.er, q.2.e, sx⟩), .int .i64 0]) ∧ OrE w' w.heap.size ⟨ea, en, ec⟩ es se q.1.es ∧ se.l ≤ se.k ∧ OrL w' w.heap.size ⟨la, ln, lc⟩ ls sl q.1.ls ∧ OwE w' w.heap.size sx q.2.l ∧ Kept No w w')) := hq1
  have HEQ : Hid (RiseE es → RiseL ls → q = stepS ⟨up, es, ls⟩ c room) := hq2
  clear he hl hr hq1 hq2
  generalize stepS ⟨up, es, ls⟩ c room = R at HAP HLN HEQ HC
  have HF : Hid (Fr No w w []) := Fr.start _ _
  go_enter Try.func9, Try.ntmps9
  go_upto_region 0 with fail
  refine WL.start ?_
  refine wp_runW (.pointer (some ⟨w.heap.size, 0, none⟩)) (w.alloc (.cells (Bv.cells ⟨up, ⟨ea, en, ec⟩, ⟨la, ln, lc⟩⟩) 25)) (exec_box 25 _ rfl (Bv.cells ⟨up, ⟨ea, en, ec⟩, ⟨la, ln, lc⟩⟩) (by kernel_rfl)) (by kernel_rfl) ?_
  try simp only [pA, pB, p1, p2, p3]
  have HF : Hid _ := HF.out.alloc 25 (Bv.cells ⟨up, ⟨ea, en, ec⟩, ⟨la, ln, lc⟩⟩)
  generalize w.alloc (.cells (Bv.cells ⟨up, ⟨ea, en, ec⟩, ⟨la, ln, lc⟩⟩) 25) = wk2 at HF ⊢
  generalize w.heap.size = gk1 at HF ⊢
  refine wp_runW (.pointer (some ⟨wk2.heap.size, 0, none⟩)) (wk2.alloc (.cells (Cm.cells c) 29)) (exec_box 29 _ rfl (Cm.cells c) (by kernel_rfl)) (by kernel_rfl) ?_
  try simp only [pA, pB, p1, p2, p3]
  have HF : Hid _ := HF.out.alloc 29 (Cm.cells c)
  generalize wk2.alloc (.cells (Cm.cells c) 29) = wk4 at HF ⊢
  generalize wk2.heap.size = gk3 at HF ⊢
  refine wp_runW (.pointer (some ⟨wk4.heap.size, 0, none⟩)) (wk4.alloc (.cells (Bv.cells bvZ) 25)) (exec_alloc 25 rfl (Bv.cells bvZ) zero25) (by kernel_rfl) ?_
  try simp only [pA, pB, p1, p2, p3]
  have HF : Hid _ := HF.out.alloc 25 (Bv.cells bvZ)
  generalize wk4.alloc (.cells (Bv.cells bvZ) 25) = wk6 at HF ⊢
  generalize wk4.heap.size = gk5 at HF ⊢
  refine tK (.bool false) ?_
  try simp only [pA, pB, p1, p2, p3]
  refine WL.nil ?_
  try simp only [pA, pB, p1, p2, p3]
  go_upto_region 1 with fail
  refine WL.start ?_
  refine tW (.agg (Bv.cells ⟨up, ⟨ea, en, ec⟩, ⟨la, ln, lc⟩⟩)) (exec_load 25 _ rfl ⟨gk1, 0, none⟩ (by kernel_rfl) (.agg (Bv.cells ⟨up, ⟨ea, en, ec⟩, ⟨la, ln, lc⟩⟩)) (ld25 (HF.out.box 0 _ _ _ rfl))) ?_
  try simp only [pA, pB, p1, p2, p3]
  refine wp_callW 17 #[.agg (Bv.cells ⟨up, ⟨ea, en, ec⟩, ⟨la, ln, lc⟩⟩)] (by kernel_rfl) _ (lend_any up ea en ec la ln lc es ls _ (HE.out.no HF.out.kept) (HL.out.no HF.out.kept) hb hbl) (by kernel_rfl) ?_
  rintro e wk7 ⟨g, h, rfl, hg0, hh0, hg, hh, hk⟩
  have hgl : w.heap.size ≤ g := Nat.le_trans HF.out.kept.size hg0
  have hhl : w.heap.size ≤ h := Nat.le_trans HF.out.kept.size hh0
  have HG : Hid (Box wk7 g 54 (enL (es ++ [markE])).toArray) := hg
  have HH : Hid (Box wk7 h 64 (laL (ls ++ [markL])).toArray) := hh
  have HF : Hid _ := HF.out.no hk
  clear hg0 hh0 hg hh hk
  refine ⟨.agg (Bv.cells ⟨up, ⟨(some ⟨g, 0, none⟩), en, (en + 1)⟩, ⟨(some ⟨h, 0, none⟩), ln, (ln + 1)⟩⟩), rfl, ?_⟩
  try simp only [pA, pB, p1, p2, p3]
  refine wp_runW (.pointer (some ⟨wk7.heap.size, 0, none⟩)) (wk7.alloc (.cells (Bv.cells bvZ) 25)) (exec_alloc 25 rfl (Bv.cells bvZ) zero25) (by kernel_rfl) ?_
  try simp only [pA, pB, p1, p2, p3]
  have HG : Hid (Box (wk7.alloc (.cells (Bv.cells bvZ) 25)) g 54 (enL (es ++ [markE])).toArray) := HG.out.no ((Kept.refl No _).alloc _)
  have HH : Hid (Box (wk7.alloc (.cells (Bv.cells bvZ) 25)) h 64 (laL (ls ++ [markL])).toArray) := HH.out.no ((Kept.refl No _).alloc _)
  have HF : Hid _ := HF.out.alloc 25 (Bv.cells bvZ)
  generalize wk7.alloc (.cells (Bv.cells bvZ) 25) = wk9 at HF HG HH ⊢
  generalize wk7.heap.size = gk8 at HF ⊢
  refine wp_storeW 25 _ _ rfl ⟨gk8, 0, none⟩ (.agg (Bv.cells ⟨up, ⟨(some ⟨g, 0, none⟩), en, (en + 1)⟩, ⟨(some ⟨h, 0, none⟩), ln, (ln + 1)⟩⟩)) (by kernel_rfl) (by kernel_rfl) (wk9.setRow gk8 (Bv.cells ⟨up, ⟨(some ⟨g, 0, none⟩), en, (en + 1)⟩, ⟨(some ⟨h, 0, none⟩), ln, (ln + 1)⟩⟩)) (st25 (HF.out.box 3 _ _ _ rfl) rfl) (by kernel_rfl) ?_
  try simp only [pA, pB, p1, p2, p3]
  have HG : Hid (Box (wk9.setRow gk8 (Bv.cells ⟨up, ⟨(some ⟨g, 0, none⟩), en, (en + 1)⟩, ⟨(some ⟨h, 0, none⟩), ln, (ln + 1)⟩⟩)) g 54 (enL (es ++ [markE])).toArray) := HG.out.rowNe (box_ne HG.out (HF.out.box 3 _ _ _ rfl) (by decide)) _
  have HH : Hid (Box (wk9.setRow gk8 (Bv.cells ⟨up, ⟨(some ⟨g, 0, none⟩), en, (en + 1)⟩, ⟨(some ⟨h, 0, none⟩), ln, (ln + 1)⟩⟩)) h 64 (laL (ls ++ [markL])).toArray) := HH.out.rowNe (box_ne HH.out (HF.out.box 3 _ _ _ rfl) (by decide)) _
  have HF : Hid _ := HF.out.set 3 rfl (Bv.cells ⟨up, ⟨(some ⟨g, 0, none⟩), en, (en + 1)⟩, ⟨(some ⟨h, 0, none⟩), ln, (ln + 1)⟩⟩)
  generalize wk9.setRow gk8 (Bv.cells ⟨up, ⟨(some ⟨g, 0, none⟩), en, (en + 1)⟩, ⟨(some ⟨h, 0, none⟩), ln, (ln + 1)⟩⟩) = wk10 at HF HG HH ⊢
  refine WL.nil ?_
  try simp only [pA, pB, p1, p2, p3]
  go_upto_region 2 with fail
  refine WL.start ?_
  refine tW (.agg (Bv.cells ⟨up, ⟨(some ⟨g, 0, none⟩), en, (en + 1)⟩, ⟨(some ⟨h, 0, none⟩), ln, (ln + 1)⟩⟩)) (exec_load 25 _ rfl ⟨gk8, 0, none⟩ (by kernel_rfl) (.agg (Bv.cells ⟨up, ⟨(some ⟨g, 0, none⟩), en, (en + 1)⟩, ⟨(some ⟨h, 0, none⟩), ln, (ln + 1)⟩⟩)) (ld25 (HF.out.box 3 _ _ _ rfl))) ?_
  try simp only [pA, pB, p1, p2, p3]
  refine tW (.agg (Cm.cells c)) (exec_load 29 _ rfl ⟨gk3, 0, none⟩ (by kernel_rfl) (.agg (Cm.cells c)) (ld29 (HF.out.box 1 _ _ _ rfl))) ?_
  try simp only [pA, pB, p1, p2, p3]
  refine tK (.int .i64 room) ?_
  try simp only [pA, pB, p1, p2, p3]
  refine wp_callW 22 #[.agg (Bv.cells ⟨up, ⟨(some ⟨g, 0, none⟩), en, (en + 1)⟩, ⟨(some ⟨h, 0, none⟩), ln, (ln + 1)⟩⟩), .agg (Cm.cells c), .int .i64 room] (by kernel_rfl) _ (HAP.out _ g h HG.out HH.out) (by kernel_rfl) ?_
  obtain ⟨b0, hb0⟩ : ∃ b, b = wk10.heap.size := ⟨_, rfl⟩
  rintro e wk11 ⟨⟨qa, qn, qc⟩, ⟨ra, rn, rc⟩, ⟨xa, xn, xc⟩, rfl, hO1, hO2, hO3, -, hk⟩
  have hgb : g < b0 := by rw [hb0]; exact HG.out.lt
  have hhb : h < b0 := by rw [hb0]; exact HH.out.lt
  have hwb : w.heap.size ≤ b0 := by rw [hb0]; exact HF.out.kept.size
  rw [← hb0] at hO1 hO2 hO3
  have HX1 : Hid (OwE wk11 b0 ⟨qa, qn, qc⟩ R.1.es) := hO1
  have HX2 : Hid (OwL wk11 b0 ⟨ra, rn, rc⟩ R.1.ls) := hO2
  have HX3 : Hid (OwE wk11 b0 ⟨xa, xn, xc⟩ R.2.l) := hO3
  have HG : Hid (Box (wk11) g 54 (enL (es ++ [markE])).toArray) := HG.out.no hk
  have HH : Hid (Box (wk11) h 64 (laL (ls ++ [markL])).toArray) := HH.out.no hk
  have HF : Hid _ := HF.out.no hk
  clear hO1 hO2 hO3 hk hb0 HAP
  refine ⟨.tuple #[.agg (Bv.cells ⟨R.1.up, ⟨qa, qn, qc⟩, ⟨ra, rn, rc⟩⟩), .agg (Av.cells ⟨R.2.er, R.2.e, ⟨xa, xn, xc⟩⟩), .int .i64 0], rfl, ?_⟩
  try simp only [pA, pB, p1, p2, p3]
  refine tK (.tuple #[.agg (Bv.cells ⟨R.1.up, ⟨qa, qn, qc⟩, ⟨ra, rn, rc⟩⟩), .agg (Av.cells ⟨R.2.er, R.2.e, ⟨xa, xn, xc⟩⟩), .int .i64 0]) ?_
  try simp only [pA, pB, p1, p2, p3]
  refine tK (.agg (Bv.cells ⟨R.1.up, ⟨qa, qn, qc⟩, ⟨ra, rn, rc⟩⟩)) ?_
  try simp only [pA, pB, p1, p2, p3]
  refine tK (.agg (Av.cells ⟨R.2.er, R.2.e, ⟨xa, xn, xc⟩⟩)) ?_
  try simp only [pA, pB, p1, p2, p3]
  refine tK (.int .i64 0) ?_
  try simp only [pA, pB, p1, p2, p3]
  refine wp_runW (.pointer (some ⟨wk11.heap.size, 0, none⟩)) (wk11.alloc (.cells (Bv.cells bvZ) 25)) (exec_alloc 25 rfl (Bv.cells bvZ) zero25) (by kernel_rfl) ?_
  try simp only [pA, pB, p1, p2, p3]
  have HG : Hid (Box (wk11.alloc (.cells (Bv.cells bvZ) 25)) g 54 (enL (es ++ [markE])).toArray) := HG.out.no ((Kept.refl No _).alloc _)
  have HH : Hid (Box (wk11.alloc (.cells (Bv.cells bvZ) 25)) h 64 (laL (ls ++ [markL])).toArray) := HH.out.no ((Kept.refl No _).alloc _)
  have HX1 : Hid _ := HX1.out.no ((Kept.refl No _).alloc (.cells (Bv.cells bvZ) 25))
  have HX2 : Hid _ := HX2.out.no ((Kept.refl No _).alloc (.cells (Bv.cells bvZ) 25))
  have HX3 : Hid _ := HX3.out.no ((Kept.refl No _).alloc (.cells (Bv.cells bvZ) 25))
  have HF : Hid _ := HF.out.alloc 25 (Bv.cells bvZ)
  generalize wk11.alloc (.cells (Bv.cells bvZ) 25) = wk13 at HF HG HH HX1 HX2 HX3 ⊢
  generalize wk11.heap.size = gk12 at HF ⊢
  refine wp_runW (.pointer (some ⟨wk13.heap.size, 0, none⟩)) (wk13.alloc (.cells (Av.cells avZ) 56)) (exec_alloc 56 rfl (Av.cells avZ) zero56) (by kernel_rfl) ?_
  try simp only [pA, pB, p1, p2, p3]
  have HG : Hid (Box (wk13.alloc (.cells (Av.cells avZ) 56)) g 54 (enL (es ++ [markE])).toArray) := HG.out.no ((Kept.refl No _).alloc _)
  have HH : Hid (Box (wk13.alloc (.cells (Av.cells avZ) 56)) h 64 (laL (ls ++ [markL])).toArray) := HH.out.no ((Kept.refl No _).alloc _)
  have HX1 : Hid _ := HX1.out.no ((Kept.refl No _).alloc (.cells (Av.cells avZ) 56))
  have HX2 : Hid _ := HX2.out.no ((Kept.refl No _).alloc (.cells (Av.cells avZ) 56))
  have HX3 : Hid _ := HX3.out.no ((Kept.refl No _).alloc (.cells (Av.cells avZ) 56))
  have HF : Hid _ := HF.out.alloc 56 (Av.cells avZ)
  generalize wk13.alloc (.cells (Av.cells avZ) 56) = wk15 at HF HG HH HX1 HX2 HX3 ⊢
  generalize wk13.heap.size = gk14 at HF ⊢
  refine wp_storeW 25 _ _ rfl ⟨gk12, 0, none⟩ (.agg (Bv.cells ⟨R.1.up, ⟨qa, qn, qc⟩, ⟨ra, rn, rc⟩⟩)) (by kernel_rfl) (by kernel_rfl) (wk15.setRow gk12 (Bv.cells ⟨R.1.up, ⟨qa, qn, qc⟩, ⟨ra, rn, rc⟩⟩)) (st25 (HF.out.box 4 _ _ _ rfl) rfl) (by kernel_rfl) ?_
  try simp only [pA, pB, p1, p2, p3]
  have HG : Hid (Box (wk15.setRow gk12 (Bv.cells ⟨R.1.up, ⟨qa, qn, qc⟩, ⟨ra, rn, rc⟩⟩)) g 54 (enL (es ++ [markE])).toArray) := HG.out.rowNe (box_ne HG.out (HF.out.box 4 _ _ _ rfl) (by decide)) _
  have HH : Hid (Box (wk15.setRow gk12 (Bv.cells ⟨R.1.up, ⟨qa, qn, qc⟩, ⟨ra, rn, rc⟩⟩)) h 64 (laL (ls ++ [markL])).toArray) := HH.out.rowNe (box_ne HH.out (HF.out.box 4 _ _ _ rfl) (by decide)) _
  have HX1 : Hid _ := HX1.out.kept (Kept.setRow _ _ (Bv.cells ⟨R.1.up, ⟨qa, qn, qc⟩, ⟨ra, rn, rc⟩⟩)) (fun k h e => (HX1.out.own.notBox (HF.out.box 4 _ _ _ rfl) (by decide)) ((show k = gk12 from e) ▸ h))
  have HX2 : Hid _ := HX2.out.kept (Kept.setRow _ _ (Bv.cells ⟨R.1.up, ⟨qa, qn, qc⟩, ⟨ra, rn, rc⟩⟩)) (fun k h e => (HX2.out.own.notBox (HF.out.box 4 _ _ _ rfl) (by decide)) ((show k = gk12 from e) ▸ h))
  have HX3 : Hid _ := HX3.out.kept (Kept.setRow _ _ (Bv.cells ⟨R.1.up, ⟨qa, qn, qc⟩, ⟨ra, rn, rc⟩⟩)) (fun k h e => (HX3.out.own.notBox (HF.out.box 4 _ _ _ rfl) (by decide)) ((show k = gk12 from e) ▸ h))
  have HF : Hid _ := HF.out.set 4 rfl (Bv.cells ⟨R.1.up, ⟨qa, qn, qc⟩, ⟨ra, rn, rc⟩⟩)
  generalize wk15.setRow gk12 (Bv.cells ⟨R.1.up, ⟨qa, qn, qc⟩, ⟨ra, rn, rc⟩⟩) = wk16 at HF HG HH HX1 HX2 HX3 ⊢
  refine wp_storeW 56 _ _ rfl ⟨gk14, 0, none⟩ (.agg (Av.cells ⟨R.2.er, R.2.e, ⟨xa, xn, xc⟩⟩)) (by kernel_rfl) (by kernel_rfl) (wk16.setRow gk14 (Av.cells ⟨R.2.er, R.2.e, ⟨xa, xn, xc⟩⟩)) (st56 (HF.out.box 5 _ _ _ rfl) rfl) (by kernel_rfl) ?_
  try simp only [pA, pB, p1, p2, p3]
  have HG : Hid (Box (wk16.setRow gk14 (Av.cells ⟨R.2.er, R.2.e, ⟨xa, xn, xc⟩⟩)) g 54 (enL (es ++ [markE])).toArray) := HG.out.rowNe (box_ne HG.out (HF.out.box 5 _ _ _ rfl) (by decide)) _
  have HH : Hid (Box (wk16.setRow gk14 (Av.cells ⟨R.2.er, R.2.e, ⟨xa, xn, xc⟩⟩)) h 64 (laL (ls ++ [markL])).toArray) := HH.out.rowNe (box_ne HH.out (HF.out.box 5 _ _ _ rfl) (by decide)) _
  have HX1 : Hid _ := HX1.out.kept (Kept.setRow _ _ (Av.cells ⟨R.2.er, R.2.e, ⟨xa, xn, xc⟩⟩)) (fun k h e => (HX1.out.own.notBox (HF.out.box 5 _ _ _ rfl) (by decide)) ((show k = gk14 from e) ▸ h))
  have HX2 : Hid _ := HX2.out.kept (Kept.setRow _ _ (Av.cells ⟨R.2.er, R.2.e, ⟨xa, xn, xc⟩⟩)) (fun k h e => (HX2.out.own.notBox (HF.out.box 5 _ _ _ rfl) (by decide)) ((show k = gk14 from e) ▸ h))
  have HX3 : Hid _ := HX3.out.kept (Kept.setRow _ _ (Av.cells ⟨R.2.er, R.2.e, ⟨xa, xn, xc⟩⟩)) (fun k h e => (HX3.out.own.notBox (HF.out.box 5 _ _ _ rfl) (by decide)) ((show k = gk14 from e) ▸ h))
  have HF : Hid _ := HF.out.set 5 rfl (Av.cells ⟨R.2.er, R.2.e, ⟨xa, xn, xc⟩⟩)
  generalize wk16.setRow gk14 (Av.cells ⟨R.2.er, R.2.e, ⟨xa, xn, xc⟩⟩) = wk17 at HF HG HH HX1 HX2 HX3 ⊢
  refine tK (.int .i64 0) ?_
  try simp only [pA, pB, p1, p2, p3]
  refine WL.nil ?_
  try simp only [pA, pB, p1, p2, p3]
  go_upto_region 3 with fail
  refine WL.start ?_
  refine tW (.agg (Bv.cells ⟨up, ⟨(some ⟨g, 0, none⟩), en, (en + 1)⟩, ⟨(some ⟨h, 0, none⟩), ln, (ln + 1)⟩⟩)) (exec_load 25 _ rfl ⟨gk8, 0, none⟩ (by kernel_rfl) (.agg (Bv.cells ⟨up, ⟨(some ⟨g, 0, none⟩), en, (en + 1)⟩, ⟨(some ⟨h, 0, none⟩), ln, (ln + 1)⟩⟩)) (ld25 (HF.out.box 3 _ _ _ rfl))) ?_
  try simp only [pA, pB, p1, p2, p3]
  refine tW (.agg (Bv.cells ⟨up, ⟨ea, en, ec⟩, ⟨la, ln, lc⟩⟩)) (exec_load 25 _ rfl ⟨gk1, 0, none⟩ (by kernel_rfl) (.agg (Bv.cells ⟨up, ⟨ea, en, ec⟩, ⟨la, ln, lc⟩⟩)) (ld25 (HF.out.box 0 _ _ _ rfl))) ?_
  try simp only [pA, pB, p1, p2, p3]
  refine wp_callW 19 #[.agg (Bv.cells ⟨up, ⟨(some ⟨g, 0, none⟩), en, (en + 1)⟩, ⟨(some ⟨h, 0, none⟩), ln, (ln + 1)⟩⟩), .agg (Bv.cells ⟨up, ⟨ea, en, ec⟩, ⟨la, ln, lc⟩⟩)] (by kernel_rfl) _ (back_any g h up ea en ec la ln lc es ls _ HG.out HH.out (HE.out.no HF.out.kept) (HL.out.no HF.out.kept) hb hbl) (by kernel_rfl) ?_
  rintro e wk18 ⟨rfl, hk⟩
  have HX1 : Hid (OwE wk18 b0 ⟨qa, qn, qc⟩ R.1.es) := HX1.out.kept hk (fun k hk' e => by have := HX1.out.own.base hk'; rcases e with rfl | rfl <;> omega)
  have HX2 : Hid (OwL wk18 b0 ⟨ra, rn, rc⟩ R.1.ls) := HX2.out.kept hk (fun k hk' e => by have := HX2.out.own.base hk'; rcases e with rfl | rfl <;> omega)
  have HX3 : Hid (OwE wk18 b0 ⟨xa, xn, xc⟩ R.2.l) := HX3.out.kept hk (fun k hk' e => by have := HX3.out.own.base hk'; rcases e with rfl | rfl <;> omega)
  have HF : Hid (Fr No w wk18 [(gk1, 25, Bv.cells ⟨up, ⟨ea, en, ec⟩, ⟨la, ln, lc⟩⟩), (gk3, 29, Cm.cells c), (gk5, 25, Bv.cells bvZ), (gk8, 25, Bv.cells ⟨up, ⟨(some ⟨g, 0, none⟩), en, (en + 1)⟩, ⟨(some ⟨h, 0, none⟩), ln, (ln + 1)⟩⟩), (gk12, 25, Bv.cells ⟨R.1.up, ⟨qa, qn, qc⟩, ⟨ra, rn, rc⟩⟩), (gk14, 56, Av.cells ⟨R.2.er, R.2.e, ⟨xa, xn, xc⟩⟩)]) := HF.out.back HG.out HH.out hgl hhl hk (by simp)
  clear hk HG HH hgl hhl hgb hhb
  refine ⟨.bool true, rfl, ?_⟩
  try simp only [pA, pB, p1, p2, p3]
  refine tK (.bool false) ?_
  try simp only [pA, pB, p1, p2, p3]
  refine WL.nil ?_
  try simp only [pA, pB, p1, p2, p3]
  go_upto_region 5 with fail
  refine WL.start ?_
  refine tW (.agg (Bv.cells ⟨up, ⟨ea, en, ec⟩, ⟨la, ln, lc⟩⟩)) (exec_load 25 _ rfl ⟨gk1, 0, none⟩ (by kernel_rfl) (.agg (Bv.cells ⟨up, ⟨ea, en, ec⟩, ⟨la, ln, lc⟩⟩)) (ld25 (HF.out.box 0 _ _ _ rfl))) ?_
  try simp only [pA, pB, p1, p2, p3]
  refine tW (.agg (Cm.cells c)) (exec_load 29 _ rfl ⟨gk3, 0, none⟩ (by kernel_rfl) (.agg (Cm.cells c)) (ld29 (HF.out.box 1 _ _ _ rfl))) ?_
  try simp only [pA, pB, p1, p2, p3]
  refine tK (.int .i64 room) ?_
  try simp only [pA, pB, p1, p2, p3]
  refine wp_callW 26 #[.agg (Bv.cells ⟨up, ⟨ea, en, ec⟩, ⟨la, ln, lc⟩⟩), .agg (Cm.cells c), .int .i64 room] (by kernel_rfl) _ (HRF.out _ (HE.out.no HF.out.kept) (HL.out.no HF.out.kept)) (by kernel_rfl) ?_
  have HS0 : Hid (w.heap.size ≤ wk18.heap.size) := HF.out.kept.size
  rintro e wk19 ⟨⟨ya, yn, yc⟩, ⟨za, zn, zc⟩, ⟨ta, tn, tc⟩, rfl, hO1, hO4, hO2, hO3, hk⟩
  have HQ1 : Hid (OrE wk19 w.heap.size ⟨ea, en, ec⟩ es ⟨ya, yn, yc⟩ q.1.es) := hO1.lower HS0.out
  have HQ2 : Hid (OrL wk19 w.heap.size ⟨la, ln, lc⟩ ls ⟨za, zn, zc⟩ q.1.ls) := hO2.lower HS0.out
  have HQ3 : Hid (OwE wk19 w.heap.size ⟨ta, tn, tc⟩ q.2.l) := hO3.lower HS0.out
  have HLe : Hid (yn ≤ yc) := hO4
  have HX1 : Hid _ := HX1.out.no hk
  have HX2 : Hid _ := HX2.out.no hk
  have HX3 : Hid _ := HX3.out.no hk
  have HF : Hid _ := HF.out.no hk
  clear hO1 hO2 hO3 hO4 hk HRF HS0
  refine ⟨.tuple #[.agg (Bv.cells ⟨q.1.up, ⟨ya, yn, yc⟩, ⟨za, zn, zc⟩⟩), .agg (Av.cells ⟨q.2.er, q.2.e, ⟨ta, tn, tc⟩⟩), .int .i64 0], rfl, ?_⟩
  try simp only [pA, pB, p1, p2, p3]
  refine tK (.tuple #[.agg (Bv.cells ⟨q.1.up, ⟨ya, yn, yc⟩, ⟨za, zn, zc⟩⟩), .agg (Av.cells ⟨q.2.er, q.2.e, ⟨ta, tn, tc⟩⟩), .int .i64 0]) ?_
  try simp only [pA, pB, p1, p2, p3]
  refine tK (.agg (Bv.cells ⟨q.1.up, ⟨ya, yn, yc⟩, ⟨za, zn, zc⟩⟩)) ?_
  try simp only [pA, pB, p1, p2, p3]
  refine tK (.agg (Av.cells ⟨q.2.er, q.2.e, ⟨ta, tn, tc⟩⟩)) ?_
  try simp only [pA, pB, p1, p2, p3]
  refine tK (.int .i64 0) ?_
  try simp only [pA, pB, p1, p2, p3]
  refine wp_runW (.pointer (some ⟨wk19.heap.size, 0, none⟩)) (wk19.alloc (.cells (Bv.cells bvZ) 25)) (exec_alloc 25 rfl (Bv.cells bvZ) zero25) (by kernel_rfl) ?_
  try simp only [pA, pB, p1, p2, p3]
  have HX1_s : Hid (OwE wk19 b0 ⟨qa, qn, qc⟩ R.1.es) := HX1
  have HX2_s : Hid (OwL wk19 b0 ⟨ra, rn, rc⟩ R.1.ls) := HX2
  have HX3_s : Hid (OwE wk19 b0 ⟨xa, xn, xc⟩ R.2.l) := HX3
  have HQ1_s : Hid (OrE wk19 w.heap.size ⟨ea, en, ec⟩ es ⟨ya, yn, yc⟩ q.1.es) := HQ1
  have HQ2_s : Hid (OrL wk19 w.heap.size ⟨la, ln, lc⟩ ls ⟨za, zn, zc⟩ q.1.ls) := HQ2
  have HQ3_s : Hid (OwE wk19 w.heap.size ⟨ta, tn, tc⟩ q.2.l) := HQ3
  have HKs : Hid (Kept No wk19 wk19) := Kept.refl _ _
  have HG_gk20 : Hid (wk19.heap.size ≤ wk19.heap.size) := Nat.le_refl _
  have HX1 : Hid _ := HX1.out.no ((Kept.refl No _).alloc (.cells (Bv.cells bvZ) 25))
  have HX2 : Hid _ := HX2.out.no ((Kept.refl No _).alloc (.cells (Bv.cells bvZ) 25))
  have HX3 : Hid _ := HX3.out.no ((Kept.refl No _).alloc (.cells (Bv.cells bvZ) 25))
  have HQ1 : Hid (OrE (wk19.alloc (.cells (Bv.cells bvZ) 25)) w.heap.size ⟨ea, en, ec⟩ es ⟨ya, yn, yc⟩ q.1.es) := HQ1.out.no ((Kept.refl No _).alloc _)
  have HQ2 : Hid (OrL (wk19.alloc (.cells (Bv.cells bvZ) 25)) w.heap.size ⟨la, ln, lc⟩ ls ⟨za, zn, zc⟩ q.1.ls) := HQ2.out.no ((Kept.refl No _).alloc _)
  have HQ3 : Hid _ := HQ3.out.no ((Kept.refl No _).alloc (.cells (Bv.cells bvZ) 25))
  have HKs : Hid _ := HKs.out.no ((Kept.refl No _).alloc (.cells (Bv.cells bvZ) 25))
  have HF : Hid _ := HF.out.alloc 25 (Bv.cells bvZ)
  generalize wk19.alloc (.cells (Bv.cells bvZ) 25) = wk21 at HF HX1 HX2 HX3 HQ1 HQ2 HQ3 HKs ⊢
  obtain ⟨gk20, hg⟩ : ∃ g, g = wk19.heap.size := ⟨_, rfl⟩
  have HG_gk20 : Hid (wk19.heap.size ≤ gk20) := by show _ ≤ _; rw [hg]; exact HG_gk20.out
  rw [← hg] at HF ⊢
  clear hg
  refine wp_runW (.pointer (some ⟨wk21.heap.size, 0, none⟩)) (wk21.alloc (.cells (Av.cells avZ) 56)) (exec_alloc 56 rfl (Av.cells avZ) zero56) (by kernel_rfl) ?_
  try simp only [pA, pB, p1, p2, p3]
  have HG_gk22 : Hid (wk19.heap.size ≤ wk21.heap.size) := HKs.out.size
  have HX1 : Hid _ := HX1.out.no ((Kept.refl No _).alloc (.cells (Av.cells avZ) 56))
  have HX2 : Hid _ := HX2.out.no ((Kept.refl No _).alloc (.cells (Av.cells avZ) 56))
  have HX3 : Hid _ := HX3.out.no ((Kept.refl No _).alloc (.cells (Av.cells avZ) 56))
  have HQ1 : Hid (OrE (wk21.alloc (.cells (Av.cells avZ) 56)) w.heap.size ⟨ea, en, ec⟩ es ⟨ya, yn, yc⟩ q.1.es) := HQ1.out.no ((Kept.refl No _).alloc _)
  have HQ2 : Hid (OrL (wk21.alloc (.cells (Av.cells avZ) 56)) w.heap.size ⟨la, ln, lc⟩ ls ⟨za, zn, zc⟩ q.1.ls) := HQ2.out.no ((Kept.refl No _).alloc _)
  have HQ3 : Hid _ := HQ3.out.no ((Kept.refl No _).alloc (.cells (Av.cells avZ) 56))
  have HKs : Hid _ := HKs.out.no ((Kept.refl No _).alloc (.cells (Av.cells avZ) 56))
  have HF : Hid _ := HF.out.alloc 56 (Av.cells avZ)
  generalize wk21.alloc (.cells (Av.cells avZ) 56) = wk23 at HF HX1 HX2 HX3 HQ1 HQ2 HQ3 HKs ⊢
  obtain ⟨gk22, hg⟩ : ∃ g, g = wk21.heap.size := ⟨_, rfl⟩
  have HG_gk22 : Hid (wk19.heap.size ≤ gk22) := by show _ ≤ _; rw [hg]; exact HG_gk22.out
  rw [← hg] at HF ⊢
  clear hg
  refine wp_storeW 25 _ _ rfl ⟨gk20, 0, none⟩ (.agg (Bv.cells ⟨q.1.up, ⟨ya, yn, yc⟩, ⟨za, zn, zc⟩⟩)) (by kernel_rfl) (by kernel_rfl) (wk23.setRow gk20 (Bv.cells ⟨q.1.up, ⟨ya, yn, yc⟩, ⟨za, zn, zc⟩⟩)) (st25 (HF.out.box 6 _ _ _ rfl) rfl) (by kernel_rfl) ?_
  try simp only [pA, pB, p1, p2, p3]
  have HX1 : Hid _ := HX1_s.out.no (HKs.out.newRow HG_gk20.out (Bv.cells ⟨q.1.up, ⟨ya, yn, yc⟩, ⟨za, zn, zc⟩⟩))
  have HX2 : Hid _ := HX2_s.out.no (HKs.out.newRow HG_gk20.out (Bv.cells ⟨q.1.up, ⟨ya, yn, yc⟩, ⟨za, zn, zc⟩⟩))
  have HX3 : Hid _ := HX3_s.out.no (HKs.out.newRow HG_gk20.out (Bv.cells ⟨q.1.up, ⟨ya, yn, yc⟩, ⟨za, zn, zc⟩⟩))
  have HQ1 : Hid (OrE (wk23.setRow gk20 (Bv.cells ⟨q.1.up, ⟨ya, yn, yc⟩, ⟨za, zn, zc⟩⟩)) w.heap.size ⟨ea, en, ec⟩ es ⟨ya, yn, yc⟩ q.1.es) := HQ1_s.out.no (HKs.out.newRow HG_gk20.out _)
  have HQ2 : Hid (OrL (wk23.setRow gk20 (Bv.cells ⟨q.1.up, ⟨ya, yn, yc⟩, ⟨za, zn, zc⟩⟩)) w.heap.size ⟨la, ln, lc⟩ ls ⟨za, zn, zc⟩ q.1.ls) := HQ2_s.out.no (HKs.out.newRow HG_gk20.out _)
  have HQ3 : Hid _ := HQ3_s.out.no (HKs.out.newRow HG_gk20.out (Bv.cells ⟨q.1.up, ⟨ya, yn, yc⟩, ⟨za, zn, zc⟩⟩))
  have HKs : Hid _ := HKs.out.newRow HG_gk20.out (Bv.cells ⟨q.1.up, ⟨ya, yn, yc⟩, ⟨za, zn, zc⟩⟩)
  have HF : Hid _ := HF.out.set 6 rfl (Bv.cells ⟨q.1.up, ⟨ya, yn, yc⟩, ⟨za, zn, zc⟩⟩)
  generalize wk23.setRow gk20 (Bv.cells ⟨q.1.up, ⟨ya, yn, yc⟩, ⟨za, zn, zc⟩⟩) = wk24 at HF HX1 HX2 HX3 HQ1 HQ2 HQ3 HKs ⊢
  refine wp_storeW 56 _ _ rfl ⟨gk22, 0, none⟩ (.agg (Av.cells ⟨q.2.er, q.2.e, ⟨ta, tn, tc⟩⟩)) (by kernel_rfl) (by kernel_rfl) (wk24.setRow gk22 (Av.cells ⟨q.2.er, q.2.e, ⟨ta, tn, tc⟩⟩)) (st56 (HF.out.box 7 _ _ _ rfl) rfl) (by kernel_rfl) ?_
  try simp only [pA, pB, p1, p2, p3]
  have HX1 : Hid _ := HX1_s.out.no (HKs.out.newRow HG_gk22.out (Av.cells ⟨q.2.er, q.2.e, ⟨ta, tn, tc⟩⟩))
  have HX2 : Hid _ := HX2_s.out.no (HKs.out.newRow HG_gk22.out (Av.cells ⟨q.2.er, q.2.e, ⟨ta, tn, tc⟩⟩))
  have HX3 : Hid _ := HX3_s.out.no (HKs.out.newRow HG_gk22.out (Av.cells ⟨q.2.er, q.2.e, ⟨ta, tn, tc⟩⟩))
  have HQ1 : Hid (OrE (wk24.setRow gk22 (Av.cells ⟨q.2.er, q.2.e, ⟨ta, tn, tc⟩⟩)) w.heap.size ⟨ea, en, ec⟩ es ⟨ya, yn, yc⟩ q.1.es) := HQ1_s.out.no (HKs.out.newRow HG_gk22.out _)
  have HQ2 : Hid (OrL (wk24.setRow gk22 (Av.cells ⟨q.2.er, q.2.e, ⟨ta, tn, tc⟩⟩)) w.heap.size ⟨la, ln, lc⟩ ls ⟨za, zn, zc⟩ q.1.ls) := HQ2_s.out.no (HKs.out.newRow HG_gk22.out _)
  have HQ3 : Hid _ := HQ3_s.out.no (HKs.out.newRow HG_gk22.out (Av.cells ⟨q.2.er, q.2.e, ⟨ta, tn, tc⟩⟩))
  have HKs : Hid _ := HKs.out.newRow HG_gk22.out (Av.cells ⟨q.2.er, q.2.e, ⟨ta, tn, tc⟩⟩)
  have HF : Hid _ := HF.out.set 7 rfl (Av.cells ⟨q.2.er, q.2.e, ⟨ta, tn, tc⟩⟩)
  generalize wk24.setRow gk22 (Av.cells ⟨q.2.er, q.2.e, ⟨ta, tn, tc⟩⟩) = wk25 at HF HX1 HX2 HX3 HQ1 HQ2 HQ3 HKs ⊢
  refine tK (.int .i64 0) ?_
  try simp only [pA, pB, p1, p2, p3]
  refine WL.nil ?_
  try simp only [pA, pB, p1, p2, p3]
  clear HKs HX1_s HX2_s HX3_s HQ1_s HQ2_s HQ3_s HG_gk20 HG_gk22
  go_upto_region 6 with fail
  refine WL.start ?_
  refine tW (.agg (Cm.cells c)) (exec_load 29 _ rfl ⟨gk3, 0, none⟩ (by kernel_rfl) (.agg (Cm.cells c)) (ld29 (HF.out.box 1 _ _ _ rfl))) ?_
  try simp only [pA, pB, p1, p2, p3]
  refine wp_callW 16 #[.agg (Cm.cells c)] (by kernel_rfl) _ (wrong_any c _) (by kernel_rfl) ?_
  rintro e wk26 ⟨rfl, hk⟩
  have HX1 : Hid _ := HX1.out.no hk
  have HX2 : Hid _ := HX2.out.no hk
  have HX3 : Hid _ := HX3.out.no hk
  have HQ1 : Hid (OrE (wk26) w.heap.size ⟨ea, en, ec⟩ es ⟨ya, yn, yc⟩ q.1.es) := HQ1.out.no hk
  have HQ2 : Hid (OrL (wk26) w.heap.size ⟨la, ln, lc⟩ ls ⟨za, zn, zc⟩ q.1.ls) := HQ2.out.no hk
  have HQ3 : Hid _ := HQ3.out.no hk
  have HF : Hid _ := HF.out.no hk
  clear hk
  refine ⟨.bool false, by rw [hbad], ?_⟩
  try simp only [pA, pB, p1, p2, p3]
  refine tK (.bool true) ?_
  try simp only [pA, pB, p1, p2, p3]
  refine tK (.bool true) ?_
  try simp only [pA, pB, p1, p2, p3]
  refine tK (.pointer (some ⟨gk1, 0, none⟩)) ?_
  try simp only [pA, pB, p1, p2, p3]
  refine tW (.int .i64 up) (exec_load 3 _ rfl ⟨gk1, 0, none⟩ (by kernel_rfl) (.int .i64 up) (ld3 ((HF.out.box 0 _ _ _ rfl).cell 0))) ?_
  try simp only [pA, pB, p1, p2, p3]
  refine tW (.bool true) (exec_bin .lss 3 _ _ _ rfl (.int .i64 up) (.int .i64 1048576) (.bool true) (by kernel_rfl) (by kernel_rfl) (by kernel_rfl) (by rw [b_lss, hud]; try rfl)) ?_
  try simp only [pA, pB, p1, p2, p3]
  refine tK (.bool true) ?_
  try simp only [pA, pB, p1, p2, p3]
  refine tK (.bool true) ?_
  try simp only [pA, pB, p1, p2, p3]
  refine tW (.agg (Bv.cells ⟨up, ⟨ea, en, ec⟩, ⟨la, ln, lc⟩⟩)) (exec_load 25 _ rfl ⟨gk1, 0, none⟩ (by kernel_rfl) (.agg (Bv.cells ⟨up, ⟨ea, en, ec⟩, ⟨la, ln, lc⟩⟩)) (ld25 (HF.out.box 0 _ _ _ rfl))) ?_
  try simp only [pA, pB, p1, p2, p3]
  cases q1 : (bktB up es ls)
  ·skip
   refine wp_callW 11 #[.agg (Bv.cells ⟨up, ⟨ea, en, ec⟩, ⟨la, ln, lc⟩⟩)] (by kernel_rfl) _ (bucket_any up ea en ec la ln lc es ls _ (HE.out.no HF.out.kept) (HL.out.no HF.out.kept) (by omega) (by omega)) (by kernel_rfl) ?_
   rintro e wk27 ⟨rfl, hk⟩
   have HX1 : Hid _ := HX1.out.no hk
   have HX2 : Hid _ := HX2.out.no hk
   have HX3 : Hid _ := HX3.out.no hk
   have HQ1 : Hid (OrE (wk27) w.heap.size ⟨ea, en, ec⟩ es ⟨ya, yn, yc⟩ q.1.es) := HQ1.out.no hk
   have HQ2 : Hid (OrL (wk27) w.heap.size ⟨la, ln, lc⟩ ls ⟨za, zn, zc⟩ q.1.ls) := HQ2.out.no hk
   have HQ3 : Hid _ := HQ3.out.no hk
   have HF : Hid _ := HF.out.no hk
   clear hk
   refine ⟨.bool false, by rw [q1], ?_⟩
   try simp only [pA, pB, p1, p2, p3]
   refine tK (.bool true) ?_
   try simp only [pA, pB, p1, p2, p3]
   refine tK (.bool true) ?_
   try simp only [pA, pB, p1, p2, p3]
   refine sK ?_
   try simp only [pA, pB, p1, p2, p3]
   refine sK ?_
   try simp only [pA, pB, p1, p2, p3]
   refine sK ?_
   try simp only [pA, pB, p1, p2, p3]
   refine tK (.bool true) ?_
   try simp only [pA, pB, p1, p2, p3]
   refine tK (.bool true) ?_
   try simp only [pA, pB, p1, p2, p3]
   refine WL.nil ?_
   try simp only [pA, pB, p1, p2, p3]
   go_upto_region 7 with fail
   refine WL.start ?_
   refine tW (.agg (Bv.cells ⟨q.1.up, ⟨ya, yn, yc⟩, ⟨za, zn, zc⟩⟩)) (exec_load 25 _ rfl ⟨gk20, 0, none⟩ (by kernel_rfl) (.agg (Bv.cells ⟨q.1.up, ⟨ya, yn, yc⟩, ⟨za, zn, zc⟩⟩)) (ld25 (HF.out.box 6 _ _ _ rfl))) ?_
   try simp only [pA, pB, p1, p2, p3]
   refine wp_storeW 25 _ _ rfl ⟨gk5, 0, none⟩ (.agg (Bv.cells ⟨q.1.up, ⟨ya, yn, yc⟩, ⟨za, zn, zc⟩⟩)) (by kernel_rfl) (by kernel_rfl) (wk27.setRow gk5 (Bv.cells ⟨q.1.up, ⟨ya, yn, yc⟩, ⟨za, zn, zc⟩⟩)) (st25 (HF.out.box 2 _ _ _ rfl) rfl) (by kernel_rfl) ?_
   try simp only [pA, pB, p1, p2, p3]
   have HX1 : Hid _ := HX1.out.kept (Kept.setRow _ _ (Bv.cells ⟨q.1.up, ⟨ya, yn, yc⟩, ⟨za, zn, zc⟩⟩)) (fun k h e => (HX1.out.own.notBox (HF.out.box 2 _ _ _ rfl) (by decide)) ((show k = gk5 from e) ▸ h))
   have HX2 : Hid _ := HX2.out.kept (Kept.setRow _ _ (Bv.cells ⟨q.1.up, ⟨ya, yn, yc⟩, ⟨za, zn, zc⟩⟩)) (fun k h e => (HX2.out.own.notBox (HF.out.box 2 _ _ _ rfl) (by decide)) ((show k = gk5 from e) ▸ h))
   have HX3 : Hid _ := HX3.out.kept (Kept.setRow _ _ (Bv.cells ⟨q.1.up, ⟨ya, yn, yc⟩, ⟨za, zn, zc⟩⟩)) (fun k h e => (HX3.out.own.notBox (HF.out.box 2 _ _ _ rfl) (by decide)) ((show k = gk5 from e) ▸ h))
   have HQ1 : Hid (OrE (wk27.setRow gk5 (Bv.cells ⟨q.1.up, ⟨ya, yn, yc⟩, ⟨za, zn, zc⟩⟩)) w.heap.size ⟨ea, en, ec⟩ es ⟨ya, yn, yc⟩ q.1.es) := HQ1.out.row (HF.out.box 2 _ _ _ rfl) (by decide) _
   have HQ2 : Hid (OrL (wk27.setRow gk5 (Bv.cells ⟨q.1.up, ⟨ya, yn, yc⟩, ⟨za, zn, zc⟩⟩)) w.heap.size ⟨la, ln, lc⟩ ls ⟨za, zn, zc⟩ q.1.ls) := HQ2.out.row (HF.out.box 2 _ _ _ rfl) (by decide) _
   have HQ3 : Hid _ := HQ3.out.kept (Kept.setRow _ _ (Bv.cells ⟨q.1.up, ⟨ya, yn, yc⟩, ⟨za, zn, zc⟩⟩)) (fun k h e => (HQ3.out.own.notBox (HF.out.box 2 _ _ _ rfl) (by decide)) ((show k = gk5 from e) ▸ h))
   have HF : Hid _ := HF.out.set 2 rfl (Bv.cells ⟨q.1.up, ⟨ya, yn, yc⟩, ⟨za, zn, zc⟩⟩)
   generalize wk27.setRow gk5 (Bv.cells ⟨q.1.up, ⟨ya, yn, yc⟩, ⟨za, zn, zc⟩⟩) = wk28 at HF HX1 HX2 HX3 HQ1 HQ2 HQ3 ⊢
   refine tK (.bool true) ?_
   try simp only [pA, pB, p1, p2, p3]
   refine WL.nil ?_
   try simp only [pA, pB, p1, p2, p3]
   go_wp2
   rw [HC.out]
   refine bodyPost_ret (results_row_tmp (by rfl) _ _ gk5 (Bv.cells ⟨q.1.up, ⟨ya, yn, yc⟩, ⟨za, zn, zc⟩⟩) (by rfl) (ld25 (HF.out.box 2 _ _ _ rfl))) rfl ?_
   exact ⟨⟨q.1.up, ⟨ya, yn, yc⟩, ⟨za, zn, zc⟩⟩, rfl, fun h1 h2 => (by rw [← HEQ.out h1 h2]; exact ⟨rfl, HQ1.out, HLe.out, HQ2.out⟩), HF.out.kept⟩
  ·skip
   refine wp_callW 11 #[.agg (Bv.cells ⟨up, ⟨ea, en, ec⟩, ⟨la, ln, lc⟩⟩)] (by kernel_rfl) _ (bucket_any up ea en ec la ln lc es ls _ (HE.out.no HF.out.kept) (HL.out.no HF.out.kept) (by omega) (by omega)) (by kernel_rfl) ?_
   rintro e wk29 ⟨rfl, hk⟩
   have HX1 : Hid _ := HX1.out.no hk
   have HX2 : Hid _ := HX2.out.no hk
   have HX3 : Hid _ := HX3.out.no hk
   have HQ1 : Hid (OrE (wk29) w.heap.size ⟨ea, en, ec⟩ es ⟨ya, yn, yc⟩ q.1.es) := HQ1.out.no hk
   have HQ2 : Hid (OrL (wk29) w.heap.size ⟨la, ln, lc⟩ ls ⟨za, zn, zc⟩ q.1.ls) := HQ2.out.no hk
   have HQ3 : Hid _ := HQ3.out.no hk
   have HF : Hid _ := HF.out.no hk
   clear hk
   refine ⟨.bool true, by rw [q1], ?_⟩
   try simp only [pA, pB, p1, p2, p3]
   refine tK (.bool false) ?_
   try simp only [pA, pB, p1, p2, p3]
   refine tK (.bool false) ?_
   try simp only [pA, pB, p1, p2, p3]
   refine tW (.agg (Cm.cells c)) (exec_load 29 _ rfl ⟨gk3, 0, none⟩ (by kernel_rfl) (.agg (Cm.cells c)) (ld29 (HF.out.box 1 _ _ _ rfl))) ?_
   try simp only [pA, pB, p1, p2, p3]
   cases q2 : (cmdB c)
   ·skip
    refine wp_callW 12 #[.agg (Cm.cells c)] (by kernel_rfl) _ (command_any c _) (by kernel_rfl) ?_
    rintro e wk30 ⟨rfl, hk⟩
    have HX1 : Hid _ := HX1.out.no hk
    have HX2 : Hid _ := HX2.out.no hk
    have HX3 : Hid _ := HX3.out.no hk
    have HQ1 : Hid (OrE (wk30) w.heap.size ⟨ea, en, ec⟩ es ⟨ya, yn, yc⟩ q.1.es) := HQ1.out.no hk
    have HQ2 : Hid (OrL (wk30) w.heap.size ⟨la, ln, lc⟩ ls ⟨za, zn, zc⟩ q.1.ls) := HQ2.out.no hk
    have HQ3 : Hid _ := HQ3.out.no hk
    have HF : Hid _ := HF.out.no hk
    clear hk
    refine ⟨.bool false, by rw [q2], ?_⟩
    try simp only [pA, pB, p1, p2, p3]
    refine tK (.bool true) ?_
    try simp only [pA, pB, p1, p2, p3]
    refine tK (.bool true) ?_
    try simp only [pA, pB, p1, p2, p3]
    refine tK (.bool true) ?_
    try simp only [pA, pB, p1, p2, p3]
    refine WL.nil ?_
    try simp only [pA, pB, p1, p2, p3]
    go_upto_region 7 with fail
    refine WL.start ?_
    refine tW (.agg (Bv.cells ⟨q.1.up, ⟨ya, yn, yc⟩, ⟨za, zn, zc⟩⟩)) (exec_load 25 _ rfl ⟨gk20, 0, none⟩ (by kernel_rfl) (.agg (Bv.cells ⟨q.1.up, ⟨ya, yn, yc⟩, ⟨za, zn, zc⟩⟩)) (ld25 (HF.out.box 6 _ _ _ rfl))) ?_
    try simp only [pA, pB, p1, p2, p3]
    refine wp_storeW 25 _ _ rfl ⟨gk5, 0, none⟩ (.agg (Bv.cells ⟨q.1.up, ⟨ya, yn, yc⟩, ⟨za, zn, zc⟩⟩)) (by kernel_rfl) (by kernel_rfl) (wk30.setRow gk5 (Bv.cells ⟨q.1.up, ⟨ya, yn, yc⟩, ⟨za, zn, zc⟩⟩)) (st25 (HF.out.box 2 _ _ _ rfl) rfl) (by kernel_rfl) ?_
    try simp only [pA, pB, p1, p2, p3]
    have HX1 : Hid _ := HX1.out.kept (Kept.setRow _ _ (Bv.cells ⟨q.1.up, ⟨ya, yn, yc⟩, ⟨za, zn, zc⟩⟩)) (fun k h e => (HX1.out.own.notBox (HF.out.box 2 _ _ _ rfl) (by decide)) ((show k = gk5 from e) ▸ h))
    have HX2 : Hid _ := HX2.out.kept (Kept.setRow _ _ (Bv.cells ⟨q.1.up, ⟨ya, yn, yc⟩, ⟨za, zn, zc⟩⟩)) (fun k h e => (HX2.out.own.notBox (HF.out.box 2 _ _ _ rfl) (by decide)) ((show k = gk5 from e) ▸ h))
    have HX3 : Hid _ := HX3.out.kept (Kept.setRow _ _ (Bv.cells ⟨q.1.up, ⟨ya, yn, yc⟩, ⟨za, zn, zc⟩⟩)) (fun k h e => (HX3.out.own.notBox (HF.out.box 2 _ _ _ rfl) (by decide)) ((show k = gk5 from e) ▸ h))
    have HQ1 : Hid (OrE (wk30.setRow gk5 (Bv.cells ⟨q.1.up, ⟨ya, yn, yc⟩, ⟨za, zn, zc⟩⟩)) w.heap.size ⟨ea, en, ec⟩ es ⟨ya, yn, yc⟩ q.1.es) := HQ1.out.row (HF.out.box 2 _ _ _ rfl) (by decide) _
    have HQ2 : Hid (OrL (wk30.setRow gk5 (Bv.cells ⟨q.1.up, ⟨ya, yn, yc⟩, ⟨za, zn, zc⟩⟩)) w.heap.size ⟨la, ln, lc⟩ ls ⟨za, zn, zc⟩ q.1.ls) := HQ2.out.row (HF.out.box 2 _ _ _ rfl) (by decide) _
    have HQ3 : Hid _ := HQ3.out.kept (Kept.setRow _ _ (Bv.cells ⟨q.1.up, ⟨ya, yn, yc⟩, ⟨za, zn, zc⟩⟩)) (fun k h e => (HQ3.out.own.notBox (HF.out.box 2 _ _ _ rfl) (by decide)) ((show k = gk5 from e) ▸ h))
    have HF : Hid _ := HF.out.set 2 rfl (Bv.cells ⟨q.1.up, ⟨ya, yn, yc⟩, ⟨za, zn, zc⟩⟩)
    generalize wk30.setRow gk5 (Bv.cells ⟨q.1.up, ⟨ya, yn, yc⟩, ⟨za, zn, zc⟩⟩) = wk31 at HF HX1 HX2 HX3 HQ1 HQ2 HQ3 ⊢
    refine tK (.bool true) ?_
    try simp only [pA, pB, p1, p2, p3]
    refine WL.nil ?_
    try simp only [pA, pB, p1, p2, p3]
    go_wp2
    rw [HC.out]
    refine bodyPost_ret (results_row_tmp (by rfl) _ _ gk5 (Bv.cells ⟨q.1.up, ⟨ya, yn, yc⟩, ⟨za, zn, zc⟩⟩) (by rfl) (ld25 (HF.out.box 2 _ _ _ rfl))) rfl ?_
    exact ⟨⟨q.1.up, ⟨ya, yn, yc⟩, ⟨za, zn, zc⟩⟩, rfl, fun h1 h2 => (by rw [← HEQ.out h1 h2]; exact ⟨rfl, HQ1.out, HLe.out, HQ2.out⟩), HF.out.kept⟩
   ·skip
    refine wp_callW 12 #[.agg (Cm.cells c)] (by kernel_rfl) _ (command_any c _) (by kernel_rfl) ?_
    rintro e wk32 ⟨rfl, hk⟩
    have HX1 : Hid _ := HX1.out.no hk
    have HX2 : Hid _ := HX2.out.no hk
    have HX3 : Hid _ := HX3.out.no hk
    have HQ1 : Hid (OrE (wk32) w.heap.size ⟨ea, en, ec⟩ es ⟨ya, yn, yc⟩ q.1.es) := HQ1.out.no hk
    have HQ2 : Hid (OrL (wk32) w.heap.size ⟨la, ln, lc⟩ ls ⟨za, zn, zc⟩ q.1.ls) := HQ2.out.no hk
    have HQ3 : Hid _ := HQ3.out.no hk
    have HF : Hid _ := HF.out.no hk
    clear hk
    refine ⟨.bool true, by rw [q2], ?_⟩
    try simp only [pA, pB, p1, p2, p3]
    refine tK (.bool false) ?_
    try simp only [pA, pB, p1, p2, p3]
    refine tK (.bool false) ?_
    try simp only [pA, pB, p1, p2, p3]
    refine tK (.bool false) ?_
    try simp only [pA, pB, p1, p2, p3]
    refine WL.nil ?_
    try simp only [pA, pB, p1, p2, p3]
    have HQR : Hid (q = R) := HEQ.out (bkt_good q1).re (bkt_good q1).rl
    obtain ⟨hl1, hl2, hl3⟩ := HLN.out (bkt_good q1)
    have hqn : qn ≤ 140737488355328 := by have h1 : R.1.es.length = qn := HX1.out.len; omega
    have hrn : rn ≤ 140737488355328 := by have h1 : R.1.ls.length = rn := HX2.out.len; omega
    have hxn : xn ≤ 140737488355328 := by have h1 : R.2.l.length = xn := HX3.out.len; omega
    clear hl1 hl2 hl3
    go_upto_region 8 with fail
    refine wp_region_held_drew (S := fun w' => Box w' gk12 25 (Bv.cells ⟨R.1.up, ⟨qa, qn, qc⟩, ⟨ra, rn, rc⟩⟩) ∧ Box w' gk20 25 (Bv.cells ⟨q.1.up, ⟨ya, yn, yc⟩, ⟨za, zn, zc⟩⟩) ∧ Box w' gk14 56 (Av.cells ⟨R.2.er, R.2.e, ⟨xa, xn, xc⟩⟩) ∧ Box w' gk22 56 (Av.cells ⟨q.2.er, q.2.e, ⟨ta, tn, tc⟩⟩)) rfl ⟨HF.out.box 4 _ _ _ rfl, HF.out.box 6 _ _ _ rfl, HF.out.box 5 _ _ _ rfl, HF.out.box 7 _ _ _ rfl⟩ (fun hH => ?_)
    have HX1 : Hid _ := HX1.out.no (Kept.refl No wk32).drew
    have HX2 : Hid _ := HX2.out.no (Kept.refl No wk32).drew
    have HX3 : Hid _ := HX3.out.no (Kept.refl No wk32).drew
    have HQ1 : Hid (OrE (wk32.drew) w.heap.size ⟨ea, en, ec⟩ es ⟨ya, yn, yc⟩ q.1.es) := HQ1.out.no (Kept.refl No _).drew
    have HQ2 : Hid (OrL (wk32.drew) w.heap.size ⟨la, ln, lc⟩ ls ⟨za, zn, zc⟩ q.1.ls) := HQ2.out.no (Kept.refl No _).drew
    have HQ3 : Hid _ := HQ3.out.no (Kept.refl No wk32).drew
    have HF : Hid _ := HF.out.drew
    generalize wk32.drew = wk33 at HF HX1 HX2 HX3 HQ1 HQ2 HQ3 hH ⊢
    refine aT (i := 0) (oi := opRd0) (v := .agg (Bv.cells ⟨R.1.up, ⟨qa, qn, qc⟩, ⟨ra, rn, rc⟩⟩)) (fun w' hw => exec_load 25 _ rfl ⟨gk12, 0, none⟩ (by kernel_rfl) (.agg (Bv.cells ⟨R.1.up, ⟨qa, qn, qc⟩, ⟨ra, rn, rc⟩⟩)) (ld25 hw.1)) hH ?_
    try simp only [pA, pB, p1, p2, p3]
    refine aT (i := 1) (oi := opRd1) (v := .int .i64 0) (fun _ _ => by kernel_rfl) hH ?_
    try simp only [pA, pB, p1, p2, p3]
    refine aT (i := 2) (oi := opRd2) (v := .int .i64 0) (fun _ _ => by kernel_rfl) hH ?_
    try simp only [pA, pB, p1, p2, p3]
    refine aT (i := 3) (oi := opRd3) (v := .bool true) (fun w' hw => exec_bin .eql 3 _ _ _ rfl (.int .i64 0) (.int .i64 0) (.bool true) (by kernel_rfl) (by kernel_rfl) (by kernel_rfl) (by rw [b_eql]; simp)) hH ?_
    try simp only [pA, pB, p1, p2, p3]
    refine aT (i := 4) (oi := opRd4) (v := .bool true) (fun _ _ => by kernel_rfl) hH ?_
    try simp only [pA, pB, p1, p2, p3]
    refine aT (i := 5) (oi := opRd5) (v := .agg (Bv.cells ⟨R.1.up, ⟨qa, qn, qc⟩, ⟨ra, rn, rc⟩⟩)) (fun w' hw => exec_load 25 _ rfl ⟨gk12, 0, none⟩ (by kernel_rfl) (.agg (Bv.cells ⟨R.1.up, ⟨qa, qn, qc⟩, ⟨ra, rn, rc⟩⟩)) (ld25 hw.1)) hH ?_
    try simp only [pA, pB, p1, p2, p3]
    refine aT (i := 6) (oi := opRd6) (v := .agg (Bv.cells ⟨q.1.up, ⟨ya, yn, yc⟩, ⟨za, zn, zc⟩⟩)) (fun w' hw => exec_load 25 _ rfl ⟨gk20, 0, none⟩ (by kernel_rfl) (.agg (Bv.cells ⟨q.1.up, ⟨ya, yn, yc⟩, ⟨za, zn, zc⟩⟩)) (ld25 hw.2.1)) hH ?_
    try simp only [pA, pB, p1, p2, p3]
    refine any_call (i := 7) (o := opRd7) rfl (by kernel_rfl) (by kernel_rfl) 15 #[.agg (Bv.cells ⟨R.1.up, ⟨qa, qn, qc⟩, ⟨ra, rn, rc⟩⟩), .agg (Bv.cells ⟨q.1.up, ⟨ya, yn, yc⟩, ⟨za, zn, zc⟩⟩)] (by kernel_rfl) _ (sameB_any R.1.up qa qn qc ra rn rc q.1.up ya yn yc za zn zc R.1.es q.1.es R.1.ls q.1.ls _ HX1.out.rd (HQ1.out.rd (HE.out.no HF.out.kept)) HX2.out.rd (HQ2.out.rd (HL.out.no HF.out.kept)) hqn hrn) ?_
    rintro e wk34 ⟨rfl, hk⟩
    have hH2 : Box wk34 gk12 25 (Bv.cells ⟨R.1.up, ⟨qa, qn, qc⟩, ⟨ra, rn, rc⟩⟩) ∧ Box wk34 gk20 25 (Bv.cells ⟨q.1.up, ⟨ya, yn, yc⟩, ⟨za, zn, zc⟩⟩) ∧ Box wk34 gk14 56 (Av.cells ⟨R.2.er, R.2.e, ⟨xa, xn, xc⟩⟩) ∧ Box wk34 gk22 56 (Av.cells ⟨q.2.er, q.2.e, ⟨ta, tn, tc⟩⟩) := ⟨hH.1.kept hk (fun e => e), hH.2.1.kept hk (fun e => e), hH.2.2.1.kept hk (fun e => e), hH.2.2.2.kept hk (fun e => e)⟩
    have HX1 : Hid _ := HX1.out.no hk
    have HX2 : Hid _ := HX2.out.no hk
    have HX3 : Hid _ := HX3.out.no hk
    have HQ1 : Hid (OrE (wk34) w.heap.size ⟨ea, en, ec⟩ es ⟨ya, yn, yc⟩ q.1.es) := HQ1.out.no hk
    have HQ2 : Hid (OrL (wk34) w.heap.size ⟨la, ln, lc⟩ ls ⟨za, zn, zc⟩ q.1.ls) := HQ2.out.no hk
    have HQ3 : Hid _ := HQ3.out.no hk
    have HF : Hid _ := HF.out.no hk
    clear hk
    refine ⟨.bool true, by rw [HQR.out, sameB_refl], hH2, fun hH => ?_⟩
    clear hH2
    try simp only [pA, pB, p1, p2, p3]
    refine aT (i := 8) (oi := opRd8) (v := .bool true) (fun _ _ => by kernel_rfl) hH ?_
    try simp only [pA, pB, p1, p2, p3]
    refine aT (i := 9) (oi := opRd9) (v := .bool true) (fun _ _ => by kernel_rfl) hH ?_
    try simp only [pA, pB, p1, p2, p3]
    refine aT (i := 10) (oi := opRd10) (v := .agg (Av.cells ⟨R.2.er, R.2.e, ⟨xa, xn, xc⟩⟩)) (fun w' hw => exec_load 56 _ rfl ⟨gk14, 0, none⟩ (by kernel_rfl) (.agg (Av.cells ⟨R.2.er, R.2.e, ⟨xa, xn, xc⟩⟩)) (ld56 hw.2.2.1)) hH ?_
    try simp only [pA, pB, p1, p2, p3]
    refine aT (i := 11) (oi := opRd11) (v := .agg (Av.cells ⟨q.2.er, q.2.e, ⟨ta, tn, tc⟩⟩)) (fun w' hw => exec_load 56 _ rfl ⟨gk22, 0, none⟩ (by kernel_rfl) (.agg (Av.cells ⟨q.2.er, q.2.e, ⟨ta, tn, tc⟩⟩)) (ld56 hw.2.2.2)) hH ?_
    try simp only [pA, pB, p1, p2, p3]
    refine any_call (i := 12) (o := opRd12) rfl (by kernel_rfl) (by kernel_rfl) 27 #[.agg (Av.cells ⟨R.2.er, R.2.e, ⟨xa, xn, xc⟩⟩), .agg (Av.cells ⟨q.2.er, q.2.e, ⟨ta, tn, tc⟩⟩)] (by kernel_rfl) _ (sameA_any R.2.er R.2.e xa xn xc q.2.er q.2.e ta tn tc R.2.l q.2.l _ HX3.out.rd HQ3.out.rd hxn) ?_
    rintro e wk35 ⟨rfl, hk⟩
    have hH2 : Box wk35 gk12 25 (Bv.cells ⟨R.1.up, ⟨qa, qn, qc⟩, ⟨ra, rn, rc⟩⟩) ∧ Box wk35 gk20 25 (Bv.cells ⟨q.1.up, ⟨ya, yn, yc⟩, ⟨za, zn, zc⟩⟩) ∧ Box wk35 gk14 56 (Av.cells ⟨R.2.er, R.2.e, ⟨xa, xn, xc⟩⟩) ∧ Box wk35 gk22 56 (Av.cells ⟨q.2.er, q.2.e, ⟨ta, tn, tc⟩⟩) := ⟨hH.1.kept hk (fun e => e), hH.2.1.kept hk (fun e => e), hH.2.2.1.kept hk (fun e => e), hH.2.2.2.kept hk (fun e => e)⟩
    have HX1 : Hid _ := HX1.out.no hk
    have HX2 : Hid _ := HX2.out.no hk
    have HX3 : Hid _ := HX3.out.no hk
    have HQ1 : Hid (OrE (wk35) w.heap.size ⟨ea, en, ec⟩ es ⟨ya, yn, yc⟩ q.1.es) := HQ1.out.no hk
    have HQ2 : Hid (OrL (wk35) w.heap.size ⟨la, ln, lc⟩ ls ⟨za, zn, zc⟩ q.1.ls) := HQ2.out.no hk
    have HQ3 : Hid _ := HQ3.out.no hk
    have HF : Hid _ := HF.out.no hk
    clear hk
    refine ⟨.bool true, by rw [HQR.out, sameA_refl], hH2, fun hH => ?_⟩
    clear hH2
    try simp only [pA, pB, p1, p2, p3]
    refine aT (i := 13) (oi := opRd13) (v := .bool true) (fun _ _ => by kernel_rfl) hH ?_
    try simp only [pA, pB, p1, p2, p3]
    refine any_store (i := 14) (o := opRd14) (w' := wk35.setRow gk5 (Bv.cells ⟨R.1.up, ⟨qa, qn, qc⟩, ⟨ra, rn, rc⟩⟩)) rfl (by kernel_rfl) (by kernel_rfl) 25 _ _ rfl ⟨gk5, 0, none⟩ (.agg (Bv.cells ⟨R.1.up, ⟨qa, qn, qc⟩, ⟨ra, rn, rc⟩⟩)) (by kernel_rfl) (by kernel_rfl) (st25 (HF.out.box 2 _ _ _ rfl) rfl) (⟨hH.1.rowNe (HF.out.ne 4 2 rfl rfl (by simp)) _, hH.2.1.rowNe (HF.out.ne 6 2 rfl rfl (by simp)) _, hH.2.2.1.rowNe (HF.out.ne 5 2 rfl rfl (by simp)) _, hH.2.2.2.rowNe (HF.out.ne 7 2 rfl rfl (by simp)) _⟩) (fun hH => ?_)
    try simp only [pA, pB, p1, p2, p3]
    have HX1 : Hid _ := HX1.out.kept (Kept.setRow _ _ (Bv.cells ⟨R.1.up, ⟨qa, qn, qc⟩, ⟨ra, rn, rc⟩⟩)) (fun k h e => (HX1.out.own.notBox (HF.out.box 2 _ _ _ rfl) (by decide)) ((show k = gk5 from e) ▸ h))
    have HX2 : Hid _ := HX2.out.kept (Kept.setRow _ _ (Bv.cells ⟨R.1.up, ⟨qa, qn, qc⟩, ⟨ra, rn, rc⟩⟩)) (fun k h e => (HX2.out.own.notBox (HF.out.box 2 _ _ _ rfl) (by decide)) ((show k = gk5 from e) ▸ h))
    have HX3 : Hid _ := HX3.out.kept (Kept.setRow _ _ (Bv.cells ⟨R.1.up, ⟨qa, qn, qc⟩, ⟨ra, rn, rc⟩⟩)) (fun k h e => (HX3.out.own.notBox (HF.out.box 2 _ _ _ rfl) (by decide)) ((show k = gk5 from e) ▸ h))
    have HQ1 : Hid (OrE (wk35.setRow gk5 (Bv.cells ⟨R.1.up, ⟨qa, qn, qc⟩, ⟨ra, rn, rc⟩⟩)) w.heap.size ⟨ea, en, ec⟩ es ⟨ya, yn, yc⟩ q.1.es) := HQ1.out.row (HF.out.box 2 _ _ _ rfl) (by decide) _
    have HQ2 : Hid (OrL (wk35.setRow gk5 (Bv.cells ⟨R.1.up, ⟨qa, qn, qc⟩, ⟨ra, rn, rc⟩⟩)) w.heap.size ⟨la, ln, lc⟩ ls ⟨za, zn, zc⟩ q.1.ls) := HQ2.out.row (HF.out.box 2 _ _ _ rfl) (by decide) _
    have HQ3 : Hid _ := HQ3.out.kept (Kept.setRow _ _ (Bv.cells ⟨R.1.up, ⟨qa, qn, qc⟩, ⟨ra, rn, rc⟩⟩)) (fun k h e => (HQ3.out.own.notBox (HF.out.box 2 _ _ _ rfl) (by decide)) ((show k = gk5 from e) ▸ h))
    have HF : Hid _ := HF.out.set 2 rfl (Bv.cells ⟨R.1.up, ⟨qa, qn, qc⟩, ⟨ra, rn, rc⟩⟩)
    generalize wk35.setRow gk5 (Bv.cells ⟨R.1.up, ⟨qa, qn, qc⟩, ⟨ra, rn, rc⟩⟩) = wk36 at HF HX1 HX2 HX3 HQ1 HQ2 HQ3 hH ⊢
    refine aT (i := 15) (oi := opRd15) (v := .bool true) (fun _ _ => by kernel_rfl) hH ?_
    try simp only [pA, pB, p1, p2, p3]
    refine wpAnyH_done (by kernel_rfl) ?_ _
    try simp only [pA, pB, p1, p2, p3]
    clear hH
    go_wp2
    rw [HC.out]
    refine bodyPost_ret (results_row_tmp (by rfl) _ _ gk5 (Bv.cells ⟨R.1.up, ⟨qa, qn, qc⟩, ⟨ra, rn, rc⟩⟩) (by rfl) (ld25 (HF.out.box 2 _ _ _ rfl))) rfl ?_
    exact ⟨⟨R.1.up, ⟨qa, qn, qc⟩, ⟨ra, rn, rc⟩⟩, rfl, fun _ _ => ⟨rfl, ⟨.inr (HX1.out.lower hwb)⟩, HX1.out.le, ⟨.inr (HX2.out.lower hwb)⟩⟩, HF.out.kept⟩
set_option maxRecDepth 100000 in
set_option maxHeartbeats 4000000 in
theorem applied_no (up : Int) (ea : Option Addr) (en ec : Nat) (la : Option Addr) (ln lc : Nat) (es : List En) (ls : List La) (c : Cm) (room : Int) (w : World) (he : RdE w ⟨ea, en, ec⟩ es) (hl : RdL w ⟨la, ln, lc⟩ ls) (hec : en ≤ ec) (hb : en + 1 ≤ 3518437208883) (hbl : ln + 1 ≤ 2513169434916) (hu1 : -9223372036854775808 ≤ up) (hr : refS up c ≠ 0) : Calls Try.prog 9 #[.agg (Bv.cells ⟨up, ⟨ea, en, ec⟩, ⟨la, ln, lc⟩⟩), .agg (Cm.cells c), .int .i64 room] w (fun e w' => ∃ b : Bv, e = .returned (.tuple #[.agg b.cells, .bool true]) ∧ Kept No w w') := by
  obtain ⟨C, hC⟩ : ∃ C : Ending → World → Prop, C = (fun e w' => ∃ b : Bv, e = .returned (.tuple #[.agg b.cells, .bool true]) ∧ Kept No w w') := ⟨_, rfl⟩
  have HC : Hid (C = (fun e w' => ∃ b : Bv, e = .returned (.tuple #[.agg b.cells, .bool true]) ∧ Kept No w w')) := hC
  rw [← hC]
  clear hC
  have HEL : Hid (es.length = en) := he.len
  have HLL : Hid (ls.length = ln) := hl.len
  have HE : Hid (RdE w ⟨ea, en, ec⟩ es) := he
  have HL : Hid (RdL w ⟨la, ln, lc⟩ ls) := hl
  have HR : Hid (refS up c ≠ 0) := hr
  have hbu : badC c = false → decide (up < 1048576) = false := fun h => by
    unfold refS at hr
    rw [h] at hr
    apply decide_eq_false
    intro hlt
    apply hr
    rw [decide_eq_false (by omega)]; rfl
  clear he hl hr
  have HF : Hid (Fr No w w []) := Fr.start _ _
  go_enter Try.func9, Try.ntmps9
  go_upto_region 0 with fail
  refine WL.start ?_
  refine wp_runW (.pointer (some ⟨w.heap.size, 0, none⟩)) (w.alloc (.cells (Bv.cells ⟨up, ⟨ea, en, ec⟩, ⟨la, ln, lc⟩⟩) 25)) (exec_box 25 _ rfl (Bv.cells ⟨up, ⟨ea, en, ec⟩, ⟨la, ln, lc⟩⟩) (by kernel_rfl)) (by kernel_rfl) ?_
  try simp only [pA, pB, p1, p2, p3]
  have HF : Hid _ := HF.out.alloc 25 (Bv.cells ⟨up, ⟨ea, en, ec⟩, ⟨la, ln, lc⟩⟩)
  generalize w.alloc (.cells (Bv.cells ⟨up, ⟨ea, en, ec⟩, ⟨la, ln, lc⟩⟩) 25) = wk2 at HF ⊢
  generalize w.heap.size = gk1 at HF ⊢
  refine wp_runW (.pointer (some ⟨wk2.heap.size, 0, none⟩)) (wk2.alloc (.cells (Cm.cells c) 29)) (exec_box 29 _ rfl (Cm.cells c) (by kernel_rfl)) (by kernel_rfl) ?_
  try simp only [pA, pB, p1, p2, p3]
  have HF : Hid _ := HF.out.alloc 29 (Cm.cells c)
  generalize wk2.alloc (.cells (Cm.cells c) 29) = wk4 at HF ⊢
  generalize wk2.heap.size = gk3 at HF ⊢
  refine wp_runW (.pointer (some ⟨wk4.heap.size, 0, none⟩)) (wk4.alloc (.cells (Bv.cells bvZ) 25)) (exec_alloc 25 rfl (Bv.cells bvZ) zero25) (by kernel_rfl) ?_
  try simp only [pA, pB, p1, p2, p3]
  have HF : Hid _ := HF.out.alloc 25 (Bv.cells bvZ)
  generalize wk4.alloc (.cells (Bv.cells bvZ) 25) = wk6 at HF ⊢
  generalize wk4.heap.size = gk5 at HF ⊢
  refine tK (.bool false) ?_
  try simp only [pA, pB, p1, p2, p3]
  refine WL.nil ?_
  try simp only [pA, pB, p1, p2, p3]
  go_upto_region 1 with fail
  refine WL.start ?_
  refine tW (.agg (Bv.cells ⟨up, ⟨ea, en, ec⟩, ⟨la, ln, lc⟩⟩)) (exec_load 25 _ rfl ⟨gk1, 0, none⟩ (by kernel_rfl) (.agg (Bv.cells ⟨up, ⟨ea, en, ec⟩, ⟨la, ln, lc⟩⟩)) (ld25 (HF.out.box 0 _ _ _ rfl))) ?_
  try simp only [pA, pB, p1, p2, p3]
  refine wp_callW 17 #[.agg (Bv.cells ⟨up, ⟨ea, en, ec⟩, ⟨la, ln, lc⟩⟩)] (by kernel_rfl) _ (lend_any up ea en ec la ln lc es ls _ (HE.out.no HF.out.kept) (HL.out.no HF.out.kept) hb hbl) (by kernel_rfl) ?_
  rintro e wk7 ⟨g, h, rfl, hg0, hh0, hg, hh, hk⟩
  have hgl : w.heap.size ≤ g := Nat.le_trans HF.out.kept.size hg0
  have hhl : w.heap.size ≤ h := Nat.le_trans HF.out.kept.size hh0
  have HG : Hid (Box wk7 g 54 (enL (es ++ [markE])).toArray) := hg
  have HH : Hid (Box wk7 h 64 (laL (ls ++ [markL])).toArray) := hh
  have HF : Hid _ := HF.out.no hk
  clear hg0 hh0 hg hh hk
  refine ⟨.agg (Bv.cells ⟨up, ⟨(some ⟨g, 0, none⟩), en, (en + 1)⟩, ⟨(some ⟨h, 0, none⟩), ln, (ln + 1)⟩⟩), rfl, ?_⟩
  try simp only [pA, pB, p1, p2, p3]
  refine wp_runW (.pointer (some ⟨wk7.heap.size, 0, none⟩)) (wk7.alloc (.cells (Bv.cells bvZ) 25)) (exec_alloc 25 rfl (Bv.cells bvZ) zero25) (by kernel_rfl) ?_
  try simp only [pA, pB, p1, p2, p3]
  have HG : Hid (Box (wk7.alloc (.cells (Bv.cells bvZ) 25)) g 54 (enL (es ++ [markE])).toArray) := HG.out.no ((Kept.refl No _).alloc _)
  have HH : Hid (Box (wk7.alloc (.cells (Bv.cells bvZ) 25)) h 64 (laL (ls ++ [markL])).toArray) := HH.out.no ((Kept.refl No _).alloc _)
  have HF : Hid _ := HF.out.alloc 25 (Bv.cells bvZ)
  generalize wk7.alloc (.cells (Bv.cells bvZ) 25) = wk9 at HF HG HH ⊢
  generalize wk7.heap.size = gk8 at HF ⊢
  refine wp_storeW 25 _ _ rfl ⟨gk8, 0, none⟩ (.agg (Bv.cells ⟨up, ⟨(some ⟨g, 0, none⟩), en, (en + 1)⟩, ⟨(some ⟨h, 0, none⟩), ln, (ln + 1)⟩⟩)) (by kernel_rfl) (by kernel_rfl) (wk9.setRow gk8 (Bv.cells ⟨up, ⟨(some ⟨g, 0, none⟩), en, (en + 1)⟩, ⟨(some ⟨h, 0, none⟩), ln, (ln + 1)⟩⟩)) (st25 (HF.out.box 3 _ _ _ rfl) rfl) (by kernel_rfl) ?_
  try simp only [pA, pB, p1, p2, p3]
  have HG : Hid (Box (wk9.setRow gk8 (Bv.cells ⟨up, ⟨(some ⟨g, 0, none⟩), en, (en + 1)⟩, ⟨(some ⟨h, 0, none⟩), ln, (ln + 1)⟩⟩)) g 54 (enL (es ++ [markE])).toArray) := HG.out.rowNe (box_ne HG.out (HF.out.box 3 _ _ _ rfl) (by decide)) _
  have HH : Hid (Box (wk9.setRow gk8 (Bv.cells ⟨up, ⟨(some ⟨g, 0, none⟩), en, (en + 1)⟩, ⟨(some ⟨h, 0, none⟩), ln, (ln + 1)⟩⟩)) h 64 (laL (ls ++ [markL])).toArray) := HH.out.rowNe (box_ne HH.out (HF.out.box 3 _ _ _ rfl) (by decide)) _
  have HF : Hid _ := HF.out.set 3 rfl (Bv.cells ⟨up, ⟨(some ⟨g, 0, none⟩), en, (en + 1)⟩, ⟨(some ⟨h, 0, none⟩), ln, (ln + 1)⟩⟩)
  generalize wk9.setRow gk8 (Bv.cells ⟨up, ⟨(some ⟨g, 0, none⟩), en, (en + 1)⟩, ⟨(some ⟨h, 0, none⟩), ln, (ln + 1)⟩⟩) = wk10 at HF HG HH ⊢
  refine WL.nil ?_
  try simp only [pA, pB, p1, p2, p3]
  go_upto_region 2 with fail
  refine WL.start ?_
  refine tW (.agg (Bv.cells ⟨up, ⟨(some ⟨g, 0, none⟩), en, (en + 1)⟩, ⟨(some ⟨h, 0, none⟩), ln, (ln + 1)⟩⟩)) (exec_load 25 _ rfl ⟨gk8, 0, none⟩ (by kernel_rfl) (.agg (Bv.cells ⟨up, ⟨(some ⟨g, 0, none⟩), en, (en + 1)⟩, ⟨(some ⟨h, 0, none⟩), ln, (ln + 1)⟩⟩)) (ld25 (HF.out.box 3 _ _ _ rfl))) ?_
  try simp only [pA, pB, p1, p2, p3]
  refine tW (.agg (Cm.cells c)) (exec_load 29 _ rfl ⟨gk3, 0, none⟩ (by kernel_rfl) (.agg (Cm.cells c)) (ld29 (HF.out.box 1 _ _ _ rfl))) ?_
  try simp only [pA, pB, p1, p2, p3]
  refine tK (.int .i64 room) ?_
  try simp only [pA, pB, p1, p2, p3]
  refine wp_callW 22 #[.agg (Bv.cells ⟨up, ⟨(some ⟨g, 0, none⟩), en, (en + 1)⟩, ⟨(some ⟨h, 0, none⟩), ln, (ln + 1)⟩⟩), .agg (Cm.cells c), .int .i64 room] (by kernel_rfl) _ (apply_no up (some ⟨g, 0, none⟩) en (en + 1) (some ⟨h, 0, none⟩) ln (ln + 1) c room (refS up c) _ rfl HR.out) (by kernel_rfl) ?_
  rintro e wk11 ⟨rfl, hk⟩
  have HG : Hid (Box (wk11) g 54 (enL (es ++ [markE])).toArray) := HG.out.no hk
  have HH : Hid (Box (wk11) h 64 (laL (ls ++ [markL])).toArray) := HH.out.no hk
  have HF : Hid _ := HF.out.no hk
  clear hk
  refine ⟨.tuple #[.agg (Bv.cells bvZ), .agg (Av.cells avZ), .int .i64 (refS up c)], rfl, ?_⟩
  try simp only [pA, pB, p1, p2, p3]
  refine tK (.tuple #[.agg (Bv.cells bvZ), .agg (Av.cells avZ), .int .i64 (refS up c)]) ?_
  try simp only [pA, pB, p1, p2, p3]
  refine tK (.agg (Bv.cells bvZ)) ?_
  try simp only [pA, pB, p1, p2, p3]
  refine tK (.agg (Av.cells avZ)) ?_
  try simp only [pA, pB, p1, p2, p3]
  refine tK (.int .i64 (refS up c)) ?_
  try simp only [pA, pB, p1, p2, p3]
  refine wp_runW (.pointer (some ⟨wk11.heap.size, 0, none⟩)) (wk11.alloc (.cells (Bv.cells bvZ) 25)) (exec_alloc 25 rfl (Bv.cells bvZ) zero25) (by kernel_rfl) ?_
  try simp only [pA, pB, p1, p2, p3]
  have HG : Hid (Box (wk11.alloc (.cells (Bv.cells bvZ) 25)) g 54 (enL (es ++ [markE])).toArray) := HG.out.no ((Kept.refl No _).alloc _)
  have HH : Hid (Box (wk11.alloc (.cells (Bv.cells bvZ) 25)) h 64 (laL (ls ++ [markL])).toArray) := HH.out.no ((Kept.refl No _).alloc _)
  have HF : Hid _ := HF.out.alloc 25 (Bv.cells bvZ)
  generalize wk11.alloc (.cells (Bv.cells bvZ) 25) = wk13 at HF HG HH ⊢
  generalize wk11.heap.size = gk12 at HF ⊢
  refine wp_runW (.pointer (some ⟨wk13.heap.size, 0, none⟩)) (wk13.alloc (.cells (Av.cells avZ) 56)) (exec_alloc 56 rfl (Av.cells avZ) zero56) (by kernel_rfl) ?_
  try simp only [pA, pB, p1, p2, p3]
  have HG : Hid (Box (wk13.alloc (.cells (Av.cells avZ) 56)) g 54 (enL (es ++ [markE])).toArray) := HG.out.no ((Kept.refl No _).alloc _)
  have HH : Hid (Box (wk13.alloc (.cells (Av.cells avZ) 56)) h 64 (laL (ls ++ [markL])).toArray) := HH.out.no ((Kept.refl No _).alloc _)
  have HF : Hid _ := HF.out.alloc 56 (Av.cells avZ)
  generalize wk13.alloc (.cells (Av.cells avZ) 56) = wk15 at HF HG HH ⊢
  generalize wk13.heap.size = gk14 at HF ⊢
  refine wp_storeW 25 _ _ rfl ⟨gk12, 0, none⟩ (.agg (Bv.cells bvZ)) (by kernel_rfl) (by kernel_rfl) (wk15.setRow gk12 (Bv.cells bvZ)) (st25 (HF.out.box 4 _ _ _ rfl) rfl) (by kernel_rfl) ?_
  try simp only [pA, pB, p1, p2, p3]
  have HG : Hid (Box (wk15.setRow gk12 (Bv.cells bvZ)) g 54 (enL (es ++ [markE])).toArray) := HG.out.rowNe (box_ne HG.out (HF.out.box 4 _ _ _ rfl) (by decide)) _
  have HH : Hid (Box (wk15.setRow gk12 (Bv.cells bvZ)) h 64 (laL (ls ++ [markL])).toArray) := HH.out.rowNe (box_ne HH.out (HF.out.box 4 _ _ _ rfl) (by decide)) _
  have HF : Hid _ := HF.out.set 4 rfl (Bv.cells bvZ)
  generalize wk15.setRow gk12 (Bv.cells bvZ) = wk16 at HF HG HH ⊢
  refine wp_storeW 56 _ _ rfl ⟨gk14, 0, none⟩ (.agg (Av.cells avZ)) (by kernel_rfl) (by kernel_rfl) (wk16.setRow gk14 (Av.cells avZ)) (st56 (HF.out.box 5 _ _ _ rfl) rfl) (by kernel_rfl) ?_
  try simp only [pA, pB, p1, p2, p3]
  have HG : Hid (Box (wk16.setRow gk14 (Av.cells avZ)) g 54 (enL (es ++ [markE])).toArray) := HG.out.rowNe (box_ne HG.out (HF.out.box 5 _ _ _ rfl) (by decide)) _
  have HH : Hid (Box (wk16.setRow gk14 (Av.cells avZ)) h 64 (laL (ls ++ [markL])).toArray) := HH.out.rowNe (box_ne HH.out (HF.out.box 5 _ _ _ rfl) (by decide)) _
  have HF : Hid _ := HF.out.set 5 rfl (Av.cells avZ)
  generalize wk16.setRow gk14 (Av.cells avZ) = wk17 at HF HG HH ⊢
  refine tK (.int .i64 (refS up c)) ?_
  try simp only [pA, pB, p1, p2, p3]
  refine WL.nil ?_
  try simp only [pA, pB, p1, p2, p3]
  go_upto_region 3 with fail
  refine WL.start ?_
  refine tW (.agg (Bv.cells ⟨up, ⟨(some ⟨g, 0, none⟩), en, (en + 1)⟩, ⟨(some ⟨h, 0, none⟩), ln, (ln + 1)⟩⟩)) (exec_load 25 _ rfl ⟨gk8, 0, none⟩ (by kernel_rfl) (.agg (Bv.cells ⟨up, ⟨(some ⟨g, 0, none⟩), en, (en + 1)⟩, ⟨(some ⟨h, 0, none⟩), ln, (ln + 1)⟩⟩)) (ld25 (HF.out.box 3 _ _ _ rfl))) ?_
  try simp only [pA, pB, p1, p2, p3]
  refine tW (.agg (Bv.cells ⟨up, ⟨ea, en, ec⟩, ⟨la, ln, lc⟩⟩)) (exec_load 25 _ rfl ⟨gk1, 0, none⟩ (by kernel_rfl) (.agg (Bv.cells ⟨up, ⟨ea, en, ec⟩, ⟨la, ln, lc⟩⟩)) (ld25 (HF.out.box 0 _ _ _ rfl))) ?_
  try simp only [pA, pB, p1, p2, p3]
  refine wp_callW 19 #[.agg (Bv.cells ⟨up, ⟨(some ⟨g, 0, none⟩), en, (en + 1)⟩, ⟨(some ⟨h, 0, none⟩), ln, (ln + 1)⟩⟩), .agg (Bv.cells ⟨up, ⟨ea, en, ec⟩, ⟨la, ln, lc⟩⟩)] (by kernel_rfl) _ (back_any g h up ea en ec la ln lc es ls _ HG.out HH.out (HE.out.no HF.out.kept) (HL.out.no HF.out.kept) hb hbl) (by kernel_rfl) ?_
  rintro e wk18 ⟨rfl, hk⟩
  have HF : Hid (Fr No w wk18 [(gk1, 25, Bv.cells ⟨up, ⟨ea, en, ec⟩, ⟨la, ln, lc⟩⟩), (gk3, 29, Cm.cells c), (gk5, 25, Bv.cells bvZ), (gk8, 25, Bv.cells ⟨up, ⟨(some ⟨g, 0, none⟩), en, (en + 1)⟩, ⟨(some ⟨h, 0, none⟩), ln, (ln + 1)⟩⟩), (gk12, 25, Bv.cells bvZ), (gk14, 56, Av.cells avZ)]) := HF.out.back HG.out HH.out hgl hhl hk (by simp)
  clear hk HG HH hgl hhl
  refine ⟨.bool true, rfl, ?_⟩
  try simp only [pA, pB, p1, p2, p3]
  refine tK (.bool false) ?_
  try simp only [pA, pB, p1, p2, p3]
  refine WL.nil ?_
  try simp only [pA, pB, p1, p2, p3]
  go_upto_region 5 with fail
  refine WL.start ?_
  refine tW (.agg (Bv.cells ⟨up, ⟨ea, en, ec⟩, ⟨la, ln, lc⟩⟩)) (exec_load 25 _ rfl ⟨gk1, 0, none⟩ (by kernel_rfl) (.agg (Bv.cells ⟨up, ⟨ea, en, ec⟩, ⟨la, ln, lc⟩⟩)) (ld25 (HF.out.box 0 _ _ _ rfl))) ?_
  try simp only [pA, pB, p1, p2, p3]
  refine tW (.agg (Cm.cells c)) (exec_load 29 _ rfl ⟨gk3, 0, none⟩ (by kernel_rfl) (.agg (Cm.cells c)) (ld29 (HF.out.box 1 _ _ _ rfl))) ?_
  try simp only [pA, pB, p1, p2, p3]
  refine tK (.int .i64 room) ?_
  try simp only [pA, pB, p1, p2, p3]
  refine wp_callW 26 #[.agg (Bv.cells ⟨up, ⟨ea, en, ec⟩, ⟨la, ln, lc⟩⟩), .agg (Cm.cells c), .int .i64 room] (by kernel_rfl) _ (refApply_no up ea en ec la ln lc c room _ HR.out) (by kernel_rfl) ?_
  rintro e wk19 ⟨rfl, hk⟩
  have HF : Hid _ := HF.out.no hk
  clear hk
  refine ⟨.tuple #[.agg (Bv.cells bvZ), .agg (Av.cells avZ), .int .i64 (refS up c)], rfl, ?_⟩
  try simp only [pA, pB, p1, p2, p3]
  refine tK (.tuple #[.agg (Bv.cells bvZ), .agg (Av.cells avZ), .int .i64 (refS up c)]) ?_
  try simp only [pA, pB, p1, p2, p3]
  refine tK (.agg (Bv.cells bvZ)) ?_
  try simp only [pA, pB, p1, p2, p3]
  refine tK (.agg (Av.cells avZ)) ?_
  try simp only [pA, pB, p1, p2, p3]
  refine tK (.int .i64 (refS up c)) ?_
  try simp only [pA, pB, p1, p2, p3]
  refine wp_runW (.pointer (some ⟨wk19.heap.size, 0, none⟩)) (wk19.alloc (.cells (Bv.cells bvZ) 25)) (exec_alloc 25 rfl (Bv.cells bvZ) zero25) (by kernel_rfl) ?_
  try simp only [pA, pB, p1, p2, p3]
  have HF : Hid _ := HF.out.alloc 25 (Bv.cells bvZ)
  generalize wk19.alloc (.cells (Bv.cells bvZ) 25) = wk21 at HF ⊢
  generalize wk19.heap.size = gk20 at HF ⊢
  refine wp_runW (.pointer (some ⟨wk21.heap.size, 0, none⟩)) (wk21.alloc (.cells (Av.cells avZ) 56)) (exec_alloc 56 rfl (Av.cells avZ) zero56) (by kernel_rfl) ?_
  try simp only [pA, pB, p1, p2, p3]
  have HF : Hid _ := HF.out.alloc 56 (Av.cells avZ)
  generalize wk21.alloc (.cells (Av.cells avZ) 56) = wk23 at HF ⊢
  generalize wk21.heap.size = gk22 at HF ⊢
  refine wp_storeW 25 _ _ rfl ⟨gk20, 0, none⟩ (.agg (Bv.cells bvZ)) (by kernel_rfl) (by kernel_rfl) (wk23.setRow gk20 (Bv.cells bvZ)) (st25 (HF.out.box 6 _ _ _ rfl) rfl) (by kernel_rfl) ?_
  try simp only [pA, pB, p1, p2, p3]
  have HF : Hid _ := HF.out.set 6 rfl (Bv.cells bvZ)
  generalize wk23.setRow gk20 (Bv.cells bvZ) = wk24 at HF ⊢
  refine wp_storeW 56 _ _ rfl ⟨gk22, 0, none⟩ (.agg (Av.cells avZ)) (by kernel_rfl) (by kernel_rfl) (wk24.setRow gk22 (Av.cells avZ)) (st56 (HF.out.box 7 _ _ _ rfl) rfl) (by kernel_rfl) ?_
  try simp only [pA, pB, p1, p2, p3]
  have HF : Hid _ := HF.out.set 7 rfl (Av.cells avZ)
  generalize wk24.setRow gk22 (Av.cells avZ) = wk25 at HF ⊢
  refine tK (.int .i64 (refS up c)) ?_
  try simp only [pA, pB, p1, p2, p3]
  refine WL.nil ?_
  try simp only [pA, pB, p1, p2, p3]
  go_upto_region 6 with fail
  refine WL.start ?_
  refine tW (.agg (Cm.cells c)) (exec_load 29 _ rfl ⟨gk3, 0, none⟩ (by kernel_rfl) (.agg (Cm.cells c)) (ld29 (HF.out.box 1 _ _ _ rfl))) ?_
  try simp only [pA, pB, p1, p2, p3]
  cases q1 : (badC c)
  ·skip
   refine wp_callW 16 #[.agg (Cm.cells c)] (by kernel_rfl) _ (wrong_any c _) (by kernel_rfl) ?_
   rintro e wk26 ⟨rfl, hk⟩
   have HF : Hid _ := HF.out.no hk
   clear hk
   refine ⟨.bool false, by rw [q1], ?_⟩
   try simp only [pA, pB, p1, p2, p3]
   refine tK (.bool true) ?_
   try simp only [pA, pB, p1, p2, p3]
   refine tK (.bool true) ?_
   try simp only [pA, pB, p1, p2, p3]
   refine tK (.pointer (some ⟨gk1, 0, none⟩)) ?_
   try simp only [pA, pB, p1, p2, p3]
   refine tW (.int .i64 up) (exec_load 3 _ rfl ⟨gk1, 0, none⟩ (by kernel_rfl) (.int .i64 up) (ld3 ((HF.out.box 0 _ _ _ rfl).cell 0))) ?_
   try simp only [pA, pB, p1, p2, p3]
   cases q2 : (decide (up < 1048576))
   ·skip
    refine tW (.bool false) (exec_bin .lss 3 _ _ _ rfl (.int .i64 up) (.int .i64 1048576) (.bool false) (by kernel_rfl) (by kernel_rfl) (by kernel_rfl) (by rw [b_lss, q2]; try rfl)) ?_
    try simp only [pA, pB, p1, p2, p3]
    refine tK (.bool false) ?_
    try simp only [pA, pB, p1, p2, p3]
    refine tK (.bool false) ?_
    try simp only [pA, pB, p1, p2, p3]
    refine sK ?_
    try simp only [pA, pB, p1, p2, p3]
    refine sK ?_
    try simp only [pA, pB, p1, p2, p3]
    refine sK ?_
    try simp only [pA, pB, p1, p2, p3]
    refine sK ?_
    try simp only [pA, pB, p1, p2, p3]
    refine sK ?_
    try simp only [pA, pB, p1, p2, p3]
    refine sK ?_
    try simp only [pA, pB, p1, p2, p3]
    refine sK ?_
    try simp only [pA, pB, p1, p2, p3]
    refine sK ?_
    try simp only [pA, pB, p1, p2, p3]
    refine tK (.bool false) ?_
    try simp only [pA, pB, p1, p2, p3]
    refine WL.nil ?_
    try simp only [pA, pB, p1, p2, p3]
    go_upto_region 8 with fail
    refine wp_region_held_drew (S := fun w' => Box w' gk12 25 (Bv.cells bvZ) ∧ Box w' gk20 25 (Bv.cells bvZ) ∧ Box w' gk14 56 (Av.cells avZ) ∧ Box w' gk22 56 (Av.cells avZ)) rfl ⟨HF.out.box 4 _ _ _ rfl, HF.out.box 6 _ _ _ rfl, HF.out.box 5 _ _ _ rfl, HF.out.box 7 _ _ _ rfl⟩ (fun hH => ?_)
    have HF : Hid _ := HF.out.drew
    generalize wk26.drew = wk27 at HF hH ⊢
    refine aT (i := 0) (oi := opRd0) (v := .agg (Bv.cells bvZ)) (fun w' hw => exec_load 25 _ rfl ⟨gk12, 0, none⟩ (by kernel_rfl) (.agg (Bv.cells bvZ)) (ld25 hw.1)) hH ?_
    try simp only [pA, pB, p1, p2, p3]
    refine aT (i := 1) (oi := opRd1) (v := .int .i64 (refS up c)) (fun _ _ => by kernel_rfl) hH ?_
    try simp only [pA, pB, p1, p2, p3]
    refine aT (i := 2) (oi := opRd2) (v := .int .i64 (refS up c)) (fun _ _ => by kernel_rfl) hH ?_
    try simp only [pA, pB, p1, p2, p3]
    refine aT (i := 3) (oi := opRd3) (v := .bool true) (fun w' hw => exec_bin .eql 3 _ _ _ rfl (.int .i64 (refS up c)) (.int .i64 (refS up c)) (.bool true) (by kernel_rfl) (by kernel_rfl) (by kernel_rfl) (by rw [b_eql]; simp)) hH ?_
    try simp only [pA, pB, p1, p2, p3]
    refine aT (i := 4) (oi := opRd4) (v := .bool true) (fun _ _ => by kernel_rfl) hH ?_
    try simp only [pA, pB, p1, p2, p3]
    refine aT (i := 5) (oi := opRd5) (v := .agg (Bv.cells bvZ)) (fun w' hw => exec_load 25 _ rfl ⟨gk12, 0, none⟩ (by kernel_rfl) (.agg (Bv.cells bvZ)) (ld25 hw.1)) hH ?_
    try simp only [pA, pB, p1, p2, p3]
    refine aT (i := 6) (oi := opRd6) (v := .agg (Bv.cells bvZ)) (fun w' hw => exec_load 25 _ rfl ⟨gk20, 0, none⟩ (by kernel_rfl) (.agg (Bv.cells bvZ)) (ld25 hw.2.1)) hH ?_
    try simp only [pA, pB, p1, p2, p3]
    refine any_call (i := 7) (o := opRd7) rfl (by kernel_rfl) (by kernel_rfl) 15 #[.agg (Bv.cells bvZ), .agg (Bv.cells bvZ)] (by kernel_rfl) _ (sameB_any 0 none 0 0 none 0 0 0 none 0 0 none 0 0 [] [] [] [] _ (OwE.nil _ 0).rd (OwE.nil _ 0).rd (OwL.nil _ 0).rd (OwL.nil _ 0).rd (by omega) (by omega)) ?_
    rintro e wk28 ⟨rfl, hk⟩
    have hH2 : Box wk28 gk12 25 (Bv.cells bvZ) ∧ Box wk28 gk20 25 (Bv.cells bvZ) ∧ Box wk28 gk14 56 (Av.cells avZ) ∧ Box wk28 gk22 56 (Av.cells avZ) := ⟨hH.1.kept hk (fun e => e), hH.2.1.kept hk (fun e => e), hH.2.2.1.kept hk (fun e => e), hH.2.2.2.kept hk (fun e => e)⟩
    have HF : Hid _ := HF.out.no hk
    clear hk
    refine ⟨.bool true, by rw [sameB_refl], hH2, fun hH => ?_⟩
    clear hH2
    try simp only [pA, pB, p1, p2, p3]
    refine aT (i := 8) (oi := opRd8) (v := .bool true) (fun _ _ => by kernel_rfl) hH ?_
    try simp only [pA, pB, p1, p2, p3]
    refine aT (i := 9) (oi := opRd9) (v := .bool true) (fun _ _ => by kernel_rfl) hH ?_
    try simp only [pA, pB, p1, p2, p3]
    refine aT (i := 10) (oi := opRd10) (v := .agg (Av.cells avZ)) (fun w' hw => exec_load 56 _ rfl ⟨gk14, 0, none⟩ (by kernel_rfl) (.agg (Av.cells avZ)) (ld56 hw.2.2.1)) hH ?_
    try simp only [pA, pB, p1, p2, p3]
    refine aT (i := 11) (oi := opRd11) (v := .agg (Av.cells avZ)) (fun w' hw => exec_load 56 _ rfl ⟨gk22, 0, none⟩ (by kernel_rfl) (.agg (Av.cells avZ)) (ld56 hw.2.2.2)) hH ?_
    try simp only [pA, pB, p1, p2, p3]
    refine any_call (i := 12) (o := opRd12) rfl (by kernel_rfl) (by kernel_rfl) 27 #[.agg (Av.cells avZ), .agg (Av.cells avZ)] (by kernel_rfl) _ (sameA_any 0 enZ none 0 0 0 enZ none 0 0 [] [] _ (OwE.nil _ 0).rd (OwE.nil _ 0).rd (by omega)) ?_
    rintro e wk29 ⟨rfl, hk⟩
    have hH2 : Box wk29 gk12 25 (Bv.cells bvZ) ∧ Box wk29 gk20 25 (Bv.cells bvZ) ∧ Box wk29 gk14 56 (Av.cells avZ) ∧ Box wk29 gk22 56 (Av.cells avZ) := ⟨hH.1.kept hk (fun e => e), hH.2.1.kept hk (fun e => e), hH.2.2.1.kept hk (fun e => e), hH.2.2.2.kept hk (fun e => e)⟩
    have HF : Hid _ := HF.out.no hk
    clear hk
    refine ⟨.bool true, by rw [sameA_refl], hH2, fun hH => ?_⟩
    clear hH2
    try simp only [pA, pB, p1, p2, p3]
    refine aT (i := 13) (oi := opRd13) (v := .bool true) (fun _ _ => by kernel_rfl) hH ?_
    try simp only [pA, pB, p1, p2, p3]
    refine any_store (i := 14) (o := opRd14) (w' := wk29.setRow gk5 (Bv.cells bvZ)) rfl (by kernel_rfl) (by kernel_rfl) 25 _ _ rfl ⟨gk5, 0, none⟩ (.agg (Bv.cells bvZ)) (by kernel_rfl) (by kernel_rfl) (st25 (HF.out.box 2 _ _ _ rfl) rfl) (⟨hH.1.rowNe (HF.out.ne 4 2 rfl rfl (by simp)) _, hH.2.1.rowNe (HF.out.ne 6 2 rfl rfl (by simp)) _, hH.2.2.1.rowNe (HF.out.ne 5 2 rfl rfl (by simp)) _, hH.2.2.2.rowNe (HF.out.ne 7 2 rfl rfl (by simp)) _⟩) (fun hH => ?_)
    try simp only [pA, pB, p1, p2, p3]
    have HF : Hid _ := HF.out.set 2 rfl (Bv.cells bvZ)
    generalize wk29.setRow gk5 (Bv.cells bvZ) = wk30 at HF hH ⊢
    refine aT (i := 15) (oi := opRd15) (v := .bool true) (fun _ _ => by kernel_rfl) hH ?_
    try simp only [pA, pB, p1, p2, p3]
    refine wpAnyH_done (by kernel_rfl) ?_ _
    try simp only [pA, pB, p1, p2, p3]
    clear hH
    go_wp2
    rw [HC.out]
    refine bodyPost_ret (results_row_tmp (by rfl) _ _ gk5 (Bv.cells bvZ) (by rfl) (ld25 (HF.out.box 2 _ _ _ rfl))) rfl ?_
    exact ⟨bvZ, rfl, HF.out.kept⟩
   · rw [hbu q1] at q2; cases q2
  ·skip
   refine wp_callW 16 #[.agg (Cm.cells c)] (by kernel_rfl) _ (wrong_any c _) (by kernel_rfl) ?_
   rintro e wk31 ⟨rfl, hk⟩
   have HF : Hid _ := HF.out.no hk
   clear hk
   refine ⟨.bool true, by rw [q1], ?_⟩
   try simp only [pA, pB, p1, p2, p3]
   refine tK (.bool false) ?_
   try simp only [pA, pB, p1, p2, p3]
   refine tK (.bool false) ?_
   try simp only [pA, pB, p1, p2, p3]
   refine sK ?_
   try simp only [pA, pB, p1, p2, p3]
   refine sK ?_
   try simp only [pA, pB, p1, p2, p3]
   refine sK ?_
   try simp only [pA, pB, p1, p2, p3]
   refine tK (.bool false) ?_
   try simp only [pA, pB, p1, p2, p3]
   refine tK (.bool false) ?_
   try simp only [pA, pB, p1, p2, p3]
   refine sK ?_
   try simp only [pA, pB, p1, p2, p3]
   refine sK ?_
   try simp only [pA, pB, p1, p2, p3]
   refine sK ?_
   try simp only [pA, pB, p1, p2, p3]
   refine sK ?_
   try simp only [pA, pB, p1, p2, p3]
   refine sK ?_
   try simp only [pA, pB, p1, p2, p3]
   refine sK ?_
   try simp only [pA, pB, p1, p2, p3]
   refine sK ?_
   try simp only [pA, pB, p1, p2, p3]
   refine sK ?_
   try simp only [pA, pB, p1, p2, p3]
   refine tK (.bool false) ?_
   try simp only [pA, pB, p1, p2, p3]
   refine WL.nil ?_
   try simp only [pA, pB, p1, p2, p3]
   go_upto_region 8 with fail
   refine wp_region_held_drew (S := fun w' => Box w' gk12 25 (Bv.cells bvZ) ∧ Box w' gk20 25 (Bv.cells bvZ) ∧ Box w' gk14 56 (Av.cells avZ) ∧ Box w' gk22 56 (Av.cells avZ)) rfl ⟨HF.out.box 4 _ _ _ rfl, HF.out.box 6 _ _ _ rfl, HF.out.box 5 _ _ _ rfl, HF.out.box 7 _ _ _ rfl⟩ (fun hH => ?_)
   have HF : Hid _ := HF.out.drew
   generalize wk31.drew = wk32 at HF hH ⊢
   refine aT (i := 0) (oi := opRd0) (v := .agg (Bv.cells bvZ)) (fun w' hw => exec_load 25 _ rfl ⟨gk12, 0, none⟩ (by kernel_rfl) (.agg (Bv.cells bvZ)) (ld25 hw.1)) hH ?_
   try simp only [pA, pB, p1, p2, p3]
   refine aT (i := 1) (oi := opRd1) (v := .int .i64 (refS up c)) (fun _ _ => by kernel_rfl) hH ?_
   try simp only [pA, pB, p1, p2, p3]
   refine aT (i := 2) (oi := opRd2) (v := .int .i64 (refS up c)) (fun _ _ => by kernel_rfl) hH ?_
   try simp only [pA, pB, p1, p2, p3]
   refine aT (i := 3) (oi := opRd3) (v := .bool true) (fun w' hw => exec_bin .eql 3 _ _ _ rfl (.int .i64 (refS up c)) (.int .i64 (refS up c)) (.bool true) (by kernel_rfl) (by kernel_rfl) (by kernel_rfl) (by rw [b_eql]; simp)) hH ?_
   try simp only [pA, pB, p1, p2, p3]
   refine aT (i := 4) (oi := opRd4) (v := .bool true) (fun _ _ => by kernel_rfl) hH ?_
   try simp only [pA, pB, p1, p2, p3]
   refine aT (i := 5) (oi := opRd5) (v := .agg (Bv.cells bvZ)) (fun w' hw => exec_load 25 _ rfl ⟨gk12, 0, none⟩ (by kernel_rfl) (.agg (Bv.cells bvZ)) (ld25 hw.1)) hH ?_
   try simp only [pA, pB, p1, p2, p3]
   refine aT (i := 6) (oi := opRd6) (v := .agg (Bv.cells bvZ)) (fun w' hw => exec_load 25 _ rfl ⟨gk20, 0, none⟩ (by kernel_rfl) (.agg (Bv.cells bvZ)) (ld25 hw.2.1)) hH ?_
   try simp only [pA, pB, p1, p2, p3]
   refine any_call (i := 7) (o := opRd7) rfl (by kernel_rfl) (by kernel_rfl) 15 #[.agg (Bv.cells bvZ), .agg (Bv.cells bvZ)] (by kernel_rfl) _ (sameB_any 0 none 0 0 none 0 0 0 none 0 0 none 0 0 [] [] [] [] _ (OwE.nil _ 0).rd (OwE.nil _ 0).rd (OwL.nil _ 0).rd (OwL.nil _ 0).rd (by omega) (by omega)) ?_
   rintro e wk33 ⟨rfl, hk⟩
   have hH2 : Box wk33 gk12 25 (Bv.cells bvZ) ∧ Box wk33 gk20 25 (Bv.cells bvZ) ∧ Box wk33 gk14 56 (Av.cells avZ) ∧ Box wk33 gk22 56 (Av.cells avZ) := ⟨hH.1.kept hk (fun e => e), hH.2.1.kept hk (fun e => e), hH.2.2.1.kept hk (fun e => e), hH.2.2.2.kept hk (fun e => e)⟩
   have HF : Hid _ := HF.out.no hk
   clear hk
   refine ⟨.bool true, by rw [sameB_refl], hH2, fun hH => ?_⟩
   clear hH2
   try simp only [pA, pB, p1, p2, p3]
   refine aT (i := 8) (oi := opRd8) (v := .bool true) (fun _ _ => by kernel_rfl) hH ?_
   try simp only [pA, pB, p1, p2, p3]
   refine aT (i := 9) (oi := opRd9) (v := .bool true) (fun _ _ => by kernel_rfl) hH ?_
   try simp only [pA, pB, p1, p2, p3]
   refine aT (i := 10) (oi := opRd10) (v := .agg (Av.cells avZ)) (fun w' hw => exec_load 56 _ rfl ⟨gk14, 0, none⟩ (by kernel_rfl) (.agg (Av.cells avZ)) (ld56 hw.2.2.1)) hH ?_
   try simp only [pA, pB, p1, p2, p3]
   refine aT (i := 11) (oi := opRd11) (v := .agg (Av.cells avZ)) (fun w' hw => exec_load 56 _ rfl ⟨gk22, 0, none⟩ (by kernel_rfl) (.agg (Av.cells avZ)) (ld56 hw.2.2.2)) hH ?_
   try simp only [pA, pB, p1, p2, p3]
   refine any_call (i := 12) (o := opRd12) rfl (by kernel_rfl) (by kernel_rfl) 27 #[.agg (Av.cells avZ), .agg (Av.cells avZ)] (by kernel_rfl) _ (sameA_any 0 enZ none 0 0 0 enZ none 0 0 [] [] _ (OwE.nil _ 0).rd (OwE.nil _ 0).rd (by omega)) ?_
   rintro e wk34 ⟨rfl, hk⟩
   have hH2 : Box wk34 gk12 25 (Bv.cells bvZ) ∧ Box wk34 gk20 25 (Bv.cells bvZ) ∧ Box wk34 gk14 56 (Av.cells avZ) ∧ Box wk34 gk22 56 (Av.cells avZ) := ⟨hH.1.kept hk (fun e => e), hH.2.1.kept hk (fun e => e), hH.2.2.1.kept hk (fun e => e), hH.2.2.2.kept hk (fun e => e)⟩
   have HF : Hid _ := HF.out.no hk
   clear hk
   refine ⟨.bool true, by rw [sameA_refl], hH2, fun hH => ?_⟩
   clear hH2
   try simp only [pA, pB, p1, p2, p3]
   refine aT (i := 13) (oi := opRd13) (v := .bool true) (fun _ _ => by kernel_rfl) hH ?_
   try simp only [pA, pB, p1, p2, p3]
   refine any_store (i := 14) (o := opRd14) (w' := wk34.setRow gk5 (Bv.cells bvZ)) rfl (by kernel_rfl) (by kernel_rfl) 25 _ _ rfl ⟨gk5, 0, none⟩ (.agg (Bv.cells bvZ)) (by kernel_rfl) (by kernel_rfl) (st25 (HF.out.box 2 _ _ _ rfl) rfl) (⟨hH.1.rowNe (HF.out.ne 4 2 rfl rfl (by simp)) _, hH.2.1.rowNe (HF.out.ne 6 2 rfl rfl (by simp)) _, hH.2.2.1.rowNe (HF.out.ne 5 2 rfl rfl (by simp)) _, hH.2.2.2.rowNe (HF.out.ne 7 2 rfl rfl (by simp)) _⟩) (fun hH => ?_)
   try simp only [pA, pB, p1, p2, p3]
   have HF : Hid _ := HF.out.set 2 rfl (Bv.cells bvZ)
   generalize wk34.setRow gk5 (Bv.cells bvZ) = wk35 at HF hH ⊢
   refine aT (i := 15) (oi := opRd15) (v := .bool true) (fun _ _ => by kernel_rfl) hH ?_
   try simp only [pA, pB, p1, p2, p3]
   refine wpAnyH_done (by kernel_rfl) ?_ _
   try simp only [pA, pB, p1, p2, p3]
   clear hH
   go_wp2
   rw [HC.out]
   refine bodyPost_ret (results_row_tmp (by rfl) _ _ gk5 (Bv.cells bvZ) (by rfl) (ld25 (HF.out.box 2 _ _ _ rfl))) rfl ?_
   exact ⟨bvZ, rfl, HF.out.kept⟩
theorem applied_any (up : Int) (ea : Option Addr) (en ec : Nat) (la : Option Addr) (ln lc : Nat) (es : List En) (ls : List La) (c : Cm) (room : Int) (w : World) (he : RdE w ⟨ea, en, ec⟩ es) (hl : RdL w ⟨la, ln, lc⟩ ls) (hec : en ≤ ec) (hb : en + 1 ≤ 3518437208883) (hbl : ln + 1 ≤ 2513169434916) (hu1 : -9223372036854775808 ≤ up) : Calls Try.prog 9 #[.agg (Bv.cells ⟨up, ⟨ea, en, ec⟩, ⟨la, ln, lc⟩⟩), .agg (Cm.cells c), .int .i64 room] w (fun e w' => ∃ b : Bv, e = .returned (.tuple #[.agg b.cells, .bool true]) ∧ Kept No w w') := by
  by_cases hr : refS up c = 0
  · exact (applied_yes up ea en ec la ln lc es ls c room w he hl hec hb hbl hu1 hr).mono fun e w' ⟨b, h1, _, h2⟩ => ⟨b, h1, h2⟩
  · exact applied_no up ea en ec la ln lc es ls c room w he hl hec hb hbl hu1 hr

end Go.Proofs.Ytfemlnfknebalaa
