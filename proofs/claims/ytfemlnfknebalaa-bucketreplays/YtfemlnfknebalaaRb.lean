import Derived.Test.YtfemlnfknebalaaRa
namespace Go.Proofs.Ytfemlnfknebalaa
open Go.RowKit
set_option linter.unusedVariables false
set_option linter.unusedSimpArgs false

def LendOut (w : World) (up : Int) (en ln : Nat) (es : List En) (ls : List La) (e : Ending) (w' : World) : Prop :=
  ∃ g h : Nat, e = .returned (.agg (Bv.cells ⟨up, ⟨some ⟨g, 0, none⟩, en, en + 1⟩, ⟨some ⟨h, 0, none⟩, ln, ln + 1⟩⟩)) ∧ w.heap.size ≤ g ∧ w.heap.size ≤ h ∧ Box w' g 54 (enL (es ++ [markE])).toArray ∧ Box w' h 64 (laL (ls ++ [markL])).toArray ∧ Kept No w w'
set_option maxRecDepth 100000 in
set_option maxHeartbeats 4000000 in
theorem lend_any (up : Int) (ea : Option Addr) (en ec : Nat) (la : Option Addr) (ln lc : Nat) (es : List En) (ls : List La) (w : World) (he : RdE w ⟨ea, en, ec⟩ es) (hl : RdL w ⟨la, ln, lc⟩ ls) (hb : en + 1 ≤ 3518437208883) (hbl : ln + 1 ≤ 2513169434916) : Calls Try.prog 17 #[.agg (Bv.cells ⟨up, ⟨ea, en, ec⟩, ⟨la, ln, lc⟩⟩)] w (LendOut w up en ln es ls) := by
  obtain ⟨C, hC⟩ : ∃ C : Ending → World → Prop, C = (LendOut w up en ln es ls) := ⟨_, rfl⟩
  have HC : Hid (C = (LendOut w up en ln es ls)) := hC
  rw [← hC]
  clear hC
  have HEL : Hid (es.length = en) := he.len
  have HLL : Hid (ls.length = ln) := hl.len
  have HE : Hid (RdE w ⟨ea, en, ec⟩ es) := he
  have HL : Hid (RdL w ⟨la, ln, lc⟩ ls) := hl
  clear he hl
  have HF : Hid (Fr No w w []) := Fr.start _ _
  go_enter Try.func17, Try.ntmps17
  go_upto_region 0 with fail
  refine WL.start ?_
  refine wp_runW (.pointer (some ⟨w.heap.size, 0, none⟩)) (w.alloc (.cells (Bv.cells ⟨up, ⟨ea, en, ec⟩, ⟨la, ln, lc⟩⟩) 25)) (exec_box 25 _ rfl (Bv.cells ⟨up, ⟨ea, en, ec⟩, ⟨la, ln, lc⟩⟩) (by kernel_rfl)) (by kernel_rfl) ?_
  try simp only [pA, pB, p1, p2, p3]
  have HF : Hid (Fr No w (w.alloc (.cells (Bv.cells ⟨up, ⟨ea, en, ec⟩, ⟨la, ln, lc⟩⟩) 25)) [(w.heap.size, 25, Bv.cells ⟨up, ⟨ea, en, ec⟩, ⟨la, ln, lc⟩⟩)]) := HF.out.alloc _ _
  generalize w.alloc (.cells (Bv.cells ⟨up, ⟨ea, en, ec⟩, ⟨la, ln, lc⟩⟩) 25) = wk2 at HF ⊢
  generalize w.heap.size = gk1 at HF ⊢
  refine wp_runW (.pointer (some ⟨wk2.heap.size, 0, none⟩)) (wk2.alloc (.cells (Bv.cells bvZ) 25)) (exec_alloc 25 rfl (Bv.cells bvZ) zero25) (by kernel_rfl) ?_
  try simp only [pA, pB, p1, p2, p3]
  have HF : Hid (Fr No w (wk2.alloc (.cells (Bv.cells bvZ) 25)) [(gk1, 25, Bv.cells ⟨up, ⟨ea, en, ec⟩, ⟨la, ln, lc⟩⟩), (wk2.heap.size, 25, Bv.cells bvZ)]) := HF.out.alloc _ _
  generalize wk2.alloc (.cells (Bv.cells bvZ) 25) = wk4 at HF ⊢
  generalize wk2.heap.size = gk3 at HF ⊢
  refine WL.nil ?_
  try simp only [pA, pB, p1, p2, p3]
  go_upto_region 1 with fail
  refine WL.start ?_
  refine tK (.pointer (some ⟨gk1, 1, none⟩)) ?_
  try simp only [pA, pB, p1, p2, p3]
  refine tW (.slice ea en ec) (exec_load 22 _ rfl ⟨gk1, 1, none⟩ (by kernel_rfl) (.slice ea en ec) (ld22 ((HF.out.box 0 _ _ _ rfl).cell 1))) ?_
  try simp only [pA, pB, p1, p2, p3]
  refine tK (.int .i64 ((en : Nat) : Int)) ?_
  try simp only [pA, pB, p1, p2, p3]
  refine tW (.int .i64 (((en + 1) : Nat) : Int)) (exec_bin .add 3 _ _ _ rfl (.int .i64 ((en : Nat) : Int)) (.int .i64 1) (.int .i64 (((en + 1) : Nat) : Int)) (by kernel_rfl) (by kernel_rfl) (by kernel_rfl) (b_addN en 1 (en + 1) rfl (by omega) _)) ?_
  try simp only [pA, pB, p1, p2, p3]
  refine wp_runW (.slice (some ⟨wk4.heap.size, 0, none⟩) (en + 1) (en + 1)) (wk4.alloc (.cells (enL (List.replicate (en + 1) enZ)).toArray 54)) (exec_make 22 _ _ rfl _ _ (by kernel_rfl) (by kernel_rfl) (make_en _ (en + 1) hb)) (by kernel_rfl) ?_
  try simp only [pA, pB, p1, p2, p3]
  have HF : Hid (Fr No w (wk4.alloc (.cells (enL (List.replicate (en + 1) enZ)).toArray 54)) [(gk1, 25, Bv.cells ⟨up, ⟨ea, en, ec⟩, ⟨la, ln, lc⟩⟩), (gk3, 25, Bv.cells bvZ), (wk4.heap.size, 54, (enL (List.replicate (en + 1) enZ)).toArray)]) := HF.out.alloc _ _
  generalize wk4.alloc (.cells (enL (List.replicate (en + 1) enZ)).toArray 54) = wk6 at HF ⊢
  generalize wk4.heap.size = gk5 at HF ⊢
  refine tK (.slice (some ⟨gk5, 0, none⟩) (en + 1) (en + 1)) ?_
  try simp only [pA, pB, p1, p2, p3]
  refine WL.nil ?_
  try simp only [pA, pB, p1, p2, p3]
  go_upto_region 2 with fail
  refine WL.start ?_
  refine tK (.slice (some ⟨gk5, 0, none⟩) (en + 1) (en + 1)) ?_
  try simp only [pA, pB, p1, p2, p3]
  refine tK (.pointer (some ⟨gk1, 1, none⟩)) ?_
  try simp only [pA, pB, p1, p2, p3]
  refine tW (.slice ea en ec) (exec_load 22 _ rfl ⟨gk1, 1, none⟩ (by kernel_rfl) (.slice ea en ec) (ld22 ((HF.out.box 0 _ _ _ rfl).cell 1))) ?_
  try simp only [pA, pB, p1, p2, p3]
  refine wp_runW (goInt en) (wk6.setRow gk5 (enL (es ++ [enZ])).toArray) (exec_copy _ _ 22 22 rfl _ _ (by kernel_rfl) (by kernel_rfl) (copy_en _ (HF.out.box 2 _ _ _ rfl) (HE.out.no HF.out.kept))) (by kernel_rfl) ?_
  try simp only [pA, pB, p1, p2, p3]
  have HF : Hid (Fr No w (wk6.setRow gk5 (enL (es ++ [enZ])).toArray) [(gk1, 25, Bv.cells ⟨up, ⟨ea, en, ec⟩, ⟨la, ln, lc⟩⟩), (gk3, 25, Bv.cells bvZ), (gk5, 54, (enL (es ++ [enZ])).toArray)]) := HF.out.set 2 rfl _
  generalize wk6.setRow gk5 (enL (es ++ [enZ])).toArray = wk7 at HF ⊢
  refine WL.nil ?_
  try simp only [pA, pB, p1, p2, p3]
  go_upto_region 3 with fail
  refine WL.start ?_
  refine tK (.slice (some ⟨gk5, 0, none⟩) (en + 1) (en + 1)) ?_
  try simp only [pA, pB, p1, p2, p3]
  refine tK (.pointer (some ⟨gk1, 1, none⟩)) ?_
  try simp only [pA, pB, p1, p2, p3]
  refine tW (.slice ea en ec) (exec_load 22 _ rfl ⟨gk1, 1, none⟩ (by kernel_rfl) (.slice ea en ec) (ld22 ((HF.out.box 0 _ _ _ rfl).cell 1))) ?_
  try simp only [pA, pB, p1, p2, p3]
  refine tK (.int .i64 ((en : Nat) : Int)) ?_
  try simp only [pA, pB, p1, p2, p3]
  refine tW (.agg (En.cells markE)) (exec_build 54 _ rfl (En.cells markE) (by kernel_rfl)) ?_
  try simp only [pA, pB, p1, p2, p3]
  refine tW (.pointer (some ⟨gk5, 0 + en * 4, none⟩)) (exec_ixA 22 4 Try.und22e Try.size22e _ _ rfl gk5 0 (en + 1) (en + 1) en (by kernel_rfl) (by kernel_rfl) (Nat.lt_succ_self _)) ?_
  try simp only [pA, pB, p1, p2, p3]
  refine wp_storeW 54 _ _ rfl ⟨gk5, 0 + en * 4, none⟩ (.agg (En.cells markE)) (by kernel_rfl) (by kernel_rfl) (wk7.setRow gk5 (enL (es ++ [markE])).toArray) (mark_en enZ markE HEL.out (HF.out.box 2 _ _ _ rfl)) (by kernel_rfl) ?_
  try simp only [pA, pB, p1, p2, p3]
  have HF : Hid (Fr No w (wk7.setRow gk5 (enL (es ++ [markE])).toArray) [(gk1, 25, Bv.cells ⟨up, ⟨ea, en, ec⟩, ⟨la, ln, lc⟩⟩), (gk3, 25, Bv.cells bvZ), (gk5, 54, (enL (es ++ [markE])).toArray)]) := HF.out.set 2 rfl _
  generalize wk7.setRow gk5 (enL (es ++ [markE])).toArray = wk8 at HF ⊢
  refine WL.nil ?_
  try simp only [pA, pB, p1, p2, p3]
  go_upto_region 4 with fail
  refine WL.start ?_
  refine tK (.pointer (some ⟨gk1, 2, none⟩)) ?_
  try simp only [pA, pB, p1, p2, p3]
  refine tW (.slice la ln lc) (exec_load 23 _ rfl ⟨gk1, 2, none⟩ (by kernel_rfl) (.slice la ln lc) (ld23 ((HF.out.box 0 _ _ _ rfl).cell 2))) ?_
  try simp only [pA, pB, p1, p2, p3]
  refine tK (.int .i64 ((ln : Nat) : Int)) ?_
  try simp only [pA, pB, p1, p2, p3]
  refine tW (.int .i64 (((ln + 1) : Nat) : Int)) (exec_bin .add 3 _ _ _ rfl (.int .i64 ((ln : Nat) : Int)) (.int .i64 1) (.int .i64 (((ln + 1) : Nat) : Int)) (by kernel_rfl) (by kernel_rfl) (by kernel_rfl) (b_addN ln 1 (ln + 1) rfl (by omega) _)) ?_
  try simp only [pA, pB, p1, p2, p3]
  refine wp_runW (.slice (some ⟨wk8.heap.size, 0, none⟩) (ln + 1) (ln + 1)) (wk8.alloc (.cells (laL (List.replicate (ln + 1) laZ)).toArray 64)) (exec_make 23 _ _ rfl _ _ (by kernel_rfl) (by kernel_rfl) (make_la _ (ln + 1) hbl)) (by kernel_rfl) ?_
  try simp only [pA, pB, p1, p2, p3]
  have HF : Hid (Fr No w (wk8.alloc (.cells (laL (List.replicate (ln + 1) laZ)).toArray 64)) [(gk1, 25, Bv.cells ⟨up, ⟨ea, en, ec⟩, ⟨la, ln, lc⟩⟩), (gk3, 25, Bv.cells bvZ), (gk5, 54, (enL (es ++ [markE])).toArray), (wk8.heap.size, 64, (laL (List.replicate (ln + 1) laZ)).toArray)]) := HF.out.alloc _ _
  generalize wk8.alloc (.cells (laL (List.replicate (ln + 1) laZ)).toArray 64) = wk10 at HF ⊢
  generalize wk8.heap.size = gk9 at HF ⊢
  refine tK (.slice (some ⟨gk9, 0, none⟩) (ln + 1) (ln + 1)) ?_
  try simp only [pA, pB, p1, p2, p3]
  refine WL.nil ?_
  try simp only [pA, pB, p1, p2, p3]
  go_upto_region 5 with fail
  refine WL.start ?_
  refine tK (.slice (some ⟨gk9, 0, none⟩) (ln + 1) (ln + 1)) ?_
  try simp only [pA, pB, p1, p2, p3]
  refine tK (.pointer (some ⟨gk1, 2, none⟩)) ?_
  try simp only [pA, pB, p1, p2, p3]
  refine tW (.slice la ln lc) (exec_load 23 _ rfl ⟨gk1, 2, none⟩ (by kernel_rfl) (.slice la ln lc) (ld23 ((HF.out.box 0 _ _ _ rfl).cell 2))) ?_
  try simp only [pA, pB, p1, p2, p3]
  refine wp_runW (goInt ln) (wk10.setRow gk9 (laL (ls ++ [laZ])).toArray) (exec_copy _ _ 23 23 rfl _ _ (by kernel_rfl) (by kernel_rfl) (copy_la _ (HF.out.box 3 _ _ _ rfl) (HL.out.no HF.out.kept))) (by kernel_rfl) ?_
  try simp only [pA, pB, p1, p2, p3]
  have HF : Hid (Fr No w (wk10.setRow gk9 (laL (ls ++ [laZ])).toArray) [(gk1, 25, Bv.cells ⟨up, ⟨ea, en, ec⟩, ⟨la, ln, lc⟩⟩), (gk3, 25, Bv.cells bvZ), (gk5, 54, (enL (es ++ [markE])).toArray), (gk9, 64, (laL (ls ++ [laZ])).toArray)]) := HF.out.set 3 rfl _
  generalize wk10.setRow gk9 (laL (ls ++ [laZ])).toArray = wk11 at HF ⊢
  refine WL.nil ?_
  try simp only [pA, pB, p1, p2, p3]
  go_upto_region 6 with fail
  refine WL.start ?_
  refine tK (.slice (some ⟨gk9, 0, none⟩) (ln + 1) (ln + 1)) ?_
  try simp only [pA, pB, p1, p2, p3]
  refine tK (.pointer (some ⟨gk1, 2, none⟩)) ?_
  try simp only [pA, pB, p1, p2, p3]
  refine tW (.slice la ln lc) (exec_load 23 _ rfl ⟨gk1, 2, none⟩ (by kernel_rfl) (.slice la ln lc) (ld23 ((HF.out.box 0 _ _ _ rfl).cell 2))) ?_
  try simp only [pA, pB, p1, p2, p3]
  refine tK (.int .i64 ((ln : Nat) : Int)) ?_
  try simp only [pA, pB, p1, p2, p3]
  refine tW (.agg (La.cells markL)) (exec_build 64 _ rfl (La.cells markL) (by kernel_rfl)) ?_
  try simp only [pA, pB, p1, p2, p3]
  refine tW (.pointer (some ⟨gk9, 0 + ln * 7, none⟩)) (exec_ixA 23 7 Try.und23e Try.size23e _ _ rfl gk9 0 (ln + 1) (ln + 1) ln (by kernel_rfl) (by kernel_rfl) (Nat.lt_succ_self _)) ?_
  try simp only [pA, pB, p1, p2, p3]
  refine wp_storeW 64 _ _ rfl ⟨gk9, 0 + ln * 7, none⟩ (.agg (La.cells markL)) (by kernel_rfl) (by kernel_rfl) (wk11.setRow gk9 (laL (ls ++ [markL])).toArray) (mark_la laZ markL HLL.out (HF.out.box 3 _ _ _ rfl)) (by kernel_rfl) ?_
  try simp only [pA, pB, p1, p2, p3]
  have HF : Hid (Fr No w (wk11.setRow gk9 (laL (ls ++ [markL])).toArray) [(gk1, 25, Bv.cells ⟨up, ⟨ea, en, ec⟩, ⟨la, ln, lc⟩⟩), (gk3, 25, Bv.cells bvZ), (gk5, 54, (enL (es ++ [markE])).toArray), (gk9, 64, (laL (ls ++ [markL])).toArray)]) := HF.out.set 3 rfl _
  generalize wk11.setRow gk9 (laL (ls ++ [markL])).toArray = wk12 at HF ⊢
  refine WL.nil ?_
  try simp only [pA, pB, p1, p2, p3]
  go_upto_region 7 with fail
  refine wp_region_held_drew (S := fun w' => Box w' gk1 25 (Bv.cells ⟨up, ⟨ea, en, ec⟩, ⟨la, ln, lc⟩⟩)) rfl (HF.out.box 0 _ _ _ rfl) (fun hH => ?_)
  have HF : Hid (Fr No w (wk12.drew) [(gk1, 25, Bv.cells ⟨up, ⟨ea, en, ec⟩, ⟨la, ln, lc⟩⟩), (gk3, 25, Bv.cells bvZ), (gk5, 54, (enL (es ++ [markE])).toArray), (gk9, 64, (laL (ls ++ [markL])).toArray)]) := HF.out.drew
  generalize wk12.drew = wk13 at HF hH ⊢
  refine aT (i := 0) (oi := { dst := some 35, op := Op.fieldAddr 25 (Operand.tmp 1) 0, type := 0, pos := "law.go:26", after := #[], guard := none }) (v := .pointer (some ⟨gk1, 0, none⟩)) (fun _ _ => by kernel_rfl) hH ?_
  try simp only [pA, pB, p1, p2, p3]
  refine aT (i := 1) (oi := { dst := some 36, op := Op.load 3 (Operand.tmp 35), type := 3, pos := "law.go:26", after := #[{ on := 0, ground := Ground.data }], guard := none }) (v := .int .i64 up) (fun w' hw => exec_load 3 _ rfl ⟨gk1, 0, none⟩ (by kernel_rfl) (.int .i64 up) (ld3 (hw.cell 0))) hH ?_
  try simp only [pA, pB, p1, p2, p3]
  refine aT (i := 2) (oi := { dst := some 37, op := Op.move (Operand.tmp 3), type := 22, pos := "law.go:26", after := #[], guard := none }) (v := .slice (some ⟨gk5, 0, none⟩) (en + 1) (en + 1)) (fun _ _ => by kernel_rfl) hH ?_
  try simp only [pA, pB, p1, p2, p3]
  refine aT (i := 3) (oi := { dst := some 38, op := Op.fieldAddr 25 (Operand.tmp 1) 1, type := 0, pos := "law.go:26", after := #[], guard := none }) (v := .pointer (some ⟨gk1, 1, none⟩)) (fun _ _ => by kernel_rfl) hH ?_
  try simp only [pA, pB, p1, p2, p3]
  refine aT (i := 4) (oi := { dst := some 39, op := Op.load 22 (Operand.tmp 38), type := 22, pos := "law.go:26", after := #[{ on := 3, ground := Ground.data }], guard := none }) (v := .slice ea en ec) (fun w' hw => exec_load 22 _ rfl ⟨gk1, 1, none⟩ (by kernel_rfl) (.slice ea en ec) (ld22 (hw.cell 1))) hH ?_
  try simp only [pA, pB, p1, p2, p3]
  refine aT (i := 5) (oi := { dst := some 40, op := Op.call { callee := Callee.builtin Builtin.len, args := #[Operand.tmp 39], argTypes := #[22] }, type := 3, pos := "law.go:26", after := #[{ on := 4, ground := Ground.data }], guard := none }) (v := .int .i64 ((en : Nat) : Int)) (fun _ _ => by kernel_rfl) hH ?_
  try simp only [pA, pB, p1, p2, p3]
  refine aT (i := 6) (oi := { dst := some 41, op := Op.slice 22 (Operand.tmp 37) none (some (Operand.tmp 40)) none, type := 22, pos := "law.go:26", after := #[{ on := 2, ground := Ground.data }, { on := 5, ground := Ground.data }], guard := none }) (v := .slice (some ⟨gk5, 0, none⟩) en (en + 1)) (fun w' hw => by rw [exec_slH 22 _ _ rfl 4 Try.und22e Try.size22e (some ⟨gk5, 0, none⟩) (en + 1) (en + 1) en (by kernel_rfl) (by kernel_rfl) (Nat.le_succ _), sliced0 _ _ _ _ (Nat.succ_pos _)]) hH ?_
  try simp only [pA, pB, p1, p2, p3]
  refine aT (i := 7) (oi := { dst := some 42, op := Op.move (Operand.tmp 4), type := 23, pos := "law.go:26", after := #[], guard := none }) (v := .slice (some ⟨gk9, 0, none⟩) (ln + 1) (ln + 1)) (fun _ _ => by kernel_rfl) hH ?_
  try simp only [pA, pB, p1, p2, p3]
  refine aT (i := 8) (oi := { dst := some 43, op := Op.fieldAddr 25 (Operand.tmp 1) 2, type := 0, pos := "law.go:26", after := #[], guard := none }) (v := .pointer (some ⟨gk1, 2, none⟩)) (fun _ _ => by kernel_rfl) hH ?_
  try simp only [pA, pB, p1, p2, p3]
  refine aT (i := 9) (oi := { dst := some 44, op := Op.load 23 (Operand.tmp 43), type := 23, pos := "law.go:26", after := #[{ on := 8, ground := Ground.data }], guard := none }) (v := .slice la ln lc) (fun w' hw => exec_load 23 _ rfl ⟨gk1, 2, none⟩ (by kernel_rfl) (.slice la ln lc) (ld23 (hw.cell 2))) hH ?_
  try simp only [pA, pB, p1, p2, p3]
  refine aT (i := 10) (oi := { dst := some 45, op := Op.call { callee := Callee.builtin Builtin.len, args := #[Operand.tmp 44], argTypes := #[23] }, type := 3, pos := "law.go:26", after := #[{ on := 9, ground := Ground.data }], guard := none }) (v := .int .i64 ((ln : Nat) : Int)) (fun _ _ => by kernel_rfl) hH ?_
  try simp only [pA, pB, p1, p2, p3]
  refine aT (i := 11) (oi := { dst := some 46, op := Op.slice 23 (Operand.tmp 42) none (some (Operand.tmp 45)) none, type := 23, pos := "law.go:26", after := #[{ on := 7, ground := Ground.data }, { on := 10, ground := Ground.data }], guard := none }) (v := .slice (some ⟨gk9, 0, none⟩) ln (ln + 1)) (fun w' hw => by rw [exec_slH 23 _ _ rfl 7 Try.und23e Try.size23e (some ⟨gk9, 0, none⟩) (ln + 1) (ln + 1) ln (by kernel_rfl) (by kernel_rfl) (Nat.le_succ _), sliced0 _ _ _ _ (Nat.succ_pos _)]) hH ?_
  try simp only [pA, pB, p1, p2, p3]
  refine aT (i := 12) (oi := { dst := some 47, op := Op.build 25 #[(0, Operand.tmp 36), (1, Operand.tmp 41), (2, Operand.tmp 46)], type := 25, pos := "law.go:26", after := #[{ on := 1, ground := Ground.data }, { on := 6, ground := Ground.data }, { on := 11, ground := Ground.data }], guard := none }) (v := .agg (Bv.cells ⟨up, ⟨(some ⟨gk5, 0, none⟩), en, (en + 1)⟩, ⟨(some ⟨gk9, 0, none⟩), ln, (ln + 1)⟩⟩)) (fun w' hw => exec_build 25 _ rfl (Bv.cells ⟨up, ⟨(some ⟨gk5, 0, none⟩), en, (en + 1)⟩, ⟨(some ⟨gk9, 0, none⟩), ln, (ln + 1)⟩⟩) (by kernel_rfl)) hH ?_
  try simp only [pA, pB, p1, p2, p3]
  refine any_store (i := 13) (o := { dst := none, op := Op.store 25 (Operand.tmp 2) (Operand.tmp 47), type := 0, pos := "law.go:26", after := #[{ on := 12, ground := Ground.data }, { on := 0, ground := Ground.phase }, { on := 1, ground := Ground.phase }, { on := 2, ground := Ground.phase }, { on := 3, ground := Ground.phase }, { on := 4, ground := Ground.phase }, { on := 5, ground := Ground.phase }, { on := 6, ground := Ground.phase }, { on := 7, ground := Ground.phase }, { on := 8, ground := Ground.phase }, { on := 9, ground := Ground.phase }, { on := 10, ground := Ground.phase }, { on := 11, ground := Ground.phase }, { on := 12, ground := Ground.phase }], guard := none }) (w' := wk13.setRow gk3 (Bv.cells ⟨up, ⟨(some ⟨gk5, 0, none⟩), en, (en + 1)⟩, ⟨(some ⟨gk9, 0, none⟩), ln, (ln + 1)⟩⟩)) rfl (by kernel_rfl) (by kernel_rfl) 25 _ _ rfl ⟨gk3, 0, none⟩ (.agg (Bv.cells ⟨up, ⟨(some ⟨gk5, 0, none⟩), en, (en + 1)⟩, ⟨(some ⟨gk9, 0, none⟩), ln, (ln + 1)⟩⟩)) (by kernel_rfl) (by kernel_rfl) (st25 (HF.out.box 1 _ _ _ rfl) rfl) ((hH.rowNe (HF.out.ne 0 1 rfl rfl (by simp)) _)) (fun hH => ?_)
  try simp only [pA, pB, p1, p2, p3]
  have HF : Hid (Fr No w (wk13.setRow gk3 (Bv.cells ⟨up, ⟨(some ⟨gk5, 0, none⟩), en, (en + 1)⟩, ⟨(some ⟨gk9, 0, none⟩), ln, (ln + 1)⟩⟩)) [(gk1, 25, Bv.cells ⟨up, ⟨ea, en, ec⟩, ⟨la, ln, lc⟩⟩), (gk3, 25, Bv.cells ⟨up, ⟨(some ⟨gk5, 0, none⟩), en, (en + 1)⟩, ⟨(some ⟨gk9, 0, none⟩), ln, (ln + 1)⟩⟩), (gk5, 54, (enL (es ++ [markE])).toArray), (gk9, 64, (laL (ls ++ [markL])).toArray)]) := HF.out.set 1 rfl _
  generalize wk13.setRow gk3 (Bv.cells ⟨up, ⟨(some ⟨gk5, 0, none⟩), en, (en + 1)⟩, ⟨(some ⟨gk9, 0, none⟩), ln, (ln + 1)⟩⟩) = wk14 at HF hH ⊢
  refine wpAnyH_done (by kernel_rfl) ?_ _
  try simp only [pA, pB, p1, p2, p3]
  clear hH
  go_wp2
  rw [HC.out]
  refine bodyPost_ret (results_row1 (by rfl) _ _ gk3 (Bv.cells ⟨up, ⟨(some ⟨gk5, 0, none⟩), en, (en + 1)⟩, ⟨(some ⟨gk9, 0, none⟩), ln, (ln + 1)⟩⟩) (by rfl) (ld25 (HF.out.box 1 _ _ _ rfl))) rfl ?_
  exact ⟨gk5, gk9, rfl, HF.out.low 2 _ _ _ rfl, HF.out.low 3 _ _ _ rfl, HF.out.box 2 _ _ _ rfl, HF.out.box 3 _ _ _ rfl, HF.out.kept⟩

end Go.Proofs.Ytfemlnfknebalaa
