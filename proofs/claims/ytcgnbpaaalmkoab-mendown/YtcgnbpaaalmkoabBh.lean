import Derived.Test.YtcgnbpaaalmkoabBg
namespace Go.Proofs.Ytcgnbpaaalmkoab
open Go.RowKit
set_option linter.unusedVariables false
set_option linter.unusedSimpArgs false
@[reducible] def oqBh0 : Oper := { dst := some 47, op := Op.move (Operand.tmp 6), type := 3, pos := "law.go:30", after := #[], guard := none }
@[reducible] def oqBh1 : Oper := { dst := some 48, op := Op.fieldAddr 33 (Operand.tmp 3) 2, type := 0, pos := "law.go:30", after := #[], guard := none }
@[reducible] def oqBh2 : Oper := { dst := some 49, op := Op.load 31 (Operand.tmp 48), type := 31, pos := "law.go:30", after := #[{ on := 1, ground := Ground.data }], guard := none }
@[reducible] def oqBh3 : Oper := { dst := some 50, op := Op.call { callee := Callee.builtin Builtin.len, args := #[Operand.tmp 49], argTypes := #[31] }, type := 3, pos := "law.go:30", after := #[{ on := 2, ground := Ground.data }], guard := none }
@[reducible] def oqBh4 : Oper := { dst := some 51, op := Op.binOp BinOp.lss 3 (Operand.tmp 47) (Operand.tmp 50) 3, type := 4, pos := "law.go:30", after := #[{ on := 0, ground := Ground.data }, { on := 3, ground := Ground.data }], guard := none }
@[reducible] def oqBh5 : Oper := { dst := some 52, op := Op.move (Operand.tmp 51), type := 4, pos := "law.go:30", after := #[{ on := 4, ground := Ground.data }], guard := none }
@[reducible] def oqBh6 : Oper := { dst := some 53, op := Op.move (Operand.tmp 5), type := 47, pos := "law.go:30", after := #[{ on := 5, ground := Ground.guard }], guard := some (5, true) }
@[reducible] def oqBh7 : Oper := { dst := some 54, op := Op.move (Operand.tmp 6), type := 3, pos := "law.go:30", after := #[{ on := 5, ground := Ground.guard }], guard := some (5, true) }
@[reducible] def oqBh8 : Oper := { dst := some 55, op := Op.indexAddr 47 (Operand.tmp 53) (Operand.tmp 54), type := 0, pos := "law.go:30", after := #[{ on := 6, ground := Ground.data }, { on := 7, ground := Ground.data }, { on := 5, ground := Ground.guard }], guard := some (5, true) }
@[reducible] def oqBh9 : Oper := { dst := some 56, op := Op.fieldAddr 70 (Operand.tmp 55) 0, type := 0, pos := "law.go:30", after := #[{ on := 8, ground := Ground.data }, { on := 5, ground := Ground.guard }], guard := some (5, true) }
@[reducible] def oqBh10 : Oper := { dst := some 57, op := Op.load 3 (Operand.tmp 56), type := 3, pos := "law.go:30", after := #[{ on := 9, ground := Ground.data }, { on := 5, ground := Ground.guard }], guard := some (5, true) }
@[reducible] def oqBh11 : Oper := { dst := some 58, op := Op.fieldAddr 33 (Operand.tmp 3) 2, type := 0, pos := "law.go:30", after := #[{ on := 5, ground := Ground.guard }], guard := some (5, true) }
@[reducible] def oqBh12 : Oper := { dst := some 59, op := Op.load 31 (Operand.tmp 58), type := 31, pos := "law.go:30", after := #[{ on := 11, ground := Ground.data }, { on := 5, ground := Ground.guard }], guard := some (5, true) }
@[reducible] def oqBh13 : Oper := { dst := some 60, op := Op.move (Operand.tmp 6), type := 3, pos := "law.go:30", after := #[{ on := 5, ground := Ground.guard }], guard := some (5, true) }
@[reducible] def oqBh14 : Oper := { dst := some 61, op := Op.indexAddr 31 (Operand.tmp 59) (Operand.tmp 60), type := 0, pos := "law.go:30", after := #[{ on := 12, ground := Ground.data }, { on := 13, ground := Ground.data }, { on := 5, ground := Ground.guard }], guard := some (5, true) }
@[reducible] def oqBh15 : Oper := { dst := some 62, op := Op.fieldAddr 73 (Operand.tmp 61) 0, type := 0, pos := "law.go:30", after := #[{ on := 14, ground := Ground.data }, { on := 5, ground := Ground.guard }], guard := some (5, true) }
@[reducible] def oqBh16 : Oper := { dst := some 63, op := Op.load 3 (Operand.tmp 62), type := 3, pos := "law.go:30", after := #[{ on := 15, ground := Ground.data }, { on := 5, ground := Ground.guard }], guard := some (5, true) }
@[reducible] def oqBh17 : Oper := { dst := some 64, op := Op.binOp BinOp.neq 3 (Operand.tmp 57) (Operand.tmp 63) 3, type := 4, pos := "law.go:30", after := #[{ on := 10, ground := Ground.data }, { on := 16, ground := Ground.data }, { on := 5, ground := Ground.guard }], guard := some (5, true) }
@[reducible] def oqBh18 : Oper := { dst := some 65, op := Op.move (Operand.tmp 64), type := 4, pos := "law.go:30", after := #[{ on := 17, ground := Ground.data }, { on := 5, ground := Ground.chain }, { on := 5, ground := Ground.guard }], guard := some (5, true) }
@[reducible] def oqBh19 : Oper := { dst := some 66, op := Op.move (Operand.tmp 5), type := 47, pos := "law.go:30", after := #[{ on := 18, ground := Ground.guard }], guard := some (18, false) }
@[reducible] def oqBh20 : Oper := { dst := some 67, op := Op.move (Operand.tmp 6), type := 3, pos := "law.go:30", after := #[{ on := 18, ground := Ground.guard }], guard := some (18, false) }
@[reducible] def oqBh21 : Oper := { dst := some 68, op := Op.indexAddr 47 (Operand.tmp 66) (Operand.tmp 67), type := 0, pos := "law.go:30", after := #[{ on := 19, ground := Ground.data }, { on := 20, ground := Ground.data }, { on := 18, ground := Ground.guard }], guard := some (18, false) }
@[reducible] def oqBh22 : Oper := { dst := some 69, op := Op.fieldAddr 70 (Operand.tmp 68) 1, type := 0, pos := "law.go:30", after := #[{ on := 21, ground := Ground.data }, { on := 18, ground := Ground.guard }], guard := some (18, false) }
@[reducible] def oqBh23 : Oper := { dst := some 70, op := Op.load 65 (Operand.tmp 69), type := 65, pos := "law.go:30", after := #[{ on := 22, ground := Ground.data }, { on := 18, ground := Ground.guard }], guard := some (18, false) }
@[reducible] def oqBh24 : Oper := { dst := some 71, op := Op.fieldAddr 33 (Operand.tmp 3) 2, type := 0, pos := "law.go:30", after := #[{ on := 18, ground := Ground.guard }], guard := some (18, false) }
@[reducible] def oqBh25 : Oper := { dst := some 72, op := Op.load 31 (Operand.tmp 71), type := 31, pos := "law.go:30", after := #[{ on := 24, ground := Ground.data }, { on := 18, ground := Ground.guard }], guard := some (18, false) }
@[reducible] def oqBh26 : Oper := { dst := some 73, op := Op.move (Operand.tmp 6), type := 3, pos := "law.go:30", after := #[{ on := 18, ground := Ground.guard }], guard := some (18, false) }
@[reducible] def oqBh27 : Oper := { dst := some 74, op := Op.indexAddr 31 (Operand.tmp 72) (Operand.tmp 73), type := 0, pos := "law.go:30", after := #[{ on := 25, ground := Ground.data }, { on := 26, ground := Ground.data }, { on := 18, ground := Ground.guard }], guard := some (18, false) }
@[reducible] def oqBh28 : Oper := { dst := some 75, op := Op.fieldAddr 73 (Operand.tmp 74) 1, type := 0, pos := "law.go:30", after := #[{ on := 27, ground := Ground.data }, { on := 18, ground := Ground.guard }], guard := some (18, false) }
@[reducible] def oqBh29 : Oper := { dst := some 76, op := Op.load 65 (Operand.tmp 75), type := 65, pos := "law.go:30", after := #[{ on := 28, ground := Ground.data }, { on := 18, ground := Ground.guard }], guard := some (18, false) }
@[reducible] def oqBh30 : Oper := { dst := some 77, op := Op.binOp BinOp.neq 65 (Operand.tmp 70) (Operand.tmp 76) 65, type := 4, pos := "law.go:30", after := #[{ on := 23, ground := Ground.data }, { on := 29, ground := Ground.data }, { on := 18, ground := Ground.guard }], guard := some (18, false) }
@[reducible] def oqBh31 : Oper := { dst := some 78, op := Op.pick (Operand.tmp 65) (Operand.const (Value.bool true)) (Operand.tmp 77), type := 4, pos := "law.go:30", after := #[{ on := 18, ground := Ground.data }, { on := 30, ground := Ground.data }, { on := 5, ground := Ground.guard }], guard := some (5, true) }
@[reducible] def oqBh32 : Oper := { dst := some 79, op := Op.pick (Operand.tmp 52) (Operand.tmp 78) (Operand.const (Value.bool false)), type := 4, pos := "law.go:30", after := #[{ on := 5, ground := Ground.data }, { on := 31, ground := Ground.data }], guard := none }
@[reducible] def oqBh33 : Oper := { dst := some 80, op := Op.move (Operand.tmp 79), type := 4, pos := "law.go:30", after := #[{ on := 32, ground := Ground.data }, { on := 18, ground := Ground.chain }], guard := none }
@[reducible] def oqBh34 : Oper := { dst := some 81, op := Op.move (Operand.tmp 6), type := 3, pos := "law.go:30", after := #[{ on := 33, ground := Ground.guard }], guard := some (33, false) }
@[reducible] def oqBh35 : Oper := { dst := some 82, op := Op.fieldAddr 33 (Operand.tmp 3) 2, type := 0, pos := "law.go:30", after := #[{ on := 33, ground := Ground.guard }], guard := some (33, false) }
@[reducible] def oqBh36 : Oper := { dst := some 83, op := Op.load 31 (Operand.tmp 82), type := 31, pos := "law.go:30", after := #[{ on := 35, ground := Ground.data }, { on := 33, ground := Ground.guard }], guard := some (33, false) }
@[reducible] def oqBh37 : Oper := { dst := some 84, op := Op.call { callee := Callee.builtin Builtin.len, args := #[Operand.tmp 83], argTypes := #[31] }, type := 3, pos := "law.go:30", after := #[{ on := 36, ground := Ground.data }, { on := 33, ground := Ground.guard }], guard := some (33, false) }
@[reducible] def oqBh38 : Oper := { dst := some 85, op := Op.binOp BinOp.geq 3 (Operand.tmp 81) (Operand.tmp 84) 3, type := 4, pos := "law.go:30", after := #[{ on := 34, ground := Ground.data }, { on := 37, ground := Ground.data }, { on := 33, ground := Ground.guard }], guard := some (33, false) }
@[reducible] def oqBh39 : Oper := { dst := some 86, op := Op.move (Operand.tmp 85), type := 4, pos := "law.go:30", after := #[{ on := 38, ground := Ground.data }, { on := 33, ground := Ground.chain }, { on := 33, ground := Ground.guard }], guard := some (33, false) }
@[reducible] def oqBh40 : Oper := { dst := some 87, op := Op.move (Operand.tmp 5), type := 47, pos := "law.go:30", after := #[{ on := 39, ground := Ground.guard }], guard := some (39, true) }
@[reducible] def oqBh41 : Oper := { dst := some 88, op := Op.move (Operand.tmp 6), type := 3, pos := "law.go:30", after := #[{ on := 39, ground := Ground.guard }], guard := some (39, true) }
@[reducible] def oqBh42 : Oper := { dst := some 89, op := Op.indexAddr 47 (Operand.tmp 87) (Operand.tmp 88), type := 0, pos := "law.go:30", after := #[{ on := 40, ground := Ground.data }, { on := 41, ground := Ground.data }, { on := 39, ground := Ground.guard }], guard := some (39, true) }
@[reducible] def oqBh43 : Oper := { dst := some 90, op := Op.load 70 (Operand.tmp 89), type := 70, pos := "law.go:30", after := #[{ on := 42, ground := Ground.data }, { on := 39, ground := Ground.guard }], guard := some (39, true) }
@[reducible] def oqBh44 : Oper := { dst := some 91, op := Op.move (Operand.tmp 6), type := 3, pos := "law.go:30", after := #[{ on := 39, ground := Ground.guard }], guard := some (39, true) }
@[reducible] def oqBh45 : Oper := { dst := some 92, op := Op.binOp BinOp.sub 3 (Operand.const (Value.int IntKind.i64 0)) (Operand.tmp 91) 3, type := 3, pos := "law.go:30", after := #[{ on := 44, ground := Ground.data }, { on := 39, ground := Ground.guard }], guard := some (39, true) }
@[reducible] def oqBh46 : Oper := { dst := some 93, op := Op.build 70 #[(0, Operand.tmp 92)], type := 70, pos := "law.go:30", after := #[{ on := 45, ground := Ground.data }, { on := 39, ground := Ground.guard }], guard := some (39, true) }
@[reducible] def oqBh47 : Oper := { dst := some 94, op := Op.binOp BinOp.neq 70 (Operand.tmp 90) (Operand.tmp 93) 70, type := 4, pos := "law.go:30", after := #[{ on := 43, ground := Ground.data }, { on := 46, ground := Ground.data }, { on := 39, ground := Ground.guard }], guard := some (39, true) }
@[reducible] def oqBh48 : Oper := { dst := some 95, op := Op.pick (Operand.tmp 86) (Operand.tmp 94) (Operand.const (Value.bool false)), type := 4, pos := "law.go:30", after := #[{ on := 39, ground := Ground.data }, { on := 47, ground := Ground.data }, { on := 33, ground := Ground.guard }], guard := some (33, false) }
@[reducible] def oqBh49 : Oper := { dst := some 96, op := Op.pick (Operand.tmp 80) (Operand.const (Value.bool true)) (Operand.tmp 95), type := 4, pos := "law.go:30", after := #[{ on := 33, ground := Ground.data }, { on := 48, ground := Ground.data }], guard := none }

theorem b_add8 (x : Int) (w : World) : (binOp .add 5 (.int .u8 x) (.int .u8 1)).run Try.prog w = .ok (.int .u8 (IntKind.u8.wrap (x + 1))) w := by kernel_rfl
theorem Fr.of_no {S : Nat → Prop} {w0 w : World} {l : List (Nat × TypeId × Array Value)} (h : Fr No w0 w l) : Fr S w0 w l := ⟨h.kept.of_no, h.box, h.low, h.inj⟩
set_option maxRecDepth 100000 in
set_option maxHeartbeats 4000000 in
theorem back_any (h : Hd) (gb ge gl gp base : Nat) (bs : List Int) (es : List En) (ls : List La) (ps : List Pl) (w : World) (hh : HdAt w h bs es ls ps) (hl : LtAt w base h bs es ls ps gb ge gl gp) : Calls Try.prog 11 #[.agg (Hd.cells ⟨⟨h.b.s, ⟨(some ⟨gb, 0, none⟩), h.b.d.l, (h.b.d.l + 67)⟩⟩, ⟨h.k.up, ⟨(some ⟨ge, 0, none⟩), h.k.e.l, (h.k.e.l + 67)⟩, ⟨(some ⟨gl, 0, none⟩), h.k.l.l, (h.k.l.l + 67)⟩⟩, ⟨(some ⟨gp, 0, none⟩), h.r.l, (h.r.l + 67)⟩⟩), .agg (Hd.cells h)] w (fun e w' => e = .returned (.bool true) ∧ Kept (fun k => k = gb ∨ k = ge ∨ k = gl ∨ k = gp) w w') := by
  obtain ⟨C, hC⟩ : ∃ C : Ending → World → Prop, C = (fun e w' => e = .returned (.bool true) ∧ Kept (fun k => k = gb ∨ k = ge ∨ k = gl ∨ k = gp) w w') := ⟨_, rfl⟩
  have HC : Hid (C = (fun e w' => e = .returned (.bool true) ∧ Kept (fun k => k = gb ∨ k = ge ∨ k = gl ∨ k = gp) w w')) := hC
  rw [← hC]
  clear hC
  have HH : Hid (HdAt w h bs es ls ps) := hh
  have HT : Hid (LtAt w base h bs es ls ps gb ge gl gp) := hl
  have HR : Hid (RdP w h.r ps) := hh.p
  have hnb := hh.nb
  have hne := hh.ne
  have hnl := hh.nl
  have hnp := hh.np
  have tb : gb < w.heap.size := hl.b.lt
  have te : ge < w.heap.size := hl.e.lt
  have tl : gl < w.heap.size := hl.l.lt
  have tp : gp < w.heap.size := hl.p.lt
  have nbp : gb ≠ gp := hl.b.ne hl.p (by decide)
  have nep : ge ≠ gp := hl.e.ne hl.p (by decide)
  have nlp : gl ≠ gp := hl.l.ne hl.p (by decide)
  have neb : ge ≠ gb := hl.e.ne hl.b (by decide)
  have nlb : gl ≠ gb := hl.l.ne hl.b (by decide)
  clear hh hl
  have HF : Hid (Fr No w w []) := Fr.start _ _
  go_enter Try.func11, Try.ntmps11
  go_upto_region 0 with fail
  refine WL.start ?_
  refine wp_runW (.pointer (some ⟨w.heap.size, 0, none⟩)) (w.alloc (.cells (Hd.cells ⟨⟨h.b.s, ⟨(some ⟨gb, 0, none⟩), h.b.d.l, (h.b.d.l + 67)⟩⟩, ⟨h.k.up, ⟨(some ⟨ge, 0, none⟩), h.k.e.l, (h.k.e.l + 67)⟩, ⟨(some ⟨gl, 0, none⟩), h.k.l.l, (h.k.l.l + 67)⟩⟩, ⟨(some ⟨gp, 0, none⟩), h.r.l, (h.r.l + 67)⟩⟩) 49)) (exec_box 49 _ rfl (Hd.cells ⟨⟨h.b.s, ⟨(some ⟨gb, 0, none⟩), h.b.d.l, (h.b.d.l + 67)⟩⟩, ⟨h.k.up, ⟨(some ⟨ge, 0, none⟩), h.k.e.l, (h.k.e.l + 67)⟩, ⟨(some ⟨gl, 0, none⟩), h.k.l.l, (h.k.l.l + 67)⟩⟩, ⟨(some ⟨gp, 0, none⟩), h.r.l, (h.r.l + 67)⟩⟩) (by kernel_rfl)) (by kernel_rfl) ?_
  try simp only [pS]
  have HF : Hid (Fr No w _ [(w.heap.size, 49, Hd.cells ⟨⟨h.b.s, ⟨(some ⟨gb, 0, none⟩), h.b.d.l, (h.b.d.l + 67)⟩⟩, ⟨h.k.up, ⟨(some ⟨ge, 0, none⟩), h.k.e.l, (h.k.e.l + 67)⟩, ⟨(some ⟨gl, 0, none⟩), h.k.l.l, (h.k.l.l + 67)⟩⟩, ⟨(some ⟨gp, 0, none⟩), h.r.l, (h.r.l + 67)⟩⟩)]) := HF.out.alloc _ _
  generalize w.alloc (.cells (Hd.cells ⟨⟨h.b.s, ⟨(some ⟨gb, 0, none⟩), h.b.d.l, (h.b.d.l + 67)⟩⟩, ⟨h.k.up, ⟨(some ⟨ge, 0, none⟩), h.k.e.l, (h.k.e.l + 67)⟩, ⟨(some ⟨gl, 0, none⟩), h.k.l.l, (h.k.l.l + 67)⟩⟩, ⟨(some ⟨gp, 0, none⟩), h.r.l, (h.r.l + 67)⟩⟩) 49) = wk2 at HF ⊢
  generalize w.heap.size = gk1 at HF ⊢
  refine wp_runW (.pointer (some ⟨wk2.heap.size, 0, none⟩)) (wk2.alloc (.cells (Hd.cells h) 33)) (exec_box 33 _ rfl (Hd.cells h) (by kernel_rfl)) (by kernel_rfl) ?_
  try simp only [pS]
  have HF : Hid (Fr No w _ [(gk1, 49, Hd.cells ⟨⟨h.b.s, ⟨(some ⟨gb, 0, none⟩), h.b.d.l, (h.b.d.l + 67)⟩⟩, ⟨h.k.up, ⟨(some ⟨ge, 0, none⟩), h.k.e.l, (h.k.e.l + 67)⟩, ⟨(some ⟨gl, 0, none⟩), h.k.l.l, (h.k.l.l + 67)⟩⟩, ⟨(some ⟨gp, 0, none⟩), h.r.l, (h.r.l + 67)⟩⟩), (wk2.heap.size, 33, Hd.cells h)]) := HF.out.alloc _ _
  generalize wk2.alloc (.cells (Hd.cells h) 33) = wk4 at HF ⊢
  generalize wk2.heap.size = gk3 at HF ⊢
  refine tK (.bool false) ?_
  try simp only [pS]
  refine WL.nil ?_
  try simp only [pS]
  go_upto_region 1 with fail
  refine WL.start ?_
  refine tK (.pointer (some ⟨gk1, 0, none⟩)) ?_
  refine tK (.pointer (some ⟨gk1, 2, none⟩)) ?_
  refine tW (.slice (some ⟨gb, 0, none⟩) h.b.d.l (h.b.d.l + 67)) (eL 24 _ rfl ⟨gk1, 2, none⟩ (load_one ((HF.out.box 0 _ _ _ rfl).cell 2 |>.trans (by kernel_rfl)) Try.und26 rfl)) ?_
  refine tK (.pointer (some ⟨gk3, 0, none⟩)) ?_
  refine tK (.pointer (some ⟨gk3, 2, none⟩)) ?_
  refine tW (h.b.d.v) (eL 24 _ rfl ⟨gk3, 2, none⟩ (load_one ((HF.out.box 1 _ _ _ rfl).cell 2 |>.trans (by kernel_rfl)) Try.und26 rfl)) ?_
  try simp only [pS]
  refine wp_callW 27 #[.slice (some ⟨gb, 0, none⟩) h.b.d.l (h.b.d.l + 67), h.b.d.v] (by kernel_rfl) _ (backB_any h.b.d gb bs _ (HH.out.b.no HF.out.kept) (HT.out.b.no HF.out.kept) hnb) (by kernel_rfl) ?_
  rintro e wk5 ⟨rfl, hk⟩
  have HF : Hid (Fr No w (wk5) [(gk1, 49, Hd.cells ⟨⟨h.b.s, ⟨(some ⟨gb, 0, none⟩), h.b.d.l, (h.b.d.l + 67)⟩⟩, ⟨h.k.up, ⟨(some ⟨ge, 0, none⟩), h.k.e.l, (h.k.e.l + 67)⟩, ⟨(some ⟨gl, 0, none⟩), h.k.l.l, (h.k.l.l + 67)⟩⟩, ⟨(some ⟨gp, 0, none⟩), h.r.l, (h.r.l + 67)⟩⟩), (gk3, 33, Hd.cells h)]) := HF.out.no hk
  clear hk
  refine ⟨.bool true, rfl, ?_⟩
  try simp only [pS]
  refine tK (.bool false) ?_
  refine tK (.bool false) ?_
  refine tK (.pointer (some ⟨gk1, 3, none⟩)) ?_
  refine tW (.agg (Bv.cells ⟨h.k.up, ⟨(some ⟨ge, 0, none⟩), h.k.e.l, (h.k.e.l + 67)⟩, ⟨(some ⟨gl, 0, none⟩), h.k.l.l, (h.k.l.l + 67)⟩⟩)) (eL 30 _ rfl ⟨gk1, 3, none⟩ (run_load_part (cs := Hd.cs ⟨⟨h.b.s, ⟨(some ⟨gb, 0, none⟩), h.b.d.l, (h.b.d.l + 67)⟩⟩, ⟨h.k.up, ⟨(some ⟨ge, 0, none⟩), h.k.e.l, (h.k.e.l + 67)⟩, ⟨(some ⟨gl, 0, none⟩), h.k.l.l, (h.k.l.l + 67)⟩⟩, ⟨(some ⟨gp, 0, none⟩), h.r.l, (h.r.l + 67)⟩⟩) (sub := Bv.cs ⟨h.k.up, ⟨(some ⟨ge, 0, none⟩), h.k.e.l, (h.k.e.l + 67)⟩, ⟨(some ⟨gl, 0, none⟩), h.k.l.l, (h.k.l.l + 67)⟩⟩) (HF.out.box 0 _ _ _ rfl) (part_of (by kernel_rfl)) Try.und32 rfl Try.size32)) ?_
  refine tK (.pointer (some ⟨gk3, 3, none⟩)) ?_
  refine tW (.agg (Bv.cells h.k)) (eL 30 _ rfl ⟨gk3, 3, none⟩ (run_load_part (cs := Hd.cs h) (sub := Bv.cs h.k) (HF.out.box 1 _ _ _ rfl) (part_of (by kernel_rfl)) Try.und32 rfl Try.size32)) ?_
  try simp only [pS]
  refine wp_callW 28 #[.agg (Bv.cells ⟨h.k.up, ⟨(some ⟨ge, 0, none⟩), h.k.e.l, (h.k.e.l + 67)⟩, ⟨(some ⟨gl, 0, none⟩), h.k.l.l, (h.k.l.l + 67)⟩⟩), .agg (Bv.cells h.k)] (by kernel_rfl) _ (backK_any h.k ge gl es ls _ (HH.out.e.no HF.out.kept) (HH.out.l.no HF.out.kept) (HT.out.e.no HF.out.kept) (HT.out.l.no HF.out.kept) hne hnl) (by kernel_rfl) ?_
  rintro e wk6 ⟨rfl, hk⟩
  have HF : Hid (Fr No w (wk6) [(gk1, 49, Hd.cells ⟨⟨h.b.s, ⟨(some ⟨gb, 0, none⟩), h.b.d.l, (h.b.d.l + 67)⟩⟩, ⟨h.k.up, ⟨(some ⟨ge, 0, none⟩), h.k.e.l, (h.k.e.l + 67)⟩, ⟨(some ⟨gl, 0, none⟩), h.k.l.l, (h.k.l.l + 67)⟩⟩, ⟨(some ⟨gp, 0, none⟩), h.r.l, (h.r.l + 67)⟩⟩), (gk3, 33, Hd.cells h)]) := HF.out.no hk
  clear hk
  refine ⟨.bool true, rfl, ?_⟩
  try simp only [pS]
  refine tK (.bool false) ?_
  refine tK (.bool false) ?_
  refine tK (.bool false) ?_
  refine tK (.pointer (some ⟨gk1, 6, none⟩)) ?_
  refine tW (.slice (some ⟨gp, 0, none⟩) h.r.l (h.r.l + 67)) (eL 47 _ rfl ⟨gk1, 6, none⟩ (load_one ((HF.out.box 0 _ _ _ rfl).cell 6 |>.trans (by kernel_rfl)) Try.und38 rfl)) ?_
  refine tK (.int .i64 ((h.r.l : Nat) : Int)) ?_
  refine tK (.pointer (some ⟨gk3, 6, none⟩)) ?_
  refine tW (h.r.v) (eL 31 _ rfl ⟨gk3, 6, none⟩ (load_one ((HF.out.box 1 _ _ _ rfl).cell 6 |>.trans (by kernel_rfl)) Try.und33 rfl)) ?_
  refine tK (.int .i64 ((h.r.l : Nat) : Int)) ?_
  refine tW (.bool false) (eB .neq 3 _ _ _ rfl (.int .i64 ((h.r.l : Nat) : Int)) (.int .i64 ((h.r.l : Nat) : Int)) _ (by rw [b_neq, beq_self_eq_true]; rfl)) ?_
  refine tK (.bool false) ?_
  try simp only [pS]
  refine WL.nil ?_
  try simp only [pS]
  go_upto_region 3 with fail
  refine WL.start ?_
  refine tK (.pointer (some ⟨gk1, 6, none⟩)) ?_
  refine tW (.slice (some ⟨gp, 0, none⟩) h.r.l (h.r.l + 67)) (eL 47 _ rfl ⟨gk1, 6, none⟩ (load_one ((HF.out.box 0 _ _ _ rfl).cell 6 |>.trans (by kernel_rfl)) Try.und38 rfl)) ?_
  refine tK (.pointer (some ⟨gk3, 6, none⟩)) ?_
  refine tW (h.r.v) (eL 31 _ rfl ⟨gk3, 6, none⟩ (load_one ((HF.out.box 1 _ _ _ rfl).cell 6 |>.trans (by kernel_rfl)) Try.und33 rfl)) ?_
  refine tK (.int .i64 ((h.r.l : Nat) : Int)) ?_
  refine tW (.int .i64 (((h.r.l + 67) : Nat) : Int)) (eB .add 3 _ _ _ rfl (.int .i64 ((h.r.l : Nat) : Int)) (.int .i64 67) _ (b_addw _ _ _ (by rw [IntKind.wrap_i64]; omega) _)) ?_
  refine tW (.slice (some ⟨gp, 0, none⟩) (h.r.l + 67) (h.r.l + 67)) ((exec_slH 47 _ _ rfl 15 Try.und38e Try.size38e (some ⟨gp, 0, none⟩) h.r.l (h.r.l + 67) (h.r.l + 67) (by kernel_rfl) (by kernel_rfl) (by omega)).trans (by rw [sliced0 _ _ _ _ (by omega)])) ?_
  refine tK (.slice (some ⟨gp, 0, none⟩) (h.r.l + 67) (h.r.l + 67)) ?_
  try simp only [pS]
  refine WL.nil ?_
  try simp only [pS]
  go_upto_region 4 with fail
  refine WL.start ?_
  refine tK (.int .i64 0) ?_
  try simp only [pS]
  refine WL.nil ?_
  try simp only [pS]
  go_wp2
  go_loopw [6] (fun v6 wr => ∃ i : Nat, v6 = .int .i64 ((i : Nat) : Int) ∧ i ≤ h.r.l + 67 ∧ Hid (Fr No w wr [(gk1, 49, Hd.cells ⟨⟨h.b.s, ⟨(some ⟨gb, 0, none⟩), h.b.d.l, (h.b.d.l + 67)⟩⟩, ⟨h.k.up, ⟨(some ⟨ge, 0, none⟩), h.k.e.l, (h.k.e.l + 67)⟩, ⟨(some ⟨gl, 0, none⟩), h.k.l.l, (h.k.l.l + 67)⟩⟩, ⟨(some ⟨gp, 0, none⟩), h.r.l, (h.r.l + 67)⟩⟩), (gk3, 33, Hd.cells h)])) (fun i _ => h.r.l + 67 - (intOf i).toNat)
  case atStart => exact ⟨0, by go_num, by omega, HF⟩
  case round =>
    clear HF
    obtain ⟨i, rfl, hi, HF⟩ := hrel
    by_cases hlt : i < h.r.l + 67
    · skip
      by_cases hn2 : i < h.r.l
      · skip
        obtain ⟨pb, po, hca, hcc⟩ := HR.out.at (i := i) hn2
        have hsl : h.r.v = .slice (some ⟨pb, po, none⟩) h.r.l h.r.k := by unfold Sl.v; rw [hca]
        have hrw := row_P HT.out.p (i := i) (x := pAt ps i) ((tab_get hlt).trans (congrArg some (lnt_lt hn2)))
        obtain ⟨x, hx⟩ : ∃ x, x = pAt ps i := ⟨_, rfl⟩
        rw [← hx] at hcc hrw
        have c0 : Hid (w.cell? ⟨pb, po + i * 15, none⟩ = some (.int .i64 x.n)) := hcc 0 _ rfl
        have ci : Hid (∀ (j : Nat) v, (In.cs x.i)[j]? = some v → w.cell? ⟨pb, po + i * 15 + 1 + j, none⟩ = some v) := fun j v hv => by rw [show po + i * 15 + 1 + j = po + i * 15 + (j + 1) by omega]; exact hcc (j + 1) v hv
        have r0 : Hid (w.cell? ⟨gp, 0 + i * 15, none⟩ = some (.int .i64 x.n)) := hrw 0 _ rfl
        have ri : Hid (∀ (j : Nat) v, (In.cs x.i)[j]? = some v → w.cell? ⟨gp, 0 + i * 15 + 1 + j, none⟩ = some v) := fun j v hv => by rw [show 0 + i * 15 + 1 + j = 0 + i * 15 + (j + 1) by omega]; exact hrw (j + 1) v hv
        clear hcc hrw hx
        go_upto_region 5 with fail
        refine WL.start ?_
        refine tK (.int .i64 ((i : Nat) : Int)) ?_
        refine tK (.slice (some ⟨gp, 0, none⟩) (h.r.l + 67) (h.r.l + 67)) ?_
        refine tK (.int .i64 (((h.r.l + 67) : Nat) : Int)) ?_
        refine tW (.bool true) (eB .lss 3 _ _ _ rfl (.int .i64 ((i : Nat) : Int)) (.int .i64 (((h.r.l + 67) : Nat) : Int)) _ (by rw [b_lss, decide_eq_true (by omega)])) ?_
        try simp only [pS]
        refine WL.nil ?_
        try simp only [pS]
        go_upto_region 7 with fail
        refine wp_region_held_drew (S := fun w' => Fr No w w' [(gk1, 49, Hd.cells ⟨⟨h.b.s, ⟨(some ⟨gb, 0, none⟩), h.b.d.l, (h.b.d.l + 67)⟩⟩, ⟨h.k.up, ⟨(some ⟨ge, 0, none⟩), h.k.e.l, (h.k.e.l + 67)⟩, ⟨(some ⟨gl, 0, none⟩), h.k.l.l, (h.k.l.l + 67)⟩⟩, ⟨(some ⟨gp, 0, none⟩), h.r.l, (h.r.l + 67)⟩⟩), (gk3, 33, Hd.cells h)]) rfl (HF.out.drew) (fun hH => ?_)
        have HF : Hid (Fr No w (wr.drew) [(gk1, 49, Hd.cells ⟨⟨h.b.s, ⟨(some ⟨gb, 0, none⟩), h.b.d.l, (h.b.d.l + 67)⟩⟩, ⟨h.k.up, ⟨(some ⟨ge, 0, none⟩), h.k.e.l, (h.k.e.l + 67)⟩, ⟨(some ⟨gl, 0, none⟩), h.k.l.l, (h.k.l.l + 67)⟩⟩, ⟨(some ⟨gp, 0, none⟩), h.r.l, (h.r.l + 67)⟩⟩), (gk3, 33, Hd.cells h)]) := HF.out.drew
        generalize wr.drew = wk7 at HF hH ⊢
        refine aT (i := 0) (oi := oqBh0) (v := .int .i64 ((i : Nat) : Int)) (fun _ _ => by kernel_rfl) hH ?_
        try simp only [pS]
        refine aT (i := 1) (oi := oqBh1) (v := .pointer (some ⟨gk3, 6, none⟩)) (fun _ _ => by kernel_rfl) hH ?_
        try simp only [pS]
        refine aT (i := 2) (oi := oqBh2) (v := h.r.v) (fun w' hw => eL 31 _ rfl ⟨gk3, 6, none⟩ (load_one ((hw.box 1 _ _ _ rfl).cell 6 |>.trans (by kernel_rfl)) Try.und33 rfl)) hH ?_
        try simp only [pS]
        refine aT (i := 3) (oi := oqBh3) (v := .int .i64 ((h.r.l : Nat) : Int)) (fun _ _ => by kernel_rfl) hH ?_
        try simp only [pS]
        refine aT (i := 4) (oi := oqBh4) (v := .bool true) (fun w' hw => eB .lss 3 _ _ _ rfl (.int .i64 ((i : Nat) : Int)) (.int .i64 ((h.r.l : Nat) : Int)) _ (by rw [b_lss, decide_eq_true (by omega)])) hH ?_
        try simp only [pS]
        refine aT (i := 5) (oi := oqBh5) (v := .bool true) (fun _ _ => by kernel_rfl) hH ?_
        try simp only [pS]
        refine aT (i := 6) (oi := oqBh6) (v := .slice (some ⟨gp, 0, none⟩) (h.r.l + 67) (h.r.l + 67)) (fun _ _ => by kernel_rfl) hH ?_
        try simp only [pS]
        refine aT (i := 7) (oi := oqBh7) (v := .int .i64 ((i : Nat) : Int)) (fun _ _ => by kernel_rfl) hH ?_
        try simp only [pS]
        refine aT (i := 8) (oi := oqBh8) (v := .pointer (some ⟨gp, 0 + i * 15, none⟩)) (fun w' hw => exec_ixA 47 15 Try.und38e Try.size38e _ _ rfl gp 0 (h.r.l + 67) (h.r.l + 67) i (by kernel_rfl) (by kernel_rfl) (by omega)) hH ?_
        try simp only [pS]
        refine aT (i := 9) (oi := oqBh9) (v := .pointer (some ⟨gp, 0 + i * 15, none⟩)) (fun _ _ => by kernel_rfl) hH ?_
        try simp only [pS]
        refine aT (i := 10) (oi := oqBh10) (v := .int .i64 x.n) (fun w' hw => eL 3 _ rfl ⟨gp, 0 + i * 15, none⟩ (load_one (hw.kept.cell (r0.out) (fun e => e)) Try.und3 rfl)) hH ?_
        try simp only [pS]
        refine aT (i := 11) (oi := oqBh11) (v := .pointer (some ⟨gk3, 6, none⟩)) (fun _ _ => by kernel_rfl) hH ?_
        try simp only [pS]
        refine aT (i := 12) (oi := oqBh12) (v := h.r.v) (fun w' hw => eL 31 _ rfl ⟨gk3, 6, none⟩ (load_one ((hw.box 1 _ _ _ rfl).cell 6 |>.trans (by kernel_rfl)) Try.und33 rfl)) hH ?_
        try simp only [pS]
        refine aT (i := 13) (oi := oqBh13) (v := .int .i64 ((i : Nat) : Int)) (fun _ _ => by kernel_rfl) hH ?_
        try simp only [pS]
        refine aT (i := 14) (oi := oqBh14) (v := .pointer (some ⟨pb, po + i * 15, none⟩)) (fun w' hw => exec_ixA 31 15 Try.und33e Try.size33e _ _ rfl pb po h.r.l h.r.k i (Eq.trans (b := h.r.v) (by kernel_rfl) hsl) (by kernel_rfl) hn2) hH ?_
        try simp only [pS]
        refine aT (i := 15) (oi := oqBh15) (v := .pointer (some ⟨pb, po + i * 15, none⟩)) (fun _ _ => by kernel_rfl) hH ?_
        try simp only [pS]
        refine aT (i := 16) (oi := oqBh16) (v := .int .i64 x.n) (fun w' hw => eL 3 _ rfl ⟨pb, po + i * 15, none⟩ (load_one (hw.kept.cell (c0.out) (fun e => e)) Try.und3 rfl)) hH ?_
        try simp only [pS]
        refine aT (i := 17) (oi := oqBh17) (v := .bool false) (fun w' hw => eB .neq 3 _ _ _ rfl (.int .i64 x.n) (.int .i64 x.n) _ (by rw [b_neq, beq_self_eq_true]; rfl)) hH ?_
        try simp only [pS]
        refine aT (i := 18) (oi := oqBh18) (v := .bool false) (fun _ _ => by kernel_rfl) hH ?_
        try simp only [pS]
        refine aT (i := 19) (oi := oqBh19) (v := .slice (some ⟨gp, 0, none⟩) (h.r.l + 67) (h.r.l + 67)) (fun _ _ => by kernel_rfl) hH ?_
        try simp only [pS]
        refine aT (i := 20) (oi := oqBh20) (v := .int .i64 ((i : Nat) : Int)) (fun _ _ => by kernel_rfl) hH ?_
        try simp only [pS]
        refine aT (i := 21) (oi := oqBh21) (v := .pointer (some ⟨gp, 0 + i * 15, none⟩)) (fun w' hw => exec_ixA 47 15 Try.und38e Try.size38e _ _ rfl gp 0 (h.r.l + 67) (h.r.l + 67) i (by kernel_rfl) (by kernel_rfl) (by omega)) hH ?_
        try simp only [pS]
        refine aT (i := 22) (oi := oqBh22) (v := .pointer (some ⟨gp, 0 + i * 15 + 1, none⟩)) (fun _ _ => by kernel_rfl) hH ?_
        try simp only [pS]
        refine aT (i := 23) (oi := oqBh23) (v := .agg (In.cells x.i)) (fun w' hw => eL 65 _ rfl ⟨gp, 0 + i * 15 + 1, none⟩ (load_cells (it := In.cs x.i) (fun j v hv => hw.kept.cell (ri.out j v hv) (fun e => e)) Try.und70 rfl Try.size70)) hH ?_
        try simp only [pS]
        refine aT (i := 24) (oi := oqBh24) (v := .pointer (some ⟨gk3, 6, none⟩)) (fun _ _ => by kernel_rfl) hH ?_
        try simp only [pS]
        refine aT (i := 25) (oi := oqBh25) (v := h.r.v) (fun w' hw => eL 31 _ rfl ⟨gk3, 6, none⟩ (load_one ((hw.box 1 _ _ _ rfl).cell 6 |>.trans (by kernel_rfl)) Try.und33 rfl)) hH ?_
        try simp only [pS]
        refine aT (i := 26) (oi := oqBh26) (v := .int .i64 ((i : Nat) : Int)) (fun _ _ => by kernel_rfl) hH ?_
        try simp only [pS]
        refine aT (i := 27) (oi := oqBh27) (v := .pointer (some ⟨pb, po + i * 15, none⟩)) (fun w' hw => exec_ixA 31 15 Try.und33e Try.size33e _ _ rfl pb po h.r.l h.r.k i (Eq.trans (b := h.r.v) (by kernel_rfl) hsl) (by kernel_rfl) hn2) hH ?_
        try simp only [pS]
        refine aT (i := 28) (oi := oqBh28) (v := .pointer (some ⟨pb, po + i * 15 + 1, none⟩)) (fun _ _ => by kernel_rfl) hH ?_
        try simp only [pS]
        refine aT (i := 29) (oi := oqBh29) (v := .agg (In.cells x.i)) (fun w' hw => eL 65 _ rfl ⟨pb, po + i * 15 + 1, none⟩ (load_cells (it := In.cs x.i) (fun j v hv => hw.kept.cell (ci.out j v hv) (fun e => e)) Try.und70 rfl Try.size70)) hH ?_
        try simp only [pS]
        refine aT (i := 30) (oi := oqBh30) (v := .bool false) (fun w' hw => eB .neq 65 _ _ _ rfl (.agg (In.cells x.i)) (.agg (In.cells x.i)) _ (by rw [eqI_neq, eqI_refl]; rfl)) hH ?_
        try simp only [pS]
        refine aT (i := 31) (oi := oqBh31) (v := .bool false) (fun _ _ => by kernel_rfl) hH ?_
        try simp only [pS]
        refine aT (i := 32) (oi := oqBh32) (v := .bool false) (fun _ _ => by kernel_rfl) hH ?_
        try simp only [pS]
        refine aT (i := 33) (oi := oqBh33) (v := .bool false) (fun _ _ => by kernel_rfl) hH ?_
        try simp only [pS]
        refine aT (i := 34) (oi := oqBh34) (v := .int .i64 ((i : Nat) : Int)) (fun _ _ => by kernel_rfl) hH ?_
        try simp only [pS]
        refine aT (i := 35) (oi := oqBh35) (v := .pointer (some ⟨gk3, 6, none⟩)) (fun _ _ => by kernel_rfl) hH ?_
        try simp only [pS]
        refine aT (i := 36) (oi := oqBh36) (v := h.r.v) (fun w' hw => eL 31 _ rfl ⟨gk3, 6, none⟩ (load_one ((hw.box 1 _ _ _ rfl).cell 6 |>.trans (by kernel_rfl)) Try.und33 rfl)) hH ?_
        try simp only [pS]
        refine aT (i := 37) (oi := oqBh37) (v := .int .i64 ((h.r.l : Nat) : Int)) (fun _ _ => by kernel_rfl) hH ?_
        try simp only [pS]
        refine aT (i := 38) (oi := oqBh38) (v := .bool false) (fun w' hw => eB .geq 3 _ _ _ rfl (.int .i64 ((i : Nat) : Int)) (.int .i64 ((h.r.l : Nat) : Int)) _ (by rw [b_geq, decide_eq_false (by omega)])) hH ?_
        try simp only [pS]
        refine aT (i := 39) (oi := oqBh39) (v := .bool false) (fun _ _ => by kernel_rfl) hH ?_
        try simp only [pS]
        refine aS (i := 40) (oi := oqBh40) hH ?_
        try simp only [pS]
        refine aS (i := 41) (oi := oqBh41) hH ?_
        try simp only [pS]
        refine aS (i := 42) (oi := oqBh42) hH ?_
        try simp only [pS]
        refine aS (i := 43) (oi := oqBh43) hH ?_
        try simp only [pS]
        refine aS (i := 44) (oi := oqBh44) hH ?_
        try simp only [pS]
        refine aS (i := 45) (oi := oqBh45) hH ?_
        try simp only [pS]
        refine aS (i := 46) (oi := oqBh46) hH ?_
        try simp only [pS]
        refine aS (i := 47) (oi := oqBh47) hH ?_
        try simp only [pS]
        refine aT (i := 48) (oi := oqBh48) (v := .bool false) (fun _ _ => by kernel_rfl) hH ?_
        try simp only [pS]
        refine aT (i := 49) (oi := oqBh49) (v := .bool false) (fun _ _ => by kernel_rfl) hH ?_
        try simp only [pS]
        refine wpAnyH_done (by kernel_rfl) ?_ _
        try simp only [pS]
        clear hH
        go_upto_region 6 with fail
        refine WL.start ?_
        refine tK (.int .i64 ((i : Nat) : Int)) ?_
        refine tW (.int .i64 (((i + 1) : Nat) : Int)) (eB .add 3 _ _ _ rfl (.int .i64 ((i : Nat) : Int)) (.int .i64 1) _ (b_addw _ _ _ (by rw [IntKind.wrap_i64]; omega) _)) ?_
        refine tK (.int .i64 (((i + 1) : Nat) : Int)) ?_
        try simp only [pS]
        refine WL.nil ?_
        try simp only [pS]
        go_wp2
        go_roundw
        case rel => exact ⟨i + 1, by go_num, by omega, HF⟩
        case measure => simp [intOf]; omega
      · skip
        have rr : Hid (∀ (j : Nat) v, (Pl.cs ⟨(-((i : Nat) : Int)), inZ⟩)[j]? = some v → w.cell? ⟨gp, 0 + i * 15 + j, none⟩ = some v) := row_P HT.out.p (i := i) (x := ⟨(-((i : Nat) : Int)), inZ⟩) ((tab_get hlt).trans (congrArg some (lnt_ge (by omega))))
        go_upto_region 5 with fail
        refine WL.start ?_
        refine tK (.int .i64 ((i : Nat) : Int)) ?_
        refine tK (.slice (some ⟨gp, 0, none⟩) (h.r.l + 67) (h.r.l + 67)) ?_
        refine tK (.int .i64 (((h.r.l + 67) : Nat) : Int)) ?_
        refine tW (.bool true) (eB .lss 3 _ _ _ rfl (.int .i64 ((i : Nat) : Int)) (.int .i64 (((h.r.l + 67) : Nat) : Int)) _ (by rw [b_lss, decide_eq_true (by omega)])) ?_
        try simp only [pS]
        refine WL.nil ?_
        try simp only [pS]
        go_upto_region 7 with fail
        refine wp_region_held_drew (S := fun w' => Fr No w w' [(gk1, 49, Hd.cells ⟨⟨h.b.s, ⟨(some ⟨gb, 0, none⟩), h.b.d.l, (h.b.d.l + 67)⟩⟩, ⟨h.k.up, ⟨(some ⟨ge, 0, none⟩), h.k.e.l, (h.k.e.l + 67)⟩, ⟨(some ⟨gl, 0, none⟩), h.k.l.l, (h.k.l.l + 67)⟩⟩, ⟨(some ⟨gp, 0, none⟩), h.r.l, (h.r.l + 67)⟩⟩), (gk3, 33, Hd.cells h)]) rfl (HF.out.drew) (fun hH => ?_)
        have HF : Hid (Fr No w (wr.drew) [(gk1, 49, Hd.cells ⟨⟨h.b.s, ⟨(some ⟨gb, 0, none⟩), h.b.d.l, (h.b.d.l + 67)⟩⟩, ⟨h.k.up, ⟨(some ⟨ge, 0, none⟩), h.k.e.l, (h.k.e.l + 67)⟩, ⟨(some ⟨gl, 0, none⟩), h.k.l.l, (h.k.l.l + 67)⟩⟩, ⟨(some ⟨gp, 0, none⟩), h.r.l, (h.r.l + 67)⟩⟩), (gk3, 33, Hd.cells h)]) := HF.out.drew
        generalize wr.drew = wk8 at HF hH ⊢
        refine aT (i := 0) (oi := oqBh0) (v := .int .i64 ((i : Nat) : Int)) (fun _ _ => by kernel_rfl) hH ?_
        try simp only [pS]
        refine aT (i := 1) (oi := oqBh1) (v := .pointer (some ⟨gk3, 6, none⟩)) (fun _ _ => by kernel_rfl) hH ?_
        try simp only [pS]
        refine aT (i := 2) (oi := oqBh2) (v := h.r.v) (fun w' hw => eL 31 _ rfl ⟨gk3, 6, none⟩ (load_one ((hw.box 1 _ _ _ rfl).cell 6 |>.trans (by kernel_rfl)) Try.und33 rfl)) hH ?_
        try simp only [pS]
        refine aT (i := 3) (oi := oqBh3) (v := .int .i64 ((h.r.l : Nat) : Int)) (fun _ _ => by kernel_rfl) hH ?_
        try simp only [pS]
        refine aT (i := 4) (oi := oqBh4) (v := .bool false) (fun w' hw => eB .lss 3 _ _ _ rfl (.int .i64 ((i : Nat) : Int)) (.int .i64 ((h.r.l : Nat) : Int)) _ (by rw [b_lss, decide_eq_false (by omega)])) hH ?_
        try simp only [pS]
        refine aT (i := 5) (oi := oqBh5) (v := .bool false) (fun _ _ => by kernel_rfl) hH ?_
        try simp only [pS]
        refine aS (i := 6) (oi := oqBh6) hH ?_
        try simp only [pS]
        refine aS (i := 7) (oi := oqBh7) hH ?_
        try simp only [pS]
        refine aS (i := 8) (oi := oqBh8) hH ?_
        try simp only [pS]
        refine aS (i := 9) (oi := oqBh9) hH ?_
        try simp only [pS]
        refine aS (i := 10) (oi := oqBh10) hH ?_
        try simp only [pS]
        refine aS (i := 11) (oi := oqBh11) hH ?_
        try simp only [pS]
        refine aS (i := 12) (oi := oqBh12) hH ?_
        try simp only [pS]
        refine aS (i := 13) (oi := oqBh13) hH ?_
        try simp only [pS]
        refine aS (i := 14) (oi := oqBh14) hH ?_
        try simp only [pS]
        refine aS (i := 15) (oi := oqBh15) hH ?_
        try simp only [pS]
        refine aS (i := 16) (oi := oqBh16) hH ?_
        try simp only [pS]
        refine aS (i := 17) (oi := oqBh17) hH ?_
        try simp only [pS]
        refine aS (i := 18) (oi := oqBh18) hH ?_
        try simp only [pS]
        refine aS (i := 19) (oi := oqBh19) hH ?_
        try simp only [pS]
        refine aS (i := 20) (oi := oqBh20) hH ?_
        try simp only [pS]
        refine aS (i := 21) (oi := oqBh21) hH ?_
        try simp only [pS]
        refine aS (i := 22) (oi := oqBh22) hH ?_
        try simp only [pS]
        refine aS (i := 23) (oi := oqBh23) hH ?_
        try simp only [pS]
        refine aS (i := 24) (oi := oqBh24) hH ?_
        try simp only [pS]
        refine aS (i := 25) (oi := oqBh25) hH ?_
        try simp only [pS]
        refine aS (i := 26) (oi := oqBh26) hH ?_
        try simp only [pS]
        refine aS (i := 27) (oi := oqBh27) hH ?_
        try simp only [pS]
        refine aS (i := 28) (oi := oqBh28) hH ?_
        try simp only [pS]
        refine aS (i := 29) (oi := oqBh29) hH ?_
        try simp only [pS]
        refine aS (i := 30) (oi := oqBh30) hH ?_
        try simp only [pS]
        refine aS (i := 31) (oi := oqBh31) hH ?_
        try simp only [pS]
        refine aT (i := 32) (oi := oqBh32) (v := .bool false) (fun _ _ => by kernel_rfl) hH ?_
        try simp only [pS]
        refine aT (i := 33) (oi := oqBh33) (v := .bool false) (fun _ _ => by kernel_rfl) hH ?_
        try simp only [pS]
        refine aT (i := 34) (oi := oqBh34) (v := .int .i64 ((i : Nat) : Int)) (fun _ _ => by kernel_rfl) hH ?_
        try simp only [pS]
        refine aT (i := 35) (oi := oqBh35) (v := .pointer (some ⟨gk3, 6, none⟩)) (fun _ _ => by kernel_rfl) hH ?_
        try simp only [pS]
        refine aT (i := 36) (oi := oqBh36) (v := h.r.v) (fun w' hw => eL 31 _ rfl ⟨gk3, 6, none⟩ (load_one ((hw.box 1 _ _ _ rfl).cell 6 |>.trans (by kernel_rfl)) Try.und33 rfl)) hH ?_
        try simp only [pS]
        refine aT (i := 37) (oi := oqBh37) (v := .int .i64 ((h.r.l : Nat) : Int)) (fun _ _ => by kernel_rfl) hH ?_
        try simp only [pS]
        refine aT (i := 38) (oi := oqBh38) (v := .bool true) (fun w' hw => eB .geq 3 _ _ _ rfl (.int .i64 ((i : Nat) : Int)) (.int .i64 ((h.r.l : Nat) : Int)) _ (by rw [b_geq, decide_eq_true (by omega)])) hH ?_
        try simp only [pS]
        refine aT (i := 39) (oi := oqBh39) (v := .bool true) (fun _ _ => by kernel_rfl) hH ?_
        try simp only [pS]
        refine aT (i := 40) (oi := oqBh40) (v := .slice (some ⟨gp, 0, none⟩) (h.r.l + 67) (h.r.l + 67)) (fun _ _ => by kernel_rfl) hH ?_
        try simp only [pS]
        refine aT (i := 41) (oi := oqBh41) (v := .int .i64 ((i : Nat) : Int)) (fun _ _ => by kernel_rfl) hH ?_
        try simp only [pS]
        refine aT (i := 42) (oi := oqBh42) (v := .pointer (some ⟨gp, 0 + i * 15, none⟩)) (fun w' hw => exec_ixA 47 15 Try.und38e Try.size38e _ _ rfl gp 0 (h.r.l + 67) (h.r.l + 67) i (by kernel_rfl) (by kernel_rfl) (by omega)) hH ?_
        try simp only [pS]
        refine aT (i := 43) (oi := oqBh43) (v := .agg (Pl.cells ⟨(-((i : Nat) : Int)), inZ⟩)) (fun w' hw => eL 70 _ rfl ⟨gp, 0 + i * 15, none⟩ (load_cells (it := Pl.cs ⟨(-((i : Nat) : Int)), inZ⟩) (fun j v hv => hw.kept.cell (rr.out j v hv) (fun e => e)) Try.und87 rfl Try.size87)) hH ?_
        try simp only [pS]
        refine aT (i := 44) (oi := oqBh44) (v := .int .i64 ((i : Nat) : Int)) (fun _ _ => by kernel_rfl) hH ?_
        try simp only [pS]
        refine aT (i := 45) (oi := oqBh45) (v := .int .i64 (-((i : Nat) : Int))) (fun w' hw => eB .sub 3 _ _ _ rfl (.int .i64 0) (.int .i64 ((i : Nat) : Int)) _ (b_subw _ _ _ (by rw [IntKind.wrap_i64]; omega) _)) hH ?_
        try simp only [pS]
        refine aT (i := 46) (oi := oqBh46) (v := .agg (Pl.cells ⟨(-((i : Nat) : Int)), inZ⟩)) (fun w' hw => exec_build 70 _ rfl (Pl.cells ⟨(-((i : Nat) : Int)), inZ⟩) (by kernel_rfl)) hH ?_
        try simp only [pS]
        refine aT (i := 47) (oi := oqBh47) (v := .bool false) (fun w' hw => eB .neq 70 _ _ _ rfl (.agg (Pl.cells ⟨(-((i : Nat) : Int)), inZ⟩)) (.agg (Pl.cells ⟨(-((i : Nat) : Int)), inZ⟩)) _ (by rw [eqP_neq, eqP_refl]; rfl)) hH ?_
        try simp only [pS]
        refine aT (i := 48) (oi := oqBh48) (v := .bool false) (fun _ _ => by kernel_rfl) hH ?_
        try simp only [pS]
        refine aT (i := 49) (oi := oqBh49) (v := .bool false) (fun _ _ => by kernel_rfl) hH ?_
        try simp only [pS]
        refine wpAnyH_done (by kernel_rfl) ?_ _
        try simp only [pS]
        clear hH
        go_upto_region 6 with fail
        refine WL.start ?_
        refine tK (.int .i64 ((i : Nat) : Int)) ?_
        refine tW (.int .i64 (((i + 1) : Nat) : Int)) (eB .add 3 _ _ _ rfl (.int .i64 ((i : Nat) : Int)) (.int .i64 1) _ (b_addw _ _ _ (by rw [IntKind.wrap_i64]; omega) _)) ?_
        refine tK (.int .i64 (((i + 1) : Nat) : Int)) ?_
        try simp only [pS]
        refine WL.nil ?_
        try simp only [pS]
        go_wp2
        go_roundw
        case rel => exact ⟨i + 1, by go_num, by omega, HF⟩
        case measure => simp [intOf]; omega
    · skip
      go_upto_region 5 with fail
      refine WL.start ?_
      refine tK (.int .i64 ((i : Nat) : Int)) ?_
      refine tK (.slice (some ⟨gp, 0, none⟩) (h.r.l + 67) (h.r.l + 67)) ?_
      refine tK (.int .i64 (((h.r.l + 67) : Nat) : Int)) ?_
      refine tW (.bool false) (eB .lss 3 _ _ _ rfl (.int .i64 ((i : Nat) : Int)) (.int .i64 (((h.r.l + 67) : Nat) : Int)) _ (by rw [b_lss, decide_eq_false (by omega)])) ?_
      try simp only [pS]
      refine WL.nil ?_
      try simp only [pS]
      have HB : Hid (Box wr gb 5 (u8L (tab (h.b.d.l + 67) (lntB h.b.d.l bs))).toArray) := HT.out.b.no HF.out.kept
      have HE : Hid (Box wr ge 91 (enL (tab (h.k.e.l + 67) (lntE h.k.e.l es))).toArray) := HT.out.e.no HF.out.kept
      have HL : Hid (Box wr gl 94 (laL (tab (h.k.l.l + 67) (lntL h.k.l.l ls))).toArray) := HT.out.l.no HF.out.kept
      have HP : Hid (Box wr gp 70 (plL (tab (h.r.l + 67) (lntP h.r.l ps))).toArray) := HT.out.p.no HF.out.kept
      have HF : Hid (Fr (fun k => k = gb ∨ k = ge ∨ k = gl ∨ k = gp) w (wr) [(gk1, 49, Hd.cells ⟨⟨h.b.s, ⟨(some ⟨gb, 0, none⟩), h.b.d.l, (h.b.d.l + 67)⟩⟩, ⟨h.k.up, ⟨(some ⟨ge, 0, none⟩), h.k.e.l, (h.k.e.l + 67)⟩, ⟨(some ⟨gl, 0, none⟩), h.k.l.l, (h.k.l.l + 67)⟩⟩, ⟨(some ⟨gp, 0, none⟩), h.r.l, (h.r.l + 67)⟩⟩), (gk3, 33, Hd.cells h)]) := HF.out.of_no
      go_upto_region 9 with fail
      refine WL.start ?_
      refine tK (.int .i64 0) ?_
      try simp only [pS]
      refine WL.nil ?_
      try simp only [pS]
      go_wp2
      go_loopw [7] (fun v5 wr => ∃ (i : Nat) (cur : List Pl), v5 = .int .i64 ((i : Nat) : Int) ∧ i ≤ h.r.l ∧ h.r.l ≤ cur.length ∧ Hid (Box wr gp 70 (plL cur).toArray) ∧ Hid (Box wr gb 5 (u8L (tab (h.b.d.l + 67) (lntB h.b.d.l bs))).toArray) ∧ Hid (Box wr ge 91 (enL (tab (h.k.e.l + 67) (lntE h.k.e.l es))).toArray) ∧ Hid (Box wr gl 94 (laL (tab (h.k.l.l + 67) (lntL h.k.l.l ls))).toArray) ∧ Hid (Fr (fun k => k = gb ∨ k = ge ∨ k = gl ∨ k = gp) w wr [(gk1, 49, Hd.cells ⟨⟨h.b.s, ⟨(some ⟨gb, 0, none⟩), h.b.d.l, (h.b.d.l + 67)⟩⟩, ⟨h.k.up, ⟨(some ⟨ge, 0, none⟩), h.k.e.l, (h.k.e.l + 67)⟩, ⟨(some ⟨gl, 0, none⟩), h.k.l.l, (h.k.l.l + 67)⟩⟩, ⟨(some ⟨gp, 0, none⟩), h.r.l, (h.r.l + 67)⟩⟩), (gk3, 33, Hd.cells h)])) (fun i _ => h.r.l - (intOf i).toNat)
      case atStart => exact ⟨0, _, by go_num, by omega, by rw [tab_len]; omega, HP, HB, HE, HL, HF⟩
      case round =>
        clear HF HB HE HL HP
        obtain ⟨i, cur, rfl, hi, hcl, HP, HB, HE, HL, HF⟩ := hrel
        by_cases hlt : i < h.r.l
        · skip
          go_upto_region 10 with fail
          refine WL.start ?_
          refine tK (.int .i64 ((i : Nat) : Int)) ?_
          refine tK (.pointer (some ⟨gk1, 6, none⟩)) ?_
          refine tW (.slice (some ⟨gp, 0, none⟩) h.r.l (h.r.l + 67)) (eL 47 _ rfl ⟨gk1, 6, none⟩ (load_one ((HF.out.box 0 _ _ _ rfl).cell 6 |>.trans (by kernel_rfl)) Try.und38 rfl)) ?_
          refine tK (.int .i64 ((h.r.l : Nat) : Int)) ?_
          refine tW (.bool true) (eB .lss 3 _ _ _ rfl (.int .i64 ((i : Nat) : Int)) (.int .i64 ((h.r.l : Nat) : Int)) _ (by rw [b_lss, decide_eq_true (by omega)])) ?_
          try simp only [pS]
          refine WL.nil ?_
          try simp only [pS]
          go_upto_region 12 with fail
          refine WL.start ?_
          refine tK (.pointer (some ⟨gk1, 6, none⟩)) ?_
          refine tW (.slice (some ⟨gp, 0, none⟩) h.r.l (h.r.l + 67)) (eL 47 _ rfl ⟨gk1, 6, none⟩ (load_one ((HF.out.box 0 _ _ _ rfl).cell 6 |>.trans (by kernel_rfl)) Try.und38 rfl)) ?_
          refine tK (.int .i64 ((i : Nat) : Int)) ?_
          refine tW (.agg (In.cells ⟨spZ, spZ, cZ, true⟩)) (exec_build 65 _ rfl (In.cells ⟨spZ, spZ, cZ, true⟩) (by kernel_rfl)) ?_
          refine tW (.agg (Pl.cells ⟨7, ⟨spZ, spZ, cZ, true⟩⟩)) (exec_build 70 _ rfl (Pl.cells ⟨7, ⟨spZ, spZ, cZ, true⟩⟩) (by kernel_rfl)) ?_
          refine tW (.pointer (some ⟨gp, 0 + i * 15, none⟩)) (exec_ixA 47 15 Try.und38e Try.size38e _ _ rfl gp 0 h.r.l (h.r.l + 67) i (by kernel_rfl) (by kernel_rfl) (by omega)) ?_
          try simp only [pS]
          refine wp_storeW 70 _ _ rfl ⟨gp, 0 + i * 15, none⟩ (.agg (Pl.cells ⟨7, ⟨spZ, spZ, cZ, true⟩⟩)) (by kernel_rfl) (by kernel_rfl) (wr.setRow gp (plL (cur.set i ⟨7, ⟨spZ, spZ, cZ, true⟩⟩)).toArray) (st_P _ HP.out (by omega)) (by kernel_rfl) ?_
          try simp only [pS]
          have HB : Hid (Box (wr.setRow gp (plL (cur.set i ⟨7, ⟨spZ, spZ, cZ, true⟩⟩)).toArray) gb 5 (u8L (tab (h.b.d.l + 67) (lntB h.b.d.l bs))).toArray) := HB.out.rowNe nbp _
          have HE : Hid (Box (wr.setRow gp (plL (cur.set i ⟨7, ⟨spZ, spZ, cZ, true⟩⟩)).toArray) ge 91 (enL (tab (h.k.e.l + 67) (lntE h.k.e.l es))).toArray) := HE.out.rowNe nep _
          have HL : Hid (Box (wr.setRow gp (plL (cur.set i ⟨7, ⟨spZ, spZ, cZ, true⟩⟩)).toArray) gl 94 (laL (tab (h.k.l.l + 67) (lntL h.k.l.l ls))).toArray) := HL.out.rowNe nlp _
          have HP : Hid (Box (wr.setRow gp (plL (cur.set i ⟨7, ⟨spZ, spZ, cZ, true⟩⟩)).toArray) gp 70 (plL (cur.set i ⟨7, ⟨spZ, spZ, cZ, true⟩⟩)).toArray) := Box.setRow HP.out _
          have HF : Hid (Fr (fun k => k = gb ∨ k = ge ∨ k = gl ∨ k = gp) w (wr.setRow gp (plL (cur.set i ⟨7, ⟨spZ, spZ, cZ, true⟩⟩)).toArray) [(gk1, 49, Hd.cells ⟨⟨h.b.s, ⟨(some ⟨gb, 0, none⟩), h.b.d.l, (h.b.d.l + 67)⟩⟩, ⟨h.k.up, ⟨(some ⟨ge, 0, none⟩), h.k.e.l, (h.k.e.l + 67)⟩, ⟨(some ⟨gl, 0, none⟩), h.k.l.l, (h.k.l.l + 67)⟩⟩, ⟨(some ⟨gp, 0, none⟩), h.r.l, (h.r.l + 67)⟩⟩), (gk3, 33, Hd.cells h)]) := HF.out.via (Kept.setRow _ _ _) (fun k e => ⟨by have e : k = gp := e; omega, by have e : k = gp := e; subst e; simp⟩)
          generalize wr.setRow gp (plL (cur.set i ⟨7, ⟨spZ, spZ, cZ, true⟩⟩)).toArray = wk9 at HF HB HE HL HP ⊢
          refine WL.nil ?_
          try simp only [pS]
          go_upto_region 11 with fail
          refine WL.start ?_
          refine tK (.int .i64 ((i : Nat) : Int)) ?_
          refine tW (.int .i64 (((i + 1) : Nat) : Int)) (eB .add 3 _ _ _ rfl (.int .i64 ((i : Nat) : Int)) (.int .i64 1) _ (b_addw _ _ _ (by rw [IntKind.wrap_i64]; omega) _)) ?_
          refine tK (.int .i64 (((i + 1) : Nat) : Int)) ?_
          try simp only [pS]
          refine WL.nil ?_
          try simp only [pS]
          go_wp2
          go_roundw
          case rel => exact ⟨i + 1, _, by go_num, by omega, by rw [List.length_set]; exact hcl, HP, HB, HE, HL, HF⟩
          case measure => simp [intOf]; omega
        · skip
          go_upto_region 10 with fail
          refine WL.start ?_
          refine tK (.int .i64 ((i : Nat) : Int)) ?_
          refine tK (.pointer (some ⟨gk1, 6, none⟩)) ?_
          refine tW (.slice (some ⟨gp, 0, none⟩) h.r.l (h.r.l + 67)) (eL 47 _ rfl ⟨gk1, 6, none⟩ (load_one ((HF.out.box 0 _ _ _ rfl).cell 6 |>.trans (by kernel_rfl)) Try.und38 rfl)) ?_
          refine tK (.int .i64 ((h.r.l : Nat) : Int)) ?_
          refine tW (.bool false) (eB .lss 3 _ _ _ rfl (.int .i64 ((i : Nat) : Int)) (.int .i64 ((h.r.l : Nat) : Int)) _ (by rw [b_lss, decide_eq_false (by omega)])) ?_
          try simp only [pS]
          refine WL.nil ?_
          try simp only [pS]
          go_upto_region 13 with fail
          refine WL.start ?_
          refine tK (.int .i64 0) ?_
          try simp only [pS]
          refine WL.nil ?_
          try simp only [pS]
          go_wp2
          go_loopw [8] (fun v5 wr => ∃ (i : Nat) (cur : List Int), v5 = .int .i64 ((i : Nat) : Int) ∧ i ≤ h.b.d.l ∧ h.b.d.l ≤ cur.length ∧ Hid (Box wr gb 5 (u8L cur).toArray) ∧ Hid (Box wr ge 91 (enL (tab (h.k.e.l + 67) (lntE h.k.e.l es))).toArray) ∧ Hid (Box wr gl 94 (laL (tab (h.k.l.l + 67) (lntL h.k.l.l ls))).toArray) ∧ Hid (Fr (fun k => k = gb ∨ k = ge ∨ k = gl ∨ k = gp) w wr [(gk1, 49, Hd.cells ⟨⟨h.b.s, ⟨(some ⟨gb, 0, none⟩), h.b.d.l, (h.b.d.l + 67)⟩⟩, ⟨h.k.up, ⟨(some ⟨ge, 0, none⟩), h.k.e.l, (h.k.e.l + 67)⟩, ⟨(some ⟨gl, 0, none⟩), h.k.l.l, (h.k.l.l + 67)⟩⟩, ⟨(some ⟨gp, 0, none⟩), h.r.l, (h.r.l + 67)⟩⟩), (gk3, 33, Hd.cells h)])) (fun i _ => h.b.d.l - (intOf i).toNat)
          case atStart => exact ⟨0, _, by go_num, by omega, by rw [tab_len]; omega, HB, HE, HL, HF⟩
          case round =>
            clear HF HB HE HL HP
            obtain ⟨i, cur, rfl, hi, hcl, HB, HE, HL, HF⟩ := hrel
            by_cases hlt : i < h.b.d.l
            · skip
              obtain ⟨z, hz⟩ : ∃ z, cur[i]? = some z := ⟨cur[i], List.getElem?_eq_getElem (by omega)⟩
              go_upto_region 14 with fail
              refine WL.start ?_
              refine tK (.int .i64 ((i : Nat) : Int)) ?_
              refine tK (.pointer (some ⟨gk1, 0, none⟩)) ?_
              refine tK (.pointer (some ⟨gk1, 2, none⟩)) ?_
              refine tW (.slice (some ⟨gb, 0, none⟩) h.b.d.l (h.b.d.l + 67)) (eL 24 _ rfl ⟨gk1, 2, none⟩ (load_one ((HF.out.box 0 _ _ _ rfl).cell 2 |>.trans (by kernel_rfl)) Try.und26 rfl)) ?_
              refine tK (.int .i64 ((h.b.d.l : Nat) : Int)) ?_
              refine tW (.bool true) (eB .lss 3 _ _ _ rfl (.int .i64 ((i : Nat) : Int)) (.int .i64 ((h.b.d.l : Nat) : Int)) _ (by rw [b_lss, decide_eq_true (by omega)])) ?_
              try simp only [pS]
              refine WL.nil ?_
              try simp only [pS]
              go_upto_region 16 with fail
              refine WL.start ?_
              refine tK (.pointer (some ⟨gk1, 0, none⟩)) ?_
              refine tK (.pointer (some ⟨gk1, 2, none⟩)) ?_
              refine tW (.slice (some ⟨gb, 0, none⟩) h.b.d.l (h.b.d.l + 67)) (eL 24 _ rfl ⟨gk1, 2, none⟩ (load_one ((HF.out.box 0 _ _ _ rfl).cell 2 |>.trans (by kernel_rfl)) Try.und26 rfl)) ?_
              refine tK (.int .i64 ((i : Nat) : Int)) ?_
              refine tW (.pointer (some ⟨gb, 0 + i * 1, none⟩)) (exec_ixA 24 1 Try.und26e Try.size26e _ _ rfl gb 0 h.b.d.l (h.b.d.l + 67) i (by kernel_rfl) (by kernel_rfl) (by omega)) ?_
              refine tW (.int .u8 z) (eL 5 _ rfl ⟨gb, 0 + i * 1, none⟩ (load_one (row_B HB.out hz) Try.und5 rfl)) ?_
              refine tW (.int .u8 (IntKind.u8.wrap (z + 1))) (eB .add 5 _ _ _ rfl (.int .u8 z) (.int .u8 1) _ (b_add8 _ _)) ?_
              refine tW (.pointer (some ⟨gb, 0 + i * 1, none⟩)) (exec_ixA 24 1 Try.und26e Try.size26e _ _ rfl gb 0 h.b.d.l (h.b.d.l + 67) i (by kernel_rfl) (by kernel_rfl) (by omega)) ?_
              try simp only [pS]
              refine wp_storeW 5 _ _ rfl ⟨gb, 0 + i * 1, none⟩ (.int .u8 (IntKind.u8.wrap (z + 1))) (by kernel_rfl) (by kernel_rfl) (wr.setRow gb (u8L (cur.set i (IntKind.u8.wrap (z + 1)))).toArray) (st_B _ HB.out (by omega)) (by kernel_rfl) ?_
              try simp only [pS]
              have HE : Hid (Box (wr.setRow gb (u8L (cur.set i (IntKind.u8.wrap (z + 1)))).toArray) ge 91 (enL (tab (h.k.e.l + 67) (lntE h.k.e.l es))).toArray) := HE.out.rowNe neb _
              have HL : Hid (Box (wr.setRow gb (u8L (cur.set i (IntKind.u8.wrap (z + 1)))).toArray) gl 94 (laL (tab (h.k.l.l + 67) (lntL h.k.l.l ls))).toArray) := HL.out.rowNe nlb _
              have HB : Hid (Box (wr.setRow gb (u8L (cur.set i (IntKind.u8.wrap (z + 1)))).toArray) gb 5 (u8L (cur.set i (IntKind.u8.wrap (z + 1)))).toArray) := Box.setRow HB.out _
              have HF : Hid (Fr (fun k => k = gb ∨ k = ge ∨ k = gl ∨ k = gp) w (wr.setRow gb (u8L (cur.set i (IntKind.u8.wrap (z + 1)))).toArray) [(gk1, 49, Hd.cells ⟨⟨h.b.s, ⟨(some ⟨gb, 0, none⟩), h.b.d.l, (h.b.d.l + 67)⟩⟩, ⟨h.k.up, ⟨(some ⟨ge, 0, none⟩), h.k.e.l, (h.k.e.l + 67)⟩, ⟨(some ⟨gl, 0, none⟩), h.k.l.l, (h.k.l.l + 67)⟩⟩, ⟨(some ⟨gp, 0, none⟩), h.r.l, (h.r.l + 67)⟩⟩), (gk3, 33, Hd.cells h)]) := HF.out.via (Kept.setRow _ _ _) (fun k e => ⟨by have e : k = gb := e; omega, by have e : k = gb := e; subst e; simp⟩)
              generalize wr.setRow gb (u8L (cur.set i (IntKind.u8.wrap (z + 1)))).toArray = wk10 at HF HE HL HB ⊢
              refine WL.nil ?_
              try simp only [pS]
              go_upto_region 15 with fail
              refine WL.start ?_
              refine tK (.int .i64 ((i : Nat) : Int)) ?_
              refine tW (.int .i64 (((i + 1) : Nat) : Int)) (eB .add 3 _ _ _ rfl (.int .i64 ((i : Nat) : Int)) (.int .i64 1) _ (b_addw _ _ _ (by rw [IntKind.wrap_i64]; omega) _)) ?_
              refine tK (.int .i64 (((i + 1) : Nat) : Int)) ?_
              try simp only [pS]
              refine WL.nil ?_
              try simp only [pS]
              go_wp2
              go_roundw
              case rel => exact ⟨i + 1, _, by go_num, by omega, by rw [List.length_set]; exact hcl, HB, HE, HL, HF⟩
              case measure => simp [intOf]; omega
            · skip
              go_upto_region 14 with fail
              refine WL.start ?_
              refine tK (.int .i64 ((i : Nat) : Int)) ?_
              refine tK (.pointer (some ⟨gk1, 0, none⟩)) ?_
              refine tK (.pointer (some ⟨gk1, 2, none⟩)) ?_
              refine tW (.slice (some ⟨gb, 0, none⟩) h.b.d.l (h.b.d.l + 67)) (eL 24 _ rfl ⟨gk1, 2, none⟩ (load_one ((HF.out.box 0 _ _ _ rfl).cell 2 |>.trans (by kernel_rfl)) Try.und26 rfl)) ?_
              refine tK (.int .i64 ((h.b.d.l : Nat) : Int)) ?_
              refine tW (.bool false) (eB .lss 3 _ _ _ rfl (.int .i64 ((i : Nat) : Int)) (.int .i64 ((h.b.d.l : Nat) : Int)) _ (by rw [b_lss, decide_eq_false (by omega)])) ?_
              try simp only [pS]
              refine WL.nil ?_
              try simp only [pS]
              go_upto_region 17 with fail
              refine WL.start ?_
              refine tK (.pointer (some ⟨gk1, 3, none⟩)) ?_
              refine tW (.agg (Bv.cells ⟨h.k.up, ⟨(some ⟨ge, 0, none⟩), h.k.e.l, (h.k.e.l + 67)⟩, ⟨(some ⟨gl, 0, none⟩), h.k.l.l, (h.k.l.l + 67)⟩⟩)) (eL 30 _ rfl ⟨gk1, 3, none⟩ (run_load_part (cs := Hd.cs ⟨⟨h.b.s, ⟨(some ⟨gb, 0, none⟩), h.b.d.l, (h.b.d.l + 67)⟩⟩, ⟨h.k.up, ⟨(some ⟨ge, 0, none⟩), h.k.e.l, (h.k.e.l + 67)⟩, ⟨(some ⟨gl, 0, none⟩), h.k.l.l, (h.k.l.l + 67)⟩⟩, ⟨(some ⟨gp, 0, none⟩), h.r.l, (h.r.l + 67)⟩⟩) (sub := Bv.cs ⟨h.k.up, ⟨(some ⟨ge, 0, none⟩), h.k.e.l, (h.k.e.l + 67)⟩, ⟨(some ⟨gl, 0, none⟩), h.k.l.l, (h.k.l.l + 67)⟩⟩) (HF.out.box 0 _ _ _ rfl) (part_of (by kernel_rfl)) Try.und32 rfl Try.size32)) ?_
              try simp only [pS]
              refine wp_callW 15 #[.agg (Bv.cells ⟨h.k.up, ⟨(some ⟨ge, 0, none⟩), h.k.e.l, (h.k.e.l + 67)⟩, ⟨(some ⟨gl, 0, none⟩), h.k.l.l, (h.k.l.l + 67)⟩⟩)] (by kernel_rfl) _ (spoilK_any h.k.up ge gl h.k.e.l h.k.l.l (h.k.e.l + 67) (h.k.l.l + 67) _ _ _ HE.out HL.out (by rw [tab_len]; omega) (by rw [tab_len]; omega) (by omega) (by omega)) (by kernel_rfl) ?_
              rintro e wk11 ⟨rfl, hk⟩
              have HF : Hid (Fr (fun k => k = gb ∨ k = ge ∨ k = gl ∨ k = gp) w (wk11) [(gk1, 49, Hd.cells ⟨⟨h.b.s, ⟨(some ⟨gb, 0, none⟩), h.b.d.l, (h.b.d.l + 67)⟩⟩, ⟨h.k.up, ⟨(some ⟨ge, 0, none⟩), h.k.e.l, (h.k.e.l + 67)⟩, ⟨(some ⟨gl, 0, none⟩), h.k.l.l, (h.k.l.l + 67)⟩⟩, ⟨(some ⟨gp, 0, none⟩), h.r.l, (h.r.l + 67)⟩⟩), (gk3, 33, Hd.cells h)]) := HF.out.via hk (fun k e => by rcases e with e | e <;> subst e; exact ⟨te, .inr (.inl rfl)⟩; exact ⟨tl, .inr (.inr (.inl rfl))⟩)
              clear hk
              refine ⟨.tuple #[], rfl, ?_⟩
              try simp only [pS]
              refine WL.nil ?_
              try simp only [pS]
              go_upto_region 18 with fail
              refine WL.start ?_
              refine tK (.bool true) ?_
              try simp only [pS]
              refine WL.nil ?_
              try simp only [pS]
              go_wp2
              rw [HC.out]
              exact ⟨rfl, HF.out.kept⟩

end Go.Proofs.Ytcgnbpaaalmkoab
