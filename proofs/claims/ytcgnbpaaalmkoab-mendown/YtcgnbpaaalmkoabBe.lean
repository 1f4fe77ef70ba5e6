import Derived.Test.YtcgnbpaaalmkoabBd
namespace Go.Proofs.Ytcgnbpaaalmkoab
open Go.RowKit
set_option linter.unusedVariables false
set_option linter.unusedSimpArgs false
@[reducible] def oqBe0 : Oper := { dst := some 46, op := Op.fieldAddr 33 (Operand.tmp 1) 2, type := 0, pos := "law.go:53", after := #[], guard := none }
@[reducible] def oqBe1 : Oper := { dst := some 47, op := Op.load 31 (Operand.tmp 46), type := 31, pos := "law.go:53", after := #[{ on := 0, ground := Ground.data }], guard := none }
@[reducible] def oqBe2 : Oper := { dst := some 48, op := Op.move (Operand.tmp 5), type := 3, pos := "law.go:53", after := #[], guard := none }
@[reducible] def oqBe3 : Oper := { dst := some 49, op := Op.indexAddr 31 (Operand.tmp 47) (Operand.tmp 48), type := 0, pos := "law.go:53", after := #[{ on := 1, ground := Ground.data }, { on := 2, ground := Ground.data }], guard := none }
@[reducible] def oqBe4 : Oper := { dst := some 50, op := Op.fieldAddr 73 (Operand.tmp 49) 0, type := 0, pos := "law.go:53", after := #[{ on := 3, ground := Ground.data }], guard := none }
@[reducible] def oqBe5 : Oper := { dst := some 51, op := Op.load 3 (Operand.tmp 50), type := 3, pos := "law.go:53", after := #[{ on := 4, ground := Ground.data }], guard := none }
@[reducible] def oqBe6 : Oper := { dst := some 52, op := Op.move (Operand.tmp 3), type := 3, pos := "law.go:53", after := #[], guard := none }
@[reducible] def oqBe7 : Oper := { dst := some 53, op := Op.binOp BinOp.leq 3 (Operand.tmp 51) (Operand.tmp 52) 3, type := 4, pos := "law.go:53", after := #[{ on := 5, ground := Ground.data }, { on := 6, ground := Ground.data }], guard := none }
@[reducible] def oqBe8 : Oper := { dst := some 54, op := Op.move (Operand.tmp 53), type := 4, pos := "law.go:53", after := #[{ on := 7, ground := Ground.data }], guard := none }
@[reducible] def oqBe9 : Oper := { dst := some 55, op := Op.fieldAddr 33 (Operand.tmp 1) 2, type := 0, pos := "law.go:53", after := #[{ on := 8, ground := Ground.guard }], guard := some (8, false) }
@[reducible] def oqBe10 : Oper := { dst := some 56, op := Op.load 31 (Operand.tmp 55), type := 31, pos := "law.go:53", after := #[{ on := 9, ground := Ground.data }, { on := 8, ground := Ground.guard }], guard := some (8, false) }
@[reducible] def oqBe11 : Oper := { dst := some 57, op := Op.move (Operand.tmp 5), type := 3, pos := "law.go:53", after := #[{ on := 8, ground := Ground.guard }], guard := some (8, false) }
@[reducible] def oqBe12 : Oper := { dst := some 58, op := Op.indexAddr 31 (Operand.tmp 56) (Operand.tmp 57), type := 0, pos := "law.go:53", after := #[{ on := 10, ground := Ground.data }, { on := 11, ground := Ground.data }, { on := 8, ground := Ground.guard }], guard := some (8, false) }
@[reducible] def oqBe13 : Oper := { dst := some 59, op := Op.fieldAddr 73 (Operand.tmp 58) 0, type := 0, pos := "law.go:53", after := #[{ on := 12, ground := Ground.data }, { on := 8, ground := Ground.guard }], guard := some (8, false) }
@[reducible] def oqBe14 : Oper := { dst := some 60, op := Op.load 3 (Operand.tmp 59), type := 3, pos := "law.go:53", after := #[{ on := 13, ground := Ground.data }, { on := 8, ground := Ground.guard }], guard := some (8, false) }
@[reducible] def oqBe15 : Oper := { dst := some 61, op := Op.binOp BinOp.gtr 3 (Operand.tmp 60) (Operand.const (Value.int IntKind.i64 1048576)) 3, type := 4, pos := "law.go:53", after := #[{ on := 14, ground := Ground.data }, { on := 8, ground := Ground.guard }], guard := some (8, false) }
@[reducible] def oqBe16 : Oper := { dst := some 62, op := Op.pick (Operand.tmp 54) (Operand.const (Value.bool true)) (Operand.tmp 61), type := 4, pos := "law.go:53", after := #[{ on := 8, ground := Ground.data }, { on := 15, ground := Ground.data }], guard := none }
@[reducible] def oqBe17 : Oper := { dst := some 63, op := Op.move (Operand.tmp 62), type := 4, pos := "law.go:53", after := #[{ on := 16, ground := Ground.data }, { on := 8, ground := Ground.chain }], guard := none }
@[reducible] def oqBe18 : Oper := { dst := some 64, op := Op.move (Operand.tmp 5), type := 3, pos := "law.go:53", after := #[{ on := 17, ground := Ground.guard }], guard := some (17, false) }
@[reducible] def oqBe19 : Oper := { dst := some 65, op := Op.binOp BinOp.gtr 3 (Operand.tmp 64) (Operand.const (Value.int IntKind.i64 0)) 3, type := 4, pos := "law.go:53", after := #[{ on := 18, ground := Ground.data }, { on := 17, ground := Ground.guard }], guard := some (17, false) }
@[reducible] def oqBe20 : Oper := { dst := some 66, op := Op.move (Operand.tmp 65), type := 4, pos := "law.go:53", after := #[{ on := 19, ground := Ground.data }, { on := 17, ground := Ground.chain }, { on := 17, ground := Ground.guard }], guard := some (17, false) }
@[reducible] def oqBe21 : Oper := { dst := some 67, op := Op.fieldAddr 33 (Operand.tmp 1) 2, type := 0, pos := "law.go:53", after := #[{ on := 20, ground := Ground.guard }], guard := some (20, true) }
@[reducible] def oqBe22 : Oper := { dst := some 68, op := Op.load 31 (Operand.tmp 67), type := 31, pos := "law.go:53", after := #[{ on := 21, ground := Ground.data }, { on := 20, ground := Ground.guard }], guard := some (20, true) }
@[reducible] def oqBe23 : Oper := { dst := some 69, op := Op.move (Operand.tmp 5), type := 3, pos := "law.go:53", after := #[{ on := 20, ground := Ground.guard }], guard := some (20, true) }
@[reducible] def oqBe24 : Oper := { dst := some 70, op := Op.indexAddr 31 (Operand.tmp 68) (Operand.tmp 69), type := 0, pos := "law.go:53", after := #[{ on := 22, ground := Ground.data }, { on := 23, ground := Ground.data }, { on := 20, ground := Ground.guard }], guard := some (20, true) }
@[reducible] def oqBe25 : Oper := { dst := some 71, op := Op.fieldAddr 73 (Operand.tmp 70) 0, type := 0, pos := "law.go:53", after := #[{ on := 24, ground := Ground.data }, { on := 20, ground := Ground.guard }], guard := some (20, true) }
@[reducible] def oqBe26 : Oper := { dst := some 72, op := Op.load 3 (Operand.tmp 71), type := 3, pos := "law.go:53", after := #[{ on := 25, ground := Ground.data }, { on := 20, ground := Ground.guard }], guard := some (20, true) }
@[reducible] def oqBe27 : Oper := { dst := some 73, op := Op.fieldAddr 33 (Operand.tmp 1) 2, type := 0, pos := "law.go:53", after := #[{ on := 20, ground := Ground.guard }], guard := some (20, true) }
@[reducible] def oqBe28 : Oper := { dst := some 74, op := Op.load 31 (Operand.tmp 73), type := 31, pos := "law.go:53", after := #[{ on := 27, ground := Ground.data }, { on := 20, ground := Ground.guard }], guard := some (20, true) }
@[reducible] def oqBe29 : Oper := { dst := some 75, op := Op.move (Operand.tmp 5), type := 3, pos := "law.go:53", after := #[{ on := 20, ground := Ground.guard }], guard := some (20, true) }
@[reducible] def oqBe30 : Oper := { dst := some 76, op := Op.binOp BinOp.sub 3 (Operand.tmp 75) (Operand.const (Value.int IntKind.i64 1)) 3, type := 3, pos := "law.go:53", after := #[{ on := 29, ground := Ground.data }, { on := 20, ground := Ground.guard }], guard := some (20, true) }
@[reducible] def oqBe31 : Oper := { dst := some 77, op := Op.indexAddr 31 (Operand.tmp 74) (Operand.tmp 76), type := 0, pos := "law.go:53", after := #[{ on := 28, ground := Ground.data }, { on := 30, ground := Ground.data }, { on := 20, ground := Ground.guard }], guard := some (20, true) }
@[reducible] def oqBe32 : Oper := { dst := some 78, op := Op.fieldAddr 73 (Operand.tmp 77) 0, type := 0, pos := "law.go:53", after := #[{ on := 31, ground := Ground.data }, { on := 20, ground := Ground.guard }], guard := some (20, true) }
@[reducible] def oqBe33 : Oper := { dst := some 79, op := Op.load 3 (Operand.tmp 78), type := 3, pos := "law.go:53", after := #[{ on := 32, ground := Ground.data }, { on := 20, ground := Ground.guard }], guard := some (20, true) }
@[reducible] def oqBe34 : Oper := { dst := some 80, op := Op.binOp BinOp.leq 3 (Operand.tmp 72) (Operand.tmp 79) 3, type := 4, pos := "law.go:53", after := #[{ on := 26, ground := Ground.data }, { on := 33, ground := Ground.data }, { on := 20, ground := Ground.guard }], guard := some (20, true) }
@[reducible] def oqBe35 : Oper := { dst := some 81, op := Op.pick (Operand.tmp 66) (Operand.tmp 80) (Operand.const (Value.bool false)), type := 4, pos := "law.go:53", after := #[{ on := 20, ground := Ground.data }, { on := 34, ground := Ground.data }, { on := 17, ground := Ground.guard }], guard := some (17, false) }
@[reducible] def oqBe36 : Oper := { dst := some 82, op := Op.pick (Operand.tmp 63) (Operand.const (Value.bool true)) (Operand.tmp 81), type := 4, pos := "law.go:53", after := #[{ on := 17, ground := Ground.data }, { on := 35, ground := Ground.data }], guard := none }
@[reducible] def oqBe37 : Oper := { dst := some 83, op := Op.move (Operand.tmp 82), type := 4, pos := "law.go:53", after := #[{ on := 36, ground := Ground.data }, { on := 20, ground := Ground.chain }], guard := none }
@[reducible] def oqBe38 : Oper := { dst := some 84, op := Op.load 65 (Operand.tmp 6), type := 65, pos := "law.go:53", after := #[{ on := 37, ground := Ground.guard }], guard := some (37, false) }
@[reducible] def oqBe39 : Oper := { dst := some 85, op := Op.build 65 #[], type := 65, pos := "law.go:53", after := #[{ on := 37, ground := Ground.guard }], guard := some (37, false) }
@[reducible] def oqBe40 : Oper := { dst := some 86, op := Op.binOp BinOp.eql 65 (Operand.tmp 84) (Operand.tmp 85) 65, type := 4, pos := "law.go:53", after := #[{ on := 38, ground := Ground.data }, { on := 39, ground := Ground.data }, { on := 37, ground := Ground.guard }], guard := some (37, false) }
@[reducible] def oqBe41 : Oper := { dst := some 87, op := Op.pick (Operand.tmp 83) (Operand.const (Value.bool true)) (Operand.tmp 86), type := 4, pos := "law.go:53", after := #[{ on := 37, ground := Ground.data }, { on := 40, ground := Ground.data }], guard := none }

/-- What is held may be. -/
def MayR (u : Int) (ps : List Pl) (k : Nat) : Prop := ∀ i, i < k → (u < (pAt ps i).n ∧ (pAt ps i).n ≤ 1048576) ∧ (0 < i → (pAt ps (i - 1)).n < (pAt ps i).n) ∧ ((pAt ps i).i.d = true → (pAt ps i).i.p = spZ ∧ (pAt ps i).i.a = spZ ∧ 1 ≤ (pAt ps i).i.c.k)
def MayP (h : Hd) (ps : List Pl) : Prop := (0 ≤ h.k.up ∧ h.k.up ≤ 1048576) ∧ (h.k.up = 0 → h.k.e.l = 0 ∧ h.k.l.l = 0) ∧ MayR h.k.up ps ps.length
def MaOut (w : World) (h : Hd) (ps : List Pl) (e : Ending) (w' : World) : Prop := ∃ b : Bool, e = .returned (.bool b) ∧ (b = true → MayP h ps) ∧ Kept No w w'
set_option maxRecDepth 100000 in
set_option maxHeartbeats 4000000 in
theorem may_any (h : Hd) (bs : List Int) (es : List En) (ls : List La) (ps : List Pl) (w : World) (hh : HdAt w h bs es ls ps) : Calls Try.prog 5 #[.agg (Hd.cells h)] w (MaOut w h ps) := by
  obtain ⟨C, hC⟩ : ∃ C : Ending → World → Prop, C = (MaOut w h ps) := ⟨_, rfl⟩
  have HC : Hid (C = (MaOut w h ps)) := hC
  rw [← hC]
  clear hC
  have HR : Hid (RdP w h.r ps) := hh.p
  have HL : Hid (ps.length = h.r.l) := hh.p.len
  have hn := hh.np
  have hne := hh.ne
  have hnl := hh.nl
  clear hh
  have HF : Hid (Fr No w w []) := Fr.start _ _
  go_enter Try.func5, Try.ntmps5
  go_upto_region 0 with fail
  refine WL.start ?_
  refine wp_runW (.pointer (some ⟨w.heap.size, 0, none⟩)) (w.alloc (.cells (Hd.cells h) 33)) (exec_box 33 _ rfl (Hd.cells h) (by kernel_rfl)) (by kernel_rfl) ?_
  try simp only [pS]
  have HF : Hid (Fr No w _ [(w.heap.size, 33, Hd.cells h)]) := HF.out.alloc _ _
  generalize w.alloc (.cells (Hd.cells h) 33) = wk2 at HF ⊢
  generalize w.heap.size = gk1 at HF ⊢
  refine tK (.bool false) ?_
  try simp only [pS]
  refine WL.nil ?_
  try simp only [pS]
  go_upto_region 1 with fail
  refine WL.start ?_
  refine tK (.pointer (some ⟨gk1, 3, none⟩)) ?_
  refine tK (.pointer (some ⟨gk1, 3, none⟩)) ?_
  refine tW (.int .i64 h.k.up) (eL 3 _ rfl ⟨gk1, 3, none⟩ (load_one ((HF.out.box 0 _ _ _ rfl).cell 3 |>.trans (by kernel_rfl)) Try.und3 rfl)) ?_
  refine tK (.int .i64 h.k.up) ?_
  try simp only [pS]
  refine WL.nil ?_
  try simp only [pS]
  go_upto_region 2 with fail
  go_cut [31] from 7 (fun v31 wc => ∃ b : Bool, v31 = .bool b ∧ (b = false → (0 ≤ h.k.up ∧ h.k.up ≤ 1048576) ∧ (h.k.up = 0 → h.k.e.l = 0 ∧ h.k.l.l = 0)) ∧ Hid (Fr No w wc [(gk1, 33, Hd.cells h)]))
  case first =>
   rename_i J0 K0 hJ0 hK0
   refine WL.start ?_
   refine tK (.int .i64 h.k.up) ?_
   try simp only [pS]
   cases q1 : (decide (h.k.up < 0))
   ·skip
    refine tW (.bool false) (eB .lss 3 _ _ _ rfl (.int .i64 h.k.up) (.int .i64 0) _ (by rw [b_lss, q1]; try rfl)) ?_
    refine tK (.bool false) ?_
    refine tK (.int .i64 h.k.up) ?_
    try simp only [pS]
    cases q2 : (decide (1048576 < h.k.up))
    ·skip
     refine tW (.bool false) (eB .gtr 3 _ _ _ rfl (.int .i64 h.k.up) (.int .i64 1048576) _ (by rw [b_gtr, q2]; try rfl)) ?_
     refine tK (.bool false) ?_
     refine tK (.bool false) ?_
     refine tK (.int .i64 h.k.up) ?_
     try simp only [pS]
     cases q3 : (h.k.up == 0)
     ·skip
      refine tW (.bool false) (eB .eql 3 _ _ _ rfl (.int .i64 h.k.up) (.int .i64 0) _ (by rw [b_eql, q3]; try rfl)) ?_
      refine tK (.bool false) ?_
      refine sK ?_
      refine sK ?_
      refine sK ?_
      refine sK ?_
      refine sK ?_
      refine sK ?_
      refine sK ?_
      refine sK ?_
      refine sK ?_
      refine sK ?_
      refine tK (.bool false) ?_
      refine tK (.bool false) ?_
      try simp only [pS]
      refine WL.nil ?_
      try simp only [pS]
      have hU : 0 ≤ h.k.up ∧ h.k.up ≤ 1048576 := by have a1 := of_decide_eq_false q1; have a2 := of_decide_eq_false q2; omega
      have hZ : h.k.up = 0 → h.k.e.l = 0 ∧ h.k.l.l = 0 := by intro e; rw [e] at q3; simp at q3
      go_wp2
      go_meet
      case rel => exact ⟨false, rfl, fun _ => ⟨hU, hZ⟩, HF⟩
     ·skip
      refine tW (.bool true) (eB .eql 3 _ _ _ rfl (.int .i64 h.k.up) (.int .i64 0) _ (by rw [b_eql, q3]; try rfl)) ?_
      refine tK (.bool true) ?_
      refine tK (.pointer (some ⟨gk1, 3, none⟩)) ?_
      refine tK (.pointer (some ⟨gk1, 4, none⟩)) ?_
      refine tW (h.k.e.v) (eL 27 _ rfl ⟨gk1, 4, none⟩ (load_one ((HF.out.box 0 _ _ _ rfl).cell 4 |>.trans (by kernel_rfl)) Try.und29 rfl)) ?_
      refine tK (.int .i64 ((h.k.e.l : Nat) : Int)) ?_
      refine tK (.pointer (some ⟨gk1, 3, none⟩)) ?_
      refine tK (.pointer (some ⟨gk1, 5, none⟩)) ?_
      refine tW (h.k.l.v) (eL 28 _ rfl ⟨gk1, 5, none⟩ (load_one ((HF.out.box 0 _ _ _ rfl).cell 5 |>.trans (by kernel_rfl)) Try.und30 rfl)) ?_
      refine tK (.int .i64 ((h.k.l.l : Nat) : Int)) ?_
      refine tW (.int .i64 (((h.k.e.l + h.k.l.l) : Nat) : Int)) (eB .add 3 _ _ _ rfl (.int .i64 ((h.k.e.l : Nat) : Int)) (.int .i64 ((h.k.l.l : Nat) : Int)) _ (b_addw _ _ _ (by rw [IntKind.wrap_i64]; omega) _)) ?_
      try simp only [pS]
      cases q4 : (decide (0 < (((h.k.e.l + h.k.l.l) : Nat) : Int)))
      ·skip
       refine tW (.bool false) (eB .gtr 3 _ _ _ rfl (.int .i64 (((h.k.e.l + h.k.l.l) : Nat) : Int)) (.int .i64 0) _ (by rw [b_gtr, q4]; try rfl)) ?_
       refine tK (.bool false) ?_
       refine tK (.bool false) ?_
       try simp only [pS]
       refine WL.nil ?_
       try simp only [pS]
       have hU : 0 ≤ h.k.up ∧ h.k.up ≤ 1048576 := by have a1 := of_decide_eq_false q1; have a2 := of_decide_eq_false q2; omega
       have hZ : h.k.up = 0 → h.k.e.l = 0 ∧ h.k.l.l = 0 := by intro _; have a1 := of_decide_eq_false q4; omega
       go_wp2
       go_meet
       case rel => exact ⟨false, rfl, fun _ => ⟨hU, hZ⟩, HF⟩
      ·skip
       refine tW (.bool true) (eB .gtr 3 _ _ _ rfl (.int .i64 (((h.k.e.l + h.k.l.l) : Nat) : Int)) (.int .i64 0) _ (by rw [b_gtr, q4]; try rfl)) ?_
       refine tK (.bool true) ?_
       refine tK (.bool true) ?_
       try simp only [pS]
       refine WL.nil ?_
       try simp only [pS]
       go_wp2
       go_meet
       case rel => exact ⟨true, rfl, fun e => (by cases e), HF⟩
    ·skip
     refine tW (.bool true) (eB .gtr 3 _ _ _ rfl (.int .i64 h.k.up) (.int .i64 1048576) _ (by rw [b_gtr, q2]; try rfl)) ?_
     refine tK (.bool true) ?_
     refine tK (.bool true) ?_
     refine sK ?_
     refine sK ?_
     refine sK ?_
     refine sK ?_
     refine sK ?_
     refine sK ?_
     refine sK ?_
     refine sK ?_
     refine sK ?_
     refine sK ?_
     refine sK ?_
     refine sK ?_
     refine sK ?_
     refine sK ?_
     refine tK (.bool true) ?_
     try simp only [pS]
     refine WL.nil ?_
     try simp only [pS]
     go_wp2
     go_meet
     case rel => exact ⟨true, rfl, fun e => (by cases e), HF⟩
   ·skip
    refine tW (.bool true) (eB .lss 3 _ _ _ rfl (.int .i64 h.k.up) (.int .i64 0) _ (by rw [b_lss, q1]; try rfl)) ?_
    refine tK (.bool true) ?_
    refine sK ?_
    refine sK ?_
    refine tK (.bool true) ?_
    refine tK (.bool true) ?_
    refine sK ?_
    refine sK ?_
    refine sK ?_
    refine sK ?_
    refine sK ?_
    refine sK ?_
    refine sK ?_
    refine sK ?_
    refine sK ?_
    refine sK ?_
    refine sK ?_
    refine sK ?_
    refine sK ?_
    refine sK ?_
    refine tK (.bool true) ?_
    try simp only [pS]
    refine WL.nil ?_
    try simp only [pS]
    go_wp2
    go_meet
    case rel => exact ⟨true, rfl, fun e => (by cases e), HF⟩
  case rest =>
   clear HF
   obtain ⟨b, rfl, hb, HF⟩ := hcut
   rcases b with _ | _
   · skip
     obtain ⟨hU, hZ⟩ := hb rfl
     clear hb
     go_upto_region 4 with fail
     refine WL.start ?_
     refine tW (.agg (Sp.cells spZ)) (exec_build 23 _ rfl (Sp.cells spZ) (by kernel_rfl)) ?_
     try simp only [pS]
     refine wp_runW (.pointer (some ⟨wc.heap.size, 0, none⟩)) (wc.alloc (.cells (Sp.cells spZ) 23)) (exec_alloc 23 rfl (Sp.cells spZ) zero25) (by kernel_rfl) ?_
     try simp only [pS]
     have HF : Hid (Fr No w _ [(gk1, 33, Hd.cells h), (wc.heap.size, 23, Sp.cells spZ)]) := HF.out.alloc _ _
     generalize wc.alloc (.cells (Sp.cells spZ) 23) = wk4 at HF ⊢
     generalize wc.heap.size = gk3 at HF ⊢
     refine wp_storeW 23 _ _ rfl ⟨gk3, 0, none⟩ (.agg (Sp.cells spZ)) (by kernel_rfl) (by kernel_rfl) (wk4.setRow gk3 (Sp.cells spZ)) (run_store_to (cur := Sp.cs spZ) (vs := Sp.cs spZ) (new := Sp.cs spZ) (HF.out.box 1 _ _ _ rfl) (by kernel_rfl) Try.size25 (Nat.le_of_ble_eq_true (by kernel_rfl)) (Sp.oneL _) (by kernel_rfl)) (by kernel_rfl) ?_
     try simp only [pS]
     have HF : Hid (Fr No w _ [(gk1, 33, Hd.cells h), (gk3, 23, Sp.cells spZ)]) := HF.out.set 1 rfl _
     generalize wk4.setRow gk3 (Sp.cells spZ) = wk5 at HF ⊢
     refine WL.nil ?_
     try simp only [pS]
     go_upto_region 5 with fail
     refine WL.start ?_
     refine tK (.int .i64 0) ?_
     try simp only [pS]
     refine WL.nil ?_
     try simp only [pS]
     go_wp2
     go_loopw [5, 6] (fun v5 v6 wr => ∃ i : Nat, v5 = .int .i64 ((i : Nat) : Int) ∧ i ≤ h.r.l ∧ Hid (MayR h.k.up ps i) ∧ Hid (Fr No w wr [(gk1, 33, Hd.cells h), (gk3, 23, Sp.cells spZ)])) (fun i _ _ => h.r.l - (intOf i).toNat)
     case atStart => exact ⟨0, by go_num, by omega, fun j hj => absurd hj (Nat.not_lt_zero _), HF⟩
     case round =>
       clear HF
       obtain ⟨i, rfl, hi, HM, HF⟩ := hrel
       by_cases hlt : i < h.r.l
       · skip
         obtain ⟨pb, po, hca, hcc⟩ := HR.out.at (i := i) hlt
         have hsl : h.r.v = .slice (some ⟨pb, po, none⟩) h.r.l h.r.k := by unfold Sl.v; rw [hca]
         obtain ⟨x, hx⟩ : ∃ x, x = pAt ps i := ⟨_, rfl⟩
         rw [← hx] at hcc
         have c0 : Hid (w.cell? ⟨pb, po + i * 15, none⟩ = some (.int .i64 x.n)) := hcc 0 _ rfl
         have ci : Hid (∀ (j : Nat) v, (In.cs x.i)[j]? = some v → w.cell? ⟨pb, po + i * 15 + 1 + j, none⟩ = some v) := fun j v hv => by rw [show po + i * 15 + 1 + j = po + i * 15 + (j + 1) by omega]; exact hcc (j + 1) v hv
         have HX : Hid (x = pAt ps i) := hx
         clear hcc hx
         by_cases h0 : 0 < i
         · skip
           obtain ⟨pb', po', hca', hcc'⟩ := HR.out.at (i := i - 1) (by omega)
           rw [hca] at hca'
           cases hca'
           obtain ⟨y, hy⟩ : ∃ y, y = pAt ps (i - 1) := ⟨_, rfl⟩
           rw [← hy] at hcc'
           have y0 : Hid (w.cell? ⟨pb, po + (i - 1) * 15, none⟩ = some (.int .i64 y.n)) := hcc' 0 _ rfl
           have HY : Hid (y = pAt ps (i - 1)) := hy
           clear hcc' hy
           go_upto_region 6 with fail
           refine WL.start ?_
           refine tK (.int .i64 ((i : Nat) : Int)) ?_
           refine tK (.pointer (some ⟨gk1, 6, none⟩)) ?_
           refine tW (h.r.v) (eL 31 _ rfl ⟨gk1, 6, none⟩ (load_one ((HF.out.box 0 _ _ _ rfl).cell 6 |>.trans (by kernel_rfl)) Try.und33 rfl)) ?_
           refine tK (.int .i64 ((h.r.l : Nat) : Int)) ?_
           refine tW (.bool true) (eB .lss 3 _ _ _ rfl (.int .i64 ((i : Nat) : Int)) (.int .i64 ((h.r.l : Nat) : Int)) _ (by rw [b_lss, decide_eq_true (by omega)])) ?_
           try simp only [pS]
           refine WL.nil ?_
           try simp only [pS]
           go_upto_region 8 with fail
           refine WL.start ?_
           refine tK (.pointer (some ⟨gk1, 6, none⟩)) ?_
           refine tW (h.r.v) (eL 31 _ rfl ⟨gk1, 6, none⟩ (load_one ((HF.out.box 0 _ _ _ rfl).cell 6 |>.trans (by kernel_rfl)) Try.und33 rfl)) ?_
           refine tK (.int .i64 ((i : Nat) : Int)) ?_
           refine tW (.pointer (some ⟨pb, po + i * 15, none⟩)) (exec_ixA 31 15 Try.und33e Try.size33e _ _ rfl pb po h.r.l h.r.k i (Eq.trans (b := h.r.v) (by kernel_rfl) hsl) (by kernel_rfl) hlt) ?_
           refine tK (.pointer (some ⟨pb, po + i * 15 + 1, none⟩)) ?_
           refine tW (.agg (In.cells x.i)) (eL 65 _ rfl ⟨pb, po + i * 15 + 1, none⟩ (load_cells (it := In.cs x.i) (fun j v hv => HF.out.kept.cell (ci.out j v hv) (fun e => e)) Try.und70 rfl Try.size70)) ?_
           try simp only [pS]
           refine wp_runW (.pointer (some ⟨wr.heap.size, 0, none⟩)) (wr.alloc (.cells (In.cells inZ) 65)) (exec_alloc 65 rfl (In.cells inZ) zero70) (by kernel_rfl) ?_
           try simp only [pS]
           have HF : Hid (Fr No w _ [(gk1, 33, Hd.cells h), (gk3, 23, Sp.cells spZ), (wr.heap.size, 65, In.cells inZ)]) := HF.out.alloc _ _
           generalize wr.alloc (.cells (In.cells inZ) 65) = wk7 at HF ⊢
           generalize wr.heap.size = gk6 at HF ⊢
           refine wp_storeW 65 _ _ rfl ⟨gk6, 0, none⟩ (.agg (In.cells x.i)) (by kernel_rfl) (by kernel_rfl) (wk7.setRow gk6 (In.cells x.i)) (run_store_to (cur := In.cs inZ) (vs := In.cs x.i) (new := In.cs x.i) (HF.out.box 2 _ _ _ rfl) (by kernel_rfl) Try.size70 (Nat.le_of_ble_eq_true (by kernel_rfl)) (In.oneL _) (by kernel_rfl)) (by kernel_rfl) ?_
           try simp only [pS]
           have HF : Hid (Fr No w _ [(gk1, 33, Hd.cells h), (gk3, 23, Sp.cells spZ), (gk6, 65, In.cells x.i)]) := HF.out.set 2 rfl _
           generalize wk7.setRow gk6 (In.cells x.i) = wk8 at HF ⊢
           refine WL.nil ?_
           try simp only [pS]
           go_upto_region 9 with fail
           refine wp_region_held_drew (S := fun w' => Fr No w w' [(gk1, 33, Hd.cells h), (gk3, 23, Sp.cells spZ), (gk6, 65, In.cells x.i)]) rfl (HF.out.drew) (fun hH => ?_)
           have HF : Hid (Fr No w (wk8.drew) [(gk1, 33, Hd.cells h), (gk3, 23, Sp.cells spZ), (gk6, 65, In.cells x.i)]) := HF.out.drew
           generalize wk8.drew = wk9 at HF hH ⊢
           refine aT (i := 0) (oi := oqBe0) (v := .pointer (some ⟨gk1, 6, none⟩)) (fun _ _ => by kernel_rfl) hH ?_
           try simp only [pS]
           refine aT (i := 1) (oi := oqBe1) (v := h.r.v) (fun w' hw => eL 31 _ rfl ⟨gk1, 6, none⟩ (load_one ((hw.box 0 _ _ _ rfl).cell 6 |>.trans (by kernel_rfl)) Try.und33 rfl)) hH ?_
           try simp only [pS]
           refine aT (i := 2) (oi := oqBe2) (v := .int .i64 ((i : Nat) : Int)) (fun _ _ => by kernel_rfl) hH ?_
           try simp only [pS]
           refine aT (i := 3) (oi := oqBe3) (v := .pointer (some ⟨pb, po + i * 15, none⟩)) (fun w' hw => exec_ixA 31 15 Try.und33e Try.size33e _ _ rfl pb po h.r.l h.r.k i (Eq.trans (b := h.r.v) (by kernel_rfl) hsl) (by kernel_rfl) hlt) hH ?_
           try simp only [pS]
           refine aT (i := 4) (oi := oqBe4) (v := .pointer (some ⟨pb, po + i * 15, none⟩)) (fun _ _ => by kernel_rfl) hH ?_
           try simp only [pS]
           refine aT (i := 5) (oi := oqBe5) (v := .int .i64 x.n) (fun w' hw => eL 3 _ rfl ⟨pb, po + i * 15, none⟩ (load_one (hw.kept.cell (c0.out) (fun e => e)) Try.und3 rfl)) hH ?_
           try simp only [pS]
           refine aT (i := 6) (oi := oqBe6) (v := .int .i64 h.k.up) (fun _ _ => by kernel_rfl) hH ?_
           try simp only [pS]
           cases q5 : (decide (x.n ≤ h.k.up))
           ·skip
            refine aT (i := 7) (oi := oqBe7) (v := .bool false) (fun w' hw => eB .leq 3 _ _ _ rfl (.int .i64 x.n) (.int .i64 h.k.up) _ (by rw [b_leq, q5]; try rfl)) hH ?_
            try simp only [pS]
            refine aT (i := 8) (oi := oqBe8) (v := .bool false) (fun _ _ => by kernel_rfl) hH ?_
            try simp only [pS]
            refine aT (i := 9) (oi := oqBe9) (v := .pointer (some ⟨gk1, 6, none⟩)) (fun _ _ => by kernel_rfl) hH ?_
            try simp only [pS]
            refine aT (i := 10) (oi := oqBe10) (v := h.r.v) (fun w' hw => eL 31 _ rfl ⟨gk1, 6, none⟩ (load_one ((hw.box 0 _ _ _ rfl).cell 6 |>.trans (by kernel_rfl)) Try.und33 rfl)) hH ?_
            try simp only [pS]
            refine aT (i := 11) (oi := oqBe11) (v := .int .i64 ((i : Nat) : Int)) (fun _ _ => by kernel_rfl) hH ?_
            try simp only [pS]
            refine aT (i := 12) (oi := oqBe12) (v := .pointer (some ⟨pb, po + i * 15, none⟩)) (fun w' hw => exec_ixA 31 15 Try.und33e Try.size33e _ _ rfl pb po h.r.l h.r.k i (Eq.trans (b := h.r.v) (by kernel_rfl) hsl) (by kernel_rfl) hlt) hH ?_
            try simp only [pS]
            refine aT (i := 13) (oi := oqBe13) (v := .pointer (some ⟨pb, po + i * 15, none⟩)) (fun _ _ => by kernel_rfl) hH ?_
            try simp only [pS]
            refine aT (i := 14) (oi := oqBe14) (v := .int .i64 x.n) (fun w' hw => eL 3 _ rfl ⟨pb, po + i * 15, none⟩ (load_one (hw.kept.cell (c0.out) (fun e => e)) Try.und3 rfl)) hH ?_
            try simp only [pS]
            cases q6 : (decide (1048576 < x.n))
            ·skip
             refine aT (i := 15) (oi := oqBe15) (v := .bool false) (fun w' hw => eB .gtr 3 _ _ _ rfl (.int .i64 x.n) (.int .i64 1048576) _ (by rw [b_gtr, q6]; try rfl)) hH ?_
             try simp only [pS]
             refine aT (i := 16) (oi := oqBe16) (v := .bool false) (fun _ _ => by kernel_rfl) hH ?_
             try simp only [pS]
             refine aT (i := 17) (oi := oqBe17) (v := .bool false) (fun _ _ => by kernel_rfl) hH ?_
             try simp only [pS]
             refine aT (i := 18) (oi := oqBe18) (v := .int .i64 ((i : Nat) : Int)) (fun _ _ => by kernel_rfl) hH ?_
             try simp only [pS]
             refine aT (i := 19) (oi := oqBe19) (v := .bool true) (fun w' hw => eB .gtr 3 _ _ _ rfl (.int .i64 ((i : Nat) : Int)) (.int .i64 0) _ (by rw [b_gtr, decide_eq_true (by omega)])) hH ?_
             try simp only [pS]
             refine aT (i := 20) (oi := oqBe20) (v := .bool true) (fun _ _ => by kernel_rfl) hH ?_
             try simp only [pS]
             refine aT (i := 21) (oi := oqBe21) (v := .pointer (some ⟨gk1, 6, none⟩)) (fun _ _ => by kernel_rfl) hH ?_
             try simp only [pS]
             refine aT (i := 22) (oi := oqBe22) (v := h.r.v) (fun w' hw => eL 31 _ rfl ⟨gk1, 6, none⟩ (load_one ((hw.box 0 _ _ _ rfl).cell 6 |>.trans (by kernel_rfl)) Try.und33 rfl)) hH ?_
             try simp only [pS]
             refine aT (i := 23) (oi := oqBe23) (v := .int .i64 ((i : Nat) : Int)) (fun _ _ => by kernel_rfl) hH ?_
             try simp only [pS]
             refine aT (i := 24) (oi := oqBe24) (v := .pointer (some ⟨pb, po + i * 15, none⟩)) (fun w' hw => exec_ixA 31 15 Try.und33e Try.size33e _ _ rfl pb po h.r.l h.r.k i (Eq.trans (b := h.r.v) (by kernel_rfl) hsl) (by kernel_rfl) hlt) hH ?_
             try simp only [pS]
             refine aT (i := 25) (oi := oqBe25) (v := .pointer (some ⟨pb, po + i * 15, none⟩)) (fun _ _ => by kernel_rfl) hH ?_
             try simp only [pS]
             refine aT (i := 26) (oi := oqBe26) (v := .int .i64 x.n) (fun w' hw => eL 3 _ rfl ⟨pb, po + i * 15, none⟩ (load_one (hw.kept.cell (c0.out) (fun e => e)) Try.und3 rfl)) hH ?_
             try simp only [pS]
             refine aT (i := 27) (oi := oqBe27) (v := .pointer (some ⟨gk1, 6, none⟩)) (fun _ _ => by kernel_rfl) hH ?_
             try simp only [pS]
             refine aT (i := 28) (oi := oqBe28) (v := h.r.v) (fun w' hw => eL 31 _ rfl ⟨gk1, 6, none⟩ (load_one ((hw.box 0 _ _ _ rfl).cell 6 |>.trans (by kernel_rfl)) Try.und33 rfl)) hH ?_
             try simp only [pS]
             refine aT (i := 29) (oi := oqBe29) (v := .int .i64 ((i : Nat) : Int)) (fun _ _ => by kernel_rfl) hH ?_
             try simp only [pS]
             refine aT (i := 30) (oi := oqBe30) (v := .int .i64 (((i - 1) : Nat) : Int)) (fun w' hw => eB .sub 3 _ _ _ rfl (.int .i64 ((i : Nat) : Int)) (.int .i64 1) _ (b_subw _ _ _ (by rw [IntKind.wrap_i64]; omega) _)) hH ?_
             try simp only [pS]
             refine aT (i := 31) (oi := oqBe31) (v := .pointer (some ⟨pb, po + (i - 1) * 15, none⟩)) (fun w' hw => exec_ixA 31 15 Try.und33e Try.size33e _ _ rfl pb po h.r.l h.r.k (i - 1) (Eq.trans (b := h.r.v) (by kernel_rfl) hsl) (by kernel_rfl) (by omega)) hH ?_
             try simp only [pS]
             refine aT (i := 32) (oi := oqBe32) (v := .pointer (some ⟨pb, po + (i - 1) * 15, none⟩)) (fun _ _ => by kernel_rfl) hH ?_
             try simp only [pS]
             refine aT (i := 33) (oi := oqBe33) (v := .int .i64 y.n) (fun w' hw => eL 3 _ rfl ⟨pb, po + (i - 1) * 15, none⟩ (load_one (hw.kept.cell (y0.out) (fun e => e)) Try.und3 rfl)) hH ?_
             try simp only [pS]
             cases q7 : (decide (x.n ≤ y.n))
             ·skip
              refine aT (i := 34) (oi := oqBe34) (v := .bool false) (fun w' hw => eB .leq 3 _ _ _ rfl (.int .i64 x.n) (.int .i64 y.n) _ (by rw [b_leq, q7]; try rfl)) hH ?_
              try simp only [pS]
              refine aT (i := 35) (oi := oqBe35) (v := .bool false) (fun _ _ => by kernel_rfl) hH ?_
              try simp only [pS]
              refine aT (i := 36) (oi := oqBe36) (v := .bool false) (fun _ _ => by kernel_rfl) hH ?_
              try simp only [pS]
              refine aT (i := 37) (oi := oqBe37) (v := .bool false) (fun _ _ => by kernel_rfl) hH ?_
              try simp only [pS]
              refine aT (i := 38) (oi := oqBe38) (v := .agg (In.cells x.i)) (fun w' hw => eL 65 _ rfl ⟨gk6, 0, none⟩ (run_load_part (cs := In.cs x.i) (sub := In.cs x.i) (hw.box 2 _ _ _ rfl) (Part.all _) Try.und70 rfl Try.size70)) hH ?_
              try simp only [pS]
              refine aT (i := 39) (oi := oqBe39) (v := .agg (In.cells inZ)) (fun w' hw => exec_build 65 _ rfl (In.cells inZ) (by kernel_rfl)) hH ?_
              try simp only [pS]
              cases q8 : (eqI x.i inZ)
              ·skip
               refine aT (i := 40) (oi := oqBe40) (v := .bool false) (fun w' hw => eB .eql 65 _ _ _ rfl (.agg (In.cells x.i)) (.agg (In.cells inZ)) _ (by rw [eqI_eql, q8]; try rfl)) hH ?_
               try simp only [pS]
               refine aT (i := 41) (oi := oqBe41) (v := .bool false) (fun _ _ => by kernel_rfl) hH ?_
               try simp only [pS]
               refine wpAnyH_done (by kernel_rfl) ?_ _
               try simp only [pS]
               clear hH
               go_upto_region 11 with fail
               refine WL.start ?_
               refine tK (.pointer (some ⟨gk6, 13, none⟩)) ?_
               refine tW (.bool x.i.d) (eL 4 _ rfl ⟨gk6, 13, none⟩ (load_one ((HF.out.box 2 _ _ _ rfl).cell 13 |>.trans (by kernel_rfl)) Try.und4 rfl)) ?_
               refine tK (.bool x.i.d) ?_
               try simp only [pS]
               cases q9 : (x.i.d)
               ·skip
                try simp only [q9]
                refine sK ?_
                refine sK ?_
                refine sK ?_
                refine sK ?_
                refine sK ?_
                refine sK ?_
                refine sK ?_
                refine sK ?_
                refine sK ?_
                refine sK ?_
                refine sK ?_
                refine sK ?_
                refine sK ?_
                refine sK ?_
                refine sK ?_
                refine sK ?_
                refine tK (.bool false) ?_
                try simp only [pS]
                refine WL.nil ?_
                try simp only [pS]
                have HM2 : Hid (MayR h.k.up ps (i + 1)) := show MayR h.k.up ps (i + 1) from fun j hj => by
                  by_cases e : j = i
                  · subst e
                    refine ⟨by rw [← HX.out]; have a1 := of_decide_eq_false q5; have a2 := of_decide_eq_false q6; omega, fun _ => by rw [← HX.out, ← HY.out]; have a1 := of_decide_eq_false q7; omega, by rw [← HX.out]; exact fun e => by rw [q9] at e; cases e⟩
                  · exact HM.out j (by omega)
                go_upto_region 7 with fail
                refine WL.start ?_
                refine tK (.int .i64 ((i : Nat) : Int)) ?_
                refine tW (.int .i64 (((i + 1) : Nat) : Int)) (eB .add 3 _ _ _ rfl (.int .i64 ((i : Nat) : Int)) (.int .i64 1) _ (b_addw _ _ _ (by rw [IntKind.wrap_i64]; omega) _)) ?_
                refine tK (.int .i64 (((i + 1) : Nat) : Int)) ?_
                try simp only [pS]
                refine WL.nil ?_
                try simp only [pS]
                have HF : Hid (Fr No w wk9 [(gk1, 33, Hd.cells h), (gk3, 23, Sp.cells spZ)]) := Fr.front (l := [(gk1, 33, Hd.cells h), (gk3, 23, Sp.cells spZ)]) (m := [_]) HF.out
                go_wp2
                go_roundw
                case rel => exact ⟨i + 1, by go_num, by omega, HM2, HF⟩
                case measure => simp [intOf]; omega
               ·skip
                try simp only [q9]
                refine tK (.pointer (some ⟨gk6, 0, none⟩)) ?_
                refine tW (.agg (Sp.cells x.i.p)) (eL 23 _ rfl ⟨gk6, 0, none⟩ (run_load_part (cs := In.cs x.i) (sub := Sp.cs x.i.p) (HF.out.box 2 _ _ _ rfl) (part_of (by kernel_rfl)) Try.und25 rfl Try.size25)) ?_
                refine tW (.agg (Sp.cells spZ)) (eL 23 _ rfl ⟨gk3, 0, none⟩ (run_load_part (cs := Sp.cs spZ) (sub := Sp.cs spZ) (HF.out.box 1 _ _ _ rfl) (Part.all _) Try.und25 rfl Try.size25)) ?_
                try simp only [pS]
                cases q10 : (eqS x.i.p spZ)
                ·skip
                 refine tW (.bool true) (eB .neq 23 _ _ _ rfl (.agg (Sp.cells x.i.p)) (.agg (Sp.cells spZ)) _ (by rw [eqS_neq, q10]; try rfl)) ?_
                 refine tK (.bool true) ?_
                 refine sK ?_
                 refine sK ?_
                 refine sK ?_
                 refine sK ?_
                 refine tK (.bool true) ?_
                 refine tK (.bool true) ?_
                 refine sK ?_
                 refine sK ?_
                 refine sK ?_
                 refine sK ?_
                 refine tK (.bool true) ?_
                 refine tK (.bool true) ?_
                 try simp only [pS]
                 refine WL.nil ?_
                 try simp only [pS]
                 go_upto_region 12 with fail
                 refine WL.start ?_
                 refine tK (.bool false) ?_
                 try simp only [pS]
                 refine WL.nil ?_
                 try simp only [pS]
                 go_wp2
                 rw [HC.out]
                 exact ⟨false, rfl, ⟨fun e => (by cases e), HF.out.kept⟩⟩
                ·skip
                 refine tW (.bool false) (eB .neq 23 _ _ _ rfl (.agg (Sp.cells x.i.p)) (.agg (Sp.cells spZ)) _ (by rw [eqS_neq, q10]; try rfl)) ?_
                 refine tK (.bool false) ?_
                 refine tK (.pointer (some ⟨gk6, 2, none⟩)) ?_
                 refine tW (.agg (Sp.cells x.i.a)) (eL 23 _ rfl ⟨gk6, 2, none⟩ (run_load_part (cs := In.cs x.i) (sub := Sp.cs x.i.a) (HF.out.box 2 _ _ _ rfl) (part_of (by kernel_rfl)) Try.und25 rfl Try.size25)) ?_
                 refine tW (.agg (Sp.cells spZ)) (eL 23 _ rfl ⟨gk3, 0, none⟩ (run_load_part (cs := Sp.cs spZ) (sub := Sp.cs spZ) (HF.out.box 1 _ _ _ rfl) (Part.all _) Try.und25 rfl Try.size25)) ?_
                 try simp only [pS]
                 cases q11 : (eqS x.i.a spZ)
                 ·skip
                  refine tW (.bool true) (eB .neq 23 _ _ _ rfl (.agg (Sp.cells x.i.a)) (.agg (Sp.cells spZ)) _ (by rw [eqS_neq, q11]; try rfl)) ?_
                  refine tK (.bool true) ?_
                  refine tK (.bool true) ?_
                  refine sK ?_
                  refine sK ?_
                  refine sK ?_
                  refine sK ?_
                  refine tK (.bool true) ?_
                  refine tK (.bool true) ?_
                  try simp only [pS]
                  refine WL.nil ?_
                  try simp only [pS]
                  go_upto_region 12 with fail
                  refine WL.start ?_
                  refine tK (.bool false) ?_
                  try simp only [pS]
                  refine WL.nil ?_
                  try simp only [pS]
                  go_wp2
                  rw [HC.out]
                  exact ⟨false, rfl, ⟨fun e => (by cases e), HF.out.kept⟩⟩
                 ·skip
                  refine tW (.bool false) (eB .neq 23 _ _ _ rfl (.agg (Sp.cells x.i.a)) (.agg (Sp.cells spZ)) _ (by rw [eqS_neq, q11]; try rfl)) ?_
                  refine tK (.bool false) ?_
                  refine tK (.bool false) ?_
                  refine tK (.pointer (some ⟨gk6, 4, none⟩)) ?_
                  refine tK (.pointer (some ⟨gk6, 4, none⟩)) ?_
                  refine tW (.int .i64 x.i.c.k) (eL 3 _ rfl ⟨gk6, 4, none⟩ (load_one ((HF.out.box 2 _ _ _ rfl).cell 4 |>.trans (by kernel_rfl)) Try.und3 rfl)) ?_
                  try simp only [pS]
                  cases q12 : (decide (x.i.c.k < 1))
                  ·skip
                   refine tW (.bool false) (eB .lss 3 _ _ _ rfl (.int .i64 x.i.c.k) (.int .i64 1) _ (by rw [b_lss, q12]; try rfl)) ?_
                   refine tK (.bool false) ?_
                   refine tK (.bool false) ?_
                   try simp only [pS]
                   refine WL.nil ?_
                   try simp only [pS]
                   have HM2 : Hid (MayR h.k.up ps (i + 1)) := show MayR h.k.up ps (i + 1) from fun j hj => by
                     by_cases e : j = i
                     · subst e
                       refine ⟨by rw [← HX.out]; have a1 := of_decide_eq_false q5; have a2 := of_decide_eq_false q6; omega, fun _ => by rw [← HX.out, ← HY.out]; have a1 := of_decide_eq_false q7; omega, by rw [← HX.out]; exact fun _ => ⟨eqS_iff.1 q10, eqS_iff.1 q11, by have a1 := of_decide_eq_false q12; omega⟩⟩
                     · exact HM.out j (by omega)
                   go_upto_region 7 with fail
                   refine WL.start ?_
                   refine tK (.int .i64 ((i : Nat) : Int)) ?_
                   refine tW (.int .i64 (((i + 1) : Nat) : Int)) (eB .add 3 _ _ _ rfl (.int .i64 ((i : Nat) : Int)) (.int .i64 1) _ (b_addw _ _ _ (by rw [IntKind.wrap_i64]; omega) _)) ?_
                   refine tK (.int .i64 (((i + 1) : Nat) : Int)) ?_
                   try simp only [pS]
                   refine WL.nil ?_
                   try simp only [pS]
                   have HF : Hid (Fr No w wk9 [(gk1, 33, Hd.cells h), (gk3, 23, Sp.cells spZ)]) := Fr.front (l := [(gk1, 33, Hd.cells h), (gk3, 23, Sp.cells spZ)]) (m := [_]) HF.out
                   go_wp2
                   go_roundw
                   case rel => exact ⟨i + 1, by go_num, by omega, HM2, HF⟩
                   case measure => simp [intOf]; omega
                  ·skip
                   refine tW (.bool true) (eB .lss 3 _ _ _ rfl (.int .i64 x.i.c.k) (.int .i64 1) _ (by rw [b_lss, q12]; try rfl)) ?_
                   refine tK (.bool true) ?_
                   refine tK (.bool true) ?_
                   try simp only [pS]
                   refine WL.nil ?_
                   try simp only [pS]
                   go_upto_region 12 with fail
                   refine WL.start ?_
                   refine tK (.bool false) ?_
                   try simp only [pS]
                   refine WL.nil ?_
                   try simp only [pS]
                   go_wp2
                   rw [HC.out]
                   exact ⟨false, rfl, ⟨fun e => (by cases e), HF.out.kept⟩⟩
              ·skip
               refine aT (i := 40) (oi := oqBe40) (v := .bool true) (fun w' hw => eB .eql 65 _ _ _ rfl (.agg (In.cells x.i)) (.agg (In.cells inZ)) _ (by rw [eqI_eql, q8]; try rfl)) hH ?_
               try simp only [pS]
               refine aT (i := 41) (oi := oqBe41) (v := .bool true) (fun _ _ => by kernel_rfl) hH ?_
               try simp only [pS]
               refine wpAnyH_done (by kernel_rfl) ?_ _
               try simp only [pS]
               clear hH
               go_upto_region 10 with fail
               refine WL.start ?_
               refine tK (.bool false) ?_
               try simp only [pS]
               refine WL.nil ?_
               try simp only [pS]
               go_wp2
               rw [HC.out]
               exact ⟨false, rfl, ⟨fun e => (by cases e), HF.out.kept⟩⟩
             ·skip
              refine aT (i := 34) (oi := oqBe34) (v := .bool true) (fun w' hw => eB .leq 3 _ _ _ rfl (.int .i64 x.n) (.int .i64 y.n) _ (by rw [b_leq, q7]; try rfl)) hH ?_
              try simp only [pS]
              refine aT (i := 35) (oi := oqBe35) (v := .bool true) (fun _ _ => by kernel_rfl) hH ?_
              try simp only [pS]
              refine aT (i := 36) (oi := oqBe36) (v := .bool true) (fun _ _ => by kernel_rfl) hH ?_
              try simp only [pS]
              refine aT (i := 37) (oi := oqBe37) (v := .bool true) (fun _ _ => by kernel_rfl) hH ?_
              try simp only [pS]
              refine aS (i := 38) (oi := oqBe38) hH ?_
              try simp only [pS]
              refine aS (i := 39) (oi := oqBe39) hH ?_
              try simp only [pS]
              refine aS (i := 40) (oi := oqBe40) hH ?_
              try simp only [pS]
              refine aT (i := 41) (oi := oqBe41) (v := .bool true) (fun _ _ => by kernel_rfl) hH ?_
              try simp only [pS]
              refine wpAnyH_done (by kernel_rfl) ?_ _
              try simp only [pS]
              clear hH
              go_upto_region 10 with fail
              refine WL.start ?_
              refine tK (.bool false) ?_
              try simp only [pS]
              refine WL.nil ?_
              try simp only [pS]
              go_wp2
              rw [HC.out]
              exact ⟨false, rfl, ⟨fun e => (by cases e), HF.out.kept⟩⟩
            ·skip
             refine aT (i := 15) (oi := oqBe15) (v := .bool true) (fun w' hw => eB .gtr 3 _ _ _ rfl (.int .i64 x.n) (.int .i64 1048576) _ (by rw [b_gtr, q6]; try rfl)) hH ?_
             try simp only [pS]
             refine aT (i := 16) (oi := oqBe16) (v := .bool true) (fun _ _ => by kernel_rfl) hH ?_
             try simp only [pS]
             refine aT (i := 17) (oi := oqBe17) (v := .bool true) (fun _ _ => by kernel_rfl) hH ?_
             try simp only [pS]
             refine aS (i := 18) (oi := oqBe18) hH ?_
             try simp only [pS]
             refine aS (i := 19) (oi := oqBe19) hH ?_
             try simp only [pS]
             refine aS (i := 20) (oi := oqBe20) hH ?_
             try simp only [pS]
             refine aS (i := 21) (oi := oqBe21) hH ?_
             try simp only [pS]
             refine aS (i := 22) (oi := oqBe22) hH ?_
             try simp only [pS]
             refine aS (i := 23) (oi := oqBe23) hH ?_
             try simp only [pS]
             refine aS (i := 24) (oi := oqBe24) hH ?_
             try simp only [pS]
             refine aS (i := 25) (oi := oqBe25) hH ?_
             try simp only [pS]
             refine aS (i := 26) (oi := oqBe26) hH ?_
             try simp only [pS]
             refine aS (i := 27) (oi := oqBe27) hH ?_
             try simp only [pS]
             refine aS (i := 28) (oi := oqBe28) hH ?_
             try simp only [pS]
             refine aS (i := 29) (oi := oqBe29) hH ?_
             try simp only [pS]
             refine aS (i := 30) (oi := oqBe30) hH ?_
             try simp only [pS]
             refine aS (i := 31) (oi := oqBe31) hH ?_
             try simp only [pS]
             refine aS (i := 32) (oi := oqBe32) hH ?_
             try simp only [pS]
             refine aS (i := 33) (oi := oqBe33) hH ?_
             try simp only [pS]
             refine aS (i := 34) (oi := oqBe34) hH ?_
             try simp only [pS]
             refine aS (i := 35) (oi := oqBe35) hH ?_
             try simp only [pS]
             refine aT (i := 36) (oi := oqBe36) (v := .bool true) (fun _ _ => by kernel_rfl) hH ?_
             try simp only [pS]
             refine aT (i := 37) (oi := oqBe37) (v := .bool true) (fun _ _ => by kernel_rfl) hH ?_
             try simp only [pS]
             refine aS (i := 38) (oi := oqBe38) hH ?_
             try simp only [pS]
             refine aS (i := 39) (oi := oqBe39) hH ?_
             try simp only [pS]
             refine aS (i := 40) (oi := oqBe40) hH ?_
             try simp only [pS]
             refine aT (i := 41) (oi := oqBe41) (v := .bool true) (fun _ _ => by kernel_rfl) hH ?_
             try simp only [pS]
             refine wpAnyH_done (by kernel_rfl) ?_ _
             try simp only [pS]
             clear hH
             go_upto_region 10 with fail
             refine WL.start ?_
             refine tK (.bool false) ?_
             try simp only [pS]
             refine WL.nil ?_
             try simp only [pS]
             go_wp2
             rw [HC.out]
             exact ⟨false, rfl, ⟨fun e => (by cases e), HF.out.kept⟩⟩
           ·skip
            refine aT (i := 7) (oi := oqBe7) (v := .bool true) (fun w' hw => eB .leq 3 _ _ _ rfl (.int .i64 x.n) (.int .i64 h.k.up) _ (by rw [b_leq, q5]; try rfl)) hH ?_
            try simp only [pS]
            refine aT (i := 8) (oi := oqBe8) (v := .bool true) (fun _ _ => by kernel_rfl) hH ?_
            try simp only [pS]
            refine aS (i := 9) (oi := oqBe9) hH ?_
            try simp only [pS]
            refine aS (i := 10) (oi := oqBe10) hH ?_
            try simp only [pS]
            refine aS (i := 11) (oi := oqBe11) hH ?_
            try simp only [pS]
            refine aS (i := 12) (oi := oqBe12) hH ?_
            try simp only [pS]
            refine aS (i := 13) (oi := oqBe13) hH ?_
            try simp only [pS]
            refine aS (i := 14) (oi := oqBe14) hH ?_
            try simp only [pS]
            refine aS (i := 15) (oi := oqBe15) hH ?_
            try simp only [pS]
            refine aT (i := 16) (oi := oqBe16) (v := .bool true) (fun _ _ => by kernel_rfl) hH ?_
            try simp only [pS]
            refine aT (i := 17) (oi := oqBe17) (v := .bool true) (fun _ _ => by kernel_rfl) hH ?_
            try simp only [pS]
            refine aS (i := 18) (oi := oqBe18) hH ?_
            try simp only [pS]
            refine aS (i := 19) (oi := oqBe19) hH ?_
            try simp only [pS]
            refine aS (i := 20) (oi := oqBe20) hH ?_
            try simp only [pS]
            refine aS (i := 21) (oi := oqBe21) hH ?_
            try simp only [pS]
            refine aS (i := 22) (oi := oqBe22) hH ?_
            try simp only [pS]
            refine aS (i := 23) (oi := oqBe23) hH ?_
            try simp only [pS]
            refine aS (i := 24) (oi := oqBe24) hH ?_
            try simp only [pS]
            refine aS (i := 25) (oi := oqBe25) hH ?_
            try simp only [pS]
            refine aS (i := 26) (oi := oqBe26) hH ?_
            try simp only [pS]
            refine aS (i := 27) (oi := oqBe27) hH ?_
            try simp only [pS]
            refine aS (i := 28) (oi := oqBe28) hH ?_
            try simp only [pS]
            refine aS (i := 29) (oi := oqBe29) hH ?_
            try simp only [pS]
            refine aS (i := 30) (oi := oqBe30) hH ?_
            try simp only [pS]
            refine aS (i := 31) (oi := oqBe31) hH ?_
            try simp only [pS]
            refine aS (i := 32) (oi := oqBe32) hH ?_
            try simp only [pS]
            refine aS (i := 33) (oi := oqBe33) hH ?_
            try simp only [pS]
            refine aS (i := 34) (oi := oqBe34) hH ?_
            try simp only [pS]
            refine aS (i := 35) (oi := oqBe35) hH ?_
            try simp only [pS]
            refine aT (i := 36) (oi := oqBe36) (v := .bool true) (fun _ _ => by kernel_rfl) hH ?_
            try simp only [pS]
            refine aT (i := 37) (oi := oqBe37) (v := .bool true) (fun _ _ => by kernel_rfl) hH ?_
            try simp only [pS]
            refine aS (i := 38) (oi := oqBe38) hH ?_
            try simp only [pS]
            refine aS (i := 39) (oi := oqBe39) hH ?_
            try simp only [pS]
            refine aS (i := 40) (oi := oqBe40) hH ?_
            try simp only [pS]
            refine aT (i := 41) (oi := oqBe41) (v := .bool true) (fun _ _ => by kernel_rfl) hH ?_
            try simp only [pS]
            refine wpAnyH_done (by kernel_rfl) ?_ _
            try simp only [pS]
            clear hH
            go_upto_region 10 with fail
            refine WL.start ?_
            refine tK (.bool false) ?_
            try simp only [pS]
            refine WL.nil ?_
            try simp only [pS]
            go_wp2
            rw [HC.out]
            exact ⟨false, rfl, ⟨fun e => (by cases e), HF.out.kept⟩⟩
         · skip
           go_upto_region 6 with fail
           refine WL.start ?_
           refine tK (.int .i64 ((i : Nat) : Int)) ?_
           refine tK (.pointer (some ⟨gk1, 6, none⟩)) ?_
           refine tW (h.r.v) (eL 31 _ rfl ⟨gk1, 6, none⟩ (load_one ((HF.out.box 0 _ _ _ rfl).cell 6 |>.trans (by kernel_rfl)) Try.und33 rfl)) ?_
           refine tK (.int .i64 ((h.r.l : Nat) : Int)) ?_
           refine tW (.bool true) (eB .lss 3 _ _ _ rfl (.int .i64 ((i : Nat) : Int)) (.int .i64 ((h.r.l : Nat) : Int)) _ (by rw [b_lss, decide_eq_true (by omega)])) ?_
           try simp only [pS]
           refine WL.nil ?_
           try simp only [pS]
           go_upto_region 8 with fail
           refine WL.start ?_
           refine tK (.pointer (some ⟨gk1, 6, none⟩)) ?_
           refine tW (h.r.v) (eL 31 _ rfl ⟨gk1, 6, none⟩ (load_one ((HF.out.box 0 _ _ _ rfl).cell 6 |>.trans (by kernel_rfl)) Try.und33 rfl)) ?_
           refine tK (.int .i64 ((i : Nat) : Int)) ?_
           refine tW (.pointer (some ⟨pb, po + i * 15, none⟩)) (exec_ixA 31 15 Try.und33e Try.size33e _ _ rfl pb po h.r.l h.r.k i (Eq.trans (b := h.r.v) (by kernel_rfl) hsl) (by kernel_rfl) hlt) ?_
           refine tK (.pointer (some ⟨pb, po + i * 15 + 1, none⟩)) ?_
           refine tW (.agg (In.cells x.i)) (eL 65 _ rfl ⟨pb, po + i * 15 + 1, none⟩ (load_cells (it := In.cs x.i) (fun j v hv => HF.out.kept.cell (ci.out j v hv) (fun e => e)) Try.und70 rfl Try.size70)) ?_
           try simp only [pS]
           refine wp_runW (.pointer (some ⟨wr.heap.size, 0, none⟩)) (wr.alloc (.cells (In.cells inZ) 65)) (exec_alloc 65 rfl (In.cells inZ) zero70) (by kernel_rfl) ?_
           try simp only [pS]
           have HF : Hid (Fr No w _ [(gk1, 33, Hd.cells h), (gk3, 23, Sp.cells spZ), (wr.heap.size, 65, In.cells inZ)]) := HF.out.alloc _ _
           generalize wr.alloc (.cells (In.cells inZ) 65) = wk11 at HF ⊢
           generalize wr.heap.size = gk10 at HF ⊢
           refine wp_storeW 65 _ _ rfl ⟨gk10, 0, none⟩ (.agg (In.cells x.i)) (by kernel_rfl) (by kernel_rfl) (wk11.setRow gk10 (In.cells x.i)) (run_store_to (cur := In.cs inZ) (vs := In.cs x.i) (new := In.cs x.i) (HF.out.box 2 _ _ _ rfl) (by kernel_rfl) Try.size70 (Nat.le_of_ble_eq_true (by kernel_rfl)) (In.oneL _) (by kernel_rfl)) (by kernel_rfl) ?_
           try simp only [pS]
           have HF : Hid (Fr No w _ [(gk1, 33, Hd.cells h), (gk3, 23, Sp.cells spZ), (gk10, 65, In.cells x.i)]) := HF.out.set 2 rfl _
           generalize wk11.setRow gk10 (In.cells x.i) = wk12 at HF ⊢
           refine WL.nil ?_
           try simp only [pS]
           go_upto_region 9 with fail
           refine wp_region_held_drew (S := fun w' => Fr No w w' [(gk1, 33, Hd.cells h), (gk3, 23, Sp.cells spZ), (gk10, 65, In.cells x.i)]) rfl (HF.out.drew) (fun hH => ?_)
           have HF : Hid (Fr No w (wk12.drew) [(gk1, 33, Hd.cells h), (gk3, 23, Sp.cells spZ), (gk10, 65, In.cells x.i)]) := HF.out.drew
           generalize wk12.drew = wk13 at HF hH ⊢
           refine aT (i := 0) (oi := oqBe0) (v := .pointer (some ⟨gk1, 6, none⟩)) (fun _ _ => by kernel_rfl) hH ?_
           try simp only [pS]
           refine aT (i := 1) (oi := oqBe1) (v := h.r.v) (fun w' hw => eL 31 _ rfl ⟨gk1, 6, none⟩ (load_one ((hw.box 0 _ _ _ rfl).cell 6 |>.trans (by kernel_rfl)) Try.und33 rfl)) hH ?_
           try simp only [pS]
           refine aT (i := 2) (oi := oqBe2) (v := .int .i64 ((i : Nat) : Int)) (fun _ _ => by kernel_rfl) hH ?_
           try simp only [pS]
           refine aT (i := 3) (oi := oqBe3) (v := .pointer (some ⟨pb, po + i * 15, none⟩)) (fun w' hw => exec_ixA 31 15 Try.und33e Try.size33e _ _ rfl pb po h.r.l h.r.k i (Eq.trans (b := h.r.v) (by kernel_rfl) hsl) (by kernel_rfl) hlt) hH ?_
           try simp only [pS]
           refine aT (i := 4) (oi := oqBe4) (v := .pointer (some ⟨pb, po + i * 15, none⟩)) (fun _ _ => by kernel_rfl) hH ?_
           try simp only [pS]
           refine aT (i := 5) (oi := oqBe5) (v := .int .i64 x.n) (fun w' hw => eL 3 _ rfl ⟨pb, po + i * 15, none⟩ (load_one (hw.kept.cell (c0.out) (fun e => e)) Try.und3 rfl)) hH ?_
           try simp only [pS]
           refine aT (i := 6) (oi := oqBe6) (v := .int .i64 h.k.up) (fun _ _ => by kernel_rfl) hH ?_
           try simp only [pS]
           cases q13 : (decide (x.n ≤ h.k.up))
           ·skip
            refine aT (i := 7) (oi := oqBe7) (v := .bool false) (fun w' hw => eB .leq 3 _ _ _ rfl (.int .i64 x.n) (.int .i64 h.k.up) _ (by rw [b_leq, q13]; try rfl)) hH ?_
            try simp only [pS]
            refine aT (i := 8) (oi := oqBe8) (v := .bool false) (fun _ _ => by kernel_rfl) hH ?_
            try simp only [pS]
            refine aT (i := 9) (oi := oqBe9) (v := .pointer (some ⟨gk1, 6, none⟩)) (fun _ _ => by kernel_rfl) hH ?_
            try simp only [pS]
            refine aT (i := 10) (oi := oqBe10) (v := h.r.v) (fun w' hw => eL 31 _ rfl ⟨gk1, 6, none⟩ (load_one ((hw.box 0 _ _ _ rfl).cell 6 |>.trans (by kernel_rfl)) Try.und33 rfl)) hH ?_
            try simp only [pS]
            refine aT (i := 11) (oi := oqBe11) (v := .int .i64 ((i : Nat) : Int)) (fun _ _ => by kernel_rfl) hH ?_
            try simp only [pS]
            refine aT (i := 12) (oi := oqBe12) (v := .pointer (some ⟨pb, po + i * 15, none⟩)) (fun w' hw => exec_ixA 31 15 Try.und33e Try.size33e _ _ rfl pb po h.r.l h.r.k i (Eq.trans (b := h.r.v) (by kernel_rfl) hsl) (by kernel_rfl) hlt) hH ?_
            try simp only [pS]
            refine aT (i := 13) (oi := oqBe13) (v := .pointer (some ⟨pb, po + i * 15, none⟩)) (fun _ _ => by kernel_rfl) hH ?_
            try simp only [pS]
            refine aT (i := 14) (oi := oqBe14) (v := .int .i64 x.n) (fun w' hw => eL 3 _ rfl ⟨pb, po + i * 15, none⟩ (load_one (hw.kept.cell (c0.out) (fun e => e)) Try.und3 rfl)) hH ?_
            try simp only [pS]
            cases q14 : (decide (1048576 < x.n))
            ·skip
             refine aT (i := 15) (oi := oqBe15) (v := .bool false) (fun w' hw => eB .gtr 3 _ _ _ rfl (.int .i64 x.n) (.int .i64 1048576) _ (by rw [b_gtr, q14]; try rfl)) hH ?_
             try simp only [pS]
             refine aT (i := 16) (oi := oqBe16) (v := .bool false) (fun _ _ => by kernel_rfl) hH ?_
             try simp only [pS]
             refine aT (i := 17) (oi := oqBe17) (v := .bool false) (fun _ _ => by kernel_rfl) hH ?_
             try simp only [pS]
             refine aT (i := 18) (oi := oqBe18) (v := .int .i64 ((i : Nat) : Int)) (fun _ _ => by kernel_rfl) hH ?_
             try simp only [pS]
             refine aT (i := 19) (oi := oqBe19) (v := .bool false) (fun w' hw => eB .gtr 3 _ _ _ rfl (.int .i64 ((i : Nat) : Int)) (.int .i64 0) _ (by rw [b_gtr, decide_eq_false (by omega)])) hH ?_
             try simp only [pS]
             refine aT (i := 20) (oi := oqBe20) (v := .bool false) (fun _ _ => by kernel_rfl) hH ?_
             try simp only [pS]
             refine aS (i := 21) (oi := oqBe21) hH ?_
             try simp only [pS]
             refine aS (i := 22) (oi := oqBe22) hH ?_
             try simp only [pS]
             refine aS (i := 23) (oi := oqBe23) hH ?_
             try simp only [pS]
             refine aS (i := 24) (oi := oqBe24) hH ?_
             try simp only [pS]
             refine aS (i := 25) (oi := oqBe25) hH ?_
             try simp only [pS]
             refine aS (i := 26) (oi := oqBe26) hH ?_
             try simp only [pS]
             refine aS (i := 27) (oi := oqBe27) hH ?_
             try simp only [pS]
             refine aS (i := 28) (oi := oqBe28) hH ?_
             try simp only [pS]
             refine aS (i := 29) (oi := oqBe29) hH ?_
             try simp only [pS]
             refine aS (i := 30) (oi := oqBe30) hH ?_
             try simp only [pS]
             refine aS (i := 31) (oi := oqBe31) hH ?_
             try simp only [pS]
             refine aS (i := 32) (oi := oqBe32) hH ?_
             try simp only [pS]
             refine aS (i := 33) (oi := oqBe33) hH ?_
             try simp only [pS]
             refine aS (i := 34) (oi := oqBe34) hH ?_
             try simp only [pS]
             refine aT (i := 35) (oi := oqBe35) (v := .bool false) (fun _ _ => by kernel_rfl) hH ?_
             try simp only [pS]
             refine aT (i := 36) (oi := oqBe36) (v := .bool false) (fun _ _ => by kernel_rfl) hH ?_
             try simp only [pS]
             refine aT (i := 37) (oi := oqBe37) (v := .bool false) (fun _ _ => by kernel_rfl) hH ?_
             try simp only [pS]
             refine aT (i := 38) (oi := oqBe38) (v := .agg (In.cells x.i)) (fun w' hw => eL 65 _ rfl ⟨gk10, 0, none⟩ (run_load_part (cs := In.cs x.i) (sub := In.cs x.i) (hw.box 2 _ _ _ rfl) (Part.all _) Try.und70 rfl Try.size70)) hH ?_
             try simp only [pS]
             refine aT (i := 39) (oi := oqBe39) (v := .agg (In.cells inZ)) (fun w' hw => exec_build 65 _ rfl (In.cells inZ) (by kernel_rfl)) hH ?_
             try simp only [pS]
             cases q15 : (eqI x.i inZ)
             ·skip
              refine aT (i := 40) (oi := oqBe40) (v := .bool false) (fun w' hw => eB .eql 65 _ _ _ rfl (.agg (In.cells x.i)) (.agg (In.cells inZ)) _ (by rw [eqI_eql, q15]; try rfl)) hH ?_
              try simp only [pS]
              refine aT (i := 41) (oi := oqBe41) (v := .bool false) (fun _ _ => by kernel_rfl) hH ?_
              try simp only [pS]
              refine wpAnyH_done (by kernel_rfl) ?_ _
              try simp only [pS]
              clear hH
              go_upto_region 11 with fail
              refine WL.start ?_
              refine tK (.pointer (some ⟨gk10, 13, none⟩)) ?_
              refine tW (.bool x.i.d) (eL 4 _ rfl ⟨gk10, 13, none⟩ (load_one ((HF.out.box 2 _ _ _ rfl).cell 13 |>.trans (by kernel_rfl)) Try.und4 rfl)) ?_
              refine tK (.bool x.i.d) ?_
              try simp only [pS]
              cases q16 : (x.i.d)
              ·skip
               try simp only [q16]
               refine sK ?_
               refine sK ?_
               refine sK ?_
               refine sK ?_
               refine sK ?_
               refine sK ?_
               refine sK ?_
               refine sK ?_
               refine sK ?_
               refine sK ?_
               refine sK ?_
               refine sK ?_
               refine sK ?_
               refine sK ?_
               refine sK ?_
               refine sK ?_
               refine tK (.bool false) ?_
               try simp only [pS]
               refine WL.nil ?_
               try simp only [pS]
               have HM2 : Hid (MayR h.k.up ps (i + 1)) := show MayR h.k.up ps (i + 1) from fun j hj => by
                 by_cases e : j = i
                 · subst e
                   refine ⟨by rw [← HX.out]; have a1 := of_decide_eq_false q13; have a2 := of_decide_eq_false q14; omega, fun e => absurd e h0, by rw [← HX.out]; exact fun e => by rw [q16] at e; cases e⟩
                 · exact HM.out j (by omega)
               go_upto_region 7 with fail
               refine WL.start ?_
               refine tK (.int .i64 ((i : Nat) : Int)) ?_
               refine tW (.int .i64 (((i + 1) : Nat) : Int)) (eB .add 3 _ _ _ rfl (.int .i64 ((i : Nat) : Int)) (.int .i64 1) _ (b_addw _ _ _ (by rw [IntKind.wrap_i64]; omega) _)) ?_
               refine tK (.int .i64 (((i + 1) : Nat) : Int)) ?_
               try simp only [pS]
               refine WL.nil ?_
               try simp only [pS]
               have HF : Hid (Fr No w wk13 [(gk1, 33, Hd.cells h), (gk3, 23, Sp.cells spZ)]) := Fr.front (l := [(gk1, 33, Hd.cells h), (gk3, 23, Sp.cells spZ)]) (m := [_]) HF.out
               go_wp2
               go_roundw
               case rel => exact ⟨i + 1, by go_num, by omega, HM2, HF⟩
               case measure => simp [intOf]; omega
              ·skip
               try simp only [q16]
               refine tK (.pointer (some ⟨gk10, 0, none⟩)) ?_
               refine tW (.agg (Sp.cells x.i.p)) (eL 23 _ rfl ⟨gk10, 0, none⟩ (run_load_part (cs := In.cs x.i) (sub := Sp.cs x.i.p) (HF.out.box 2 _ _ _ rfl) (part_of (by kernel_rfl)) Try.und25 rfl Try.size25)) ?_
               refine tW (.agg (Sp.cells spZ)) (eL 23 _ rfl ⟨gk3, 0, none⟩ (run_load_part (cs := Sp.cs spZ) (sub := Sp.cs spZ) (HF.out.box 1 _ _ _ rfl) (Part.all _) Try.und25 rfl Try.size25)) ?_
               try simp only [pS]
               cases q17 : (eqS x.i.p spZ)
               ·skip
                refine tW (.bool true) (eB .neq 23 _ _ _ rfl (.agg (Sp.cells x.i.p)) (.agg (Sp.cells spZ)) _ (by rw [eqS_neq, q17]; try rfl)) ?_
                refine tK (.bool true) ?_
                refine sK ?_
                refine sK ?_
                refine sK ?_
                refine sK ?_
                refine tK (.bool true) ?_
                refine tK (.bool true) ?_
                refine sK ?_
                refine sK ?_
                refine sK ?_
                refine sK ?_
                refine tK (.bool true) ?_
                refine tK (.bool true) ?_
                try simp only [pS]
                refine WL.nil ?_
                try simp only [pS]
                go_upto_region 12 with fail
                refine WL.start ?_
                refine tK (.bool false) ?_
                try simp only [pS]
                refine WL.nil ?_
                try simp only [pS]
                go_wp2
                rw [HC.out]
                exact ⟨false, rfl, ⟨fun e => (by cases e), HF.out.kept⟩⟩
               ·skip
                refine tW (.bool false) (eB .neq 23 _ _ _ rfl (.agg (Sp.cells x.i.p)) (.agg (Sp.cells spZ)) _ (by rw [eqS_neq, q17]; try rfl)) ?_
                refine tK (.bool false) ?_
                refine tK (.pointer (some ⟨gk10, 2, none⟩)) ?_
                refine tW (.agg (Sp.cells x.i.a)) (eL 23 _ rfl ⟨gk10, 2, none⟩ (run_load_part (cs := In.cs x.i) (sub := Sp.cs x.i.a) (HF.out.box 2 _ _ _ rfl) (part_of (by kernel_rfl)) Try.und25 rfl Try.size25)) ?_
                refine tW (.agg (Sp.cells spZ)) (eL 23 _ rfl ⟨gk3, 0, none⟩ (run_load_part (cs := Sp.cs spZ) (sub := Sp.cs spZ) (HF.out.box 1 _ _ _ rfl) (Part.all _) Try.und25 rfl Try.size25)) ?_
                try simp only [pS]
                cases q18 : (eqS x.i.a spZ)
                ·skip
                 refine tW (.bool true) (eB .neq 23 _ _ _ rfl (.agg (Sp.cells x.i.a)) (.agg (Sp.cells spZ)) _ (by rw [eqS_neq, q18]; try rfl)) ?_
                 refine tK (.bool true) ?_
                 refine tK (.bool true) ?_
                 refine sK ?_
                 refine sK ?_
                 refine sK ?_
                 refine sK ?_
                 refine tK (.bool true) ?_
                 refine tK (.bool true) ?_
                 try simp only [pS]
                 refine WL.nil ?_
                 try simp only [pS]
                 go_upto_region 12 with fail
                 refine WL.start ?_
                 refine tK (.bool false) ?_
                 try simp only [pS]
                 refine WL.nil ?_
                 try simp only [pS]
                 go_wp2
                 rw [HC.out]
                 exact ⟨false, rfl, ⟨fun e => (by cases e), HF.out.kept⟩⟩
                ·skip
                 refine tW (.bool false) (eB .neq 23 _ _ _ rfl (.agg (Sp.cells x.i.a)) (.agg (Sp.cells spZ)) _ (by rw [eqS_neq, q18]; try rfl)) ?_
                 refine tK (.bool false) ?_
                 refine tK (.bool false) ?_
                 refine tK (.pointer (some ⟨gk10, 4, none⟩)) ?_
                 refine tK (.pointer (some ⟨gk10, 4, none⟩)) ?_
                 refine tW (.int .i64 x.i.c.k) (eL 3 _ rfl ⟨gk10, 4, none⟩ (load_one ((HF.out.box 2 _ _ _ rfl).cell 4 |>.trans (by kernel_rfl)) Try.und3 rfl)) ?_
                 try simp only [pS]
                 cases q19 : (decide (x.i.c.k < 1))
                 ·skip
                  refine tW (.bool false) (eB .lss 3 _ _ _ rfl (.int .i64 x.i.c.k) (.int .i64 1) _ (by rw [b_lss, q19]; try rfl)) ?_
                  refine tK (.bool false) ?_
                  refine tK (.bool false) ?_
                  try simp only [pS]
                  refine WL.nil ?_
                  try simp only [pS]
                  have HM2 : Hid (MayR h.k.up ps (i + 1)) := show MayR h.k.up ps (i + 1) from fun j hj => by
                    by_cases e : j = i
                    · subst e
                      refine ⟨by rw [← HX.out]; have a1 := of_decide_eq_false q13; have a2 := of_decide_eq_false q14; omega, fun e => absurd e h0, by rw [← HX.out]; exact fun _ => ⟨eqS_iff.1 q17, eqS_iff.1 q18, by have a1 := of_decide_eq_false q19; omega⟩⟩
                    · exact HM.out j (by omega)
                  go_upto_region 7 with fail
                  refine WL.start ?_
                  refine tK (.int .i64 ((i : Nat) : Int)) ?_
                  refine tW (.int .i64 (((i + 1) : Nat) : Int)) (eB .add 3 _ _ _ rfl (.int .i64 ((i : Nat) : Int)) (.int .i64 1) _ (b_addw _ _ _ (by rw [IntKind.wrap_i64]; omega) _)) ?_
                  refine tK (.int .i64 (((i + 1) : Nat) : Int)) ?_
                  try simp only [pS]
                  refine WL.nil ?_
                  try simp only [pS]
                  have HF : Hid (Fr No w wk13 [(gk1, 33, Hd.cells h), (gk3, 23, Sp.cells spZ)]) := Fr.front (l := [(gk1, 33, Hd.cells h), (gk3, 23, Sp.cells spZ)]) (m := [_]) HF.out
                  go_wp2
                  go_roundw
                  case rel => exact ⟨i + 1, by go_num, by omega, HM2, HF⟩
                  case measure => simp [intOf]; omega
                 ·skip
                  refine tW (.bool true) (eB .lss 3 _ _ _ rfl (.int .i64 x.i.c.k) (.int .i64 1) _ (by rw [b_lss, q19]; try rfl)) ?_
                  refine tK (.bool true) ?_
                  refine tK (.bool true) ?_
                  try simp only [pS]
                  refine WL.nil ?_
                  try simp only [pS]
                  go_upto_region 12 with fail
                  refine WL.start ?_
                  refine tK (.bool false) ?_
                  try simp only [pS]
                  refine WL.nil ?_
                  try simp only [pS]
                  go_wp2
                  rw [HC.out]
                  exact ⟨false, rfl, ⟨fun e => (by cases e), HF.out.kept⟩⟩
             ·skip
              refine aT (i := 40) (oi := oqBe40) (v := .bool true) (fun w' hw => eB .eql 65 _ _ _ rfl (.agg (In.cells x.i)) (.agg (In.cells inZ)) _ (by rw [eqI_eql, q15]; try rfl)) hH ?_
              try simp only [pS]
              refine aT (i := 41) (oi := oqBe41) (v := .bool true) (fun _ _ => by kernel_rfl) hH ?_
              try simp only [pS]
              refine wpAnyH_done (by kernel_rfl) ?_ _
              try simp only [pS]
              clear hH
              go_upto_region 10 with fail
              refine WL.start ?_
              refine tK (.bool false) ?_
              try simp only [pS]
              refine WL.nil ?_
              try simp only [pS]
              go_wp2
              rw [HC.out]
              exact ⟨false, rfl, ⟨fun e => (by cases e), HF.out.kept⟩⟩
            ·skip
             refine aT (i := 15) (oi := oqBe15) (v := .bool true) (fun w' hw => eB .gtr 3 _ _ _ rfl (.int .i64 x.n) (.int .i64 1048576) _ (by rw [b_gtr, q14]; try rfl)) hH ?_
             try simp only [pS]
             refine aT (i := 16) (oi := oqBe16) (v := .bool true) (fun _ _ => by kernel_rfl) hH ?_
             try simp only [pS]
             refine aT (i := 17) (oi := oqBe17) (v := .bool true) (fun _ _ => by kernel_rfl) hH ?_
             try simp only [pS]
             refine aS (i := 18) (oi := oqBe18) hH ?_
             try simp only [pS]
             refine aS (i := 19) (oi := oqBe19) hH ?_
             try simp only [pS]
             refine aS (i := 20) (oi := oqBe20) hH ?_
             try simp only [pS]
             refine aS (i := 21) (oi := oqBe21) hH ?_
             try simp only [pS]
             refine aS (i := 22) (oi := oqBe22) hH ?_
             try simp only [pS]
             refine aS (i := 23) (oi := oqBe23) hH ?_
             try simp only [pS]
             refine aS (i := 24) (oi := oqBe24) hH ?_
             try simp only [pS]
             refine aS (i := 25) (oi := oqBe25) hH ?_
             try simp only [pS]
             refine aS (i := 26) (oi := oqBe26) hH ?_
             try simp only [pS]
             refine aS (i := 27) (oi := oqBe27) hH ?_
             try simp only [pS]
             refine aS (i := 28) (oi := oqBe28) hH ?_
             try simp only [pS]
             refine aS (i := 29) (oi := oqBe29) hH ?_
             try simp only [pS]
             refine aS (i := 30) (oi := oqBe30) hH ?_
             try simp only [pS]
             refine aS (i := 31) (oi := oqBe31) hH ?_
             try simp only [pS]
             refine aS (i := 32) (oi := oqBe32) hH ?_
             try simp only [pS]
             refine aS (i := 33) (oi := oqBe33) hH ?_
             try simp only [pS]
             refine aS (i := 34) (oi := oqBe34) hH ?_
             try simp only [pS]
             refine aS (i := 35) (oi := oqBe35) hH ?_
             try simp only [pS]
             refine aT (i := 36) (oi := oqBe36) (v := .bool true) (fun _ _ => by kernel_rfl) hH ?_
             try simp only [pS]
             refine aT (i := 37) (oi := oqBe37) (v := .bool true) (fun _ _ => by kernel_rfl) hH ?_
             try simp only [pS]
             refine aS (i := 38) (oi := oqBe38) hH ?_
             try simp only [pS]
             refine aS (i := 39) (oi := oqBe39) hH ?_
             try simp only [pS]
             refine aS (i := 40) (oi := oqBe40) hH ?_
             try simp only [pS]
             refine aT (i := 41) (oi := oqBe41) (v := .bool true) (fun _ _ => by kernel_rfl) hH ?_
             try simp only [pS]
             refine wpAnyH_done (by kernel_rfl) ?_ _
             try simp only [pS]
             clear hH
             go_upto_region 10 with fail
             refine WL.start ?_
             refine tK (.bool false) ?_
             try simp only [pS]
             refine WL.nil ?_
             try simp only [pS]
             go_wp2
             rw [HC.out]
             exact ⟨false, rfl, ⟨fun e => (by cases e), HF.out.kept⟩⟩
           ·skip
            refine aT (i := 7) (oi := oqBe7) (v := .bool true) (fun w' hw => eB .leq 3 _ _ _ rfl (.int .i64 x.n) (.int .i64 h.k.up) _ (by rw [b_leq, q13]; try rfl)) hH ?_
            try simp only [pS]
            refine aT (i := 8) (oi := oqBe8) (v := .bool true) (fun _ _ => by kernel_rfl) hH ?_
            try simp only [pS]
            refine aS (i := 9) (oi := oqBe9) hH ?_
            try simp only [pS]
            refine aS (i := 10) (oi := oqBe10) hH ?_
            try simp only [pS]
            refine aS (i := 11) (oi := oqBe11) hH ?_
            try simp only [pS]
            refine aS (i := 12) (oi := oqBe12) hH ?_
            try simp only [pS]
            refine aS (i := 13) (oi := oqBe13) hH ?_
            try simp only [pS]
            refine aS (i := 14) (oi := oqBe14) hH ?_
            try simp only [pS]
            refine aS (i := 15) (oi := oqBe15) hH ?_
            try simp only [pS]
            refine aT (i := 16) (oi := oqBe16) (v := .bool true) (fun _ _ => by kernel_rfl) hH ?_
            try simp only [pS]
            refine aT (i := 17) (oi := oqBe17) (v := .bool true) (fun _ _ => by kernel_rfl) hH ?_
            try simp only [pS]
            refine aS (i := 18) (oi := oqBe18) hH ?_
            try simp only [pS]
            refine aS (i := 19) (oi := oqBe19) hH ?_
            try simp only [pS]
            refine aS (i := 20) (oi := oqBe20) hH ?_
            try simp only [pS]
            refine aS (i := 21) (oi := oqBe21) hH ?_
            try simp only [pS]
            refine aS (i := 22) (oi := oqBe22) hH ?_
            try simp only [pS]
            refine aS (i := 23) (oi := oqBe23) hH ?_
            try simp only [pS]
            refine aS (i := 24) (oi := oqBe24) hH ?_
            try simp only [pS]
            refine aS (i := 25) (oi := oqBe25) hH ?_
            try simp only [pS]
            refine aS (i := 26) (oi := oqBe26) hH ?_
            try simp only [pS]
            refine aS (i := 27) (oi := oqBe27) hH ?_
            try simp only [pS]
            refine aS (i := 28) (oi := oqBe28) hH ?_
            try simp only [pS]
            refine aS (i := 29) (oi := oqBe29) hH ?_
            try simp only [pS]
            refine aS (i := 30) (oi := oqBe30) hH ?_
            try simp only [pS]
            refine aS (i := 31) (oi := oqBe31) hH ?_
            try simp only [pS]
            refine aS (i := 32) (oi := oqBe32) hH ?_
            try simp only [pS]
            refine aS (i := 33) (oi := oqBe33) hH ?_
            try simp only [pS]
            refine aS (i := 34) (oi := oqBe34) hH ?_
            try simp only [pS]
            refine aS (i := 35) (oi := oqBe35) hH ?_
            try simp only [pS]
            refine aT (i := 36) (oi := oqBe36) (v := .bool true) (fun _ _ => by kernel_rfl) hH ?_
            try simp only [pS]
            refine aT (i := 37) (oi := oqBe37) (v := .bool true) (fun _ _ => by kernel_rfl) hH ?_
            try simp only [pS]
            refine aS (i := 38) (oi := oqBe38) hH ?_
            try simp only [pS]
            refine aS (i := 39) (oi := oqBe39) hH ?_
            try simp only [pS]
            refine aS (i := 40) (oi := oqBe40) hH ?_
            try simp only [pS]
            refine aT (i := 41) (oi := oqBe41) (v := .bool true) (fun _ _ => by kernel_rfl) hH ?_
            try simp only [pS]
            refine wpAnyH_done (by kernel_rfl) ?_ _
            try simp only [pS]
            clear hH
            go_upto_region 10 with fail
            refine WL.start ?_
            refine tK (.bool false) ?_
            try simp only [pS]
            refine WL.nil ?_
            try simp only [pS]
            go_wp2
            rw [HC.out]
            exact ⟨false, rfl, ⟨fun e => (by cases e), HF.out.kept⟩⟩
       · skip
         go_upto_region 6 with fail
         refine WL.start ?_
         refine tK (.int .i64 ((i : Nat) : Int)) ?_
         refine tK (.pointer (some ⟨gk1, 6, none⟩)) ?_
         refine tW (h.r.v) (eL 31 _ rfl ⟨gk1, 6, none⟩ (load_one ((HF.out.box 0 _ _ _ rfl).cell 6 |>.trans (by kernel_rfl)) Try.und33 rfl)) ?_
         refine tK (.int .i64 ((h.r.l : Nat) : Int)) ?_
         refine tW (.bool false) (eB .lss 3 _ _ _ rfl (.int .i64 ((i : Nat) : Int)) (.int .i64 ((h.r.l : Nat) : Int)) _ (by rw [b_lss, decide_eq_false (by omega)])) ?_
         try simp only [pS]
         refine WL.nil ?_
         try simp only [pS]
         go_upto_region 13 with fail
         refine WL.start ?_
         refine tK (.bool true) ?_
         try simp only [pS]
         refine WL.nil ?_
         try simp only [pS]
         go_wp2
         rw [HC.out]
         exact ⟨true, rfl, fun _ => ⟨hU, hZ, by rw [HL.out, show h.r.l = i by omega]; exact HM.out⟩, HF.out.kept⟩
   · skip
     go_upto_region 3 with fail
     refine WL.start ?_
     refine tK (.bool false) ?_
     try simp only [pS]
     refine WL.nil ?_
     try simp only [pS]
     go_wp2
     rw [HC.out]
     exact ⟨false, rfl, ⟨fun e => (by cases e), HF.out.kept⟩⟩

end Go.Proofs.Ytcgnbpaaalmkoab
