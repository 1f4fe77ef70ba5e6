import Derived.Test.YtcgnbpaaalmkoaaHa
namespace Go.Proofs.Ytcgnbpaaalmkoaa
open Go.RowKit
set_option linter.unusedVariables false
set_option linter.unusedSimpArgs false
@[reducible] def oqHb0 : Oper := { dst := some 25, op := Op.call { callee := Callee.value (Operand.func 11), args := #[Operand.tmp 24], argTypes := #[35] }, type := 40, pos := "outright.go:27", after := #[{ on := 3, ground := Ground.data }], guard := none }
@[reducible] def oqHb1 : Oper := { dst := some 26, op := Op.call { callee := Callee.value (Operand.func 12), args := #[Operand.tmp 21, Operand.tmp 22, Operand.tmp 23, Operand.tmp 25], argTypes := #[3, 3, 23, 40] }, type := 50, pos := "outright.go:27", after := #[{ on := 0, ground := Ground.data }, { on := 1, ground := Ground.data }, { on := 2, ground := Ground.data }, { on := 4, ground := Ground.data }, { on := 4, ground := Ground.chain }], guard := none }
@[reducible] def oqHb2 : Oper := { dst := some 13, op := Op.alloc 50, type := 0, pos := "outright.go:27", after := #[], guard := none }
@[reducible] def oqHb3 : Oper := { dst := none, op := Op.store 50 (Operand.tmp 13) (Operand.tmp 26), type := 0, pos := "outright.go:27", after := #[{ on := 6, ground := Ground.data }, { on := 5, ground := Ground.data }, { on := 5, ground := Ground.chain }, { on := 0, ground := Ground.phase }, { on := 1, ground := Ground.phase }, { on := 2, ground := Ground.phase }, { on := 3, ground := Ground.phase }, { on := 4, ground := Ground.phase }, { on := 5, ground := Ground.phase }, { on := 6, ground := Ground.phase }], guard := none }
@[reducible] def oqHb4 : Oper := { dst := some 34, op := Op.call { callee := Callee.value (Operand.func 11), args := #[Operand.tmp 33], argTypes := #[35] }, type := 40, pos := "outright.go:29", after := #[{ on := 1, ground := Ground.data }], guard := none }
@[reducible] def oqHb5 : Oper := { dst := some 35, op := Op.call { callee := Callee.value (Operand.func 17), args := #[Operand.tmp 32, Operand.tmp 34], argTypes := #[50, 40] }, type := 50, pos := "outright.go:29", after := #[{ on := 0, ground := Ground.data }, { on := 2, ground := Ground.data }, { on := 2, ground := Ground.chain }], guard := none }
@[reducible] def oqHb6 : Oper := { dst := some 37, op := Op.call { callee := Callee.value (Operand.func 11), args := #[Operand.tmp 36], argTypes := #[35] }, type := 40, pos := "outright.go:29", after := #[{ on := 4, ground := Ground.data }, { on := 3, ground := Ground.chain }], guard := none }
@[reducible] def oqHb7 : Oper := { dst := some 38, op := Op.call { callee := Callee.value (Operand.func 21), args := #[Operand.tmp 35, Operand.tmp 37], argTypes := #[50, 40] }, type := 62, pos := "outright.go:29", after := #[{ on := 3, ground := Ground.data }, { on := 5, ground := Ground.data }, { on := 5, ground := Ground.chain }], guard := none }
@[reducible] def oqHb8 : Oper := { dst := some 31, op := Op.move (Operand.tmp 38), type := 62, pos := "outright.go:29", after := #[{ on := 6, ground := Ground.data }], guard := none }
@[reducible] def oqHb9 : Oper := { dst := some 39, op := Op.extract (Operand.tmp 31) 0, type := 61, pos := "outright.go:29", after := #[{ on := 7, ground := Ground.data }], guard := none }
@[reducible] def oqHb10 : Oper := { dst := some 40, op := Op.extract (Operand.tmp 31) 1, type := 50, pos := "outright.go:29", after := #[{ on := 7, ground := Ground.data }, { on := 12, ground := Ground.gcOnly Departure.lateStores }], guard := none }
@[reducible] def oqHb11 : Oper := { dst := some 41, op := Op.extract (Operand.tmp 31) 2, type := 4, pos := "outright.go:29", after := #[{ on := 7, ground := Ground.data }, { on := 13, ground := Ground.gcOnly Departure.lateStores }], guard := none }
@[reducible] def oqHb12 : Oper := { dst := some 16, op := Op.alloc 50, type := 0, pos := "outright.go:29", after := #[], guard := none }
@[reducible] def oqHb13 : Oper := { dst := some 15, op := Op.assign (Operand.tmp 39), type := 61, pos := "outright.go:29", after := #[{ on := 8, ground := Ground.data }, { on := 6, ground := Ground.chain }, { on := 0, ground := Ground.phase }, { on := 1, ground := Ground.phase }, { on := 2, ground := Ground.phase }, { on := 3, ground := Ground.phase }, { on := 4, ground := Ground.phase }, { on := 5, ground := Ground.phase }, { on := 6, ground := Ground.phase }, { on := 7, ground := Ground.phase }, { on := 8, ground := Ground.phase }, { on := 9, ground := Ground.textOnly Departure.lateStores }, { on := 10, ground := Ground.textOnly Departure.lateStores }, { on := 11, ground := Ground.phase }], guard := none }
@[reducible] def oqHb14 : Oper := { dst := none, op := Op.store 50 (Operand.tmp 16) (Operand.tmp 40), type := 0, pos := "outright.go:29", after := #[{ on := 11, ground := Ground.data }, { on := 9, ground := Ground.data }, { on := 12, ground := Ground.chain }, { on := 0, ground := Ground.phase }, { on := 1, ground := Ground.phase }, { on := 2, ground := Ground.phase }, { on := 3, ground := Ground.phase }, { on := 4, ground := Ground.phase }, { on := 5, ground := Ground.phase }, { on := 6, ground := Ground.phase }, { on := 7, ground := Ground.phase }, { on := 8, ground := Ground.phase }, { on := 9, ground := Ground.phase }, { on := 10, ground := Ground.textOnly Departure.lateStores }, { on := 11, ground := Ground.phase }, { on := 12, ground := Ground.phase }], guard := none }
@[reducible] def oqHb15 : Oper := { dst := some 17, op := Op.assign (Operand.tmp 41), type := 4, pos := "outright.go:29", after := #[{ on := 10, ground := Ground.data }, { on := 13, ground := Ground.chain }, { on := 0, ground := Ground.phase }, { on := 1, ground := Ground.phase }, { on := 2, ground := Ground.phase }, { on := 3, ground := Ground.phase }, { on := 4, ground := Ground.phase }, { on := 5, ground := Ground.phase }, { on := 6, ground := Ground.phase }, { on := 7, ground := Ground.phase }, { on := 8, ground := Ground.phase }, { on := 9, ground := Ground.phase }, { on := 10, ground := Ground.phase }, { on := 11, ground := Ground.phase }, { on := 12, ground := Ground.phase }, { on := 13, ground := Ground.phase }], guard := none }
@[reducible] def oqHb16 : Oper := { dst := some 57, op := Op.binOp BinOp.eql 3 (Operand.tmp 56) (Operand.const (Value.int IntKind.i64 3)) 3, type := 4, pos := "outright.go:33", after := #[{ on := 2, ground := Ground.data }], guard := none }
@[reducible] def oqHb17 : Oper := { dst := some 58, op := Op.move (Operand.tmp 57), type := 4, pos := "outright.go:33", after := #[{ on := 3, ground := Ground.data }], guard := none }
@[reducible] def oqHb18 : Oper := { dst := some 59, op := Op.load 35 (Operand.tmp 8), type := 35, pos := "outright.go:33", after := #[{ on := 4, ground := Ground.guard }], guard := some (4, true) }
@[reducible] def oqHb19 : Oper := { dst := some 60, op := Op.fieldAddr 72 (Operand.tmp 20) 0, type := 0, pos := "outright.go:33", after := #[{ on := 4, ground := Ground.guard }], guard := some (4, true) }
@[reducible] def oqHb20 : Oper := { dst := some 61, op := Op.fieldAddr 23 (Operand.tmp 60) 2, type := 0, pos := "outright.go:33", after := #[{ on := 6, ground := Ground.data }, { on := 4, ground := Ground.guard }], guard := some (4, true) }
@[reducible] def oqHb21 : Oper := { dst := some 62, op := Op.load 3 (Operand.tmp 61), type := 3, pos := "outright.go:33", after := #[{ on := 7, ground := Ground.data }, { on := 4, ground := Ground.guard }], guard := some (4, true) }
@[reducible] def oqHb22 : Oper := { dst := some 63, op := Op.call { callee := Callee.value (Operand.func 46), args := #[Operand.tmp 59, Operand.tmp 62], argTypes := #[35, 3] }, type := 70, pos := "outright.go:33", after := #[{ on := 5, ground := Ground.data }, { on := 8, ground := Ground.data }, { on := 4, ground := Ground.chain }, { on := 4, ground := Ground.guard }], guard := some (4, true) }
@[reducible] def oqHb23 : Oper := { dst := some 64, op := Op.field 70 (Operand.tmp 63) 3, type := 4, pos := "outright.go:33", after := #[{ on := 9, ground := Ground.data }, { on := 4, ground := Ground.guard }], guard := some (4, true) }
@[reducible] def oqHb24 : Oper := { dst := some 65, op := Op.pick (Operand.tmp 58) (Operand.tmp 64) (Operand.const (Value.bool false)), type := 4, pos := "outright.go:33", after := #[{ on := 4, ground := Ground.data }, { on := 10, ground := Ground.data }], guard := none }
@[reducible] def oqHb25 : Oper := { dst := some 66, op := Op.move (Operand.tmp 65), type := 4, pos := "outright.go:33", after := #[{ on := 11, ground := Ground.data }, { on := 9, ground := Ground.chain }], guard := none }
@[reducible] def oqHb26 : Oper := { dst := some 67, op := Op.load 35 (Operand.tmp 8), type := 35, pos := "outright.go:33", after := #[{ on := 12, ground := Ground.guard }], guard := some (12, true) }
@[reducible] def oqHb27 : Oper := { dst := some 68, op := Op.fieldAddr 72 (Operand.tmp 20) 0, type := 0, pos := "outright.go:33", after := #[{ on := 12, ground := Ground.guard }], guard := some (12, true) }
@[reducible] def oqHb28 : Oper := { dst := some 69, op := Op.fieldAddr 23 (Operand.tmp 68) 2, type := 0, pos := "outright.go:33", after := #[{ on := 14, ground := Ground.data }, { on := 12, ground := Ground.guard }], guard := some (12, true) }
@[reducible] def oqHb29 : Oper := { dst := some 70, op := Op.load 3 (Operand.tmp 69), type := 3, pos := "outright.go:33", after := #[{ on := 15, ground := Ground.data }, { on := 12, ground := Ground.guard }], guard := some (12, true) }
@[reducible] def oqHb30 : Oper := { dst := some 72, op := Op.fieldAddr 72 (Operand.tmp 20) 2, type := 0, pos := "outright.go:33", after := #[{ on := 12, ground := Ground.guard }], guard := some (12, true) }
@[reducible] def oqHb31 : Oper := { dst := some 73, op := Op.load 70 (Operand.tmp 72), type := 70, pos := "outright.go:33", after := #[{ on := 18, ground := Ground.data }, { on := 12, ground := Ground.guard }], guard := some (12, true) }
@[reducible] def oqHb32 : Oper := { dst := some 71, op := Op.call { callee := Callee.value (Operand.func 46), args := #[Operand.tmp 67, Operand.tmp 70], argTypes := #[35, 3] }, type := 70, pos := "outright.go:33", after := #[{ on := 13, ground := Ground.data }, { on := 16, ground := Ground.data }, { on := 12, ground := Ground.chain }, { on := 12, ground := Ground.guard }], guard := some (12, true) }
@[reducible] def oqHb33 : Oper := { dst := some 74, op := Op.binOp BinOp.neq 70 (Operand.tmp 71) (Operand.tmp 73) 70, type := 4, pos := "outright.go:33", after := #[{ on := 17, ground := Ground.data }, { on := 19, ground := Ground.data }, { on := 12, ground := Ground.guard }], guard := some (12, true) }
@[reducible] def oqHb34 : Oper := { dst := some 75, op := Op.pick (Operand.tmp 66) (Operand.tmp 74) (Operand.const (Value.bool false)), type := 4, pos := "outright.go:33", after := #[{ on := 12, ground := Ground.data }, { on := 20, ground := Ground.data }], guard := none }

def RowP (G : Nat → Prop) (w : World) (k : Ky) (a0 b : Hd) (ap0 bp : List Pl) (e : Ending) (w' : World) : Prop := ∃ (a : Hd) (ab : List Int) (ae : List En) (al : List La) (ap : List Pl) (t : Nat), e = .returned (.tuple #[.agg (Hd.cells a), .int .i64 ((t : Nat) : Int), .bool true]) ∧ HdAt w' a ab ae al ap ∧ Wl a ab ae al ap ∧ RowE k.k (edgeF a0.k.up (decd ap0)) a0 a b ap0 ap bp t ∧ HdOff G a ab ae al ap ∧ Kept No w w'
set_option maxRecDepth 100000 in
set_option maxHeartbeats 4000000 in
theorem row_off (G : Nat → Prop) (k : Ky) (fr ta : Int) (a0 b : Hd) (ab0 : List Int) (ae0 : List En) (al0 : List La) (ap0 : List Pl) (bbs : List Int) (bes : List En) (bls : List La) (bp : List Pl) (w : World) (ha : HdAt w a0 ab0 ae0 al0 ap0) (hb : HdAt w b bbs bes bls bp) (hwa : Wl a0 ab0 ae0 al0 ap0) (hwb : Wl b bbs bes bls bp) (hk12 : k.k = 1 ∨ k.k = 2) (hGw : ∀ k, G k → k < w.heap.size) (hoA : HdOff G a0 ab0 ae0 al0 ap0) : Calls Try.prog 29 #[.agg (Ky.cells k), .int .i64 fr, .int .i64 ta, .agg (Hd.cells a0), .agg (Hd.cells b)] w (RowP G w k a0 b ap0 bp) := by
  obtain ⟨C, hC⟩ : ∃ C : Ending → World → Prop, C = (RowP G w k a0 b ap0 bp) := ⟨_, rfl⟩
  have HC : Hid (C = (RowP G w k a0 b ap0 bp)) := hC
  rw [← hC]
  clear hC
  have HA0 : Hid (HdAt w a0 ab0 ae0 al0 ap0) := ha
  have HB : Hid (HdAt w b bbs bes bls bp) := hb
  have HWa : Hid (Wl a0 ab0 ae0 al0 ap0) := hwa
  have HWb : Hid (Wl b bbs bes bls bp) := hwb
  have HM0 : Hid (MayP a0 ap0) := hwa.may
  have HMb : Hid (MayP b bp) := hwb.may
  have hp0 : ap0.length ≤ 1099511627744 := by rw [ha.p.len]; exact ha.np
  have hE0 : 0 ≤ (edgeF a0.k.up (decd ap0)) := hwa.may.edge_le.1
  have hLb := hb.lens
  have HGw : Hid (∀ k, G k → k < w.heap.size) := hGw
  have HoA : Hid (HdOff G a0 ab0 ae0 al0 ap0) := hoA
  clear ha hb hwa hwb hGw hoA
  have HF : Hid (Fr No w w []) := Fr.start _ _
  go_enter Try.func29, Try.ntmps29
  go_upto_region 0 with fail
  refine WL.start ?_
  refine wp_runW (.pointer (some ⟨w.heap.size, 0, none⟩)) (w.alloc (.cells (Ky.cells k) 23)) (exec_box 23 _ rfl (Ky.cells k) (by kernel_rfl)) (by kernel_rfl) ?_
  try simp only [pS]
  have HF : Hid (Fr No w _ [(w.heap.size, 23, Ky.cells k)]) := HF.out.alloc _ _
  generalize w.alloc (.cells (Ky.cells k) 23) = wk2 at HF ⊢
  generalize w.heap.size = gk1 at HF ⊢
  refine wp_runW (.pointer (some ⟨wk2.heap.size, 0, none⟩)) (wk2.alloc (.cells (Hd.cells a0) 35)) (exec_box 35 _ rfl (Hd.cells a0) (by kernel_rfl)) (by kernel_rfl) ?_
  try simp only [pS]
  have HF : Hid (Fr No w _ [(gk1, 23, Ky.cells k), (wk2.heap.size, 35, Hd.cells a0)]) := HF.out.alloc _ _
  generalize wk2.alloc (.cells (Hd.cells a0) 35) = wk4 at HF ⊢
  generalize wk2.heap.size = gk3 at HF ⊢
  refine wp_runW (.pointer (some ⟨wk4.heap.size, 0, none⟩)) (wk4.alloc (.cells (Hd.cells b) 35)) (exec_box 35 _ rfl (Hd.cells b) (by kernel_rfl)) (by kernel_rfl) ?_
  try simp only [pS]
  have HF : Hid (Fr No w _ [(gk1, 23, Ky.cells k), (gk3, 35, Hd.cells a0), (wk4.heap.size, 35, Hd.cells b)]) := HF.out.alloc _ _
  generalize wk4.alloc (.cells (Hd.cells b) 35) = wk6 at HF ⊢
  generalize wk4.heap.size = gk5 at HF ⊢
  refine wp_runW (.pointer (some ⟨wk6.heap.size, 0, none⟩)) (wk6.alloc (.cells (Hd.cells hdZ) 35)) (exec_alloc 35 rfl (Hd.cells hdZ) zero35) (by kernel_rfl) ?_
  try simp only [pS]
  have HF : Hid (Fr No w _ [(gk1, 23, Ky.cells k), (gk3, 35, Hd.cells a0), (gk5, 35, Hd.cells b), (wk6.heap.size, 35, Hd.cells hdZ)]) := HF.out.alloc _ _
  generalize wk6.alloc (.cells (Hd.cells hdZ) 35) = wk8 at HF ⊢
  generalize wk6.heap.size = gk7 at HF ⊢
  refine tK (.int .i64 0) ?_
  refine tK (.bool false) ?_
  try simp only [pS]
  refine WL.nil ?_
  try simp only [pS]
  go_upto_region 1 with fail
  go_cut [13] from 21 (fun v13 wc => ∃ g13 : Nat, v13 = .pointer (some ⟨g13, 0, none⟩) ∧ Hid (Fr No w wc [(gk1, 23, Ky.cells k), (gk3, 35, Hd.cells a0), (gk5, 35, Hd.cells b), (gk7, 35, Hd.cells hdZ), (g13, 50, Mg.cells (askS fr ta k a0 ap0))]))
  case first =>
   rename_i J0 K0 hJ0 hK0
   refine wp_region_held_drew (S := fun w' => Fr No w w' [(gk1, 23, Ky.cells k), (gk3, 35, Hd.cells a0), (gk5, 35, Hd.cells b), (gk7, 35, Hd.cells hdZ)]) rfl (HF.out.drew) (fun hH => ?_)
   have HF : Hid (Fr No w (wk8.drew) [(gk1, 23, Ky.cells k), (gk3, 35, Hd.cells a0), (gk5, 35, Hd.cells b), (gk7, 35, Hd.cells hdZ)]) := HF.out.drew
   generalize wk8.drew = wk9 at HF hH ⊢
   refine aT (i := 0) (oi := { dst := some 21, op := Op.move (Operand.tmp 1), type := 3, pos := "outright.go:27", after := #[], guard := none }) (v := .int .i64 fr) (fun _ _ => by kernel_rfl) hH ?_
   try simp only [pS]
   refine aT (i := 1) (oi := { dst := some 22, op := Op.move (Operand.tmp 2), type := 3, pos := "outright.go:27", after := #[], guard := none }) (v := .int .i64 ta) (fun _ _ => by kernel_rfl) hH ?_
   try simp only [pS]
   refine aT (i := 2) (oi := { dst := some 23, op := Op.load 23 (Operand.tmp 5), type := 23, pos := "outright.go:27", after := #[], guard := none }) (v := .agg (Ky.cells k)) (fun w' hw => eL 23 _ rfl ⟨gk1, 0, none⟩ (run_load_part (cs := Ky.cs k) (sub := Ky.cs k) (hw.box 0 _ _ _ rfl) (Part.all _) Try.und23 rfl Try.size23)) hH ?_
   try simp only [pS]
   refine aT (i := 3) (oi := { dst := some 24, op := Op.load 35 (Operand.tmp 8), type := 35, pos := "outright.go:27", after := #[], guard := none }) (v := .agg (Hd.cells a0)) (fun w' hw => eL 35 _ rfl ⟨gk3, 0, none⟩ (run_load_part (cs := Hd.cs a0) (sub := Hd.cs a0) (hw.box 1 _ _ _ rfl) (Part.all _) Try.und35 rfl Try.size35)) hH ?_
   try simp only [pS]
   refine any_pick (rs := [4, 6]) (by kernel_rfl) (by simp) ?_
   intro i hi
   rcases pick2 hi with rfl | rfl
   ·skip
    clear hi
    refine step_call (i := 4) (o := oqHb0) rfl (by kernel_rfl) 11 #[.agg (Hd.cells a0)] (by kernel_rfl) _ (lend_any a0 ab0 ae0 al0 ap0 _ (HA0.out.no HF.out.kept)) ?_
    rintro e wk10 ⟨gb, ge, gl, gp, rfl, hT, hk⟩
    have hH2 : Fr No w wk10 [(gk1, 23, Ky.cells k), (gk3, 35, Hd.cells a0), (gk5, 35, Hd.cells b), (gk7, 35, Hd.cells hdZ)] := hH.no hk
    have HF : Hid (Fr No w (wk10) [(gk1, 23, Ky.cells k), (gk3, 35, Hd.cells a0), (gk5, 35, Hd.cells b), (gk7, 35, Hd.cells hdZ)]) := HF.out.no hk
    have HT : Hid (LtAt wk10 wk9.heap.size a0 ab0 ae0 al0 ap0 gb ge gl gp) := hT
    clear hk hT
    generalize wk9.heap.size = bb at HT
    refine ⟨.agg (Hd.cells (lentH a0 gb ge gl gp)), rfl, hH2, fun hH => ?_⟩
    clear hH2
    try simp only [pS]
    refine any_pick (rs := [5, 6]) (by kernel_rfl) (by simp) ?_
    intro i hi
    rcases pick2 hi with rfl | rfl
    ·skip
     clear hi
     refine step_call (i := 5) (o := oqHb1) rfl (by kernel_rfl) 12 #[.int .i64 fr, .int .i64 ta, .agg (Ky.cells k), .agg (Hd.cells (lentH a0 gb ge gl gp))] (by kernel_rfl) _ (ask_any fr ta k (lentH a0 gb ge gl gp) ap0 _ (rd_P (s := a0.r) HA0.out.p.len HT.out.p) HT.out.tp (by omega) HM0.out.rng (by have h1 : 0 ≤ edgeF a0.k.up (decd ap0) ∧ edgeF a0.k.up (decd ap0) ≤ 1048576 := HM0.out.edge_le; have h2 : edgeF (lentH a0 gb ge gl gp).k.up (decd ap0) = edgeF a0.k.up (decd ap0) := rfl; omega)) ?_
     rintro e wk11 ⟨rfl, hk⟩
     have hH2 : Fr No w wk11 [(gk1, 23, Ky.cells k), (gk3, 35, Hd.cells a0), (gk5, 35, Hd.cells b), (gk7, 35, Hd.cells hdZ)] := hH.no hk
     have HF : Hid (Fr No w (wk11) [(gk1, 23, Ky.cells k), (gk3, 35, Hd.cells a0), (gk5, 35, Hd.cells b), (gk7, 35, Hd.cells hdZ)]) := HF.out.no hk
     clear hk HT
     refine ⟨.agg (Mg.cells (askS fr ta k a0 ap0)), rfl, hH2, fun hH => ?_⟩
     clear hH2
     try simp only [pS]
     refine any_step (i := 6) (o := oqHb2) rfl (by kernel_rfl) (by kernel_rfl) (exec_alloc 50 rfl (Mg.cells mgZ) zero50) (Fr.front (l := [(gk1, 23, Ky.cells k), (gk3, 35, Hd.cells a0), (gk5, 35, Hd.cells b), (gk7, 35, Hd.cells hdZ)]) (m := [_]) (hH.alloc _ _)) (fun hH => ?_)
     try simp only [pS]
     have HF : Hid (Fr No w _ [(gk1, 23, Ky.cells k), (gk3, 35, Hd.cells a0), (gk5, 35, Hd.cells b), (gk7, 35, Hd.cells hdZ), (wk11.heap.size, 50, Mg.cells mgZ)]) := HF.out.alloc _ _
     generalize wk11.alloc (.cells (Mg.cells mgZ) 50) = wk13 at HF hH ⊢
     generalize wk11.heap.size = gk12 at HF ⊢
     refine any_store (i := 7) (o := oqHb3) (w' := wk13.setRow gk12 (Mg.cells (askS fr ta k a0 ap0))) rfl (by kernel_rfl) (by kernel_rfl) 50 _ _ rfl ⟨gk12, 0, none⟩ (.agg (Mg.cells (askS fr ta k a0 ap0))) (by kernel_rfl) (by kernel_rfl) (run_store_to (cur := Mg.cs mgZ) (vs := Mg.cs (askS fr ta k a0 ap0)) (new := Mg.cs (askS fr ta k a0 ap0)) (HF.out.box 4 _ _ _ rfl) (by kernel_rfl) Try.size50 (Nat.le_of_ble_eq_true (by kernel_rfl)) (Mg.oneL _) (by kernel_rfl)) (Fr.front (l := [(gk1, 23, Ky.cells k), (gk3, 35, Hd.cells a0), (gk5, 35, Hd.cells b), (gk7, 35, Hd.cells hdZ)]) (m := [(gk12, 50, Mg.cells (askS fr ta k a0 ap0))]) (HF.out.set 4 rfl _)) (fun hH => ?_)
     try simp only [pS]
     have HF : Hid (Fr No w _ [(gk1, 23, Ky.cells k), (gk3, 35, Hd.cells a0), (gk5, 35, Hd.cells b), (gk7, 35, Hd.cells hdZ), (gk12, 50, Mg.cells (askS fr ta k a0 ap0))]) := HF.out.set 4 rfl _
     generalize wk13.setRow gk12 (Mg.cells (askS fr ta k a0 ap0)) = wk14 at HF hH ⊢
     refine wpAnyH_done (by kernel_rfl) ?_ _
     try simp only [pS]
     clear hH
     refine hK0 _ _ (Met.intro (hJ0 _ _ ?_))
     (repeat apply Exists.intro)
     refine ⟨?_, rfl⟩
     exact ⟨gk12, rfl, HF⟩
    ·skip
     clear hi
     refine step_run (i := 6) (o := oqHb2) rfl (by kernel_rfl) (exec_alloc 50 rfl (Mg.cells mgZ) zero50) (Fr.front (l := [(gk1, 23, Ky.cells k), (gk3, 35, Hd.cells a0), (gk5, 35, Hd.cells b), (gk7, 35, Hd.cells hdZ)]) (m := [_]) (hH.alloc _ _)) (fun hH => ?_)
     try simp only [pS]
     have HT : Hid (LtAt (wk10.alloc (.cells (Mg.cells mgZ) 50)) bb a0 ab0 ae0 al0 ap0 gb ge gl gp) := HT.out.no ((Kept.refl No _).alloc _)
     have HF : Hid (Fr No w _ [(gk1, 23, Ky.cells k), (gk3, 35, Hd.cells a0), (gk5, 35, Hd.cells b), (gk7, 35, Hd.cells hdZ), (wk10.heap.size, 50, Mg.cells mgZ)]) := HF.out.alloc _ _
     generalize wk10.alloc (.cells (Mg.cells mgZ) 50) = wk16 at HF HT hH ⊢
     generalize wk10.heap.size = gk15 at HF ⊢
     refine any_call (i := 5) (o := oqHb1) rfl (by kernel_rfl) (by kernel_rfl) 12 #[.int .i64 fr, .int .i64 ta, .agg (Ky.cells k), .agg (Hd.cells (lentH a0 gb ge gl gp))] (by kernel_rfl) _ (ask_any fr ta k (lentH a0 gb ge gl gp) ap0 _ (rd_P (s := a0.r) HA0.out.p.len HT.out.p) HT.out.tp (by omega) HM0.out.rng (by have h1 : 0 ≤ edgeF a0.k.up (decd ap0) ∧ edgeF a0.k.up (decd ap0) ≤ 1048576 := HM0.out.edge_le; have h2 : edgeF (lentH a0 gb ge gl gp).k.up (decd ap0) = edgeF a0.k.up (decd ap0) := rfl; omega)) ?_
     rintro e wk17 ⟨rfl, hk⟩
     have hH2 : Fr No w wk17 [(gk1, 23, Ky.cells k), (gk3, 35, Hd.cells a0), (gk5, 35, Hd.cells b), (gk7, 35, Hd.cells hdZ)] := hH.no hk
     have HF : Hid (Fr No w (wk17) [(gk1, 23, Ky.cells k), (gk3, 35, Hd.cells a0), (gk5, 35, Hd.cells b), (gk7, 35, Hd.cells hdZ), (gk15, 50, Mg.cells mgZ)]) := HF.out.no hk
     clear hk HT
     refine ⟨.agg (Mg.cells (askS fr ta k a0 ap0)), rfl, hH2, fun hH => ?_⟩
     clear hH2
     try simp only [pS]
     refine any_store (i := 7) (o := oqHb3) (w' := wk17.setRow gk15 (Mg.cells (askS fr ta k a0 ap0))) rfl (by kernel_rfl) (by kernel_rfl) 50 _ _ rfl ⟨gk15, 0, none⟩ (.agg (Mg.cells (askS fr ta k a0 ap0))) (by kernel_rfl) (by kernel_rfl) (run_store_to (cur := Mg.cs mgZ) (vs := Mg.cs (askS fr ta k a0 ap0)) (new := Mg.cs (askS fr ta k a0 ap0)) (HF.out.box 4 _ _ _ rfl) (by kernel_rfl) Try.size50 (Nat.le_of_ble_eq_true (by kernel_rfl)) (Mg.oneL _) (by kernel_rfl)) (Fr.front (l := [(gk1, 23, Ky.cells k), (gk3, 35, Hd.cells a0), (gk5, 35, Hd.cells b), (gk7, 35, Hd.cells hdZ)]) (m := [(gk15, 50, Mg.cells (askS fr ta k a0 ap0))]) (HF.out.set 4 rfl _)) (fun hH => ?_)
     try simp only [pS]
     have HF : Hid (Fr No w _ [(gk1, 23, Ky.cells k), (gk3, 35, Hd.cells a0), (gk5, 35, Hd.cells b), (gk7, 35, Hd.cells hdZ), (gk15, 50, Mg.cells (askS fr ta k a0 ap0))]) := HF.out.set 4 rfl _
     generalize wk17.setRow gk15 (Mg.cells (askS fr ta k a0 ap0)) = wk18 at HF hH ⊢
     refine wpAnyH_done (by kernel_rfl) ?_ _
     try simp only [pS]
     clear hH
     refine hK0 _ _ (Met.intro (hJ0 _ _ ?_))
     (repeat apply Exists.intro)
     refine ⟨?_, rfl⟩
     exact ⟨gk15, rfl, HF⟩
   ·skip
    clear hi
    refine step_run (i := 6) (o := oqHb2) rfl (by kernel_rfl) (exec_alloc 50 rfl (Mg.cells mgZ) zero50) (Fr.front (l := [(gk1, 23, Ky.cells k), (gk3, 35, Hd.cells a0), (gk5, 35, Hd.cells b), (gk7, 35, Hd.cells hdZ)]) (m := [_]) (hH.alloc _ _)) (fun hH => ?_)
    try simp only [pS]
    have HF : Hid (Fr No w _ [(gk1, 23, Ky.cells k), (gk3, 35, Hd.cells a0), (gk5, 35, Hd.cells b), (gk7, 35, Hd.cells hdZ), (wk9.heap.size, 50, Mg.cells mgZ)]) := HF.out.alloc _ _
    generalize wk9.alloc (.cells (Mg.cells mgZ) 50) = wk20 at HF hH ⊢
    generalize wk9.heap.size = gk19 at HF ⊢
    refine any_call (i := 4) (o := oqHb0) rfl (by kernel_rfl) (by kernel_rfl) 11 #[.agg (Hd.cells a0)] (by kernel_rfl) _ (lend_any a0 ab0 ae0 al0 ap0 _ (HA0.out.no HF.out.kept)) ?_
    rintro e wk21 ⟨gb, ge, gl, gp, rfl, hT, hk⟩
    have hH2 : Fr No w wk21 [(gk1, 23, Ky.cells k), (gk3, 35, Hd.cells a0), (gk5, 35, Hd.cells b), (gk7, 35, Hd.cells hdZ)] := hH.no hk
    have HF : Hid (Fr No w (wk21) [(gk1, 23, Ky.cells k), (gk3, 35, Hd.cells a0), (gk5, 35, Hd.cells b), (gk7, 35, Hd.cells hdZ), (gk19, 50, Mg.cells mgZ)]) := HF.out.no hk
    have HT : Hid (LtAt wk21 wk20.heap.size a0 ab0 ae0 al0 ap0 gb ge gl gp) := hT
    clear hk hT
    generalize wk20.heap.size = bb at HT
    refine ⟨.agg (Hd.cells (lentH a0 gb ge gl gp)), rfl, hH2, fun hH => ?_⟩
    clear hH2
    try simp only [pS]
    refine any_call (i := 5) (o := oqHb1) rfl (by kernel_rfl) (by kernel_rfl) 12 #[.int .i64 fr, .int .i64 ta, .agg (Ky.cells k), .agg (Hd.cells (lentH a0 gb ge gl gp))] (by kernel_rfl) _ (ask_any fr ta k (lentH a0 gb ge gl gp) ap0 _ (rd_P (s := a0.r) HA0.out.p.len HT.out.p) HT.out.tp (by omega) HM0.out.rng (by have h1 : 0 ≤ edgeF a0.k.up (decd ap0) ∧ edgeF a0.k.up (decd ap0) ≤ 1048576 := HM0.out.edge_le; have h2 : edgeF (lentH a0 gb ge gl gp).k.up (decd ap0) = edgeF a0.k.up (decd ap0) := rfl; omega)) ?_
    rintro e wk22 ⟨rfl, hk⟩
    have hH2 : Fr No w wk22 [(gk1, 23, Ky.cells k), (gk3, 35, Hd.cells a0), (gk5, 35, Hd.cells b), (gk7, 35, Hd.cells hdZ)] := hH.no hk
    have HF : Hid (Fr No w (wk22) [(gk1, 23, Ky.cells k), (gk3, 35, Hd.cells a0), (gk5, 35, Hd.cells b), (gk7, 35, Hd.cells hdZ), (gk19, 50, Mg.cells mgZ)]) := HF.out.no hk
    clear hk HT
    refine ⟨.agg (Mg.cells (askS fr ta k a0 ap0)), rfl, hH2, fun hH => ?_⟩
    clear hH2
    try simp only [pS]
    refine any_store (i := 7) (o := oqHb3) (w' := wk22.setRow gk19 (Mg.cells (askS fr ta k a0 ap0))) rfl (by kernel_rfl) (by kernel_rfl) 50 _ _ rfl ⟨gk19, 0, none⟩ (.agg (Mg.cells (askS fr ta k a0 ap0))) (by kernel_rfl) (by kernel_rfl) (run_store_to (cur := Mg.cs mgZ) (vs := Mg.cs (askS fr ta k a0 ap0)) (new := Mg.cs (askS fr ta k a0 ap0)) (HF.out.box 4 _ _ _ rfl) (by kernel_rfl) Try.size50 (Nat.le_of_ble_eq_true (by kernel_rfl)) (Mg.oneL _) (by kernel_rfl)) (Fr.front (l := [(gk1, 23, Ky.cells k), (gk3, 35, Hd.cells a0), (gk5, 35, Hd.cells b), (gk7, 35, Hd.cells hdZ)]) (m := [(gk19, 50, Mg.cells (askS fr ta k a0 ap0))]) (HF.out.set 4 rfl _)) (fun hH => ?_)
    try simp only [pS]
    have HF : Hid (Fr No w _ [(gk1, 23, Ky.cells k), (gk3, 35, Hd.cells a0), (gk5, 35, Hd.cells b), (gk7, 35, Hd.cells hdZ), (gk19, 50, Mg.cells (askS fr ta k a0 ap0))]) := HF.out.set 4 rfl _
    generalize wk22.setRow gk19 (Mg.cells (askS fr ta k a0 ap0)) = wk23 at HF hH ⊢
    refine wpAnyH_done (by kernel_rfl) ?_ _
    try simp only [pS]
    clear hH
    refine hK0 _ _ (Met.intro (hJ0 _ _ ?_))
    (repeat apply Exists.intro)
    refine ⟨?_, rfl⟩
    exact ⟨gk19, rfl, HF⟩
  case rest =>
   obtain ⟨g13, rfl, HF⟩ := hcut
   go_upto_region 2 with fail
   refine WL.start ?_
   refine tK (.int .i64 1) ?_
   try simp only [pS]
   refine WL.nil ?_
   try simp only [pS]
   have hQ0 : RowQ k.k (edgeF a0.k.up (decd ap0)) (askS fr ta k a0 ap0) a0 a0 b ap0 ap0 bp 1 := RowQ.start rfl hk12 rfl HM0.out
   have HA0w : Hid (HdAt wc a0 ab0 ae0 al0 ap0) := HA0.out.no HF.out.kept
   have hOf0 : HdOff (fun k => k = gk3 ∨ k = gk7 ∨ k = g13 ∨ G k) a0 ab0 ae0 al0 ap0 := HdOff.of (G1 := fun k => w.heap.size ≤ k) (HdOff.start HA0.out (fun k e => e)) HoA.out (by rintro k (e | e | e | e); rw [e]; exact .inl (HF.out.low 1 _ _ _ rfl); rw [e]; exact .inl (HF.out.low 3 _ _ _ rfl); rw [e]; exact .inl (HF.out.low 4 _ _ _ rfl); exact .inr e)
   go_wp2
   go_loopw [14, 15, 16, 17, 18, 19, 20] (fun v14 v15 v16 v17 v18 v19 v20 wr => ∃ (t : Nat) (a : Hd) (ab : List Int) (ae : List En) (al : List La) (ap : List Pl) (q : Mg), v14 = .int .i64 ((t : Nat) : Int) ∧ Hid (RowQ k.k (edgeF a0.k.up (decd ap0)) q a0 a b ap0 ap bp t) ∧ Hid (HdAt wr a ab ae al ap) ∧ Hid (Wl a ab ae al ap) ∧ Hid (HdOff (fun k => k = gk3 ∨ k = gk7 ∨ k = g13 ∨ G k) a ab ae al ap) ∧ Hid (Fr No w wr [(gk1, 23, Ky.cells k), (gk3, 35, Hd.cells a), (gk5, 35, Hd.cells b), (gk7, 35, Hd.cells hdZ), (g13, 50, Mg.cells q)])) (fun i14 i15 i16 i17 i18 i19 i20 _ => 300 - (intOf i14).toNat)
   case atStart => exact ⟨1, a0, ab0, ae0, al0, ap0, (askS fr ta k a0 ap0), by go_num, hQ0, HA0w, HWa, hOf0, HF⟩
   case round =>
     clear HF HA0w hQ0 hOf0
     obtain ⟨t, a, ab, ae, al, ap, q, rfl, HQ, HH, HW, HOf, HF⟩ := hrel
     have ht : t < 300 := HQ.out.lt hE0 (top_hi HWb.out)
     go_upto_region 3 with fail
     refine WL.start ?_
     refine tK (.int .i64 ((t : Nat) : Int)) ?_
     refine tW (.bool true) (eB .lss 3 _ _ _ rfl (.int .i64 ((t : Nat) : Int)) (.int .i64 300) _ (by rw [b_lss, decide_eq_true (by omega)])) ?_
     try simp only [pS]
     refine WL.nil ?_
     try simp only [pS]
     go_upto_region 5 with fail
     go_cut [15, 16, 17] from 27 to 101 (fun v15 v16 v17 wc => ∃ (g16 : Nat) (m : Mg) (sa : Option Addr) (sn sk : Nat) (X : List Ch), v15 = .slice sa sn sk ∧ v16 = .pointer (some ⟨g16, 0, none⟩) ∧ v17 = .bool (takeA m a (haveA q b bbs bes bls bp).b (haveA q b bbs bes bls bp).e (haveA q b bbs bes bls bp).l (haveA q b bbs bes bls bp).c ap).o ∧ Hid (∃ V, MgRd V m (haveA q b bbs bes bls bp)) ∧ Hid (TkRd wc ⟨sa, sn, sk⟩ (takeA m a (haveA q b bbs bes bls bp).b (haveA q b bbs bes bls bp).e (haveA q b bbs bes bls bp).l (haveA q b bbs bes bls bp).c ap).z (takeA m a (haveA q b bbs bes bls bp).b (haveA q b bbs bes bls bp).e (haveA q b bbs bes bls bp).l (haveA q b bbs bes bls bp).c ap).b (takeA m a (haveA q b bbs bes bls bp).b (haveA q b bbs bes bls bp).e (haveA q b bbs bes bls bp).l (haveA q b bbs bes bls bp).c ap).e (takeA m a (haveA q b bbs bes bls bp).b (haveA q b bbs bes bls bp).e (haveA q b bbs bes bls bp).l (haveA q b bbs bes bls bp).c ap).l X) ∧ Hid (TkOff (fun k => k = gk3 ∨ k = gk7 ∨ k = g13 ∨ G k) ⟨sa, sn, sk⟩ X) ∧ Hid (HdAt wc a ab ae al ap) ∧ Hid (Fr No w wc [(gk1, 23, Ky.cells k), (gk3, 35, Hd.cells a), (gk5, 35, Hd.cells b), (gk7, 35, Hd.cells hdZ), (g13, 50, Mg.cells q), (g16, 50, Mg.cells ((takeA m a (haveA q b bbs bes bls bp).b (haveA q b bbs bes bls bp).e (haveA q b bbs bes bls bp).l (haveA q b bbs bes bls bp).c ap).m))]))
     case first =>
      rename_i J0 K0 hJ0 hK0
      have HHs : Hid (HdAt wr a ab ae al ap) := HH
      clear HH
      have hvb := hv_b q b bbs bes bls bp
      have HK0 : Hid (Kept No wr wr) := Kept.refl _ _
      obtain ⟨s0, hs0⟩ : ∃ n, wr.heap.size = n := ⟨_, rfl⟩
      have HS0 : Hid (wr.heap.size = s0) := hs0
      clear hs0
      refine wp_region_held_drew (S := fun w' => Fr No w w' [(gk1, 23, Ky.cells k), (gk3, 35, Hd.cells a), (gk5, 35, Hd.cells b), (gk7, 35, Hd.cells hdZ), (g13, 50, Mg.cells q)]) rfl (HF.out.drew) (fun hH => ?_)
      have HK0 : Hid (Kept No wr (wr.drew)) := HK0.out.no (Kept.refl No _).drew
      have HF : Hid (Fr No w (wr.drew) [(gk1, 23, Ky.cells k), (gk3, 35, Hd.cells a), (gk5, 35, Hd.cells b), (gk7, 35, Hd.cells hdZ), (g13, 50, Mg.cells q)]) := HF.out.drew
      generalize wr.drew = wk24 at HF HK0 hH ⊢
      refine aT (i := 0) (oi := { dst := some 32, op := Op.load 50 (Operand.tmp 13), type := 50, pos := "outright.go:29", after := #[], guard := none }) (v := .agg (Mg.cells q)) (fun w' hw => eL 50 _ rfl ⟨g13, 0, none⟩ (run_load_part (cs := Mg.cs q) (sub := Mg.cs q) (hw.box 4 _ _ _ rfl) (Part.all _) Try.und50 rfl Try.size50)) hH ?_
      try simp only [pS]
      refine aT (i := 1) (oi := { dst := some 33, op := Op.load 35 (Operand.tmp 9), type := 35, pos := "outright.go:29", after := #[], guard := none }) (v := .agg (Hd.cells b)) (fun w' hw => eL 35 _ rfl ⟨gk5, 0, none⟩ (run_load_part (cs := Hd.cs b) (sub := Hd.cs b) (hw.box 2 _ _ _ rfl) (Part.all _) Try.und35 rfl Try.size35)) hH ?_
      try simp only [pS]
      refine aT (i := 4) (oi := { dst := some 36, op := Op.load 35 (Operand.tmp 8), type := 35, pos := "outright.go:29", after := #[], guard := none }) (v := .agg (Hd.cells a)) (fun w' hw => eL 35 _ rfl ⟨gk3, 0, none⟩ (run_load_part (cs := Hd.cs a) (sub := Hd.cs a) (hw.box 1 _ _ _ rfl) (Part.all _) Try.und35 rfl Try.size35)) hH ?_
      try simp only [pS]
      refine any_pick (rs := [2, 11]) (by kernel_rfl) (by simp) ?_
      intro i hi
      rcases pick2 hi with rfl | rfl
      ·skip
       clear hi
       refine step_call (i := 2) (o := oqHb4) rfl (by kernel_rfl) 11 #[.agg (Hd.cells b)] (by kernel_rfl) _ (lend_any b bbs bes bls bp _ (HB.out.no HF.out.kept)) ?_
       rintro e wk25 ⟨gb, ge, gl, gp, rfl, hT, hk⟩
       have hH2 : Fr No w wk25 [(gk1, 23, Ky.cells k), (gk3, 35, Hd.cells a), (gk5, 35, Hd.cells b), (gk7, 35, Hd.cells hdZ), (g13, 50, Mg.cells q)] := hH.no hk
       have HK0 : Hid (Kept No wr (wk25)) := HK0.out.no hk
       have HF : Hid (Fr No w (wk25) [(gk1, 23, Ky.cells k), (gk3, 35, Hd.cells a), (gk5, 35, Hd.cells b), (gk7, 35, Hd.cells hdZ), (g13, 50, Mg.cells q)]) := HF.out.no hk
       have HT : Hid (LtAt wk25 wk24.heap.size b bbs bes bls bp gb ge gl gp) := hT
       clear hk hT
       generalize wk24.heap.size = bb at HT
       refine ⟨.agg (Hd.cells (lentH b gb ge gl gp)), rfl, hH2, fun hH => ?_⟩
       clear hH2
       try simp only [pS]
       refine any_pick (rs := [3, 11]) (by kernel_rfl) (by simp) ?_
       intro i hi
       rcases pick2 hi with rfl | rfl
       ·skip
        clear hi
        refine step_call (i := 3) (o := oqHb5) rfl (by kernel_rfl) 17 #[.agg (Mg.cells q), .agg (Hd.cells (lentH b gb ge gl gp))] (by kernel_rfl) _ (have_any q b bbs bes bls bp gb ge gl gp bb _ (HB.out.no HF.out.kept) HT.out HMb.out) ?_
        rintro e wk26 ⟨m, rfl, hm, hmn, hk⟩
        have hH2 : Fr No w wk26 [(gk1, 23, Ky.cells k), (gk3, 35, Hd.cells a), (gk5, 35, Hd.cells b), (gk7, 35, Hd.cells hdZ), (g13, 50, Mg.cells q)] := hH.no hk
        have HK0 : Hid (Kept No wr (wk26)) := HK0.out.no hk
        have HF : Hid (Fr No w (wk26) [(gk1, 23, Ky.cells k), (gk3, 35, Hd.cells a), (gk5, 35, Hd.cells b), (gk7, 35, Hd.cells hdZ), (g13, 50, Mg.cells q)]) := HF.out.no hk
        have HMm : Hid (MgRd wk26 m (haveA q b bbs bes bls bp)) := hm
        have HV : Hid (∃ V, MgRd V m (haveA q b bbs bes bls bp)) := ⟨_, hm⟩
        clear hk hm hmn HT
        refine ⟨.agg (Mg.cells m), rfl, hH2, fun hH => ?_⟩
        clear hH2
        try simp only [pS]
        refine any_pick (rs := [5, 11]) (by kernel_rfl) (by simp) ?_
        intro i hi
        rcases pick2 hi with rfl | rfl
        ·skip
         clear hi
         refine step_call (i := 5) (o := oqHb6) rfl (by kernel_rfl) 11 #[.agg (Hd.cells a)] (by kernel_rfl) _ (lend_any a ab ae al ap _ (HHs.out.no HK0.out)) ?_
         rintro e wk27 ⟨gb, ge, gl, gp, rfl, hT, hk⟩
         have hH2 : Fr No w wk27 [(gk1, 23, Ky.cells k), (gk3, 35, Hd.cells a), (gk5, 35, Hd.cells b), (gk7, 35, Hd.cells hdZ), (g13, 50, Mg.cells q)] := hH.no hk
         have HK0 : Hid (Kept No wr (wk27)) := HK0.out.no hk
         have HMm : Hid (MgRd (wk27) m (haveA q b bbs bes bls bp)) := HMm.out.no hk
         have HF : Hid (Fr No w (wk27) [(gk1, 23, Ky.cells k), (gk3, 35, Hd.cells a), (gk5, 35, Hd.cells b), (gk7, 35, Hd.cells hdZ), (g13, 50, Mg.cells q)]) := HF.out.no hk
         have HT : Hid (LtAt wk27 wk26.heap.size a ab ae al ap gb ge gl gp) := hT
         clear hk hT
         generalize wk26.heap.size = bb at HT
         refine ⟨.agg (Hd.cells (lentH a gb ge gl gp)), rfl, hH2, fun hH => ?_⟩
         clear hH2
         try simp only [pS]
         refine any_pick (rs := [6, 11]) (by kernel_rfl) (by simp) ?_
         intro i hi
         rcases pick2 hi with rfl | rfl
         ·skip
          clear hi
          refine step_call (i := 6) (o := oqHb7) rfl (by kernel_rfl) 21 #[.agg (Mg.cells m), .agg (Hd.cells (lentH a gb ge gl gp))] (by kernel_rfl) _ (take_gen m a (haveA q b bbs bes bls bp).b (haveA q b bbs bes bls bp).e (haveA q b bbs bes bls bp).l (haveA q b bbs bes bls bp).c ab ae al ap gb ge gl gp bb _ (HMm.out.at (by omega) (by omega) (by omega) (by omega)) (HHs.out.no HK0.out) HT.out HW.out.may) ?_
          have hGd : ∀ k, (fun k => k = gk3 ∨ k = gk7 ∨ k = g13 ∨ G k) k → k < wk27.heap.size := (by rintro k (e | e | e | e); rw [e]; exact (HF.out.box 1 _ _ _ rfl).lt; rw [e]; exact (HF.out.box 3 _ _ _ rfl).lt; rw [e]; exact (HF.out.box 4 _ _ _ rfl).lt; exact Nat.lt_of_lt_of_le (HGw.out k e) HF.out.kept.size)
          rintro e wk28 ⟨⟨sa, sn, sk⟩, X, rfl, hm, hmn, hk⟩
          have hH2 : Fr No w wk28 [(gk1, 23, Ky.cells k), (gk3, 35, Hd.cells a), (gk5, 35, Hd.cells b), (gk7, 35, Hd.cells hdZ), (g13, 50, Mg.cells q)] := hH.no hk
          have HK0 : Hid (Kept No wr (wk28)) := HK0.out.no hk
          have HF : Hid (Fr No w (wk28) [(gk1, 23, Ky.cells k), (gk3, 35, Hd.cells a), (gk5, 35, Hd.cells b), (gk7, 35, Hd.cells hdZ), (g13, 50, Mg.cells q)]) := HF.out.no hk
          have HTO : Hid (TkOff (fun k => k = gk3 ∨ k = gk7 ∨ k = g13 ∨ G k) ⟨sa, sn, sk⟩ X) := ⟨fun k e f => by have h1 := hmn.1 k e; have h2 := hGd k f; omega, fun i hi k e f => by have h1 := hmn.2 i hi k e; have h2 := hGd k f; omega⟩
          have HK6 : Hid (TkRd wk28 ⟨sa, sn, sk⟩ (takeA m a (haveA q b bbs bes bls bp).b (haveA q b bbs bes bls bp).e (haveA q b bbs bes bls bp).l (haveA q b bbs bes bls bp).c ap).z (takeA m a (haveA q b bbs bes bls bp).b (haveA q b bbs bes bls bp).e (haveA q b bbs bes bls bp).l (haveA q b bbs bes bls bp).c ap).b (takeA m a (haveA q b bbs bes bls bp).b (haveA q b bbs bes bls bp).e (haveA q b bbs bes bls bp).l (haveA q b bbs bes bls bp).c ap).e (takeA m a (haveA q b bbs bes bls bp).b (haveA q b bbs bes bls bp).e (haveA q b bbs bes bls bp).l (haveA q b bbs bes bls bp).c ap).l X) := hm
          have HN6 : Hid (TkNew wk27.heap.size ⟨sa, sn, sk⟩ X) := hmn
          clear hk hm hmn HT HMm hGd
          generalize wk27.heap.size = dd at HN6
          have HS : Hid (Kept No wk28 wk28) := Kept.refl _ _
          obtain ⟨s6, hs6⟩ : ∃ n, wk28.heap.size = n := ⟨_, rfl⟩
          have HS6 : Hid (wk28.heap.size = s6) := hs6
          clear hs6
          refine ⟨.tuple #[.slice sa sn sk, .agg (Mg.cells (takeA m a (haveA q b bbs bes bls bp).b (haveA q b bbs bes bls bp).e (haveA q b bbs bes bls bp).l (haveA q b bbs bes bls bp).c ap).m), .bool (takeA m a (haveA q b bbs bes bls bp).b (haveA q b bbs bes bls bp).e (haveA q b bbs bes bls bp).l (haveA q b bbs bes bls bp).c ap).o], rfl, hH2, fun hH => ?_⟩
          clear hH2
          try simp only [pS]
          refine aT (i := 7) (oi := oqHb8) (v := .tuple #[.slice sa sn sk, .agg (Mg.cells (takeA m a (haveA q b bbs bes bls bp).b (haveA q b bbs bes bls bp).e (haveA q b bbs bes bls bp).l (haveA q b bbs bes bls bp).c ap).m), .bool (takeA m a (haveA q b bbs bes bls bp).b (haveA q b bbs bes bls bp).e (haveA q b bbs bes bls bp).l (haveA q b bbs bes bls bp).c ap).o]) (fun _ _ => by kernel_rfl) hH ?_
          try simp only [pS]
          refine aT (i := 8) (oi := oqHb9) (v := .slice sa sn sk) (fun _ _ => by kernel_rfl) hH ?_
          try simp only [pS]
          refine aT (i := 9) (oi := oqHb10) (v := .agg (Mg.cells ((takeA m a (haveA q b bbs bes bls bp).b (haveA q b bbs bes bls bp).e (haveA q b bbs bes bls bp).l (haveA q b bbs bes bls bp).c ap).m))) (fun _ _ => by kernel_rfl) hH ?_
          try simp only [pS]
          refine aT (i := 10) (oi := oqHb11) (v := .bool (takeA m a (haveA q b bbs bes bls bp).b (haveA q b bbs bes bls bp).e (haveA q b bbs bes bls bp).l (haveA q b bbs bes bls bp).c ap).o) (fun _ _ => by kernel_rfl) hH ?_
          try simp only [pS]
          refine any_step (i := 11) (o := oqHb12) rfl (by kernel_rfl) (by kernel_rfl) (exec_alloc 50 rfl (Mg.cells mgZ) zero50) (Fr.front (l := [(gk1, 23, Ky.cells k), (gk3, 35, Hd.cells a), (gk5, 35, Hd.cells b), (gk7, 35, Hd.cells hdZ), (g13, 50, Mg.cells q)]) (m := [_]) (hH.alloc _ _)) (fun hH => ?_)
          try simp only [pS]
          have hg7 : s6 ≤ wk28.heap.size := by rw [← HS6.out]; exact HS.out.size
          have hgs : s0 ≤ wk28.heap.size := by rw [← HS0.out]; exact HK0.out.size
          have HK0 : Hid (Kept No wr (wk28.alloc (.cells (Mg.cells mgZ) 50))) := HK0.out.no ((Kept.refl No _).alloc _)
          have HS : Hid (Kept No wk28 (wk28.alloc (.cells (Mg.cells mgZ) 50))) := HS.out.no ((Kept.refl No _).alloc _)
          have HF : Hid (Fr No w _ [(gk1, 23, Ky.cells k), (gk3, 35, Hd.cells a), (gk5, 35, Hd.cells b), (gk7, 35, Hd.cells hdZ), (g13, 50, Mg.cells q), (wk28.heap.size, 50, Mg.cells mgZ)]) := HF.out.alloc _ _
          generalize wk28.alloc (.cells (Mg.cells mgZ) 50) = wk30 at HF HK0 HS hH ⊢
          generalize wk28.heap.size = gk29 at HF hg7 hgs ⊢
          refine aT (i := 12) (oi := oqHb13) (v := .slice sa sn sk) (fun _ _ => by kernel_rfl) hH ?_
          try simp only [pS]
          refine any_store (i := 13) (o := oqHb14) (w' := wk30.setRow gk29 (Mg.cells ((takeA m a (haveA q b bbs bes bls bp).b (haveA q b bbs bes bls bp).e (haveA q b bbs bes bls bp).l (haveA q b bbs bes bls bp).c ap).m))) rfl (by kernel_rfl) (by kernel_rfl) 50 _ _ rfl ⟨gk29, 0, none⟩ (.agg (Mg.cells ((takeA m a (haveA q b bbs bes bls bp).b (haveA q b bbs bes bls bp).e (haveA q b bbs bes bls bp).l (haveA q b bbs bes bls bp).c ap).m))) (by kernel_rfl) (by kernel_rfl) (run_store_to (cur := Mg.cs mgZ) (vs := Mg.cs ((takeA m a (haveA q b bbs bes bls bp).b (haveA q b bbs bes bls bp).e (haveA q b bbs bes bls bp).l (haveA q b bbs bes bls bp).c ap).m)) (new := Mg.cs ((takeA m a (haveA q b bbs bes bls bp).b (haveA q b bbs bes bls bp).e (haveA q b bbs bes bls bp).l (haveA q b bbs bes bls bp).c ap).m)) (HF.out.box 5 _ _ _ rfl) (by kernel_rfl) Try.size50 (Nat.le_of_ble_eq_true (by kernel_rfl)) (Mg.oneL _) (by kernel_rfl)) (Fr.front (l := [(gk1, 23, Ky.cells k), (gk3, 35, Hd.cells a), (gk5, 35, Hd.cells b), (gk7, 35, Hd.cells hdZ), (g13, 50, Mg.cells q)]) (m := [(gk29, 50, Mg.cells ((takeA m a (haveA q b bbs bes bls bp).b (haveA q b bbs bes bls bp).e (haveA q b bbs bes bls bp).l (haveA q b bbs bes bls bp).c ap).m))]) (HF.out.set 5 rfl _)) (fun hH => ?_)
          try simp only [pS]
          have HK0 : Hid (Kept No wr (wk30.setRow gk29 (Mg.cells ((takeA m a (haveA q b bbs bes bls bp).b (haveA q b bbs bes bls bp).e (haveA q b bbs bes bls bp).l (haveA q b bbs bes bls bp).c ap).m)))) := HK0.out.newRow (by rw [HS0.out]; exact hgs) _
          have HS : Hid (Kept No wk28 (wk30.setRow gk29 (Mg.cells ((takeA m a (haveA q b bbs bes bls bp).b (haveA q b bbs bes bls bp).e (haveA q b bbs bes bls bp).l (haveA q b bbs bes bls bp).c ap).m)))) := HS.out.newRow (by rw [HS6.out]; exact hg7) _
          have HF : Hid (Fr No w _ [(gk1, 23, Ky.cells k), (gk3, 35, Hd.cells a), (gk5, 35, Hd.cells b), (gk7, 35, Hd.cells hdZ), (g13, 50, Mg.cells q), (gk29, 50, Mg.cells ((takeA m a (haveA q b bbs bes bls bp).b (haveA q b bbs bes bls bp).e (haveA q b bbs bes bls bp).l (haveA q b bbs bes bls bp).c ap).m))]) := HF.out.set 5 rfl _
          generalize wk30.setRow gk29 (Mg.cells ((takeA m a (haveA q b bbs bes bls bp).b (haveA q b bbs bes bls bp).e (haveA q b bbs bes bls bp).l (haveA q b bbs bes bls bp).c ap).m)) = wk31 at HF HK0 HS hH ⊢
          refine aT (i := 14) (oi := oqHb15) (v := .bool (takeA m a (haveA q b bbs bes bls bp).b (haveA q b bbs bes bls bp).e (haveA q b bbs bes bls bp).l (haveA q b bbs bes bls bp).c ap).o) (fun _ _ => by kernel_rfl) hH ?_
          try simp only [pS]
          refine wpAnyH_done (by kernel_rfl) ?_ _
          try simp only [pS]
          clear hH
          have HK : Hid (TkRd wk31 ⟨sa, sn, sk⟩ (takeA m a (haveA q b bbs bes bls bp).b (haveA q b bbs bes bls bp).e (haveA q b bbs bes bls bp).l (haveA q b bbs bes bls bp).c ap).z (takeA m a (haveA q b bbs bes bls bp).b (haveA q b bbs bes bls bp).e (haveA q b bbs bes bls bp).l (haveA q b bbs bes bls bp).c ap).b (takeA m a (haveA q b bbs bes bls bp).b (haveA q b bbs bes bls bp).e (haveA q b bbs bes bls bp).l (haveA q b bbs bes bls bp).c ap).e (takeA m a (haveA q b bbs bes bls bp).b (haveA q b bbs bes bls bp).e (haveA q b bbs bes bls bp).l (haveA q b bbs bes bls bp).c ap).l X) := HK6.out.no HS.out
          have HH : Hid (HdAt wk31 a ab ae al ap) := HHs.out.no HK0.out
          refine hK0 _ _ (Met.intro (hJ0 _ _ ?_))
          (repeat apply Exists.intro)
          refine ⟨?_, rfl⟩
          exact ⟨gk29, m, sa, sn, sk, X, rfl, rfl, rfl, HV, HK, HTO, HH, HF⟩
         ·skip
          clear hi
          refine step_run (i := 11) (o := oqHb12) rfl (by kernel_rfl) (exec_alloc 50 rfl (Mg.cells mgZ) zero50) (Fr.front (l := [(gk1, 23, Ky.cells k), (gk3, 35, Hd.cells a), (gk5, 35, Hd.cells b), (gk7, 35, Hd.cells hdZ), (g13, 50, Mg.cells q)]) (m := [_]) (hH.alloc _ _)) (fun hH => ?_)
          try simp only [pS]
          have hgs : s0 ≤ wk27.heap.size := by rw [← HS0.out]; exact HK0.out.size
          have HK0 : Hid (Kept No wr (wk27.alloc (.cells (Mg.cells mgZ) 50))) := HK0.out.no ((Kept.refl No _).alloc _)
          have HMm : Hid (MgRd (wk27.alloc (.cells (Mg.cells mgZ) 50)) m (haveA q b bbs bes bls bp)) := HMm.out.no ((Kept.refl No _).alloc _)
          have HT : Hid (LtAt (wk27.alloc (.cells (Mg.cells mgZ) 50)) bb a ab ae al ap gb ge gl gp) := HT.out.no ((Kept.refl No _).alloc _)
          have HF : Hid (Fr No w _ [(gk1, 23, Ky.cells k), (gk3, 35, Hd.cells a), (gk5, 35, Hd.cells b), (gk7, 35, Hd.cells hdZ), (g13, 50, Mg.cells q), (wk27.heap.size, 50, Mg.cells mgZ)]) := HF.out.alloc _ _
          generalize wk27.alloc (.cells (Mg.cells mgZ) 50) = wk33 at HF HK0 HMm HT hH ⊢
          generalize wk27.heap.size = gk32 at HF hgs ⊢
          refine any_call (i := 6) (o := oqHb7) rfl (by kernel_rfl) (by kernel_rfl) 21 #[.agg (Mg.cells m), .agg (Hd.cells (lentH a gb ge gl gp))] (by kernel_rfl) _ (take_gen m a (haveA q b bbs bes bls bp).b (haveA q b bbs bes bls bp).e (haveA q b bbs bes bls bp).l (haveA q b bbs bes bls bp).c ab ae al ap gb ge gl gp bb _ (HMm.out.at (by omega) (by omega) (by omega) (by omega)) (HHs.out.no HK0.out) HT.out HW.out.may) ?_
          have hGd : ∀ k, (fun k => k = gk3 ∨ k = gk7 ∨ k = g13 ∨ G k) k → k < wk33.heap.size := (by rintro k (e | e | e | e); rw [e]; exact (HF.out.box 1 _ _ _ rfl).lt; rw [e]; exact (HF.out.box 3 _ _ _ rfl).lt; rw [e]; exact (HF.out.box 4 _ _ _ rfl).lt; exact Nat.lt_of_lt_of_le (HGw.out k e) HF.out.kept.size)
          have hg9 : gk32 < wk33.heap.size := (HF.out.box 5 _ _ _ rfl).lt
          rintro e wk34 ⟨⟨sa, sn, sk⟩, X, rfl, hm, hmn, hk⟩
          have hH2 : Fr No w wk34 [(gk1, 23, Ky.cells k), (gk3, 35, Hd.cells a), (gk5, 35, Hd.cells b), (gk7, 35, Hd.cells hdZ), (g13, 50, Mg.cells q)] := hH.no hk
          have HK0 : Hid (Kept No wr (wk34)) := HK0.out.no hk
          have HF : Hid (Fr No w (wk34) [(gk1, 23, Ky.cells k), (gk3, 35, Hd.cells a), (gk5, 35, Hd.cells b), (gk7, 35, Hd.cells hdZ), (g13, 50, Mg.cells q), (gk32, 50, Mg.cells mgZ)]) := HF.out.no hk
          have HTO : Hid (TkOff (fun k => k = gk3 ∨ k = gk7 ∨ k = g13 ∨ G k) ⟨sa, sn, sk⟩ X) := ⟨fun k e f => by have h1 := hmn.1 k e; have h2 := hGd k f; omega, fun i hi k e f => by have h1 := hmn.2 i hi k e; have h2 := hGd k f; omega⟩
          have HK6 : Hid (TkRd wk34 ⟨sa, sn, sk⟩ (takeA m a (haveA q b bbs bes bls bp).b (haveA q b bbs bes bls bp).e (haveA q b bbs bes bls bp).l (haveA q b bbs bes bls bp).c ap).z (takeA m a (haveA q b bbs bes bls bp).b (haveA q b bbs bes bls bp).e (haveA q b bbs bes bls bp).l (haveA q b bbs bes bls bp).c ap).b (takeA m a (haveA q b bbs bes bls bp).b (haveA q b bbs bes bls bp).e (haveA q b bbs bes bls bp).l (haveA q b bbs bes bls bp).c ap).e (takeA m a (haveA q b bbs bes bls bp).b (haveA q b bbs bes bls bp).e (haveA q b bbs bes bls bp).l (haveA q b bbs bes bls bp).c ap).l X) := hm
          have HN6 : Hid (TkNew wk33.heap.size ⟨sa, sn, sk⟩ X) := hmn
          clear hk hm hmn HT HMm hGd
          generalize wk33.heap.size = dd at HN6 hg9
          have HK : Hid (TkRd wk34 ⟨sa, sn, sk⟩ (takeA m a (haveA q b bbs bes bls bp).b (haveA q b bbs bes bls bp).e (haveA q b bbs bes bls bp).l (haveA q b bbs bes bls bp).c ap).z (takeA m a (haveA q b bbs bes bls bp).b (haveA q b bbs bes bls bp).e (haveA q b bbs bes bls bp).l (haveA q b bbs bes bls bp).c ap).b (takeA m a (haveA q b bbs bes bls bp).b (haveA q b bbs bes bls bp).e (haveA q b bbs bes bls bp).l (haveA q b bbs bes bls bp).c ap).e (takeA m a (haveA q b bbs bes bls bp).b (haveA q b bbs bes bls bp).e (haveA q b bbs bes bls bp).l (haveA q b bbs bes bls bp).c ap).l X) := HK6.out
          clear HK6
          refine ⟨.tuple #[.slice sa sn sk, .agg (Mg.cells (takeA m a (haveA q b bbs bes bls bp).b (haveA q b bbs bes bls bp).e (haveA q b bbs bes bls bp).l (haveA q b bbs bes bls bp).c ap).m), .bool (takeA m a (haveA q b bbs bes bls bp).b (haveA q b bbs bes bls bp).e (haveA q b bbs bes bls bp).l (haveA q b bbs bes bls bp).c ap).o], rfl, hH2, fun hH => ?_⟩
          clear hH2
          try simp only [pS]
          refine aT (i := 7) (oi := oqHb8) (v := .tuple #[.slice sa sn sk, .agg (Mg.cells (takeA m a (haveA q b bbs bes bls bp).b (haveA q b bbs bes bls bp).e (haveA q b bbs bes bls bp).l (haveA q b bbs bes bls bp).c ap).m), .bool (takeA m a (haveA q b bbs bes bls bp).b (haveA q b bbs bes bls bp).e (haveA q b bbs bes bls bp).l (haveA q b bbs bes bls bp).c ap).o]) (fun _ _ => by kernel_rfl) hH ?_
          try simp only [pS]
          refine aT (i := 8) (oi := oqHb9) (v := .slice sa sn sk) (fun _ _ => by kernel_rfl) hH ?_
          try simp only [pS]
          refine aT (i := 9) (oi := oqHb10) (v := .agg (Mg.cells ((takeA m a (haveA q b bbs bes bls bp).b (haveA q b bbs bes bls bp).e (haveA q b bbs bes bls bp).l (haveA q b bbs bes bls bp).c ap).m))) (fun _ _ => by kernel_rfl) hH ?_
          try simp only [pS]
          refine aT (i := 10) (oi := oqHb11) (v := .bool (takeA m a (haveA q b bbs bes bls bp).b (haveA q b bbs bes bls bp).e (haveA q b bbs bes bls bp).l (haveA q b bbs bes bls bp).c ap).o) (fun _ _ => by kernel_rfl) hH ?_
          try simp only [pS]
          refine aT (i := 12) (oi := oqHb13) (v := .slice sa sn sk) (fun _ _ => by kernel_rfl) hH ?_
          try simp only [pS]
          refine any_store (i := 13) (o := oqHb14) (w' := wk34.setRow gk32 (Mg.cells ((takeA m a (haveA q b bbs bes bls bp).b (haveA q b bbs bes bls bp).e (haveA q b bbs bes bls bp).l (haveA q b bbs bes bls bp).c ap).m))) rfl (by kernel_rfl) (by kernel_rfl) 50 _ _ rfl ⟨gk32, 0, none⟩ (.agg (Mg.cells ((takeA m a (haveA q b bbs bes bls bp).b (haveA q b bbs bes bls bp).e (haveA q b bbs bes bls bp).l (haveA q b bbs bes bls bp).c ap).m))) (by kernel_rfl) (by kernel_rfl) (run_store_to (cur := Mg.cs mgZ) (vs := Mg.cs ((takeA m a (haveA q b bbs bes bls bp).b (haveA q b bbs bes bls bp).e (haveA q b bbs bes bls bp).l (haveA q b bbs bes bls bp).c ap).m)) (new := Mg.cs ((takeA m a (haveA q b bbs bes bls bp).b (haveA q b bbs bes bls bp).e (haveA q b bbs bes bls bp).l (haveA q b bbs bes bls bp).c ap).m)) (HF.out.box 5 _ _ _ rfl) (by kernel_rfl) Try.size50 (Nat.le_of_ble_eq_true (by kernel_rfl)) (Mg.oneL _) (by kernel_rfl)) (Fr.front (l := [(gk1, 23, Ky.cells k), (gk3, 35, Hd.cells a), (gk5, 35, Hd.cells b), (gk7, 35, Hd.cells hdZ), (g13, 50, Mg.cells q)]) (m := [(gk32, 50, Mg.cells ((takeA m a (haveA q b bbs bes bls bp).b (haveA q b bbs bes bls bp).e (haveA q b bbs bes bls bp).l (haveA q b bbs bes bls bp).c ap).m))]) (HF.out.set 5 rfl _)) (fun hH => ?_)
          try simp only [pS]
          have HK0 : Hid (Kept No wr (wk34.setRow gk32 (Mg.cells ((takeA m a (haveA q b bbs bes bls bp).b (haveA q b bbs bes bls bp).e (haveA q b bbs bes bls bp).l (haveA q b bbs bes bls bp).c ap).m)))) := HK0.out.newRow (by rw [HS0.out]; exact hgs) _
          have HK : Hid (TkRd (wk34.setRow gk32 (Mg.cells ((takeA m a (haveA q b bbs bes bls bp).b (haveA q b bbs bes bls bp).e (haveA q b bbs bes bls bp).l (haveA q b bbs bes bls bp).c ap).m))) ⟨sa, sn, sk⟩ (takeA m a (haveA q b bbs bes bls bp).b (haveA q b bbs bes bls bp).e (haveA q b bbs bes bls bp).l (haveA q b bbs bes bls bp).c ap).z (takeA m a (haveA q b bbs bes bls bp).b (haveA q b bbs bes bls bp).e (haveA q b bbs bes bls bp).l (haveA q b bbs bes bls bp).c ap).b (takeA m a (haveA q b bbs bes bls bp).b (haveA q b bbs bes bls bp).e (haveA q b bbs bes bls bp).l (haveA q b bbs bes bls bp).c ap).e (takeA m a (haveA q b bbs bes bls bp).b (haveA q b bbs bes bls bp).e (haveA q b bbs bes bls bp).l (haveA q b bbs bes bls bp).c ap).l X) := HK.out.kept HN6.out (Kept.setRow _ _ _) (fun k e => by have e : k = gk32 := e; omega)
          have HF : Hid (Fr No w _ [(gk1, 23, Ky.cells k), (gk3, 35, Hd.cells a), (gk5, 35, Hd.cells b), (gk7, 35, Hd.cells hdZ), (g13, 50, Mg.cells q), (gk32, 50, Mg.cells ((takeA m a (haveA q b bbs bes bls bp).b (haveA q b bbs bes bls bp).e (haveA q b bbs bes bls bp).l (haveA q b bbs bes bls bp).c ap).m))]) := HF.out.set 5 rfl _
          generalize wk34.setRow gk32 (Mg.cells ((takeA m a (haveA q b bbs bes bls bp).b (haveA q b bbs bes bls bp).e (haveA q b bbs bes bls bp).l (haveA q b bbs bes bls bp).c ap).m)) = wk35 at HF HK0 HK hH ⊢
          refine aT (i := 14) (oi := oqHb15) (v := .bool (takeA m a (haveA q b bbs bes bls bp).b (haveA q b bbs bes bls bp).e (haveA q b bbs bes bls bp).l (haveA q b bbs bes bls bp).c ap).o) (fun _ _ => by kernel_rfl) hH ?_
          try simp only [pS]
          refine wpAnyH_done (by kernel_rfl) ?_ _
          try simp only [pS]
          clear hH
          have HH : Hid (HdAt wk35 a ab ae al ap) := HHs.out.no HK0.out
          refine hK0 _ _ (Met.intro (hJ0 _ _ ?_))
          (repeat apply Exists.intro)
          refine ⟨?_, rfl⟩
          exact ⟨gk32, m, sa, sn, sk, X, rfl, rfl, rfl, HV, HK, HTO, HH, HF⟩
        ·skip
         clear hi
         refine step_run (i := 11) (o := oqHb12) rfl (by kernel_rfl) (exec_alloc 50 rfl (Mg.cells mgZ) zero50) (Fr.front (l := [(gk1, 23, Ky.cells k), (gk3, 35, Hd.cells a), (gk5, 35, Hd.cells b), (gk7, 35, Hd.cells hdZ), (g13, 50, Mg.cells q)]) (m := [_]) (hH.alloc _ _)) (fun hH => ?_)
         try simp only [pS]
         have hgs : s0 ≤ wk26.heap.size := by rw [← HS0.out]; exact HK0.out.size
         have HK0 : Hid (Kept No wr (wk26.alloc (.cells (Mg.cells mgZ) 50))) := HK0.out.no ((Kept.refl No _).alloc _)
         have HMm : Hid (MgRd (wk26.alloc (.cells (Mg.cells mgZ) 50)) m (haveA q b bbs bes bls bp)) := HMm.out.no ((Kept.refl No _).alloc _)
         have HF : Hid (Fr No w _ [(gk1, 23, Ky.cells k), (gk3, 35, Hd.cells a), (gk5, 35, Hd.cells b), (gk7, 35, Hd.cells hdZ), (g13, 50, Mg.cells q), (wk26.heap.size, 50, Mg.cells mgZ)]) := HF.out.alloc _ _
         generalize wk26.alloc (.cells (Mg.cells mgZ) 50) = wk37 at HF HK0 HMm hH ⊢
         generalize wk26.heap.size = gk36 at HF hgs ⊢
         refine any_call (i := 5) (o := oqHb6) rfl (by kernel_rfl) (by kernel_rfl) 11 #[.agg (Hd.cells a)] (by kernel_rfl) _ (lend_any a ab ae al ap _ (HHs.out.no HK0.out)) ?_
         rintro e wk38 ⟨gb, ge, gl, gp, rfl, hT, hk⟩
         have hH2 : Fr No w wk38 [(gk1, 23, Ky.cells k), (gk3, 35, Hd.cells a), (gk5, 35, Hd.cells b), (gk7, 35, Hd.cells hdZ), (g13, 50, Mg.cells q)] := hH.no hk
         have HK0 : Hid (Kept No wr (wk38)) := HK0.out.no hk
         have HMm : Hid (MgRd (wk38) m (haveA q b bbs bes bls bp)) := HMm.out.no hk
         have HF : Hid (Fr No w (wk38) [(gk1, 23, Ky.cells k), (gk3, 35, Hd.cells a), (gk5, 35, Hd.cells b), (gk7, 35, Hd.cells hdZ), (g13, 50, Mg.cells q), (gk36, 50, Mg.cells mgZ)]) := HF.out.no hk
         have HT : Hid (LtAt wk38 wk37.heap.size a ab ae al ap gb ge gl gp) := hT
         clear hk hT
         generalize wk37.heap.size = bb at HT
         refine ⟨.agg (Hd.cells (lentH a gb ge gl gp)), rfl, hH2, fun hH => ?_⟩
         clear hH2
         try simp only [pS]
         refine any_call (i := 6) (o := oqHb7) rfl (by kernel_rfl) (by kernel_rfl) 21 #[.agg (Mg.cells m), .agg (Hd.cells (lentH a gb ge gl gp))] (by kernel_rfl) _ (take_gen m a (haveA q b bbs bes bls bp).b (haveA q b bbs bes bls bp).e (haveA q b bbs bes bls bp).l (haveA q b bbs bes bls bp).c ab ae al ap gb ge gl gp bb _ (HMm.out.at (by omega) (by omega) (by omega) (by omega)) (HHs.out.no HK0.out) HT.out HW.out.may) ?_
         have hGd : ∀ k, (fun k => k = gk3 ∨ k = gk7 ∨ k = g13 ∨ G k) k → k < wk38.heap.size := (by rintro k (e | e | e | e); rw [e]; exact (HF.out.box 1 _ _ _ rfl).lt; rw [e]; exact (HF.out.box 3 _ _ _ rfl).lt; rw [e]; exact (HF.out.box 4 _ _ _ rfl).lt; exact Nat.lt_of_lt_of_le (HGw.out k e) HF.out.kept.size)
         have hg9 : gk36 < wk38.heap.size := (HF.out.box 5 _ _ _ rfl).lt
         rintro e wk39 ⟨⟨sa, sn, sk⟩, X, rfl, hm, hmn, hk⟩
         have hH2 : Fr No w wk39 [(gk1, 23, Ky.cells k), (gk3, 35, Hd.cells a), (gk5, 35, Hd.cells b), (gk7, 35, Hd.cells hdZ), (g13, 50, Mg.cells q)] := hH.no hk
         have HK0 : Hid (Kept No wr (wk39)) := HK0.out.no hk
         have HF : Hid (Fr No w (wk39) [(gk1, 23, Ky.cells k), (gk3, 35, Hd.cells a), (gk5, 35, Hd.cells b), (gk7, 35, Hd.cells hdZ), (g13, 50, Mg.cells q), (gk36, 50, Mg.cells mgZ)]) := HF.out.no hk
         have HTO : Hid (TkOff (fun k => k = gk3 ∨ k = gk7 ∨ k = g13 ∨ G k) ⟨sa, sn, sk⟩ X) := ⟨fun k e f => by have h1 := hmn.1 k e; have h2 := hGd k f; omega, fun i hi k e f => by have h1 := hmn.2 i hi k e; have h2 := hGd k f; omega⟩
         have HK6 : Hid (TkRd wk39 ⟨sa, sn, sk⟩ (takeA m a (haveA q b bbs bes bls bp).b (haveA q b bbs bes bls bp).e (haveA q b bbs bes bls bp).l (haveA q b bbs bes bls bp).c ap).z (takeA m a (haveA q b bbs bes bls bp).b (haveA q b bbs bes bls bp).e (haveA q b bbs bes bls bp).l (haveA q b bbs bes bls bp).c ap).b (takeA m a (haveA q b bbs bes bls bp).b (haveA q b bbs bes bls bp).e (haveA q b bbs bes bls bp).l (haveA q b bbs bes bls bp).c ap).e (takeA m a (haveA q b bbs bes bls bp).b (haveA q b bbs bes bls bp).e (haveA q b bbs bes bls bp).l (haveA q b bbs bes bls bp).c ap).l X) := hm
         have HN6 : Hid (TkNew wk38.heap.size ⟨sa, sn, sk⟩ X) := hmn
         clear hk hm hmn HT HMm hGd
         generalize wk38.heap.size = dd at HN6 hg9
         have HK : Hid (TkRd wk39 ⟨sa, sn, sk⟩ (takeA m a (haveA q b bbs bes bls bp).b (haveA q b bbs bes bls bp).e (haveA q b bbs bes bls bp).l (haveA q b bbs bes bls bp).c ap).z (takeA m a (haveA q b bbs bes bls bp).b (haveA q b bbs bes bls bp).e (haveA q b bbs bes bls bp).l (haveA q b bbs bes bls bp).c ap).b (takeA m a (haveA q b bbs bes bls bp).b (haveA q b bbs bes bls bp).e (haveA q b bbs bes bls bp).l (haveA q b bbs bes bls bp).c ap).e (takeA m a (haveA q b bbs bes bls bp).b (haveA q b bbs bes bls bp).e (haveA q b bbs bes bls bp).l (haveA q b bbs bes bls bp).c ap).l X) := HK6.out
         clear HK6
         refine ⟨.tuple #[.slice sa sn sk, .agg (Mg.cells (takeA m a (haveA q b bbs bes bls bp).b (haveA q b bbs bes bls bp).e (haveA q b bbs bes bls bp).l (haveA q b bbs bes bls bp).c ap).m), .bool (takeA m a (haveA q b bbs bes bls bp).b (haveA q b bbs bes bls bp).e (haveA q b bbs bes bls bp).l (haveA q b bbs bes bls bp).c ap).o], rfl, hH2, fun hH => ?_⟩
         clear hH2
         try simp only [pS]
         refine aT (i := 7) (oi := oqHb8) (v := .tuple #[.slice sa sn sk, .agg (Mg.cells (takeA m a (haveA q b bbs bes bls bp).b (haveA q b bbs bes bls bp).e (haveA q b bbs bes bls bp).l (haveA q b bbs bes bls bp).c ap).m), .bool (takeA m a (haveA q b bbs bes bls bp).b (haveA q b bbs bes bls bp).e (haveA q b bbs bes bls bp).l (haveA q b bbs bes bls bp).c ap).o]) (fun _ _ => by kernel_rfl) hH ?_
         try simp only [pS]
         refine aT (i := 8) (oi := oqHb9) (v := .slice sa sn sk) (fun _ _ => by kernel_rfl) hH ?_
         try simp only [pS]
         refine aT (i := 9) (oi := oqHb10) (v := .agg (Mg.cells ((takeA m a (haveA q b bbs bes bls bp).b (haveA q b bbs bes bls bp).e (haveA q b bbs bes bls bp).l (haveA q b bbs bes bls bp).c ap).m))) (fun _ _ => by kernel_rfl) hH ?_
         try simp only [pS]
         refine aT (i := 10) (oi := oqHb11) (v := .bool (takeA m a (haveA q b bbs bes bls bp).b (haveA q b bbs bes bls bp).e (haveA q b bbs bes bls bp).l (haveA q b bbs bes bls bp).c ap).o) (fun _ _ => by kernel_rfl) hH ?_
         try simp only [pS]
         refine aT (i := 12) (oi := oqHb13) (v := .slice sa sn sk) (fun _ _ => by kernel_rfl) hH ?_
         try simp only [pS]
         refine any_store (i := 13) (o := oqHb14) (w' := wk39.setRow gk36 (Mg.cells ((takeA m a (haveA q b bbs bes bls bp).b (haveA q b bbs bes bls bp).e (haveA q b bbs bes bls bp).l (haveA q b bbs bes bls bp).c ap).m))) rfl (by kernel_rfl) (by kernel_rfl) 50 _ _ rfl ⟨gk36, 0, none⟩ (.agg (Mg.cells ((takeA m a (haveA q b bbs bes bls bp).b (haveA q b bbs bes bls bp).e (haveA q b bbs bes bls bp).l (haveA q b bbs bes bls bp).c ap).m))) (by kernel_rfl) (by kernel_rfl) (run_store_to (cur := Mg.cs mgZ) (vs := Mg.cs ((takeA m a (haveA q b bbs bes bls bp).b (haveA q b bbs bes bls bp).e (haveA q b bbs bes bls bp).l (haveA q b bbs bes bls bp).c ap).m)) (new := Mg.cs ((takeA m a (haveA q b bbs bes bls bp).b (haveA q b bbs bes bls bp).e (haveA q b bbs bes bls bp).l (haveA q b bbs bes bls bp).c ap).m)) (HF.out.box 5 _ _ _ rfl) (by kernel_rfl) Try.size50 (Nat.le_of_ble_eq_true (by kernel_rfl)) (Mg.oneL _) (by kernel_rfl)) (Fr.front (l := [(gk1, 23, Ky.cells k), (gk3, 35, Hd.cells a), (gk5, 35, Hd.cells b), (gk7, 35, Hd.cells hdZ), (g13, 50, Mg.cells q)]) (m := [(gk36, 50, Mg.cells ((takeA m a (haveA q b bbs bes bls bp).b (haveA q b bbs bes bls bp).e (haveA q b bbs bes bls bp).l (haveA q b bbs bes bls bp).c ap).m))]) (HF.out.set 5 rfl _)) (fun hH => ?_)
         try simp only [pS]
         have HK0 : Hid (Kept No wr (wk39.setRow gk36 (Mg.cells ((takeA m a (haveA q b bbs bes bls bp).b (haveA q b bbs bes bls bp).e (haveA q b bbs bes bls bp).l (haveA q b bbs bes bls bp).c ap).m)))) := HK0.out.newRow (by rw [HS0.out]; exact hgs) _
         have HK : Hid (TkRd (wk39.setRow gk36 (Mg.cells ((takeA m a (haveA q b bbs bes bls bp).b (haveA q b bbs bes bls bp).e (haveA q b bbs bes bls bp).l (haveA q b bbs bes bls bp).c ap).m))) ⟨sa, sn, sk⟩ (takeA m a (haveA q b bbs bes bls bp).b (haveA q b bbs bes bls bp).e (haveA q b bbs bes bls bp).l (haveA q b bbs bes bls bp).c ap).z (takeA m a (haveA q b bbs bes bls bp).b (haveA q b bbs bes bls bp).e (haveA q b bbs bes bls bp).l (haveA q b bbs bes bls bp).c ap).b (takeA m a (haveA q b bbs bes bls bp).b (haveA q b bbs bes bls bp).e (haveA q b bbs bes bls bp).l (haveA q b bbs bes bls bp).c ap).e (takeA m a (haveA q b bbs bes bls bp).b (haveA q b bbs bes bls bp).e (haveA q b bbs bes bls bp).l (haveA q b bbs bes bls bp).c ap).l X) := HK.out.kept HN6.out (Kept.setRow _ _ _) (fun k e => by have e : k = gk36 := e; omega)
         have HF : Hid (Fr No w _ [(gk1, 23, Ky.cells k), (gk3, 35, Hd.cells a), (gk5, 35, Hd.cells b), (gk7, 35, Hd.cells hdZ), (g13, 50, Mg.cells q), (gk36, 50, Mg.cells ((takeA m a (haveA q b bbs bes bls bp).b (haveA q b bbs bes bls bp).e (haveA q b bbs bes bls bp).l (haveA q b bbs bes bls bp).c ap).m))]) := HF.out.set 5 rfl _
         generalize wk39.setRow gk36 (Mg.cells ((takeA m a (haveA q b bbs bes bls bp).b (haveA q b bbs bes bls bp).e (haveA q b bbs bes bls bp).l (haveA q b bbs bes bls bp).c ap).m)) = wk40 at HF HK0 HK hH ⊢
         refine aT (i := 14) (oi := oqHb15) (v := .bool (takeA m a (haveA q b bbs bes bls bp).b (haveA q b bbs bes bls bp).e (haveA q b bbs bes bls bp).l (haveA q b bbs bes bls bp).c ap).o) (fun _ _ => by kernel_rfl) hH ?_
         try simp only [pS]
         refine wpAnyH_done (by kernel_rfl) ?_ _
         try simp only [pS]
         clear hH
         have HH : Hid (HdAt wk40 a ab ae al ap) := HHs.out.no HK0.out
         refine hK0 _ _ (Met.intro (hJ0 _ _ ?_))
         (repeat apply Exists.intro)
         refine ⟨?_, rfl⟩
         exact ⟨gk36, m, sa, sn, sk, X, rfl, rfl, rfl, HV, HK, HTO, HH, HF⟩
       ·skip
        clear hi
        refine step_run (i := 11) (o := oqHb12) rfl (by kernel_rfl) (exec_alloc 50 rfl (Mg.cells mgZ) zero50) (Fr.front (l := [(gk1, 23, Ky.cells k), (gk3, 35, Hd.cells a), (gk5, 35, Hd.cells b), (gk7, 35, Hd.cells hdZ), (g13, 50, Mg.cells q)]) (m := [_]) (hH.alloc _ _)) (fun hH => ?_)
        try simp only [pS]
        have hgs : s0 ≤ wk25.heap.size := by rw [← HS0.out]; exact HK0.out.size
        have HK0 : Hid (Kept No wr (wk25.alloc (.cells (Mg.cells mgZ) 50))) := HK0.out.no ((Kept.refl No _).alloc _)
        have HT : Hid (LtAt (wk25.alloc (.cells (Mg.cells mgZ) 50)) bb b bbs bes bls bp gb ge gl gp) := HT.out.no ((Kept.refl No _).alloc _)
        have HF : Hid (Fr No w _ [(gk1, 23, Ky.cells k), (gk3, 35, Hd.cells a), (gk5, 35, Hd.cells b), (gk7, 35, Hd.cells hdZ), (g13, 50, Mg.cells q), (wk25.heap.size, 50, Mg.cells mgZ)]) := HF.out.alloc _ _
        generalize wk25.alloc (.cells (Mg.cells mgZ) 50) = wk42 at HF HK0 HT hH ⊢
        generalize wk25.heap.size = gk41 at HF hgs ⊢
        refine any_call (i := 3) (o := oqHb5) rfl (by kernel_rfl) (by kernel_rfl) 17 #[.agg (Mg.cells q), .agg (Hd.cells (lentH b gb ge gl gp))] (by kernel_rfl) _ (have_any q b bbs bes bls bp gb ge gl gp bb _ (HB.out.no HF.out.kept) HT.out HMb.out) ?_
        rintro e wk43 ⟨m, rfl, hm, hmn, hk⟩
        have hH2 : Fr No w wk43 [(gk1, 23, Ky.cells k), (gk3, 35, Hd.cells a), (gk5, 35, Hd.cells b), (gk7, 35, Hd.cells hdZ), (g13, 50, Mg.cells q)] := hH.no hk
        have HK0 : Hid (Kept No wr (wk43)) := HK0.out.no hk
        have HF : Hid (Fr No w (wk43) [(gk1, 23, Ky.cells k), (gk3, 35, Hd.cells a), (gk5, 35, Hd.cells b), (gk7, 35, Hd.cells hdZ), (g13, 50, Mg.cells q), (gk41, 50, Mg.cells mgZ)]) := HF.out.no hk
        have HMm : Hid (MgRd wk43 m (haveA q b bbs bes bls bp)) := hm
        have HV : Hid (∃ V, MgRd V m (haveA q b bbs bes bls bp)) := ⟨_, hm⟩
        clear hk hm hmn HT
        refine ⟨.agg (Mg.cells m), rfl, hH2, fun hH => ?_⟩
        clear hH2
        try simp only [pS]
        refine any_call (i := 5) (o := oqHb6) rfl (by kernel_rfl) (by kernel_rfl) 11 #[.agg (Hd.cells a)] (by kernel_rfl) _ (lend_any a ab ae al ap _ (HHs.out.no HK0.out)) ?_
        rintro e wk44 ⟨gb, ge, gl, gp, rfl, hT, hk⟩
        have hH2 : Fr No w wk44 [(gk1, 23, Ky.cells k), (gk3, 35, Hd.cells a), (gk5, 35, Hd.cells b), (gk7, 35, Hd.cells hdZ), (g13, 50, Mg.cells q)] := hH.no hk
        have HK0 : Hid (Kept No wr (wk44)) := HK0.out.no hk
        have HMm : Hid (MgRd (wk44) m (haveA q b bbs bes bls bp)) := HMm.out.no hk
        have HF : Hid (Fr No w (wk44) [(gk1, 23, Ky.cells k), (gk3, 35, Hd.cells a), (gk5, 35, Hd.cells b), (gk7, 35, Hd.cells hdZ), (g13, 50, Mg.cells q), (gk41, 50, Mg.cells mgZ)]) := HF.out.no hk
        have HT : Hid (LtAt wk44 wk43.heap.size a ab ae al ap gb ge gl gp) := hT
        clear hk hT
        generalize wk43.heap.size = bb at HT
        refine ⟨.agg (Hd.cells (lentH a gb ge gl gp)), rfl, hH2, fun hH => ?_⟩
        clear hH2
        try simp only [pS]
        refine any_call (i := 6) (o := oqHb7) rfl (by kernel_rfl) (by kernel_rfl) 21 #[.agg (Mg.cells m), .agg (Hd.cells (lentH a gb ge gl gp))] (by kernel_rfl) _ (take_gen m a (haveA q b bbs bes bls bp).b (haveA q b bbs bes bls bp).e (haveA q b bbs bes bls bp).l (haveA q b bbs bes bls bp).c ab ae al ap gb ge gl gp bb _ (HMm.out.at (by omega) (by omega) (by omega) (by omega)) (HHs.out.no HK0.out) HT.out HW.out.may) ?_
        have hGd : ∀ k, (fun k => k = gk3 ∨ k = gk7 ∨ k = g13 ∨ G k) k → k < wk44.heap.size := (by rintro k (e | e | e | e); rw [e]; exact (HF.out.box 1 _ _ _ rfl).lt; rw [e]; exact (HF.out.box 3 _ _ _ rfl).lt; rw [e]; exact (HF.out.box 4 _ _ _ rfl).lt; exact Nat.lt_of_lt_of_le (HGw.out k e) HF.out.kept.size)
        have hg9 : gk41 < wk44.heap.size := (HF.out.box 5 _ _ _ rfl).lt
        rintro e wk45 ⟨⟨sa, sn, sk⟩, X, rfl, hm, hmn, hk⟩
        have hH2 : Fr No w wk45 [(gk1, 23, Ky.cells k), (gk3, 35, Hd.cells a), (gk5, 35, Hd.cells b), (gk7, 35, Hd.cells hdZ), (g13, 50, Mg.cells q)] := hH.no hk
        have HK0 : Hid (Kept No wr (wk45)) := HK0.out.no hk
        have HF : Hid (Fr No w (wk45) [(gk1, 23, Ky.cells k), (gk3, 35, Hd.cells a), (gk5, 35, Hd.cells b), (gk7, 35, Hd.cells hdZ), (g13, 50, Mg.cells q), (gk41, 50, Mg.cells mgZ)]) := HF.out.no hk
        have HTO : Hid (TkOff (fun k => k = gk3 ∨ k = gk7 ∨ k = g13 ∨ G k) ⟨sa, sn, sk⟩ X) := ⟨fun k e f => by have h1 := hmn.1 k e; have h2 := hGd k f; omega, fun i hi k e f => by have h1 := hmn.2 i hi k e; have h2 := hGd k f; omega⟩
        have HK6 : Hid (TkRd wk45 ⟨sa, sn, sk⟩ (takeA m a (haveA q b bbs bes bls bp).b (haveA q b bbs bes bls bp).e (haveA q b bbs bes bls bp).l (haveA q b bbs bes bls bp).c ap).z (takeA m a (haveA q b bbs bes bls bp).b (haveA q b bbs bes bls bp).e (haveA q b bbs bes bls bp).l (haveA q b bbs bes bls bp).c ap).b (takeA m a (haveA q b bbs bes bls bp).b (haveA q b bbs bes bls bp).e (haveA q b bbs bes bls bp).l (haveA q b bbs bes bls bp).c ap).e (takeA m a (haveA q b bbs bes bls bp).b (haveA q b bbs bes bls bp).e (haveA q b bbs bes bls bp).l (haveA q b bbs bes bls bp).c ap).l X) := hm
        have HN6 : Hid (TkNew wk44.heap.size ⟨sa, sn, sk⟩ X) := hmn
        clear hk hm hmn HT HMm hGd
        generalize wk44.heap.size = dd at HN6 hg9
        have HK : Hid (TkRd wk45 ⟨sa, sn, sk⟩ (takeA m a (haveA q b bbs bes bls bp).b (haveA q b bbs bes bls bp).e (haveA q b bbs bes bls bp).l (haveA q b bbs bes bls bp).c ap).z (takeA m a (haveA q b bbs bes bls bp).b (haveA q b bbs bes bls bp).e (haveA q b bbs bes bls bp).l (haveA q b bbs bes bls bp).c ap).b (takeA m a (haveA q b bbs bes bls bp).b (haveA q b bbs bes bls bp).e (haveA q b bbs bes bls bp).l (haveA q b bbs bes bls bp).c ap).e (takeA m a (haveA q b bbs bes bls bp).b (haveA q b bbs bes bls bp).e (haveA q b bbs bes bls bp).l (haveA q b bbs bes bls bp).c ap).l X) := HK6.out
        clear HK6
        refine ⟨.tuple #[.slice sa sn sk, .agg (Mg.cells (takeA m a (haveA q b bbs bes bls bp).b (haveA q b bbs bes bls bp).e (haveA q b bbs bes bls bp).l (haveA q b bbs bes bls bp).c ap).m), .bool (takeA m a (haveA q b bbs bes bls bp).b (haveA q b bbs bes bls bp).e (haveA q b bbs bes bls bp).l (haveA q b bbs bes bls bp).c ap).o], rfl, hH2, fun hH => ?_⟩
        clear hH2
        try simp only [pS]
        refine aT (i := 7) (oi := oqHb8) (v := .tuple #[.slice sa sn sk, .agg (Mg.cells (takeA m a (haveA q b bbs bes bls bp).b (haveA q b bbs bes bls bp).e (haveA q b bbs bes bls bp).l (haveA q b bbs bes bls bp).c ap).m), .bool (takeA m a (haveA q b bbs bes bls bp).b (haveA q b bbs bes bls bp).e (haveA q b bbs bes bls bp).l (haveA q b bbs bes bls bp).c ap).o]) (fun _ _ => by kernel_rfl) hH ?_
        try simp only [pS]
        refine aT (i := 8) (oi := oqHb9) (v := .slice sa sn sk) (fun _ _ => by kernel_rfl) hH ?_
        try simp only [pS]
        refine aT (i := 9) (oi := oqHb10) (v := .agg (Mg.cells ((takeA m a (haveA q b bbs bes bls bp).b (haveA q b bbs bes bls bp).e (haveA q b bbs bes bls bp).l (haveA q b bbs bes bls bp).c ap).m))) (fun _ _ => by kernel_rfl) hH ?_
        try simp only [pS]
        refine aT (i := 10) (oi := oqHb11) (v := .bool (takeA m a (haveA q b bbs bes bls bp).b (haveA q b bbs bes bls bp).e (haveA q b bbs bes bls bp).l (haveA q b bbs bes bls bp).c ap).o) (fun _ _ => by kernel_rfl) hH ?_
        try simp only [pS]
        refine aT (i := 12) (oi := oqHb13) (v := .slice sa sn sk) (fun _ _ => by kernel_rfl) hH ?_
        try simp only [pS]
        refine any_store (i := 13) (o := oqHb14) (w' := wk45.setRow gk41 (Mg.cells ((takeA m a (haveA q b bbs bes bls bp).b (haveA q b bbs bes bls bp).e (haveA q b bbs bes bls bp).l (haveA q b bbs bes bls bp).c ap).m))) rfl (by kernel_rfl) (by kernel_rfl) 50 _ _ rfl ⟨gk41, 0, none⟩ (.agg (Mg.cells ((takeA m a (haveA q b bbs bes bls bp).b (haveA q b bbs bes bls bp).e (haveA q b bbs bes bls bp).l (haveA q b bbs bes bls bp).c ap).m))) (by kernel_rfl) (by kernel_rfl) (run_store_to (cur := Mg.cs mgZ) (vs := Mg.cs ((takeA m a (haveA q b bbs bes bls bp).b (haveA q b bbs bes bls bp).e (haveA q b bbs bes bls bp).l (haveA q b bbs bes bls bp).c ap).m)) (new := Mg.cs ((takeA m a (haveA q b bbs bes bls bp).b (haveA q b bbs bes bls bp).e (haveA q b bbs bes bls bp).l (haveA q b bbs bes bls bp).c ap).m)) (HF.out.box 5 _ _ _ rfl) (by kernel_rfl) Try.size50 (Nat.le_of_ble_eq_true (by kernel_rfl)) (Mg.oneL _) (by kernel_rfl)) (Fr.front (l := [(gk1, 23, Ky.cells k), (gk3, 35, Hd.cells a), (gk5, 35, Hd.cells b), (gk7, 35, Hd.cells hdZ), (g13, 50, Mg.cells q)]) (m := [(gk41, 50, Mg.cells ((takeA m a (haveA q b bbs bes bls bp).b (haveA q b bbs bes bls bp).e (haveA q b bbs bes bls bp).l (haveA q b bbs bes bls bp).c ap).m))]) (HF.out.set 5 rfl _)) (fun hH => ?_)
        try simp only [pS]
        have HK0 : Hid (Kept No wr (wk45.setRow gk41 (Mg.cells ((takeA m a (haveA q b bbs bes bls bp).b (haveA q b bbs bes bls bp).e (haveA q b bbs bes bls bp).l (haveA q b bbs bes bls bp).c ap).m)))) := HK0.out.newRow (by rw [HS0.out]; exact hgs) _
        have HK : Hid (TkRd (wk45.setRow gk41 (Mg.cells ((takeA m a (haveA q b bbs bes bls bp).b (haveA q b bbs bes bls bp).e (haveA q b bbs bes bls bp).l (haveA q b bbs bes bls bp).c ap).m))) ⟨sa, sn, sk⟩ (takeA m a (haveA q b bbs bes bls bp).b (haveA q b bbs bes bls bp).e (haveA q b bbs bes bls bp).l (haveA q b bbs bes bls bp).c ap).z (takeA m a (haveA q b bbs bes bls bp).b (haveA q b bbs bes bls bp).e (haveA q b bbs bes bls bp).l (haveA q b bbs bes bls bp).c ap).b (takeA m a (haveA q b bbs bes bls bp).b (haveA q b bbs bes bls bp).e (haveA q b bbs bes bls bp).l (haveA q b bbs bes bls bp).c ap).e (takeA m a (haveA q b bbs bes bls bp).b (haveA q b bbs bes bls bp).e (haveA q b bbs bes bls bp).l (haveA q b bbs bes bls bp).c ap).l X) := HK.out.kept HN6.out (Kept.setRow _ _ _) (fun k e => by have e : k = gk41 := e; omega)
        have HF : Hid (Fr No w _ [(gk1, 23, Ky.cells k), (gk3, 35, Hd.cells a), (gk5, 35, Hd.cells b), (gk7, 35, Hd.cells hdZ), (g13, 50, Mg.cells q), (gk41, 50, Mg.cells ((takeA m a (haveA q b bbs bes bls bp).b (haveA q b bbs bes bls bp).e (haveA q b bbs bes bls bp).l (haveA q b bbs bes bls bp).c ap).m))]) := HF.out.set 5 rfl _
        generalize wk45.setRow gk41 (Mg.cells ((takeA m a (haveA q b bbs bes bls bp).b (haveA q b bbs bes bls bp).e (haveA q b bbs bes bls bp).l (haveA q b bbs bes bls bp).c ap).m)) = wk46 at HF HK0 HK hH ⊢
        refine aT (i := 14) (oi := oqHb15) (v := .bool (takeA m a (haveA q b bbs bes bls bp).b (haveA q b bbs bes bls bp).e (haveA q b bbs bes bls bp).l (haveA q b bbs bes bls bp).c ap).o) (fun _ _ => by kernel_rfl) hH ?_
        try simp only [pS]
        refine wpAnyH_done (by kernel_rfl) ?_ _
        try simp only [pS]
        clear hH
        have HH : Hid (HdAt wk46 a ab ae al ap) := HHs.out.no HK0.out
        refine hK0 _ _ (Met.intro (hJ0 _ _ ?_))
        (repeat apply Exists.intro)
        refine ⟨?_, rfl⟩
        exact ⟨gk41, m, sa, sn, sk, X, rfl, rfl, rfl, HV, HK, HTO, HH, HF⟩
      ·skip
       clear hi
       refine step_run (i := 11) (o := oqHb12) rfl (by kernel_rfl) (exec_alloc 50 rfl (Mg.cells mgZ) zero50) (Fr.front (l := [(gk1, 23, Ky.cells k), (gk3, 35, Hd.cells a), (gk5, 35, Hd.cells b), (gk7, 35, Hd.cells hdZ), (g13, 50, Mg.cells q)]) (m := [_]) (hH.alloc _ _)) (fun hH => ?_)
       try simp only [pS]
       have hgs : s0 ≤ wk24.heap.size := by rw [← HS0.out]; exact HK0.out.size
       have HK0 : Hid (Kept No wr (wk24.alloc (.cells (Mg.cells mgZ) 50))) := HK0.out.no ((Kept.refl No _).alloc _)
       have HF : Hid (Fr No w _ [(gk1, 23, Ky.cells k), (gk3, 35, Hd.cells a), (gk5, 35, Hd.cells b), (gk7, 35, Hd.cells hdZ), (g13, 50, Mg.cells q), (wk24.heap.size, 50, Mg.cells mgZ)]) := HF.out.alloc _ _
       generalize wk24.alloc (.cells (Mg.cells mgZ) 50) = wk48 at HF HK0 hH ⊢
       generalize wk24.heap.size = gk47 at HF hgs ⊢
       refine any_call (i := 2) (o := oqHb4) rfl (by kernel_rfl) (by kernel_rfl) 11 #[.agg (Hd.cells b)] (by kernel_rfl) _ (lend_any b bbs bes bls bp _ (HB.out.no HF.out.kept)) ?_
       rintro e wk49 ⟨gb, ge, gl, gp, rfl, hT, hk⟩
       have hH2 : Fr No w wk49 [(gk1, 23, Ky.cells k), (gk3, 35, Hd.cells a), (gk5, 35, Hd.cells b), (gk7, 35, Hd.cells hdZ), (g13, 50, Mg.cells q)] := hH.no hk
       have HK0 : Hid (Kept No wr (wk49)) := HK0.out.no hk
       have HF : Hid (Fr No w (wk49) [(gk1, 23, Ky.cells k), (gk3, 35, Hd.cells a), (gk5, 35, Hd.cells b), (gk7, 35, Hd.cells hdZ), (g13, 50, Mg.cells q), (gk47, 50, Mg.cells mgZ)]) := HF.out.no hk
       have HT : Hid (LtAt wk49 wk48.heap.size b bbs bes bls bp gb ge gl gp) := hT
       clear hk hT
       generalize wk48.heap.size = bb at HT
       refine ⟨.agg (Hd.cells (lentH b gb ge gl gp)), rfl, hH2, fun hH => ?_⟩
       clear hH2
       try simp only [pS]
       refine any_call (i := 3) (o := oqHb5) rfl (by kernel_rfl) (by kernel_rfl) 17 #[.agg (Mg.cells q), .agg (Hd.cells (lentH b gb ge gl gp))] (by kernel_rfl) _ (have_any q b bbs bes bls bp gb ge gl gp bb _ (HB.out.no HF.out.kept) HT.out HMb.out) ?_
       rintro e wk50 ⟨m, rfl, hm, hmn, hk⟩
       have hH2 : Fr No w wk50 [(gk1, 23, Ky.cells k), (gk3, 35, Hd.cells a), (gk5, 35, Hd.cells b), (gk7, 35, Hd.cells hdZ), (g13, 50, Mg.cells q)] := hH.no hk
       have HK0 : Hid (Kept No wr (wk50)) := HK0.out.no hk
       have HF : Hid (Fr No w (wk50) [(gk1, 23, Ky.cells k), (gk3, 35, Hd.cells a), (gk5, 35, Hd.cells b), (gk7, 35, Hd.cells hdZ), (g13, 50, Mg.cells q), (gk47, 50, Mg.cells mgZ)]) := HF.out.no hk
       have HMm : Hid (MgRd wk50 m (haveA q b bbs bes bls bp)) := hm
       have HV : Hid (∃ V, MgRd V m (haveA q b bbs bes bls bp)) := ⟨_, hm⟩
       clear hk hm hmn HT
       refine ⟨.agg (Mg.cells m), rfl, hH2, fun hH => ?_⟩
       clear hH2
       try simp only [pS]
       refine any_call (i := 5) (o := oqHb6) rfl (by kernel_rfl) (by kernel_rfl) 11 #[.agg (Hd.cells a)] (by kernel_rfl) _ (lend_any a ab ae al ap _ (HHs.out.no HK0.out)) ?_
       rintro e wk51 ⟨gb, ge, gl, gp, rfl, hT, hk⟩
       have hH2 : Fr No w wk51 [(gk1, 23, Ky.cells k), (gk3, 35, Hd.cells a), (gk5, 35, Hd.cells b), (gk7, 35, Hd.cells hdZ), (g13, 50, Mg.cells q)] := hH.no hk
       have HK0 : Hid (Kept No wr (wk51)) := HK0.out.no hk
       have HMm : Hid (MgRd (wk51) m (haveA q b bbs bes bls bp)) := HMm.out.no hk
       have HF : Hid (Fr No w (wk51) [(gk1, 23, Ky.cells k), (gk3, 35, Hd.cells a), (gk5, 35, Hd.cells b), (gk7, 35, Hd.cells hdZ), (g13, 50, Mg.cells q), (gk47, 50, Mg.cells mgZ)]) := HF.out.no hk
       have HT : Hid (LtAt wk51 wk50.heap.size a ab ae al ap gb ge gl gp) := hT
       clear hk hT
       generalize wk50.heap.size = bb at HT
       refine ⟨.agg (Hd.cells (lentH a gb ge gl gp)), rfl, hH2, fun hH => ?_⟩
       clear hH2
       try simp only [pS]
       refine any_call (i := 6) (o := oqHb7) rfl (by kernel_rfl) (by kernel_rfl) 21 #[.agg (Mg.cells m), .agg (Hd.cells (lentH a gb ge gl gp))] (by kernel_rfl) _ (take_gen m a (haveA q b bbs bes bls bp).b (haveA q b bbs bes bls bp).e (haveA q b bbs bes bls bp).l (haveA q b bbs bes bls bp).c ab ae al ap gb ge gl gp bb _ (HMm.out.at (by omega) (by omega) (by omega) (by omega)) (HHs.out.no HK0.out) HT.out HW.out.may) ?_
       have hGd : ∀ k, (fun k => k = gk3 ∨ k = gk7 ∨ k = g13 ∨ G k) k → k < wk51.heap.size := (by rintro k (e | e | e | e); rw [e]; exact (HF.out.box 1 _ _ _ rfl).lt; rw [e]; exact (HF.out.box 3 _ _ _ rfl).lt; rw [e]; exact (HF.out.box 4 _ _ _ rfl).lt; exact Nat.lt_of_lt_of_le (HGw.out k e) HF.out.kept.size)
       have hg9 : gk47 < wk51.heap.size := (HF.out.box 5 _ _ _ rfl).lt
       rintro e wk52 ⟨⟨sa, sn, sk⟩, X, rfl, hm, hmn, hk⟩
       have hH2 : Fr No w wk52 [(gk1, 23, Ky.cells k), (gk3, 35, Hd.cells a), (gk5, 35, Hd.cells b), (gk7, 35, Hd.cells hdZ), (g13, 50, Mg.cells q)] := hH.no hk
       have HK0 : Hid (Kept No wr (wk52)) := HK0.out.no hk
       have HF : Hid (Fr No w (wk52) [(gk1, 23, Ky.cells k), (gk3, 35, Hd.cells a), (gk5, 35, Hd.cells b), (gk7, 35, Hd.cells hdZ), (g13, 50, Mg.cells q), (gk47, 50, Mg.cells mgZ)]) := HF.out.no hk
       have HTO : Hid (TkOff (fun k => k = gk3 ∨ k = gk7 ∨ k = g13 ∨ G k) ⟨sa, sn, sk⟩ X) := ⟨fun k e f => by have h1 := hmn.1 k e; have h2 := hGd k f; omega, fun i hi k e f => by have h1 := hmn.2 i hi k e; have h2 := hGd k f; omega⟩
       have HK6 : Hid (TkRd wk52 ⟨sa, sn, sk⟩ (takeA m a (haveA q b bbs bes bls bp).b (haveA q b bbs bes bls bp).e (haveA q b bbs bes bls bp).l (haveA q b bbs bes bls bp).c ap).z (takeA m a (haveA q b bbs bes bls bp).b (haveA q b bbs bes bls bp).e (haveA q b bbs bes bls bp).l (haveA q b bbs bes bls bp).c ap).b (takeA m a (haveA q b bbs bes bls bp).b (haveA q b bbs bes bls bp).e (haveA q b bbs bes bls bp).l (haveA q b bbs bes bls bp).c ap).e (takeA m a (haveA q b bbs bes bls bp).b (haveA q b bbs bes bls bp).e (haveA q b bbs bes bls bp).l (haveA q b bbs bes bls bp).c ap).l X) := hm
       have HN6 : Hid (TkNew wk51.heap.size ⟨sa, sn, sk⟩ X) := hmn
       clear hk hm hmn HT HMm hGd
       generalize wk51.heap.size = dd at HN6 hg9
       have HK : Hid (TkRd wk52 ⟨sa, sn, sk⟩ (takeA m a (haveA q b bbs bes bls bp).b (haveA q b bbs bes bls bp).e (haveA q b bbs bes bls bp).l (haveA q b bbs bes bls bp).c ap).z (takeA m a (haveA q b bbs bes bls bp).b (haveA q b bbs bes bls bp).e (haveA q b bbs bes bls bp).l (haveA q b bbs bes bls bp).c ap).b (takeA m a (haveA q b bbs bes bls bp).b (haveA q b bbs bes bls bp).e (haveA q b bbs bes bls bp).l (haveA q b bbs bes bls bp).c ap).e (takeA m a (haveA q b bbs bes bls bp).b (haveA q b bbs bes bls bp).e (haveA q b bbs bes bls bp).l (haveA q b bbs bes bls bp).c ap).l X) := HK6.out
       clear HK6
       refine ⟨.tuple #[.slice sa sn sk, .agg (Mg.cells (takeA m a (haveA q b bbs bes bls bp).b (haveA q b bbs bes bls bp).e (haveA q b bbs bes bls bp).l (haveA q b bbs bes bls bp).c ap).m), .bool (takeA m a (haveA q b bbs bes bls bp).b (haveA q b bbs bes bls bp).e (haveA q b bbs bes bls bp).l (haveA q b bbs bes bls bp).c ap).o], rfl, hH2, fun hH => ?_⟩
       clear hH2
       try simp only [pS]
       refine aT (i := 7) (oi := oqHb8) (v := .tuple #[.slice sa sn sk, .agg (Mg.cells (takeA m a (haveA q b bbs bes bls bp).b (haveA q b bbs bes bls bp).e (haveA q b bbs bes bls bp).l (haveA q b bbs bes bls bp).c ap).m), .bool (takeA m a (haveA q b bbs bes bls bp).b (haveA q b bbs bes bls bp).e (haveA q b bbs bes bls bp).l (haveA q b bbs bes bls bp).c ap).o]) (fun _ _ => by kernel_rfl) hH ?_
       try simp only [pS]
       refine aT (i := 8) (oi := oqHb9) (v := .slice sa sn sk) (fun _ _ => by kernel_rfl) hH ?_
       try simp only [pS]
       refine aT (i := 9) (oi := oqHb10) (v := .agg (Mg.cells ((takeA m a (haveA q b bbs bes bls bp).b (haveA q b bbs bes bls bp).e (haveA q b bbs bes bls bp).l (haveA q b bbs bes bls bp).c ap).m))) (fun _ _ => by kernel_rfl) hH ?_
       try simp only [pS]
       refine aT (i := 10) (oi := oqHb11) (v := .bool (takeA m a (haveA q b bbs bes bls bp).b (haveA q b bbs bes bls bp).e (haveA q b bbs bes bls bp).l (haveA q b bbs bes bls bp).c ap).o) (fun _ _ => by kernel_rfl) hH ?_
       try simp only [pS]
       refine aT (i := 12) (oi := oqHb13) (v := .slice sa sn sk) (fun _ _ => by kernel_rfl) hH ?_
       try simp only [pS]
       refine any_store (i := 13) (o := oqHb14) (w' := wk52.setRow gk47 (Mg.cells ((takeA m a (haveA q b bbs bes bls bp).b (haveA q b bbs bes bls bp).e (haveA q b bbs bes bls bp).l (haveA q b bbs bes bls bp).c ap).m))) rfl (by kernel_rfl) (by kernel_rfl) 50 _ _ rfl ⟨gk47, 0, none⟩ (.agg (Mg.cells ((takeA m a (haveA q b bbs bes bls bp).b (haveA q b bbs bes bls bp).e (haveA q b bbs bes bls bp).l (haveA q b bbs bes bls bp).c ap).m))) (by kernel_rfl) (by kernel_rfl) (run_store_to (cur := Mg.cs mgZ) (vs := Mg.cs ((takeA m a (haveA q b bbs bes bls bp).b (haveA q b bbs bes bls bp).e (haveA q b bbs bes bls bp).l (haveA q b bbs bes bls bp).c ap).m)) (new := Mg.cs ((takeA m a (haveA q b bbs bes bls bp).b (haveA q b bbs bes bls bp).e (haveA q b bbs bes bls bp).l (haveA q b bbs bes bls bp).c ap).m)) (HF.out.box 5 _ _ _ rfl) (by kernel_rfl) Try.size50 (Nat.le_of_ble_eq_true (by kernel_rfl)) (Mg.oneL _) (by kernel_rfl)) (Fr.front (l := [(gk1, 23, Ky.cells k), (gk3, 35, Hd.cells a), (gk5, 35, Hd.cells b), (gk7, 35, Hd.cells hdZ), (g13, 50, Mg.cells q)]) (m := [(gk47, 50, Mg.cells ((takeA m a (haveA q b bbs bes bls bp).b (haveA q b bbs bes bls bp).e (haveA q b bbs bes bls bp).l (haveA q b bbs bes bls bp).c ap).m))]) (HF.out.set 5 rfl _)) (fun hH => ?_)
       try simp only [pS]
       have HK0 : Hid (Kept No wr (wk52.setRow gk47 (Mg.cells ((takeA m a (haveA q b bbs bes bls bp).b (haveA q b bbs bes bls bp).e (haveA q b bbs bes bls bp).l (haveA q b bbs bes bls bp).c ap).m)))) := HK0.out.newRow (by rw [HS0.out]; exact hgs) _
       have HK : Hid (TkRd (wk52.setRow gk47 (Mg.cells ((takeA m a (haveA q b bbs bes bls bp).b (haveA q b bbs bes bls bp).e (haveA q b bbs bes bls bp).l (haveA q b bbs bes bls bp).c ap).m))) ⟨sa, sn, sk⟩ (takeA m a (haveA q b bbs bes bls bp).b (haveA q b bbs bes bls bp).e (haveA q b bbs bes bls bp).l (haveA q b bbs bes bls bp).c ap).z (takeA m a (haveA q b bbs bes bls bp).b (haveA q b bbs bes bls bp).e (haveA q b bbs bes bls bp).l (haveA q b bbs bes bls bp).c ap).b (takeA m a (haveA q b bbs bes bls bp).b (haveA q b bbs bes bls bp).e (haveA q b bbs bes bls bp).l (haveA q b bbs bes bls bp).c ap).e (takeA m a (haveA q b bbs bes bls bp).b (haveA q b bbs bes bls bp).e (haveA q b bbs bes bls bp).l (haveA q b bbs bes bls bp).c ap).l X) := HK.out.kept HN6.out (Kept.setRow _ _ _) (fun k e => by have e : k = gk47 := e; omega)
       have HF : Hid (Fr No w _ [(gk1, 23, Ky.cells k), (gk3, 35, Hd.cells a), (gk5, 35, Hd.cells b), (gk7, 35, Hd.cells hdZ), (g13, 50, Mg.cells q), (gk47, 50, Mg.cells ((takeA m a (haveA q b bbs bes bls bp).b (haveA q b bbs bes bls bp).e (haveA q b bbs bes bls bp).l (haveA q b bbs bes bls bp).c ap).m))]) := HF.out.set 5 rfl _
       generalize wk52.setRow gk47 (Mg.cells ((takeA m a (haveA q b bbs bes bls bp).b (haveA q b bbs bes bls bp).e (haveA q b bbs bes bls bp).l (haveA q b bbs bes bls bp).c ap).m)) = wk53 at HF HK0 HK hH ⊢
       refine aT (i := 14) (oi := oqHb15) (v := .bool (takeA m a (haveA q b bbs bes bls bp).b (haveA q b bbs bes bls bp).e (haveA q b bbs bes bls bp).l (haveA q b bbs bes bls bp).c ap).o) (fun _ _ => by kernel_rfl) hH ?_
       try simp only [pS]
       refine wpAnyH_done (by kernel_rfl) ?_ _
       try simp only [pS]
       clear hH
       have HH : Hid (HdAt wk53 a ab ae al ap) := HHs.out.no HK0.out
       refine hK0 _ _ (Met.intro (hJ0 _ _ ?_))
       (repeat apply Exists.intro)
       refine ⟨?_, rfl⟩
       exact ⟨gk47, m, sa, sn, sk, X, rfl, rfl, rfl, HV, HK, HTO, HH, HF⟩
     case rest =>
      clear HF HH
      obtain ⟨g16, m, sa, sn, sk, X, rfl, rfl, rfl, HV, HK, HTO, HH, HF⟩ := hcut
      have hvb := hv_b q b bbs bes bls bp
      have hS : StepW q a b ap bp ⟨sa, sn, sk⟩ X (takeA m a (haveA q b bbs bes bls bp).b (haveA q b bbs bes bls bp).e (haveA q b bbs bes bls bp).l (haveA q b bbs bes bls bp).c ap) := by
        obtain ⟨V, hV⟩ := HV.out
        exact step_kn q a b ab ae al bbs bes bls ap bp m _ V ⟨sa, sn, sk⟩ X (haveA q b bbs bes bls bp) (takeA m a (haveA q b bbs bes bls bp).b (haveA q b bbs bes bls bp).e (haveA q b bbs bes bls bp).l (haveA q b bbs bes bls bp).c ap) HW.out HWb.out HQ.out.k (by rw [HQ.out.y]; exact HQ.out.n) (fun e => HQ.out.cv (by rw [← HQ.out.y]; exact e)) rfl rfl hV HK.out
      have HS9 : Hid (StepW q a b ap bp ⟨sa, sn, sk⟩ X (takeA m a (haveA q b bbs bes bls bp).b (haveA q b bbs bes bls bp).e (haveA q b bbs bes bls bp).l (haveA q b bbs bes bls bp).c ap)) := hS
      have hIn0 : InW a ap X sn (takeA m a (haveA q b bbs bes bls bp).b (haveA q b bbs bes bls bp).e (haveA q b bbs bes bls bp).l (haveA q b bbs bes bls bp).c ap).b (takeA m a (haveA q b bbs bes bls bp).b (haveA q b bbs bes bls bp).e (haveA q b bbs bes bls bp).l (haveA q b bbs bes bls bp).c ap).e (takeA m a (haveA q b bbs bes bls bp).b (haveA q b bbs bes bls bp).e (haveA q b bbs bes bls bp).l (haveA q b bbs bes bls bp).c ap).l 0 a ap := InW.start hS.ls
      have hBd : (takeA m a (haveA q b bbs bes bls bp).b (haveA q b bbs bes bls bp).e (haveA q b bbs bes bls bp).l (haveA q b bbs bes bls bp).c ap).b.length ≤ 140737488351232 ∧ (takeA m a (haveA q b bbs bes bls bp).b (haveA q b bbs bes bls bp).e (haveA q b bbs bes bls bp).l (haveA q b bbs bes bls bp).c ap).e.length ≤ 3518437208780 ∧ (takeA m a (haveA q b bbs bes bls bp).b (haveA q b bbs bes bls bp).e (haveA q b bbs bes bls bp).l (haveA q b bbs bes bls bp).c ap).l.length ≤ 2513169434843 := tk_b m a (haveA q b bbs bes bls bp).b (haveA q b bbs bes bls bp).e (haveA q b bbs bes bls bp).l (haveA q b bbs bes bls bp).c ap (by omega) (by omega) (by omega)
      have hsn4 : sn ≤ 4000000000000 := by
        obtain ⟨V, hV⟩ := HV.out
        have hLn := tk_len m a (haveA q b bbs bes bls bp).b (haveA q b bbs bes bls bp).e (haveA q b bbs bes bls bp).l (haveA q b bbs bes bls bp).c ap (by rw [← hV.c.len]; omega) (by omega) (by omega)
        rw [← (show (takeA m a (haveA q b bbs bes bls bp).b (haveA q b bbs bes bls bp).e (haveA q b bbs bes bls bp).l (haveA q b bbs bes bls bp).c ap).z.length = sn from HK.out.zl)]; exact hLn.1
      have HHa : Hid (ap.length = a.r.l) := HH.out.p.len
      have HHs : Hid (HdAt wc a ab ae al ap) := HH
      have HKs : Hid (TkRd wc ⟨sa, sn, sk⟩ (takeA m a (haveA q b bbs bes bls bp).b (haveA q b bbs bes bls bp).e (haveA q b bbs bes bls bp).l (haveA q b bbs bes bls bp).c ap).z (takeA m a (haveA q b bbs bes bls bp).b (haveA q b bbs bes bls bp).e (haveA q b bbs bes bls bp).l (haveA q b bbs bes bls bp).c ap).b (takeA m a (haveA q b bbs bes bls bp).b (haveA q b bbs bes bls bp).e (haveA q b bbs bes bls bp).l (haveA q b bbs bes bls bp).c ap).e (takeA m a (haveA q b bbs bes bls bp).b (haveA q b bbs bes bls bp).e (haveA q b bbs bes bls bp).l (haveA q b bbs bes bls bp).c ap).l X) := HK
      clear hS HV hvb HH HK
      have HK0 : Hid (Kept No wc wc) := Kept.refl _ _
      obtain ⟨s0, hs0⟩ : ∃ n, wc.heap.size = n := ⟨_, rfl⟩
      have HS0 : Hid (wc.heap.size = s0) := hs0
      clear hs0
      go_upto_region 6 with fail
      refine WL.start ?_
      refine tW (.agg (Hd.cells a)) (eL 35 _ rfl ⟨gk3, 0, none⟩ (run_load_part (cs := Hd.cs a) (sub := Hd.cs a) (HF.out.box 1 _ _ _ rfl) (Part.all _) Try.und35 rfl Try.size35)) ?_
      try simp only [pS]
      refine wp_runW (.pointer (some ⟨wc.heap.size, 0, none⟩)) (wc.alloc (.cells (Hd.cells hdZ) 35)) (exec_alloc 35 rfl (Hd.cells hdZ) zero35) (by kernel_rfl) ?_
      try simp only [pS]
      have hgs : s0 ≤ wc.heap.size := by rw [← HS0.out]; exact HK0.out.size
      have HK0 : Hid (Kept No wc (wc.alloc (.cells (Hd.cells hdZ) 35))) := HK0.out.no ((Kept.refl No _).alloc _)
      have HF : Hid (Fr No w _ [(gk1, 23, Ky.cells k), (gk3, 35, Hd.cells a), (gk5, 35, Hd.cells b), (gk7, 35, Hd.cells hdZ), (g13, 50, Mg.cells q), (g16, 50, Mg.cells ((takeA m a (haveA q b bbs bes bls bp).b (haveA q b bbs bes bls bp).e (haveA q b bbs bes bls bp).l (haveA q b bbs bes bls bp).c ap).m)), (wc.heap.size, 35, Hd.cells hdZ)]) := HF.out.alloc _ _
      generalize wc.alloc (.cells (Hd.cells hdZ) 35) = wk55 at HF HK0 ⊢
      generalize wc.heap.size = gk54 at HF hgs ⊢
      refine wp_storeW 35 _ _ rfl ⟨gk54, 0, none⟩ (.agg (Hd.cells a)) (by kernel_rfl) (by kernel_rfl) (wk55.setRow gk54 (Hd.cells a)) (run_store_to (cur := Hd.cs hdZ) (vs := Hd.cs a) (new := Hd.cs a) (HF.out.box 6 _ _ _ rfl) (by kernel_rfl) Try.size35 (Nat.le_of_ble_eq_true (by kernel_rfl)) (Hd.oneL _) (by kernel_rfl)) (by kernel_rfl) ?_
      try simp only [pS]
      have HK0 : Hid (Kept No wc (wk55.setRow gk54 (Hd.cells a))) := HK0.out.newRow (by rw [HS0.out]; exact hgs) _
      have HF : Hid (Fr No w _ [(gk1, 23, Ky.cells k), (gk3, 35, Hd.cells a), (gk5, 35, Hd.cells b), (gk7, 35, Hd.cells hdZ), (g13, 50, Mg.cells q), (g16, 50, Mg.cells ((takeA m a (haveA q b bbs bes bls bp).b (haveA q b bbs bes bls bp).e (haveA q b bbs bes bls bp).l (haveA q b bbs bes bls bp).c ap).m)), (gk54, 35, Hd.cells a)]) := HF.out.set 6 rfl _
      generalize wk55.setRow gk54 (Hd.cells a) = wk56 at HF HK0 ⊢
      refine WL.nil ?_
      try simp only [pS]
      have HH : Hid (HdAt wk56 a ab ae al ap) := HHs.out.no HK0.out
      have HK : Hid (TkRd wk56 ⟨sa, sn, sk⟩ (takeA m a (haveA q b bbs bes bls bp).b (haveA q b bbs bes bls bp).e (haveA q b bbs bes bls bp).l (haveA q b bbs bes bls bp).c ap).z (takeA m a (haveA q b bbs bes bls bp).b (haveA q b bbs bes bls bp).e (haveA q b bbs bes bls bp).l (haveA q b bbs bes bls bp).c ap).b (takeA m a (haveA q b bbs bes bls bp).b (haveA q b bbs bes bls bp).e (haveA q b bbs bes bls bp).l (haveA q b bbs bes bls bp).c ap).e (takeA m a (haveA q b bbs bes bls bp).b (haveA q b bbs bes bls bp).e (haveA q b bbs bes bls bp).l (haveA q b bbs bes bls bp).c ap).l X) := HKs.out.no HK0.out
      clear HK0 HHs HKs hgs HS0
      go_upto_region 7 with fail
      refine WL.start ?_
      refine tK (.int .i64 0) ?_
      try simp only [pS]
      refine WL.nil ?_
      try simp only [pS]
      go_wp2
      go_loopw [19, 20] (fun v19 v20 wr => ∃ (j : Nat) (a2 : Hd) (ab2 : List Int) (ae2 : List En) (al2 : List La) (ap2 : List Pl), v19 = .int .i64 ((j : Nat) : Int) ∧ j ≤ sn ∧ Hid (HdAt wr a2 ab2 ae2 al2 ap2) ∧ Hid (HdAt wr a ab ae al ap) ∧ Hid (Wl a2 ab2 ae2 al2 ap2) ∧ Hid (HdOff (fun k => k = gk3 ∨ k = gk7 ∨ k = g13 ∨ G k) a2 ab2 ae2 al2 ap2) ∧ Hid (InW a ap X sn (takeA m a (haveA q b bbs bes bls bp).b (haveA q b bbs bes bls bp).e (haveA q b bbs bes bls bp).l (haveA q b bbs bes bls bp).c ap).b (takeA m a (haveA q b bbs bes bls bp).b (haveA q b bbs bes bls bp).e (haveA q b bbs bes bls bp).l (haveA q b bbs bes bls bp).c ap).e (takeA m a (haveA q b bbs bes bls bp).b (haveA q b bbs bes bls bp).e (haveA q b bbs bes bls bp).l (haveA q b bbs bes bls bp).c ap).l j a2 ap2) ∧ Hid (TkRd wr ⟨sa, sn, sk⟩ (takeA m a (haveA q b bbs bes bls bp).b (haveA q b bbs bes bls bp).e (haveA q b bbs bes bls bp).l (haveA q b bbs bes bls bp).c ap).z (takeA m a (haveA q b bbs bes bls bp).b (haveA q b bbs bes bls bp).e (haveA q b bbs bes bls bp).l (haveA q b bbs bes bls bp).c ap).b (takeA m a (haveA q b bbs bes bls bp).b (haveA q b bbs bes bls bp).e (haveA q b bbs bes bls bp).l (haveA q b bbs bes bls bp).c ap).e (takeA m a (haveA q b bbs bes bls bp).b (haveA q b bbs bes bls bp).e (haveA q b bbs bes bls bp).l (haveA q b bbs bes bls bp).c ap).l X) ∧ Hid (Fr No w wr [(gk1, 23, Ky.cells k), (gk3, 35, Hd.cells a2), (gk5, 35, Hd.cells b), (gk7, 35, Hd.cells hdZ), (g13, 50, Mg.cells q), (g16, 50, Mg.cells ((takeA m a (haveA q b bbs bes bls bp).b (haveA q b bbs bes bls bp).e (haveA q b bbs bes bls bp).l (haveA q b bbs bes bls bp).c ap).m)), (gk54, 35, Hd.cells a)])) (fun i _ _ => sn - (intOf i).toNat)
      case atStart => exact ⟨0, a, ab, ae, al, ap, by go_num, by omega, HH, HH, HW, HOf, hIn0, HK, HF⟩
      case round =>
        clear HF HH HK hIn0
        obtain ⟨j, a2, ab2, ae2, al2, ap2, rfl, hj, HH2, HH, HW2, HOf2, HIn, HK, HF⟩ := hrel
        have hap2 : ap2.length ≤ 10000000000000 := by have := HW2.out.may.len; omega
        by_cases hlt : j < sn
        · skip
          obtain ⟨pb, po, hcx⟩ := HK.out.at (i := j) hlt
          have hca : Hid (sa = some ⟨pb, po, none⟩) := hcx.1
          have hsl : Hid (Value.slice sa sn sk = .slice (some ⟨pb, po, none⟩) sn sk) := congrArg (fun x => Value.slice x sn sk) hcx.1
          clear hcx
          go_upto_region 8 with fail
          refine WL.start ?_
          refine tK (.int .i64 ((j : Nat) : Int)) ?_
          refine tK (.slice sa sn sk) ?_
          refine tK (.int .i64 ((sn : Nat) : Int)) ?_
          refine tW (.bool true) (eB .lss 3 _ _ _ rfl (.int .i64 ((j : Nat) : Int)) (.int .i64 ((sn : Nat) : Int)) _ (by rw [b_lss, decide_eq_true (by omega)])) ?_
          try simp only [pS]
          refine WL.nil ?_
          try simp only [pS]
          have HH2s : Hid (HdAt wr a2 ab2 ae2 al2 ap2) := HH2
          have HHs : Hid (HdAt wr a ab ae al ap) := HH
          have HKs : Hid (TkRd wr ⟨sa, sn, sk⟩ (takeA m a (haveA q b bbs bes bls bp).b (haveA q b bbs bes bls bp).e (haveA q b bbs bes bls bp).l (haveA q b bbs bes bls bp).c ap).z (takeA m a (haveA q b bbs bes bls bp).b (haveA q b bbs bes bls bp).e (haveA q b bbs bes bls bp).l (haveA q b bbs bes bls bp).c ap).b (takeA m a (haveA q b bbs bes bls bp).b (haveA q b bbs bes bls bp).e (haveA q b bbs bes bls bp).l (haveA q b bbs bes bls bp).c ap).e (takeA m a (haveA q b bbs bes bls bp).b (haveA q b bbs bes bls bp).e (haveA q b bbs bes bls bp).l (haveA q b bbs bes bls bp).c ap).l X) := HK
          clear HH2 HH HK
          have HK0 : Hid (Kept No wr wr) := Kept.refl _ _
          obtain ⟨s0, hs0⟩ : ∃ n, wr.heap.size = n := ⟨_, rfl⟩
          have HS0 : Hid (wr.heap.size = s0) := hs0
          clear hs0
          go_upto_region 10 with fail
          refine WL.start ?_
          refine tK (.slice sa sn sk) ?_
          refine tK (.int .i64 ((j : Nat) : Int)) ?_
          refine tW (.pointer (some ⟨pb, po + j * 24, none⟩)) (exec_ixA 61 24 Try.und61e Try.size61e _ _ rfl pb po sn sk j (Eq.trans (b := .slice sa sn sk) (by kernel_rfl) hsl.out) (by kernel_rfl) hlt) ?_
          refine tW (.agg (Ch.cells (hAt X j))) (eL 88 _ rfl ⟨pb, po + j * 24, none⟩ (load_cells (it := Ch.cs (hAt X j)) (fun i v hv => (HKs.out.no HK0.out).cells hlt hca.out i v hv) Try.und88 rfl Try.size88)) ?_
          try simp only [pS]
          refine wp_callW 53 #[.agg (Ch.cells (hAt X j))] (by kernel_rfl) _ (plain_any (hAt X j) _) (by kernel_rfl) ?_
          rintro e wk57 ⟨rfl, hk⟩
          have HK0 : Hid (Kept No wr (wk57)) := HK0.out.no hk
          have HF : Hid (Fr No w (wk57) [(gk1, 23, Ky.cells k), (gk3, 35, Hd.cells a2), (gk5, 35, Hd.cells b), (gk7, 35, Hd.cells hdZ), (g13, 50, Mg.cells q), (g16, 50, Mg.cells ((takeA m a (haveA q b bbs bes bls bp).b (haveA q b bbs bes bls bp).e (haveA q b bbs bes bls bp).l (haveA q b bbs bes bls bp).c ap).m)), (gk54, 35, Hd.cells a)]) := HF.out.no hk
          clear hk
          refine ⟨.agg (Ch.cells (hAt X j)), rfl, ?_⟩
          try simp only [pS]
          refine wp_runW (.pointer (some ⟨wk57.heap.size, 0, none⟩)) (wk57.alloc (.cells (Ch.cells chZ) 72)) (exec_alloc 72 rfl (Ch.cells chZ) zero72) (by kernel_rfl) ?_
          try simp only [pS]
          have hgs : s0 ≤ wk57.heap.size := by rw [← HS0.out]; exact HK0.out.size
          have HK0 : Hid (Kept No wr (wk57.alloc (.cells (Ch.cells chZ) 72))) := HK0.out.no ((Kept.refl No _).alloc _)
          have HF : Hid (Fr No w _ [(gk1, 23, Ky.cells k), (gk3, 35, Hd.cells a2), (gk5, 35, Hd.cells b), (gk7, 35, Hd.cells hdZ), (g13, 50, Mg.cells q), (g16, 50, Mg.cells ((takeA m a (haveA q b bbs bes bls bp).b (haveA q b bbs bes bls bp).e (haveA q b bbs bes bls bp).l (haveA q b bbs bes bls bp).c ap).m)), (gk54, 35, Hd.cells a), (wk57.heap.size, 72, Ch.cells chZ)]) := HF.out.alloc _ _
          generalize wk57.alloc (.cells (Ch.cells chZ) 72) = wk59 at HF HK0 ⊢
          generalize wk57.heap.size = gk58 at HF hgs ⊢
          refine wp_storeW 72 _ _ rfl ⟨gk58, 0, none⟩ (.agg (Ch.cells (hAt X j))) (by kernel_rfl) (by kernel_rfl) (wk59.setRow gk58 (Ch.cells (hAt X j))) (run_store_to (cur := Ch.cs chZ) (vs := Ch.cs (hAt X j)) (new := Ch.cs (hAt X j)) (HF.out.box 7 _ _ _ rfl) (by kernel_rfl) Try.size72 (Nat.le_of_ble_eq_true (by kernel_rfl)) (Ch.oneL _) (by kernel_rfl)) (by kernel_rfl) ?_
          try simp only [pS]
          have HK0 : Hid (Kept No wr (wk59.setRow gk58 (Ch.cells (hAt X j)))) := HK0.out.newRow (by rw [HS0.out]; exact hgs) _
          have HF : Hid (Fr No w _ [(gk1, 23, Ky.cells k), (gk3, 35, Hd.cells a2), (gk5, 35, Hd.cells b), (gk7, 35, Hd.cells hdZ), (g13, 50, Mg.cells q), (g16, 50, Mg.cells ((takeA m a (haveA q b bbs bes bls bp).b (haveA q b bbs bes bls bp).e (haveA q b bbs bes bls bp).l (haveA q b bbs bes bls bp).c ap).m)), (gk54, 35, Hd.cells a), (gk58, 72, Ch.cells (hAt X j))]) := HF.out.set 7 rfl _
          generalize wk59.setRow gk58 (Ch.cells (hAt X j)) = wk60 at HF HK0 ⊢
          refine WL.nil ?_
          try simp only [pS]
          have HH2 : Hid (HdAt wk60 a2 ab2 ae2 al2 ap2) := HH2s.out.no HK0.out
          have HH : Hid (HdAt wk60 a ab ae al ap) := HHs.out.no HK0.out
          have HK : Hid (TkRd wk60 ⟨sa, sn, sk⟩ (takeA m a (haveA q b bbs bes bls bp).b (haveA q b bbs bes bls bp).e (haveA q b bbs bes bls bp).l (haveA q b bbs bes bls bp).c ap).z (takeA m a (haveA q b bbs bes bls bp).b (haveA q b bbs bes bls bp).e (haveA q b bbs bes bls bp).l (haveA q b bbs bes bls bp).c ap).b (takeA m a (haveA q b bbs bes bls bp).b (haveA q b bbs bes bls bp).e (haveA q b bbs bes bls bp).l (haveA q b bbs bes bls bp).c ap).e (takeA m a (haveA q b bbs bes bls bp).b (haveA q b bbs bes bls bp).e (haveA q b bbs bes bls bp).l (haveA q b bbs bes bls bp).c ap).l X) := HKs.out.no HK0.out
          clear HK0 HHs HKs HH2s hgs HS0
          go_upto_region 11 with fail
          refine wp_region_held_drew (S := fun w' => Fr No w w' [(gk1, 23, Ky.cells k), (gk3, 35, Hd.cells a2), (gk5, 35, Hd.cells b), (gk7, 35, Hd.cells hdZ), (g13, 50, Mg.cells q), (g16, 50, Mg.cells ((takeA m a (haveA q b bbs bes bls bp).b (haveA q b bbs bes bls bp).e (haveA q b bbs bes bls bp).l (haveA q b bbs bes bls bp).c ap).m)), (gk54, 35, Hd.cells a), (gk58, 72, Ch.cells (hAt X j))]) rfl (HF.out.drew) (fun hH => ?_)
          have HH2 : Hid (HdAt (wk60.drew) a2 ab2 ae2 al2 ap2) := HH2.out.no (Kept.refl No _).drew
          have HH : Hid (HdAt (wk60.drew) a ab ae al ap) := HH.out.no (Kept.refl No _).drew
          have HK : Hid (TkRd (wk60.drew) ⟨sa, sn, sk⟩ (takeA m a (haveA q b bbs bes bls bp).b (haveA q b bbs bes bls bp).e (haveA q b bbs bes bls bp).l (haveA q b bbs bes bls bp).c ap).z (takeA m a (haveA q b bbs bes bls bp).b (haveA q b bbs bes bls bp).e (haveA q b bbs bes bls bp).l (haveA q b bbs bes bls bp).c ap).b (takeA m a (haveA q b bbs bes bls bp).b (haveA q b bbs bes bls bp).e (haveA q b bbs bes bls bp).l (haveA q b bbs bes bls bp).c ap).e (takeA m a (haveA q b bbs bes bls bp).b (haveA q b bbs bes bls bp).e (haveA q b bbs bes bls bp).l (haveA q b bbs bes bls bp).c ap).l X) := HK.out.no (Kept.refl No _).drew
          have HF : Hid (Fr No w (wk60.drew) [(gk1, 23, Ky.cells k), (gk3, 35, Hd.cells a2), (gk5, 35, Hd.cells b), (gk7, 35, Hd.cells hdZ), (g13, 50, Mg.cells q), (g16, 50, Mg.cells ((takeA m a (haveA q b bbs bes bls bp).b (haveA q b bbs bes bls bp).e (haveA q b bbs bes bls bp).l (haveA q b bbs bes bls bp).c ap).m)), (gk54, 35, Hd.cells a), (gk58, 72, Ch.cells (hAt X j))]) := HF.out.drew
          generalize wk60.drew = wk61 at HF HH2 HH HK hH ⊢
          refine aT (i := 0) (oi := { dst := some 54, op := Op.fieldAddr 72 (Operand.tmp 20) 0, type := 0, pos := "outright.go:33", after := #[], guard := none }) (v := .pointer (some ⟨gk58, 0, none⟩)) (fun _ _ => by kernel_rfl) hH ?_
          try simp only [pS]
          refine aT (i := 1) (oi := { dst := some 55, op := Op.fieldAddr 23 (Operand.tmp 54) 0, type := 0, pos := "outright.go:33", after := #[{ on := 0, ground := Ground.data }], guard := none }) (v := .pointer (some ⟨gk58, 0, none⟩)) (fun _ _ => by kernel_rfl) hH ?_
          try simp only [pS]
          refine aT (i := 2) (oi := { dst := some 56, op := Op.load 3 (Operand.tmp 55), type := 3, pos := "outright.go:33", after := #[{ on := 1, ground := Ground.data }], guard := none }) (v := .int .i64 ((hAt X j).ky).k) (fun w' hw => eL 3 _ rfl ⟨gk58, 0, none⟩ (load_one ((hw.box 7 _ _ _ rfl).cell 0 |>.trans (by kernel_rfl)) Try.und3 rfl)) hH ?_
          try simp only [pS]
          cases q1 : ((((hAt X j).ky).k) == 3)
          ·skip
           refine aT (i := 3) (oi := oqHb16) (v := .bool false) (fun w' hw => eB .eql 3 _ _ _ rfl (.int .i64 ((hAt X j).ky).k) (.int .i64 3) _ (by rw [b_eql, q1]; try rfl)) hH ?_
           try simp only [pS]
           refine aT (i := 4) (oi := oqHb17) (v := .bool false) (fun _ _ => by kernel_rfl) hH ?_
           try simp only [pS]
           refine aS (i := 5) (oi := oqHb18) hH ?_
           try simp only [pS]
           refine aS (i := 6) (oi := oqHb19) hH ?_
           try simp only [pS]
           refine aS (i := 7) (oi := oqHb20) hH ?_
           try simp only [pS]
           refine aS (i := 8) (oi := oqHb21) hH ?_
           try simp only [pS]
           refine aS (i := 9) (oi := oqHb22) hH ?_
           try simp only [pS]
           refine aS (i := 10) (oi := oqHb23) hH ?_
           try simp only [pS]
           refine aT (i := 11) (oi := oqHb24) (v := .bool false) (fun _ _ => by kernel_rfl) hH ?_
           try simp only [pS]
           refine aT (i := 12) (oi := oqHb25) (v := .bool false) (fun _ _ => by kernel_rfl) hH ?_
           try simp only [pS]
           refine aS (i := 13) (oi := oqHb26) hH ?_
           try simp only [pS]
           refine aS (i := 14) (oi := oqHb27) hH ?_
           try simp only [pS]
           refine aS (i := 15) (oi := oqHb28) hH ?_
           try simp only [pS]
           refine aS (i := 16) (oi := oqHb29) hH ?_
           try simp only [pS]
           refine aS (i := 18) (oi := oqHb30) hH ?_
           try simp only [pS]
           refine aS (i := 19) (oi := oqHb31) hH ?_
           try simp only [pS]
           refine aS (i := 17) (oi := oqHb32) hH ?_
           try simp only [pS]
           refine aS (i := 20) (oi := oqHb33) hH ?_
           try simp only [pS]
           refine aT (i := 21) (oi := oqHb34) (v := .bool false) (fun _ _ => by kernel_rfl) hH ?_
           try simp only [pS]
           refine wpAnyH_done (by kernel_rfl) ?_ _
           try simp only [pS]
           clear hH
           go_upto_region 13 with fail
           refine WL.start ?_
           refine tW (.agg (Hd.cells a2)) (eL 35 _ rfl ⟨gk3, 0, none⟩ (run_load_part (cs := Hd.cs a2) (sub := Hd.cs a2) (HF.out.box 1 _ _ _ rfl) (Part.all _) Try.und35 rfl Try.size35)) ?_
           refine tW (.agg (Ch.cells (hAt X j))) (eL 72 _ rfl ⟨gk58, 0, none⟩ (run_load_part (cs := Ch.cs (hAt X j)) (sub := Ch.cs (hAt X j)) (HF.out.box 7 _ _ _ rfl) (Part.all _) Try.und72 rfl Try.size72)) ?_
           try simp only [pS]
           refine wp_callW 24 #[.agg (Hd.cells a2), .agg (Ch.cells (hAt X j))] (by kernel_rfl) _ (laid_kn (fun k => k = gk3 ∨ k = gk7 ∨ k = g13 ∨ G k) a2 (hAt X j) (hAt (takeA m a (haveA q b bbs bes bls bp).b (haveA q b bbs bes bls bp).e (haveA q b bbs bes bls bp).l (haveA q b bbs bes bls bp).c ap).z j) ab2 ae2 al2 ap2 (takeA m a (haveA q b bbs bes bls bp).b (haveA q b bbs bes bls bp).e (haveA q b bbs bes bls bp).l (haveA q b bbs bes bls bp).c ap).b (takeA m a (haveA q b bbs bes bls bp).b (haveA q b bbs bes bls bp).e (haveA q b bbs bes bls bp).l (haveA q b bbs bes bls bp).c ap).e (takeA m a (haveA q b bbs bes bls bp).b (haveA q b bbs bes bls bp).e (haveA q b bbs bes bls bp).l (haveA q b bbs bes bls bp).c ap).l _ HH2.out HW2.out (HIn.out.ok j (Nat.le_refl _) hlt) (HK.out.el j hlt) hBd.1 hBd.2.1 hBd.2.2 (by rintro k (e | e | e | e); rw [e]; exact (HF.out.box 1 _ _ _ rfl).lt; rw [e]; exact (HF.out.box 3 _ _ _ rfl).lt; rw [e]; exact (HF.out.box 4 _ _ _ rfl).lt; exact Nat.lt_of_lt_of_le (HGw.out k e) HF.out.kept.size) HOf2.out (HTO.out.2 j hlt)) (by kernel_rfl) ?_
           rintro e wk62 ⟨a3, ab3, ae3, al3, ap3, rfl, hh3, hw3, ho3, hl3, hk⟩
           have HH2 : Hid (HdAt (wk62) a2 ab2 ae2 al2 ap2) := HH2.out.no hk
           have HH : Hid (HdAt (wk62) a ab ae al ap) := HH.out.no hk
           have HK : Hid (TkRd (wk62) ⟨sa, sn, sk⟩ (takeA m a (haveA q b bbs bes bls bp).b (haveA q b bbs bes bls bp).e (haveA q b bbs bes bls bp).l (haveA q b bbs bes bls bp).c ap).z (takeA m a (haveA q b bbs bes bls bp).b (haveA q b bbs bes bls bp).e (haveA q b bbs bes bls bp).l (haveA q b bbs bes bls bp).c ap).b (takeA m a (haveA q b bbs bes bls bp).b (haveA q b bbs bes bls bp).e (haveA q b bbs bes bls bp).l (haveA q b bbs bes bls bp).c ap).e (takeA m a (haveA q b bbs bes bls bp).b (haveA q b bbs bes bls bp).e (haveA q b bbs bes bls bp).l (haveA q b bbs bes bls bp).c ap).l X) := HK.out.no hk
           have HF : Hid (Fr No w (wk62) [(gk1, 23, Ky.cells k), (gk3, 35, Hd.cells a2), (gk5, 35, Hd.cells b), (gk7, 35, Hd.cells hdZ), (g13, 50, Mg.cells q), (g16, 50, Mg.cells ((takeA m a (haveA q b bbs bes bls bp).b (haveA q b bbs bes bls bp).e (haveA q b bbs bes bls bp).l (haveA q b bbs bes bls bp).c ap).m)), (gk54, 35, Hd.cells a), (gk58, 72, Ch.cells (hAt X j))]) := HF.out.no hk
           have HH3 : Hid (HdAt wk62 a3 ab3 ae3 al3 ap3) := hh3
           have HW3 : Hid (Wl a3 ab3 ae3 al3 ap3) := hw3
           have HF3 : Hid (HdOff (fun k => k = gk3 ∨ k = gk7 ∨ k = g13 ∨ G k) a3 ab3 ae3 al3 ap3) := ho3
           have HI3 : Hid (InW a ap X sn (takeA m a (haveA q b bbs bes bls bp).b (haveA q b bbs bes bls bp).e (haveA q b bbs bes bls bp).l (haveA q b bbs bes bls bp).c ap).b (takeA m a (haveA q b bbs bes bls bp).b (haveA q b bbs bes bls bp).e (haveA q b bbs bes bls bp).l (haveA q b bbs bes bls bp).c ap).e (takeA m a (haveA q b bbs bes bls bp).b (haveA q b bbs bes bls bp).e (haveA q b bbs bes bls bp).l (haveA q b bbs bes bls bp).c ap).l (j + 1) a3 ap3) := HIn.out.next hlt hl3
           clear hk hh3 hw3 hl3 ho3
           refine ⟨.agg (Hd.cells a3), rfl, ?_⟩
           try simp only [pS]
           refine wp_storeW 35 _ _ rfl ⟨gk3, 0, none⟩ (.agg (Hd.cells a3)) (by kernel_rfl) (by kernel_rfl) (wk62.setRow gk3 (Hd.cells a3)) (run_store_to (cur := Hd.cs a2) (vs := Hd.cs a3) (new := Hd.cs a3) (HF.out.box 1 _ _ _ rfl) (by kernel_rfl) Try.size35 (Nat.le_of_ble_eq_true (by kernel_rfl)) (Hd.oneL _) (by kernel_rfl)) (by kernel_rfl) ?_
           try simp only [pS]
           have HH2 : Hid (HdAt (wk62.setRow gk3 (Hd.cells a3)) a2 ab2 ae2 al2 ap2) := HH2.out.keptG HOf2.out (Kept.setRow _ _ _) (fun k e => .inl e)
           have HH : Hid (HdAt (wk62.setRow gk3 (Hd.cells a3)) a ab ae al ap) := HH.out.keptG HOf.out (Kept.setRow _ _ _) (fun k e => .inl e)
           have HK : Hid (TkRd (wk62.setRow gk3 (Hd.cells a3)) ⟨sa, sn, sk⟩ (takeA m a (haveA q b bbs bes bls bp).b (haveA q b bbs bes bls bp).e (haveA q b bbs bes bls bp).l (haveA q b bbs bes bls bp).c ap).z (takeA m a (haveA q b bbs bes bls bp).b (haveA q b bbs bes bls bp).e (haveA q b bbs bes bls bp).l (haveA q b bbs bes bls bp).c ap).b (takeA m a (haveA q b bbs bes bls bp).b (haveA q b bbs bes bls bp).e (haveA q b bbs bes bls bp).l (haveA q b bbs bes bls bp).c ap).e (takeA m a (haveA q b bbs bes bls bp).b (haveA q b bbs bes bls bp).e (haveA q b bbs bes bls bp).l (haveA q b bbs bes bls bp).c ap).l X) := HK.out.keptG HTO.out (Kept.setRow _ _ _) (fun k e => .inl e)
           have HH3 : Hid (HdAt (wk62.setRow gk3 (Hd.cells a3)) a3 ab3 ae3 al3 ap3) := HH3.out.keptG HF3.out (Kept.setRow _ _ _) (fun k e => .inl e)
           have HF : Hid (Fr No w _ [(gk1, 23, Ky.cells k), (gk3, 35, Hd.cells a3), (gk5, 35, Hd.cells b), (gk7, 35, Hd.cells hdZ), (g13, 50, Mg.cells q), (g16, 50, Mg.cells ((takeA m a (haveA q b bbs bes bls bp).b (haveA q b bbs bes bls bp).e (haveA q b bbs bes bls bp).l (haveA q b bbs bes bls bp).c ap).m)), (gk54, 35, Hd.cells a), (gk58, 72, Ch.cells (hAt X j))]) := HF.out.set 1 rfl _
           generalize wk62.setRow gk3 (Hd.cells a3) = wk63 at HF HH2 HH HK HH3 ⊢
           refine WL.nil ?_
           try simp only [pS]
           go_upto_region 9 with fail
           refine WL.start ?_
           refine tK (.int .i64 ((j : Nat) : Int)) ?_
           refine tW (.int .i64 (((j + 1) : Nat) : Int)) (eB .add 3 _ _ _ rfl (.int .i64 ((j : Nat) : Int)) (.int .i64 1) _ (b_addw _ _ _ (by rw [IntKind.wrap_i64]; omega) _)) ?_
           refine tK (.int .i64 (((j + 1) : Nat) : Int)) ?_
           try simp only [pS]
           refine WL.nil ?_
           try simp only [pS]
           have HF : Hid (Fr No w wk63 [(gk1, 23, Ky.cells k), (gk3, 35, Hd.cells a3), (gk5, 35, Hd.cells b), (gk7, 35, Hd.cells hdZ), (g13, 50, Mg.cells q), (g16, 50, Mg.cells ((takeA m a (haveA q b bbs bes bls bp).b (haveA q b bbs bes bls bp).e (haveA q b bbs bes bls bp).l (haveA q b bbs bes bls bp).c ap).m)), (gk54, 35, Hd.cells a)]) := (show Fr No w wk63 ([(gk1, 23, Ky.cells k), (gk3, 35, Hd.cells a3), (gk5, 35, Hd.cells b), (gk7, 35, Hd.cells hdZ), (g13, 50, Mg.cells q), (g16, 50, Mg.cells ((takeA m a (haveA q b bbs bes bls bp).b (haveA q b bbs bes bls bp).e (haveA q b bbs bes bls bp).l (haveA q b bbs bes bls bp).c ap).m)), (gk54, 35, Hd.cells a)] ++ [(gk58, 72, Ch.cells (hAt X j))]) from HF.out).front
           go_wp2
           go_roundw
           case rel => exact ⟨j + 1, a3, ab3, ae3, al3, ap3, by go_num, by omega, HH3, HH, HW3, HF3, HI3, HK, HF⟩
           case measure => simp [intOf]; omega
          ·skip
           refine aT (i := 3) (oi := oqHb16) (v := .bool true) (fun w' hw => eB .eql 3 _ _ _ rfl (.int .i64 ((hAt X j).ky).k) (.int .i64 3) _ (by rw [b_eql, q1]; try rfl)) hH ?_
           try simp only [pS]
           refine aT (i := 4) (oi := oqHb17) (v := .bool true) (fun _ _ => by kernel_rfl) hH ?_
           try simp only [pS]
           refine aT (i := 5) (oi := oqHb18) (v := .agg (Hd.cells a2)) (fun w' hw => eL 35 _ rfl ⟨gk3, 0, none⟩ (run_load_part (cs := Hd.cs a2) (sub := Hd.cs a2) (hw.box 1 _ _ _ rfl) (Part.all _) Try.und35 rfl Try.size35)) hH ?_
           try simp only [pS]
           refine aT (i := 6) (oi := oqHb19) (v := .pointer (some ⟨gk58, 0, none⟩)) (fun _ _ => by kernel_rfl) hH ?_
           try simp only [pS]
           refine aT (i := 7) (oi := oqHb20) (v := .pointer (some ⟨gk58, 2, none⟩)) (fun _ _ => by kernel_rfl) hH ?_
           try simp only [pS]
           refine aT (i := 8) (oi := oqHb21) (v := .int .i64 ((hAt X j).ky).b) (fun w' hw => eL 3 _ rfl ⟨gk58, 2, none⟩ (load_one ((hw.box 7 _ _ _ rfl).cell 2 |>.trans (by kernel_rfl)) Try.und3 rfl)) hH ?_
           try simp only [pS]
           refine any_call (i := 9) (o := oqHb22) rfl (by kernel_rfl) (by kernel_rfl) 46 #[.agg (Hd.cells a2), .int .i64 ((hAt X j).ky).b] (by kernel_rfl) _ (refAt_any a2 ap2 (hAt X j).ky.b _ HH2.out.p hap2) ?_
           rintro e wk64 ⟨rfl, hk⟩
           have hH2 : Fr No w wk64 [(gk1, 23, Ky.cells k), (gk3, 35, Hd.cells a2), (gk5, 35, Hd.cells b), (gk7, 35, Hd.cells hdZ), (g13, 50, Mg.cells q), (g16, 50, Mg.cells ((takeA m a (haveA q b bbs bes bls bp).b (haveA q b bbs bes bls bp).e (haveA q b bbs bes bls bp).l (haveA q b bbs bes bls bp).c ap).m)), (gk54, 35, Hd.cells a), (gk58, 72, Ch.cells (hAt X j))] := hH.no hk
           have HH2 : Hid (HdAt (wk64) a2 ab2 ae2 al2 ap2) := HH2.out.no hk
           have HH : Hid (HdAt (wk64) a ab ae al ap) := HH.out.no hk
           have HK : Hid (TkRd (wk64) ⟨sa, sn, sk⟩ (takeA m a (haveA q b bbs bes bls bp).b (haveA q b bbs bes bls bp).e (haveA q b bbs bes bls bp).l (haveA q b bbs bes bls bp).c ap).z (takeA m a (haveA q b bbs bes bls bp).b (haveA q b bbs bes bls bp).e (haveA q b bbs bes bls bp).l (haveA q b bbs bes bls bp).c ap).b (takeA m a (haveA q b bbs bes bls bp).b (haveA q b bbs bes bls bp).e (haveA q b bbs bes bls bp).l (haveA q b bbs bes bls bp).c ap).e (takeA m a (haveA q b bbs bes bls bp).b (haveA q b bbs bes bls bp).e (haveA q b bbs bes bls bp).l (haveA q b bbs bes bls bp).c ap).l X) := HK.out.no hk
           have HF : Hid (Fr No w (wk64) [(gk1, 23, Ky.cells k), (gk3, 35, Hd.cells a2), (gk5, 35, Hd.cells b), (gk7, 35, Hd.cells hdZ), (g13, 50, Mg.cells q), (g16, 50, Mg.cells ((takeA m a (haveA q b bbs bes bls bp).b (haveA q b bbs bes bls bp).e (haveA q b bbs bes bls bp).l (haveA q b bbs bes bls bp).c ap).m)), (gk54, 35, Hd.cells a), (gk58, 72, Ch.cells (hAt X j))]) := HF.out.no hk
           clear hk
           refine ⟨.agg (In.cells (atF (hAt X j).ky.b ap2)), rfl, hH2, fun hH => ?_⟩
           clear hH2
           try simp only [pS]
           refine aT (i := 10) (oi := oqHb23) (v := .bool (atF (hAt X j).ky.b ap2).d) (fun _ _ => by kernel_rfl) hH ?_
           try simp only [pS]
           refine aT (i := 11) (oi := oqHb24) (v := .bool (atF (hAt X j).ky.b ap2).d) (fun _ _ => by kernel_rfl) hH ?_
           try simp only [pS]
           refine aT (i := 12) (oi := oqHb25) (v := .bool (atF (hAt X j).ky.b ap2).d) (fun _ _ => by kernel_rfl) hH ?_
           try simp only [pS]
           cases q2 : ((atF (hAt X j).ky.b ap2).d)
           ·skip
            try simp only [q2]
            refine aS (i := 13) (oi := oqHb26) hH ?_
            try simp only [pS]
            refine aS (i := 14) (oi := oqHb27) hH ?_
            try simp only [pS]
            refine aS (i := 15) (oi := oqHb28) hH ?_
            try simp only [pS]
            refine aS (i := 16) (oi := oqHb29) hH ?_
            try simp only [pS]
            refine aS (i := 18) (oi := oqHb30) hH ?_
            try simp only [pS]
            refine aS (i := 19) (oi := oqHb31) hH ?_
            try simp only [pS]
            refine aS (i := 17) (oi := oqHb32) hH ?_
            try simp only [pS]
            refine aS (i := 20) (oi := oqHb33) hH ?_
            try simp only [pS]
            refine aT (i := 21) (oi := oqHb34) (v := .bool false) (fun _ _ => by kernel_rfl) hH ?_
            try simp only [pS]
            refine wpAnyH_done (by kernel_rfl) ?_ _
            try simp only [pS]
            clear hH
            go_upto_region 13 with fail
            refine WL.start ?_
            refine tW (.agg (Hd.cells a2)) (eL 35 _ rfl ⟨gk3, 0, none⟩ (run_load_part (cs := Hd.cs a2) (sub := Hd.cs a2) (HF.out.box 1 _ _ _ rfl) (Part.all _) Try.und35 rfl Try.size35)) ?_
            refine tW (.agg (Ch.cells (hAt X j))) (eL 72 _ rfl ⟨gk58, 0, none⟩ (run_load_part (cs := Ch.cs (hAt X j)) (sub := Ch.cs (hAt X j)) (HF.out.box 7 _ _ _ rfl) (Part.all _) Try.und72 rfl Try.size72)) ?_
            try simp only [pS]
            refine wp_callW 24 #[.agg (Hd.cells a2), .agg (Ch.cells (hAt X j))] (by kernel_rfl) _ (laid_kn (fun k => k = gk3 ∨ k = gk7 ∨ k = g13 ∨ G k) a2 (hAt X j) (hAt (takeA m a (haveA q b bbs bes bls bp).b (haveA q b bbs bes bls bp).e (haveA q b bbs bes bls bp).l (haveA q b bbs bes bls bp).c ap).z j) ab2 ae2 al2 ap2 (takeA m a (haveA q b bbs bes bls bp).b (haveA q b bbs bes bls bp).e (haveA q b bbs bes bls bp).l (haveA q b bbs bes bls bp).c ap).b (takeA m a (haveA q b bbs bes bls bp).b (haveA q b bbs bes bls bp).e (haveA q b bbs bes bls bp).l (haveA q b bbs bes bls bp).c ap).e (takeA m a (haveA q b bbs bes bls bp).b (haveA q b bbs bes bls bp).e (haveA q b bbs bes bls bp).l (haveA q b bbs bes bls bp).c ap).l _ HH2.out HW2.out (HIn.out.ok j (Nat.le_refl _) hlt) (HK.out.el j hlt) hBd.1 hBd.2.1 hBd.2.2 (by rintro k (e | e | e | e); rw [e]; exact (HF.out.box 1 _ _ _ rfl).lt; rw [e]; exact (HF.out.box 3 _ _ _ rfl).lt; rw [e]; exact (HF.out.box 4 _ _ _ rfl).lt; exact Nat.lt_of_lt_of_le (HGw.out k e) HF.out.kept.size) HOf2.out (HTO.out.2 j hlt)) (by kernel_rfl) ?_
            rintro e wk65 ⟨a3, ab3, ae3, al3, ap3, rfl, hh3, hw3, ho3, hl3, hk⟩
            have HH2 : Hid (HdAt (wk65) a2 ab2 ae2 al2 ap2) := HH2.out.no hk
            have HH : Hid (HdAt (wk65) a ab ae al ap) := HH.out.no hk
            have HK : Hid (TkRd (wk65) ⟨sa, sn, sk⟩ (takeA m a (haveA q b bbs bes bls bp).b (haveA q b bbs bes bls bp).e (haveA q b bbs bes bls bp).l (haveA q b bbs bes bls bp).c ap).z (takeA m a (haveA q b bbs bes bls bp).b (haveA q b bbs bes bls bp).e (haveA q b bbs bes bls bp).l (haveA q b bbs bes bls bp).c ap).b (takeA m a (haveA q b bbs bes bls bp).b (haveA q b bbs bes bls bp).e (haveA q b bbs bes bls bp).l (haveA q b bbs bes bls bp).c ap).e (takeA m a (haveA q b bbs bes bls bp).b (haveA q b bbs bes bls bp).e (haveA q b bbs bes bls bp).l (haveA q b bbs bes bls bp).c ap).l X) := HK.out.no hk
            have HF : Hid (Fr No w (wk65) [(gk1, 23, Ky.cells k), (gk3, 35, Hd.cells a2), (gk5, 35, Hd.cells b), (gk7, 35, Hd.cells hdZ), (g13, 50, Mg.cells q), (g16, 50, Mg.cells ((takeA m a (haveA q b bbs bes bls bp).b (haveA q b bbs bes bls bp).e (haveA q b bbs bes bls bp).l (haveA q b bbs bes bls bp).c ap).m)), (gk54, 35, Hd.cells a), (gk58, 72, Ch.cells (hAt X j))]) := HF.out.no hk
            have HH3 : Hid (HdAt wk65 a3 ab3 ae3 al3 ap3) := hh3
            have HW3 : Hid (Wl a3 ab3 ae3 al3 ap3) := hw3
            have HF3 : Hid (HdOff (fun k => k = gk3 ∨ k = gk7 ∨ k = g13 ∨ G k) a3 ab3 ae3 al3 ap3) := ho3
            have HI3 : Hid (InW a ap X sn (takeA m a (haveA q b bbs bes bls bp).b (haveA q b bbs bes bls bp).e (haveA q b bbs bes bls bp).l (haveA q b bbs bes bls bp).c ap).b (takeA m a (haveA q b bbs bes bls bp).b (haveA q b bbs bes bls bp).e (haveA q b bbs bes bls bp).l (haveA q b bbs bes bls bp).c ap).e (takeA m a (haveA q b bbs bes bls bp).b (haveA q b bbs bes bls bp).e (haveA q b bbs bes bls bp).l (haveA q b bbs bes bls bp).c ap).l (j + 1) a3 ap3) := HIn.out.next hlt hl3
            clear hk hh3 hw3 hl3 ho3
            refine ⟨.agg (Hd.cells a3), rfl, ?_⟩
            try simp only [pS]
            refine wp_storeW 35 _ _ rfl ⟨gk3, 0, none⟩ (.agg (Hd.cells a3)) (by kernel_rfl) (by kernel_rfl) (wk65.setRow gk3 (Hd.cells a3)) (run_store_to (cur := Hd.cs a2) (vs := Hd.cs a3) (new := Hd.cs a3) (HF.out.box 1 _ _ _ rfl) (by kernel_rfl) Try.size35 (Nat.le_of_ble_eq_true (by kernel_rfl)) (Hd.oneL _) (by kernel_rfl)) (by kernel_rfl) ?_
            try simp only [pS]
            have HH2 : Hid (HdAt (wk65.setRow gk3 (Hd.cells a3)) a2 ab2 ae2 al2 ap2) := HH2.out.keptG HOf2.out (Kept.setRow _ _ _) (fun k e => .inl e)
            have HH : Hid (HdAt (wk65.setRow gk3 (Hd.cells a3)) a ab ae al ap) := HH.out.keptG HOf.out (Kept.setRow _ _ _) (fun k e => .inl e)
            have HK : Hid (TkRd (wk65.setRow gk3 (Hd.cells a3)) ⟨sa, sn, sk⟩ (takeA m a (haveA q b bbs bes bls bp).b (haveA q b bbs bes bls bp).e (haveA q b bbs bes bls bp).l (haveA q b bbs bes bls bp).c ap).z (takeA m a (haveA q b bbs bes bls bp).b (haveA q b bbs bes bls bp).e (haveA q b bbs bes bls bp).l (haveA q b bbs bes bls bp).c ap).b (takeA m a (haveA q b bbs bes bls bp).b (haveA q b bbs bes bls bp).e (haveA q b bbs bes bls bp).l (haveA q b bbs bes bls bp).c ap).e (takeA m a (haveA q b bbs bes bls bp).b (haveA q b bbs bes bls bp).e (haveA q b bbs bes bls bp).l (haveA q b bbs bes bls bp).c ap).l X) := HK.out.keptG HTO.out (Kept.setRow _ _ _) (fun k e => .inl e)
            have HH3 : Hid (HdAt (wk65.setRow gk3 (Hd.cells a3)) a3 ab3 ae3 al3 ap3) := HH3.out.keptG HF3.out (Kept.setRow _ _ _) (fun k e => .inl e)
            have HF : Hid (Fr No w _ [(gk1, 23, Ky.cells k), (gk3, 35, Hd.cells a3), (gk5, 35, Hd.cells b), (gk7, 35, Hd.cells hdZ), (g13, 50, Mg.cells q), (g16, 50, Mg.cells ((takeA m a (haveA q b bbs bes bls bp).b (haveA q b bbs bes bls bp).e (haveA q b bbs bes bls bp).l (haveA q b bbs bes bls bp).c ap).m)), (gk54, 35, Hd.cells a), (gk58, 72, Ch.cells (hAt X j))]) := HF.out.set 1 rfl _
            generalize wk65.setRow gk3 (Hd.cells a3) = wk66 at HF HH2 HH HK HH3 ⊢
            refine WL.nil ?_
            try simp only [pS]
            go_upto_region 9 with fail
            refine WL.start ?_
            refine tK (.int .i64 ((j : Nat) : Int)) ?_
            refine tW (.int .i64 (((j + 1) : Nat) : Int)) (eB .add 3 _ _ _ rfl (.int .i64 ((j : Nat) : Int)) (.int .i64 1) _ (b_addw _ _ _ (by rw [IntKind.wrap_i64]; omega) _)) ?_
            refine tK (.int .i64 (((j + 1) : Nat) : Int)) ?_
            try simp only [pS]
            refine WL.nil ?_
            try simp only [pS]
            have HF : Hid (Fr No w wk66 [(gk1, 23, Ky.cells k), (gk3, 35, Hd.cells a3), (gk5, 35, Hd.cells b), (gk7, 35, Hd.cells hdZ), (g13, 50, Mg.cells q), (g16, 50, Mg.cells ((takeA m a (haveA q b bbs bes bls bp).b (haveA q b bbs bes bls bp).e (haveA q b bbs bes bls bp).l (haveA q b bbs bes bls bp).c ap).m)), (gk54, 35, Hd.cells a)]) := (show Fr No w wk66 ([(gk1, 23, Ky.cells k), (gk3, 35, Hd.cells a3), (gk5, 35, Hd.cells b), (gk7, 35, Hd.cells hdZ), (g13, 50, Mg.cells q), (g16, 50, Mg.cells ((takeA m a (haveA q b bbs bes bls bp).b (haveA q b bbs bes bls bp).e (haveA q b bbs bes bls bp).l (haveA q b bbs bes bls bp).c ap).m)), (gk54, 35, Hd.cells a)] ++ [(gk58, 72, Ch.cells (hAt X j))]) from HF.out).front
            go_wp2
            go_roundw
            case rel => exact ⟨j + 1, a3, ab3, ae3, al3, ap3, by go_num, by omega, HH3, HH, HW3, HF3, HI3, HK, HF⟩
            case measure => simp [intOf]; omega
           ·skip
            try simp only [q2]
            refine aT (i := 13) (oi := oqHb26) (v := .agg (Hd.cells a2)) (fun w' hw => eL 35 _ rfl ⟨gk3, 0, none⟩ (run_load_part (cs := Hd.cs a2) (sub := Hd.cs a2) (hw.box 1 _ _ _ rfl) (Part.all _) Try.und35 rfl Try.size35)) hH ?_
            try simp only [pS]
            refine aT (i := 14) (oi := oqHb27) (v := .pointer (some ⟨gk58, 0, none⟩)) (fun _ _ => by kernel_rfl) hH ?_
            try simp only [pS]
            refine aT (i := 15) (oi := oqHb28) (v := .pointer (some ⟨gk58, 2, none⟩)) (fun _ _ => by kernel_rfl) hH ?_
            try simp only [pS]
            refine aT (i := 16) (oi := oqHb29) (v := .int .i64 ((hAt X j).ky).b) (fun w' hw => eL 3 _ rfl ⟨gk58, 2, none⟩ (load_one ((hw.box 7 _ _ _ rfl).cell 2 |>.trans (by kernel_rfl)) Try.und3 rfl)) hH ?_
            try simp only [pS]
            refine aT (i := 18) (oi := oqHb30) (v := .pointer (some ⟨gk58, 7, none⟩)) (fun _ _ => by kernel_rfl) hH ?_
            try simp only [pS]
            refine aT (i := 19) (oi := oqHb31) (v := .agg (In.cells ((hAt X j).i))) (fun w' hw => eL 70 _ rfl ⟨gk58, 7, none⟩ (run_load_part (cs := Ch.cs (hAt X j)) (sub := In.cs ((hAt X j).i)) (hw.box 7 _ _ _ rfl) (part_of (by kernel_rfl)) Try.und70 rfl Try.size70)) hH ?_
            try simp only [pS]
            refine any_call (i := 17) (o := oqHb32) rfl (by kernel_rfl) (by kernel_rfl) 46 #[.agg (Hd.cells a2), .int .i64 ((hAt X j).ky).b] (by kernel_rfl) _ (refAt_any a2 ap2 (hAt X j).ky.b _ HH2.out.p hap2) ?_
            rintro e wk67 ⟨rfl, hk⟩
            have hH2 : Fr No w wk67 [(gk1, 23, Ky.cells k), (gk3, 35, Hd.cells a2), (gk5, 35, Hd.cells b), (gk7, 35, Hd.cells hdZ), (g13, 50, Mg.cells q), (g16, 50, Mg.cells ((takeA m a (haveA q b bbs bes bls bp).b (haveA q b bbs bes bls bp).e (haveA q b bbs bes bls bp).l (haveA q b bbs bes bls bp).c ap).m)), (gk54, 35, Hd.cells a), (gk58, 72, Ch.cells (hAt X j))] := hH.no hk
            have HH2 : Hid (HdAt (wk67) a2 ab2 ae2 al2 ap2) := HH2.out.no hk
            have HH : Hid (HdAt (wk67) a ab ae al ap) := HH.out.no hk
            have HK : Hid (TkRd (wk67) ⟨sa, sn, sk⟩ (takeA m a (haveA q b bbs bes bls bp).b (haveA q b bbs bes bls bp).e (haveA q b bbs bes bls bp).l (haveA q b bbs bes bls bp).c ap).z (takeA m a (haveA q b bbs bes bls bp).b (haveA q b bbs bes bls bp).e (haveA q b bbs bes bls bp).l (haveA q b bbs bes bls bp).c ap).b (takeA m a (haveA q b bbs bes bls bp).b (haveA q b bbs bes bls bp).e (haveA q b bbs bes bls bp).l (haveA q b bbs bes bls bp).c ap).e (takeA m a (haveA q b bbs bes bls bp).b (haveA q b bbs bes bls bp).e (haveA q b bbs bes bls bp).l (haveA q b bbs bes bls bp).c ap).l X) := HK.out.no hk
            have HF : Hid (Fr No w (wk67) [(gk1, 23, Ky.cells k), (gk3, 35, Hd.cells a2), (gk5, 35, Hd.cells b), (gk7, 35, Hd.cells hdZ), (g13, 50, Mg.cells q), (g16, 50, Mg.cells ((takeA m a (haveA q b bbs bes bls bp).b (haveA q b bbs bes bls bp).e (haveA q b bbs bes bls bp).l (haveA q b bbs bes bls bp).c ap).m)), (gk54, 35, Hd.cells a), (gk58, 72, Ch.cells (hAt X j))]) := HF.out.no hk
            clear hk
            refine ⟨.agg (In.cells (atF (hAt X j).ky.b ap2)), rfl, hH2, fun hH => ?_⟩
            clear hH2
            try simp only [pS]
            refine aT (i := 20) (oi := oqHb33) (v := .bool false) (fun w' hw => eB .neq 70 _ _ _ rfl (.agg (In.cells (atF (hAt X j).ky.b ap2))) (.agg (In.cells ((hAt X j).i))) _ (by rw [eqI_neq, HW2.out.at _ q2, (HIn.out.ok j (Nat.le_refl _) hlt).three q1, eqI_refl]; rfl)) hH ?_
            try simp only [pS]
            refine aT (i := 21) (oi := oqHb34) (v := .bool false) (fun _ _ => by kernel_rfl) hH ?_
            try simp only [pS]
            refine wpAnyH_done (by kernel_rfl) ?_ _
            try simp only [pS]
            clear hH
            go_upto_region 13 with fail
            refine WL.start ?_
            refine tW (.agg (Hd.cells a2)) (eL 35 _ rfl ⟨gk3, 0, none⟩ (run_load_part (cs := Hd.cs a2) (sub := Hd.cs a2) (HF.out.box 1 _ _ _ rfl) (Part.all _) Try.und35 rfl Try.size35)) ?_
            refine tW (.agg (Ch.cells (hAt X j))) (eL 72 _ rfl ⟨gk58, 0, none⟩ (run_load_part (cs := Ch.cs (hAt X j)) (sub := Ch.cs (hAt X j)) (HF.out.box 7 _ _ _ rfl) (Part.all _) Try.und72 rfl Try.size72)) ?_
            try simp only [pS]
            refine wp_callW 24 #[.agg (Hd.cells a2), .agg (Ch.cells (hAt X j))] (by kernel_rfl) _ (laid_kn (fun k => k = gk3 ∨ k = gk7 ∨ k = g13 ∨ G k) a2 (hAt X j) (hAt (takeA m a (haveA q b bbs bes bls bp).b (haveA q b bbs bes bls bp).e (haveA q b bbs bes bls bp).l (haveA q b bbs bes bls bp).c ap).z j) ab2 ae2 al2 ap2 (takeA m a (haveA q b bbs bes bls bp).b (haveA q b bbs bes bls bp).e (haveA q b bbs bes bls bp).l (haveA q b bbs bes bls bp).c ap).b (takeA m a (haveA q b bbs bes bls bp).b (haveA q b bbs bes bls bp).e (haveA q b bbs bes bls bp).l (haveA q b bbs bes bls bp).c ap).e (takeA m a (haveA q b bbs bes bls bp).b (haveA q b bbs bes bls bp).e (haveA q b bbs bes bls bp).l (haveA q b bbs bes bls bp).c ap).l _ HH2.out HW2.out (HIn.out.ok j (Nat.le_refl _) hlt) (HK.out.el j hlt) hBd.1 hBd.2.1 hBd.2.2 (by rintro k (e | e | e | e); rw [e]; exact (HF.out.box 1 _ _ _ rfl).lt; rw [e]; exact (HF.out.box 3 _ _ _ rfl).lt; rw [e]; exact (HF.out.box 4 _ _ _ rfl).lt; exact Nat.lt_of_lt_of_le (HGw.out k e) HF.out.kept.size) HOf2.out (HTO.out.2 j hlt)) (by kernel_rfl) ?_
            rintro e wk68 ⟨a3, ab3, ae3, al3, ap3, rfl, hh3, hw3, ho3, hl3, hk⟩
            have HH2 : Hid (HdAt (wk68) a2 ab2 ae2 al2 ap2) := HH2.out.no hk
            have HH : Hid (HdAt (wk68) a ab ae al ap) := HH.out.no hk
            have HK : Hid (TkRd (wk68) ⟨sa, sn, sk⟩ (takeA m a (haveA q b bbs bes bls bp).b (haveA q b bbs bes bls bp).e (haveA q b bbs bes bls bp).l (haveA q b bbs bes bls bp).c ap).z (takeA m a (haveA q b bbs bes bls bp).b (haveA q b bbs bes bls bp).e (haveA q b bbs bes bls bp).l (haveA q b bbs bes bls bp).c ap).b (takeA m a (haveA q b bbs bes bls bp).b (haveA q b bbs bes bls bp).e (haveA q b bbs bes bls bp).l (haveA q b bbs bes bls bp).c ap).e (takeA m a (haveA q b bbs bes bls bp).b (haveA q b bbs bes bls bp).e (haveA q b bbs bes bls bp).l (haveA q b bbs bes bls bp).c ap).l X) := HK.out.no hk
            have HF : Hid (Fr No w (wk68) [(gk1, 23, Ky.cells k), (gk3, 35, Hd.cells a2), (gk5, 35, Hd.cells b), (gk7, 35, Hd.cells hdZ), (g13, 50, Mg.cells q), (g16, 50, Mg.cells ((takeA m a (haveA q b bbs bes bls bp).b (haveA q b bbs bes bls bp).e (haveA q b bbs bes bls bp).l (haveA q b bbs bes bls bp).c ap).m)), (gk54, 35, Hd.cells a), (gk58, 72, Ch.cells (hAt X j))]) := HF.out.no hk
            have HH3 : Hid (HdAt wk68 a3 ab3 ae3 al3 ap3) := hh3
            have HW3 : Hid (Wl a3 ab3 ae3 al3 ap3) := hw3
            have HF3 : Hid (HdOff (fun k => k = gk3 ∨ k = gk7 ∨ k = g13 ∨ G k) a3 ab3 ae3 al3 ap3) := ho3
            have HI3 : Hid (InW a ap X sn (takeA m a (haveA q b bbs bes bls bp).b (haveA q b bbs bes bls bp).e (haveA q b bbs bes bls bp).l (haveA q b bbs bes bls bp).c ap).b (takeA m a (haveA q b bbs bes bls bp).b (haveA q b bbs bes bls bp).e (haveA q b bbs bes bls bp).l (haveA q b bbs bes bls bp).c ap).e (takeA m a (haveA q b bbs bes bls bp).b (haveA q b bbs bes bls bp).e (haveA q b bbs bes bls bp).l (haveA q b bbs bes bls bp).c ap).l (j + 1) a3 ap3) := HIn.out.next hlt hl3
            clear hk hh3 hw3 hl3 ho3
            refine ⟨.agg (Hd.cells a3), rfl, ?_⟩
            try simp only [pS]
            refine wp_storeW 35 _ _ rfl ⟨gk3, 0, none⟩ (.agg (Hd.cells a3)) (by kernel_rfl) (by kernel_rfl) (wk68.setRow gk3 (Hd.cells a3)) (run_store_to (cur := Hd.cs a2) (vs := Hd.cs a3) (new := Hd.cs a3) (HF.out.box 1 _ _ _ rfl) (by kernel_rfl) Try.size35 (Nat.le_of_ble_eq_true (by kernel_rfl)) (Hd.oneL _) (by kernel_rfl)) (by kernel_rfl) ?_
            try simp only [pS]
            have HH2 : Hid (HdAt (wk68.setRow gk3 (Hd.cells a3)) a2 ab2 ae2 al2 ap2) := HH2.out.keptG HOf2.out (Kept.setRow _ _ _) (fun k e => .inl e)
            have HH : Hid (HdAt (wk68.setRow gk3 (Hd.cells a3)) a ab ae al ap) := HH.out.keptG HOf.out (Kept.setRow _ _ _) (fun k e => .inl e)
            have HK : Hid (TkRd (wk68.setRow gk3 (Hd.cells a3)) ⟨sa, sn, sk⟩ (takeA m a (haveA q b bbs bes bls bp).b (haveA q b bbs bes bls bp).e (haveA q b bbs bes bls bp).l (haveA q b bbs bes bls bp).c ap).z (takeA m a (haveA q b bbs bes bls bp).b (haveA q b bbs bes bls bp).e (haveA q b bbs bes bls bp).l (haveA q b bbs bes bls bp).c ap).b (takeA m a (haveA q b bbs bes bls bp).b (haveA q b bbs bes bls bp).e (haveA q b bbs bes bls bp).l (haveA q b bbs bes bls bp).c ap).e (takeA m a (haveA q b bbs bes bls bp).b (haveA q b bbs bes bls bp).e (haveA q b bbs bes bls bp).l (haveA q b bbs bes bls bp).c ap).l X) := HK.out.keptG HTO.out (Kept.setRow _ _ _) (fun k e => .inl e)
            have HH3 : Hid (HdAt (wk68.setRow gk3 (Hd.cells a3)) a3 ab3 ae3 al3 ap3) := HH3.out.keptG HF3.out (Kept.setRow _ _ _) (fun k e => .inl e)
            have HF : Hid (Fr No w _ [(gk1, 23, Ky.cells k), (gk3, 35, Hd.cells a3), (gk5, 35, Hd.cells b), (gk7, 35, Hd.cells hdZ), (g13, 50, Mg.cells q), (g16, 50, Mg.cells ((takeA m a (haveA q b bbs bes bls bp).b (haveA q b bbs bes bls bp).e (haveA q b bbs bes bls bp).l (haveA q b bbs bes bls bp).c ap).m)), (gk54, 35, Hd.cells a), (gk58, 72, Ch.cells (hAt X j))]) := HF.out.set 1 rfl _
            generalize wk68.setRow gk3 (Hd.cells a3) = wk69 at HF HH2 HH HK HH3 ⊢
            refine WL.nil ?_
            try simp only [pS]
            go_upto_region 9 with fail
            refine WL.start ?_
            refine tK (.int .i64 ((j : Nat) : Int)) ?_
            refine tW (.int .i64 (((j + 1) : Nat) : Int)) (eB .add 3 _ _ _ rfl (.int .i64 ((j : Nat) : Int)) (.int .i64 1) _ (b_addw _ _ _ (by rw [IntKind.wrap_i64]; omega) _)) ?_
            refine tK (.int .i64 (((j + 1) : Nat) : Int)) ?_
            try simp only [pS]
            refine WL.nil ?_
            try simp only [pS]
            have HF : Hid (Fr No w wk69 [(gk1, 23, Ky.cells k), (gk3, 35, Hd.cells a3), (gk5, 35, Hd.cells b), (gk7, 35, Hd.cells hdZ), (g13, 50, Mg.cells q), (g16, 50, Mg.cells ((takeA m a (haveA q b bbs bes bls bp).b (haveA q b bbs bes bls bp).e (haveA q b bbs bes bls bp).l (haveA q b bbs bes bls bp).c ap).m)), (gk54, 35, Hd.cells a)]) := (show Fr No w wk69 ([(gk1, 23, Ky.cells k), (gk3, 35, Hd.cells a3), (gk5, 35, Hd.cells b), (gk7, 35, Hd.cells hdZ), (g13, 50, Mg.cells q), (g16, 50, Mg.cells ((takeA m a (haveA q b bbs bes bls bp).b (haveA q b bbs bes bls bp).e (haveA q b bbs bes bls bp).l (haveA q b bbs bes bls bp).c ap).m)), (gk54, 35, Hd.cells a)] ++ [(gk58, 72, Ch.cells (hAt X j))]) from HF.out).front
            go_wp2
            go_roundw
            case rel => exact ⟨j + 1, a3, ab3, ae3, al3, ap3, by go_num, by omega, HH3, HH, HW3, HF3, HI3, HK, HF⟩
            case measure => simp [intOf]; omega
        · skip
          go_upto_region 8 with fail
          refine WL.start ?_
          refine tK (.int .i64 ((j : Nat) : Int)) ?_
          refine tK (.slice sa sn sk) ?_
          refine tK (.int .i64 ((sn : Nat) : Int)) ?_
          refine tW (.bool false) (eB .lss 3 _ _ _ rfl (.int .i64 ((j : Nat) : Int)) (.int .i64 ((sn : Nat) : Int)) _ (by rw [b_lss, decide_eq_false (by omega)])) ?_
          try simp only [pS]
          refine WL.nil ?_
          try simp only [pS]
          have hjs : sn = j := by omega
          subst hjs
          have HHw : Hid (RdP wr a.r ap) := HH.out.p
          go_upto_region 14 with fail
          refine wp_region_held_drew (S := fun w' => Fr No w w' [(gk1, 23, Ky.cells k), (gk3, 35, Hd.cells a2), (gk5, 35, Hd.cells b), (gk7, 35, Hd.cells hdZ), (g13, 50, Mg.cells q), (g16, 50, Mg.cells ((takeA m a (haveA q b bbs bes bls bp).b (haveA q b bbs bes bls bp).e (haveA q b bbs bes bls bp).l (haveA q b bbs bes bls bp).c ap).m)), (gk54, 35, Hd.cells a)]) rfl (HF.out.drew) (fun hH => ?_)
          have HH2 : Hid (HdAt (wr.drew) a2 ab2 ae2 al2 ap2) := HH2.out.no (Kept.refl No _).drew
          have HH : Hid (HdAt (wr.drew) a ab ae al ap) := HH.out.no (Kept.refl No _).drew
          have HK : Hid (TkRd (wr.drew) ⟨sa, sn, sk⟩ (takeA m a (haveA q b bbs bes bls bp).b (haveA q b bbs bes bls bp).e (haveA q b bbs bes bls bp).l (haveA q b bbs bes bls bp).c ap).z (takeA m a (haveA q b bbs bes bls bp).b (haveA q b bbs bes bls bp).e (haveA q b bbs bes bls bp).l (haveA q b bbs bes bls bp).c ap).b (takeA m a (haveA q b bbs bes bls bp).b (haveA q b bbs bes bls bp).e (haveA q b bbs bes bls bp).l (haveA q b bbs bes bls bp).c ap).e (takeA m a (haveA q b bbs bes bls bp).b (haveA q b bbs bes bls bp).e (haveA q b bbs bes bls bp).l (haveA q b bbs bes bls bp).c ap).l X) := HK.out.no (Kept.refl No _).drew
          have HHw : Hid (RdP (wr.drew) a.r ap) := HHw.out.no (Kept.refl No _).drew
          have HF : Hid (Fr No w (wr.drew) [(gk1, 23, Ky.cells k), (gk3, 35, Hd.cells a2), (gk5, 35, Hd.cells b), (gk7, 35, Hd.cells hdZ), (g13, 50, Mg.cells q), (g16, 50, Mg.cells ((takeA m a (haveA q b bbs bes bls bp).b (haveA q b bbs bes bls bp).e (haveA q b bbs bes bls bp).l (haveA q b bbs bes bls bp).c ap).m)), (gk54, 35, Hd.cells a)]) := HF.out.drew
          generalize wr.drew = wk70 at HF HH2 HH HK HHw hH ⊢
          refine aT (i := 0) (oi := { dst := some 81, op := Op.fieldAddr 35 (Operand.tmp 8) 0, type := 0, pos := "outright.go:38", after := #[], guard := none }) (v := .pointer (some ⟨gk3, 0, none⟩)) (fun _ _ => by kernel_rfl) hH ?_
          try simp only [pS]
          refine aT (i := 1) (oi := { dst := some 82, op := Op.fieldAddr 28 (Operand.tmp 81) 0, type := 0, pos := "outright.go:38", after := #[{ on := 0, ground := Ground.data }], guard := none }) (v := .pointer (some ⟨gk3, 0, none⟩)) (fun _ _ => by kernel_rfl) hH ?_
          try simp only [pS]
          refine aT (i := 2) (oi := { dst := some 83, op := Op.load 25 (Operand.tmp 82), type := 25, pos := "outright.go:38", after := #[{ on := 1, ground := Ground.data }], guard := none }) (v := .agg (Sp.cells a2.b.s)) (fun w' hw => eL 25 _ rfl ⟨gk3, 0, none⟩ (run_load_part (cs := Hd.cs a2) (sub := Sp.cs a2.b.s) (hw.box 1 _ _ _ rfl) (part_of (by kernel_rfl)) Try.und25 rfl Try.size25)) hH ?_
          try simp only [pS]
          refine aT (i := 3) (oi := { dst := some 84, op := Op.fieldAddr 35 (Operand.tmp 18) 0, type := 0, pos := "outright.go:38", after := #[], guard := none }) (v := .pointer (some ⟨gk54, 0, none⟩)) (fun _ _ => by kernel_rfl) hH ?_
          try simp only [pS]
          refine aT (i := 4) (oi := { dst := some 85, op := Op.fieldAddr 28 (Operand.tmp 84) 0, type := 0, pos := "outright.go:38", after := #[{ on := 3, ground := Ground.data }], guard := none }) (v := .pointer (some ⟨gk54, 0, none⟩)) (fun _ _ => by kernel_rfl) hH ?_
          try simp only [pS]
          refine aT (i := 5) (oi := { dst := some 86, op := Op.load 25 (Operand.tmp 85), type := 25, pos := "outright.go:38", after := #[{ on := 4, ground := Ground.data }], guard := none }) (v := .agg (Sp.cells a.b.s)) (fun w' hw => eL 25 _ rfl ⟨gk54, 0, none⟩ (run_load_part (cs := Hd.cs a) (sub := Sp.cs a.b.s) (hw.box 6 _ _ _ rfl) (part_of (by kernel_rfl)) Try.und25 rfl Try.size25)) hH ?_
          try simp only [pS]
          refine any_call (i := 6) (o := { dst := some 87, op := Op.call { callee := Callee.value (Operand.func 54), args := #[Operand.tmp 83, Operand.tmp 86], argTypes := #[25, 25] }, type := 4, pos := "outright.go:38", after := #[{ on := 2, ground := Ground.data }, { on := 5, ground := Ground.data }], guard := none }) rfl (by kernel_rfl) (by kernel_rfl) 54 #[.agg (Sp.cells a2.b.s), .agg (Sp.cells a.b.s)] (by kernel_rfl) _ (below_any a2.b.s a.b.s _) ?_
          rintro e wk71 ⟨rfl, hk⟩
          have hH2 : Fr No w wk71 [(gk1, 23, Ky.cells k), (gk3, 35, Hd.cells a2), (gk5, 35, Hd.cells b), (gk7, 35, Hd.cells hdZ), (g13, 50, Mg.cells q), (g16, 50, Mg.cells ((takeA m a (haveA q b bbs bes bls bp).b (haveA q b bbs bes bls bp).e (haveA q b bbs bes bls bp).l (haveA q b bbs bes bls bp).c ap).m)), (gk54, 35, Hd.cells a)] := hH.no hk
          have HH2 : Hid (HdAt (wk71) a2 ab2 ae2 al2 ap2) := HH2.out.no hk
          have HH : Hid (HdAt (wk71) a ab ae al ap) := HH.out.no hk
          have HK : Hid (TkRd (wk71) ⟨sa, sn, sk⟩ (takeA m a (haveA q b bbs bes bls bp).b (haveA q b bbs bes bls bp).e (haveA q b bbs bes bls bp).l (haveA q b bbs bes bls bp).c ap).z (takeA m a (haveA q b bbs bes bls bp).b (haveA q b bbs bes bls bp).e (haveA q b bbs bes bls bp).l (haveA q b bbs bes bls bp).c ap).b (takeA m a (haveA q b bbs bes bls bp).b (haveA q b bbs bes bls bp).e (haveA q b bbs bes bls bp).l (haveA q b bbs bes bls bp).c ap).e (takeA m a (haveA q b bbs bes bls bp).b (haveA q b bbs bes bls bp).e (haveA q b bbs bes bls bp).l (haveA q b bbs bes bls bp).c ap).l X) := HK.out.no hk
          have HHw : Hid (RdP (wk71) a.r ap) := HHw.out.no hk
          have HF : Hid (Fr No w (wk71) [(gk1, 23, Ky.cells k), (gk3, 35, Hd.cells a2), (gk5, 35, Hd.cells b), (gk7, 35, Hd.cells hdZ), (g13, 50, Mg.cells q), (g16, 50, Mg.cells ((takeA m a (haveA q b bbs bes bls bp).b (haveA q b bbs bes bls bp).e (haveA q b bbs bes bls bp).l (haveA q b bbs bes bls bp).c ap).m)), (gk54, 35, Hd.cells a)]) := HF.out.no hk
          clear hk
          refine ⟨.bool false, by rw [HIn.out.less], hH2, fun hH => ?_⟩
          clear hH2
          try simp only [pS]
          refine aT (i := 7) (oi := { dst := some 88, op := Op.move (Operand.tmp 87), type := 4, pos := "outright.go:38", after := #[{ on := 6, ground := Ground.data }, { on := 6, ground := Ground.chain }], guard := none }) (v := .bool false) (fun _ _ => by kernel_rfl) hH ?_
          try simp only [pS]
          refine aT (i := 8) (oi := { dst := some 89, op := Op.load 35 (Operand.tmp 8), type := 35, pos := "outright.go:38", after := #[{ on := 7, ground := Ground.guard }], guard := some (7, false) }) (v := .agg (Hd.cells a2)) (fun w' hw => eL 35 _ rfl ⟨gk3, 0, none⟩ (run_load_part (cs := Hd.cs a2) (sub := Hd.cs a2) (hw.box 1 _ _ _ rfl) (Part.all _) Try.und35 rfl Try.size35)) hH ?_
          try simp only [pS]
          refine aT (i := 10) (oi := { dst := some 91, op := Op.load 35 (Operand.tmp 18), type := 35, pos := "outright.go:38", after := #[{ on := 7, ground := Ground.guard }], guard := some (7, false) }) (v := .agg (Hd.cells a)) (fun w' hw => eL 35 _ rfl ⟨gk54, 0, none⟩ (run_load_part (cs := Hd.cs a) (sub := Hd.cs a) (hw.box 6 _ _ _ rfl) (Part.all _) Try.und35 rfl Try.size35)) hH ?_
          try simp only [pS]
          refine any_call (i := 9) (o := { dst := some 90, op := Op.call { callee := Callee.value (Operand.func 28), args := #[Operand.tmp 89], argTypes := #[35] }, type := 3, pos := "outright.go:38", after := #[{ on := 8, ground := Ground.data }, { on := 7, ground := Ground.chain }, { on := 7, ground := Ground.guard }], guard := some (7, false) }) rfl (by kernel_rfl) (by kernel_rfl) 28 #[.agg (Hd.cells a2)] (by kernel_rfl) _ (edgeL_any a2 ap2 _ HH2.out.p HW2.out.may.len HW2.out.may.1) ?_
          rintro e wk72 ⟨n1, rfl, ⟨hn1a, _⟩, hn1b, hn1c, hk⟩
          have en1 := edL_eq HW2.out.may HH2.out.p.len hn1a hn1b hn1c
          clear hn1a hn1b hn1c
          have hH2 : Fr No w wk72 [(gk1, 23, Ky.cells k), (gk3, 35, Hd.cells a2), (gk5, 35, Hd.cells b), (gk7, 35, Hd.cells hdZ), (g13, 50, Mg.cells q), (g16, 50, Mg.cells ((takeA m a (haveA q b bbs bes bls bp).b (haveA q b bbs bes bls bp).e (haveA q b bbs bes bls bp).l (haveA q b bbs bes bls bp).c ap).m)), (gk54, 35, Hd.cells a)] := hH.no hk
          have HH2 : Hid (HdAt (wk72) a2 ab2 ae2 al2 ap2) := HH2.out.no hk
          have HH : Hid (HdAt (wk72) a ab ae al ap) := HH.out.no hk
          have HK : Hid (TkRd (wk72) ⟨sa, sn, sk⟩ (takeA m a (haveA q b bbs bes bls bp).b (haveA q b bbs bes bls bp).e (haveA q b bbs bes bls bp).l (haveA q b bbs bes bls bp).c ap).z (takeA m a (haveA q b bbs bes bls bp).b (haveA q b bbs bes bls bp).e (haveA q b bbs bes bls bp).l (haveA q b bbs bes bls bp).c ap).b (takeA m a (haveA q b bbs bes bls bp).b (haveA q b bbs bes bls bp).e (haveA q b bbs bes bls bp).l (haveA q b bbs bes bls bp).c ap).e (takeA m a (haveA q b bbs bes bls bp).b (haveA q b bbs bes bls bp).e (haveA q b bbs bes bls bp).l (haveA q b bbs bes bls bp).c ap).l X) := HK.out.no hk
          have HHw : Hid (RdP (wk72) a.r ap) := HHw.out.no hk
          have HF : Hid (Fr No w (wk72) [(gk1, 23, Ky.cells k), (gk3, 35, Hd.cells a2), (gk5, 35, Hd.cells b), (gk7, 35, Hd.cells hdZ), (g13, 50, Mg.cells q), (g16, 50, Mg.cells ((takeA m a (haveA q b bbs bes bls bp).b (haveA q b bbs bes bls bp).e (haveA q b bbs bes bls bp).l (haveA q b bbs bes bls bp).c ap).m)), (gk54, 35, Hd.cells a)]) := HF.out.no hk
          clear hk
          refine ⟨.int .i64 ((n1 : Nat) : Int), rfl, hH2, fun hH => ?_⟩
          clear hH2
          try simp only [pS]
          refine any_call (i := 11) (o := { dst := some 92, op := Op.call { callee := Callee.value (Operand.func 28), args := #[Operand.tmp 91], argTypes := #[35] }, type := 3, pos := "outright.go:38", after := #[{ on := 10, ground := Ground.data }, { on := 9, ground := Ground.chain }, { on := 7, ground := Ground.guard }], guard := some (7, false) }) rfl (by kernel_rfl) (by kernel_rfl) 28 #[.agg (Hd.cells a)] (by kernel_rfl) _ (edgeL_any a ap _ (HHw.out) HW.out.may.len HW.out.may.1) ?_
          rintro e wk73 ⟨n2, rfl, ⟨hn2a, _⟩, hn2b, hn2c, hk⟩
          have en2 := edL_eq HW.out.may HHa.out hn2a hn2b hn2c
          clear hn2a hn2b hn2c
          have hH2 : Fr No w wk73 [(gk1, 23, Ky.cells k), (gk3, 35, Hd.cells a2), (gk5, 35, Hd.cells b), (gk7, 35, Hd.cells hdZ), (g13, 50, Mg.cells q), (g16, 50, Mg.cells ((takeA m a (haveA q b bbs bes bls bp).b (haveA q b bbs bes bls bp).e (haveA q b bbs bes bls bp).l (haveA q b bbs bes bls bp).c ap).m)), (gk54, 35, Hd.cells a)] := hH.no hk
          have HH2 : Hid (HdAt (wk73) a2 ab2 ae2 al2 ap2) := HH2.out.no hk
          have HH : Hid (HdAt (wk73) a ab ae al ap) := HH.out.no hk
          have HK : Hid (TkRd (wk73) ⟨sa, sn, sk⟩ (takeA m a (haveA q b bbs bes bls bp).b (haveA q b bbs bes bls bp).e (haveA q b bbs bes bls bp).l (haveA q b bbs bes bls bp).c ap).z (takeA m a (haveA q b bbs bes bls bp).b (haveA q b bbs bes bls bp).e (haveA q b bbs bes bls bp).l (haveA q b bbs bes bls bp).c ap).b (takeA m a (haveA q b bbs bes bls bp).b (haveA q b bbs bes bls bp).e (haveA q b bbs bes bls bp).l (haveA q b bbs bes bls bp).c ap).e (takeA m a (haveA q b bbs bes bls bp).b (haveA q b bbs bes bls bp).e (haveA q b bbs bes bls bp).l (haveA q b bbs bes bls bp).c ap).l X) := HK.out.no hk
          have HHw : Hid (RdP (wk73) a.r ap) := HHw.out.no hk
          have HF : Hid (Fr No w (wk73) [(gk1, 23, Ky.cells k), (gk3, 35, Hd.cells a2), (gk5, 35, Hd.cells b), (gk7, 35, Hd.cells hdZ), (g13, 50, Mg.cells q), (g16, 50, Mg.cells ((takeA m a (haveA q b bbs bes bls bp).b (haveA q b bbs bes bls bp).e (haveA q b bbs bes bls bp).l (haveA q b bbs bes bls bp).c ap).m)), (gk54, 35, Hd.cells a)]) := HF.out.no hk
          clear hk
          refine ⟨.int .i64 ((n2 : Nat) : Int), rfl, hH2, fun hH => ?_⟩
          clear hH2
          try simp only [pS]
          refine aT (i := 12) (oi := { dst := some 93, op := Op.binOp BinOp.lss 3 (Operand.tmp 90) (Operand.tmp 92) 3, type := 4, pos := "outright.go:38", after := #[{ on := 9, ground := Ground.data }, { on := 11, ground := Ground.data }, { on := 7, ground := Ground.guard }], guard := some (7, false) }) (v := .bool false) (fun w' hw => eB .lss 3 _ _ _ rfl (.int .i64 ((n1 : Nat) : Int)) (.int .i64 ((n2 : Nat) : Int)) _ (by rw [b_lss, decide_eq_false (by have := edge_mono HW.out.may HW2.out.may HIn.out.kn; omega)])) hH ?_
          try simp only [pS]
          refine aT (i := 13) (oi := { dst := some 94, op := Op.pick (Operand.tmp 88) (Operand.const (Value.bool true)) (Operand.tmp 93), type := 4, pos := "outright.go:38", after := #[{ on := 7, ground := Ground.data }, { on := 12, ground := Ground.data }], guard := none }) (v := .bool false) (fun _ _ => by kernel_rfl) hH ?_
          try simp only [pS]
          refine wpAnyH_done (by kernel_rfl) ?_ _
          try simp only [pS]
          clear hH
          cases ho : (takeA m a (haveA q b bbs bes bls bp).b (haveA q b bbs bes bls bp).e (haveA q b bbs bes bls bp).l (haveA q b bbs bes bls bp).c ap).o
          ·skip
           try simp only [ho]
           go_upto_region 16 with fail
           refine WL.start ?_
           refine tK (.bool false) ?_
           refine tK (.bool true) ?_
           try simp only [pS]
           refine WL.nil ?_
           try simp only [pS]
           go_upto_region 17 with fail
           refine WL.start ?_
           refine tW (.agg (Hd.cells a2)) (eL 35 _ rfl ⟨gk3, 0, none⟩ (run_load_part (cs := Hd.cs a2) (sub := Hd.cs a2) (HF.out.box 1 _ _ _ rfl) (Part.all _) Try.und35 rfl Try.size35)) ?_
           refine tK (.int .i64 ((t : Nat) : Int)) ?_
           try simp only [pS]
           refine wp_storeW 35 _ _ rfl ⟨gk7, 0, none⟩ (.agg (Hd.cells a2)) (by kernel_rfl) (by kernel_rfl) (wk73.setRow gk7 (Hd.cells a2)) (run_store_to (cur := Hd.cs hdZ) (vs := Hd.cs a2) (new := Hd.cs a2) (HF.out.box 3 _ _ _ rfl) (by kernel_rfl) Try.size35 (Nat.le_of_ble_eq_true (by kernel_rfl)) (Hd.oneL _) (by kernel_rfl)) (by kernel_rfl) ?_
           try simp only [pS]
           have HH2 : Hid (HdAt (wk73.setRow gk7 (Hd.cells a2)) a2 ab2 ae2 al2 ap2) := HH2.out.keptG HOf2.out (Kept.setRow _ _ _) (fun k e => .inr (.inl e))
           have HF : Hid (Fr No w _ [(gk1, 23, Ky.cells k), (gk3, 35, Hd.cells a2), (gk5, 35, Hd.cells b), (gk7, 35, Hd.cells a2), (g13, 50, Mg.cells q), (g16, 50, Mg.cells ((takeA m a (haveA q b bbs bes bls bp).b (haveA q b bbs bes bls bp).e (haveA q b bbs bes bls bp).l (haveA q b bbs bes bls bp).c ap).m)), (gk54, 35, Hd.cells a)]) := HF.out.set 3 rfl _
           generalize wk73.setRow gk7 (Hd.cells a2) = wk74 at HF HH2 ⊢
           refine tK (.int .i64 ((t : Nat) : Int)) ?_
           refine tK (.bool true) ?_
           try simp only [pS]
           refine WL.nil ?_
           try simp only [pS]
           go_wp2
           rw [HC.out]
           refine bodyPost_ret (results_ctt (by rfl) _ _ gk7 (Hd.cells a2) (by rfl) (run_load_part (cs := Hd.cs a2) (sub := Hd.cs a2) (HF.out.box 3 _ _ _ rfl) (Part.all _) Try.und35 rfl Try.size35)) rfl ?_
           exact ⟨a2, ab2, ae2, al2, ap2, t, rfl, HH2.out, HW2.out, HQ.out.done HS9.out HIn.out ho, HOf2.out.mono (fun k h => .inr (.inr (.inr h))), HF.out.kept⟩
          ·skip
           try simp only [ho]
           have HQ2 : Hid (RowQ k.k (edgeF a0.k.up (decd ap0)) (takeA m a (haveA q b bbs bes bls bp).b (haveA q b bbs bes bls bp).e (haveA q b bbs bes bls bp).l (haveA q b bbs bes bls bp).c ap).m a0 a2 b ap0 ap2 bp (t + 1)) := HQ.out.next HS9.out HIn.out ho
           go_upto_region 16 with fail
           refine WL.start ?_
           refine tK (.bool true) ?_
           refine tK (.bool false) ?_
           try simp only [pS]
           refine WL.nil ?_
           try simp only [pS]
           go_upto_region 18 with fail
           refine WL.start ?_
           refine tW (.agg (Mg.cells ((takeA m a (haveA q b bbs bes bls bp).b (haveA q b bbs bes bls bp).e (haveA q b bbs bes bls bp).l (haveA q b bbs bes bls bp).c ap).m))) (eL 50 _ rfl ⟨g16, 0, none⟩ (run_load_part (cs := Mg.cs ((takeA m a (haveA q b bbs bes bls bp).b (haveA q b bbs bes bls bp).e (haveA q b bbs bes bls bp).l (haveA q b bbs bes bls bp).c ap).m)) (sub := Mg.cs ((takeA m a (haveA q b bbs bes bls bp).b (haveA q b bbs bes bls bp).e (haveA q b bbs bes bls bp).l (haveA q b bbs bes bls bp).c ap).m)) (HF.out.box 5 _ _ _ rfl) (Part.all _) Try.und50 rfl Try.size50)) ?_
           try simp only [pS]
           refine wp_storeW 50 _ _ rfl ⟨g13, 0, none⟩ (.agg (Mg.cells ((takeA m a (haveA q b bbs bes bls bp).b (haveA q b bbs bes bls bp).e (haveA q b bbs bes bls bp).l (haveA q b bbs bes bls bp).c ap).m))) (by kernel_rfl) (by kernel_rfl) (wk73.setRow g13 (Mg.cells ((takeA m a (haveA q b bbs bes bls bp).b (haveA q b bbs bes bls bp).e (haveA q b bbs bes bls bp).l (haveA q b bbs bes bls bp).c ap).m))) (run_store_to (cur := Mg.cs q) (vs := Mg.cs ((takeA m a (haveA q b bbs bes bls bp).b (haveA q b bbs bes bls bp).e (haveA q b bbs bes bls bp).l (haveA q b bbs bes bls bp).c ap).m)) (new := Mg.cs ((takeA m a (haveA q b bbs bes bls bp).b (haveA q b bbs bes bls bp).e (haveA q b bbs bes bls bp).l (haveA q b bbs bes bls bp).c ap).m)) (HF.out.box 4 _ _ _ rfl) (by kernel_rfl) Try.size50 (Nat.le_of_ble_eq_true (by kernel_rfl)) (Mg.oneL _) (by kernel_rfl)) (by kernel_rfl) ?_
           try simp only [pS]
           have HH2 : Hid (HdAt (wk73.setRow g13 (Mg.cells ((takeA m a (haveA q b bbs bes bls bp).b (haveA q b bbs bes bls bp).e (haveA q b bbs bes bls bp).l (haveA q b bbs bes bls bp).c ap).m))) a2 ab2 ae2 al2 ap2) := HH2.out.keptG HOf2.out (Kept.setRow _ _ _) (fun k e => .inr (.inr (.inl e)))
           have HF : Hid (Fr No w _ [(gk1, 23, Ky.cells k), (gk3, 35, Hd.cells a2), (gk5, 35, Hd.cells b), (gk7, 35, Hd.cells hdZ), (g13, 50, Mg.cells ((takeA m a (haveA q b bbs bes bls bp).b (haveA q b bbs bes bls bp).e (haveA q b bbs bes bls bp).l (haveA q b bbs bes bls bp).c ap).m)), (g16, 50, Mg.cells ((takeA m a (haveA q b bbs bes bls bp).b (haveA q b bbs bes bls bp).e (haveA q b bbs bes bls bp).l (haveA q b bbs bes bls bp).c ap).m)), (gk54, 35, Hd.cells a)]) := HF.out.set 4 rfl _
           generalize wk73.setRow g13 (Mg.cells ((takeA m a (haveA q b bbs bes bls bp).b (haveA q b bbs bes bls bp).e (haveA q b bbs bes bls bp).l (haveA q b bbs bes bls bp).c ap).m)) = wk75 at HF HH2 ⊢
           refine WL.nil ?_
           try simp only [pS]
           go_upto_region 4 with fail
           refine WL.start ?_
           refine tK (.int .i64 ((t : Nat) : Int)) ?_
           refine tW (.int .i64 (((t + 1) : Nat) : Int)) (eB .add 3 _ _ _ rfl (.int .i64 ((t : Nat) : Int)) (.int .i64 1) _ (b_addw _ _ _ (by rw [IntKind.wrap_i64]; omega) _)) ?_
           refine tK (.int .i64 (((t + 1) : Nat) : Int)) ?_
           try simp only [pS]
           refine WL.nil ?_
           try simp only [pS]
           have HF : Hid (Fr No w wk75 [(gk1, 23, Ky.cells k), (gk3, 35, Hd.cells a2), (gk5, 35, Hd.cells b), (gk7, 35, Hd.cells hdZ), (g13, 50, Mg.cells ((takeA m a (haveA q b bbs bes bls bp).b (haveA q b bbs bes bls bp).e (haveA q b bbs bes bls bp).l (haveA q b bbs bes bls bp).c ap).m))]) := (show Fr No w wk75 ([(gk1, 23, Ky.cells k), (gk3, 35, Hd.cells a2), (gk5, 35, Hd.cells b), (gk7, 35, Hd.cells hdZ), (g13, 50, Mg.cells ((takeA m a (haveA q b bbs bes bls bp).b (haveA q b bbs bes bls bp).e (haveA q b bbs bes bls bp).l (haveA q b bbs bes bls bp).c ap).m))] ++ [(g16, 50, Mg.cells ((takeA m a (haveA q b bbs bes bls bp).b (haveA q b bbs bes bls bp).e (haveA q b bbs bes bls bp).l (haveA q b bbs bes bls bp).c ap).m)), (gk54, 35, Hd.cells a)]) from HF.out).front
           go_wp2
           go_roundw
           case rel => exact ⟨t + 1, a2, ab2, ae2, al2, ap2, (takeA m a (haveA q b bbs bes bls bp).b (haveA q b bbs bes bls bp).e (haveA q b bbs bes bls bp).l (haveA q b bbs bes bls bp).c ap).m, by go_num, HQ2, HH2, HW2, HOf2, HF⟩
           case measure => simp [intOf]; omega

end Go.Proofs.Ytcgnbpaaalmkoaa
