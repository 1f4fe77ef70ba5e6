import Derived.Deep.CutRange
import Derived.Test.YtcgnbpaaalmkoabT
namespace Go.Proofs.Ytcgnbpaaalmkoab
open Go.RowKit
set_option linter.unusedVariables false
set_option linter.unusedSimpArgs false
@[reducible] def oqU0 : Oper := { dst := some 25, op := Op.call { callee := Callee.value (Operand.func 16), args := #[Operand.const (Value.int IntKind.i64 1), Operand.const (Value.int IntKind.i64 2), Operand.tmp 23, Operand.tmp 24], argTypes := #[3, 3, 39, 49] }, type := 46, pos := "law.go:87", after := #[{ on := 0, ground := Ground.data }, { on := 1, ground := Ground.data }], guard := none }
@[reducible] def oqU1 : Oper := { dst := some 27, op := Op.call { callee := Callee.value (Operand.func 7), args := #[Operand.tmp 25, Operand.tmp 26], argTypes := #[46, 49] }, type := 46, pos := "law.go:87", after := #[{ on := 2, ground := Ground.data }, { on := 3, ground := Ground.data }, { on := 2, ground := Ground.chain }], guard := none }
@[reducible] def oqU2 : Oper := { dst := some 29, op := Op.call { callee := Callee.value (Operand.func 12), args := #[Operand.tmp 27, Operand.tmp 28], argTypes := #[46, 49] }, type := 57, pos := "law.go:87", after := #[{ on := 4, ground := Ground.data }, { on := 5, ground := Ground.data }, { on := 4, ground := Ground.chain }], guard := none }
@[reducible] def oqU3 : Oper := { dst := some 22, op := Op.move (Operand.tmp 29), type := 57, pos := "law.go:87", after := #[{ on := 6, ground := Ground.data }], guard := none }
@[reducible] def oqU4 : Oper := { dst := some 30, op := Op.extract (Operand.tmp 22) 0, type := 56, pos := "law.go:87", after := #[{ on := 7, ground := Ground.data }], guard := none }
@[reducible] def oqU5 : Oper := { dst := some 31, op := Op.extract (Operand.tmp 22) 1, type := 46, pos := "law.go:87", after := #[{ on := 7, ground := Ground.data }, { on := 12, ground := Ground.gcOnly Departure.lateStores }], guard := none }
@[reducible] def oqU6 : Oper := { dst := some 32, op := Op.extract (Operand.tmp 22) 2, type := 4, pos := "law.go:87", after := #[{ on := 7, ground := Ground.data }, { on := 13, ground := Ground.gcOnly Departure.lateStores }], guard := none }
@[reducible] def oqU7 : Oper := { dst := some 6, op := Op.alloc 46, type := 0, pos := "law.go:87", after := #[], guard := none }
@[reducible] def oqU8 : Oper := { dst := some 5, op := Op.assign (Operand.tmp 30), type := 56, pos := "law.go:87", after := #[{ on := 8, ground := Ground.data }, { on := 6, ground := Ground.chain }, { on := 0, ground := Ground.phase }, { on := 1, ground := Ground.phase }, { on := 2, ground := Ground.phase }, { on := 3, ground := Ground.phase }, { on := 4, ground := Ground.phase }, { on := 5, ground := Ground.phase }, { on := 6, ground := Ground.phase }, { on := 7, ground := Ground.phase }, { on := 8, ground := Ground.phase }, { on := 9, ground := Ground.textOnly Departure.lateStores }, { on := 10, ground := Ground.textOnly Departure.lateStores }, { on := 11, ground := Ground.phase }], guard := none }
@[reducible] def oqU9 : Oper := { dst := none, op := Op.store 46 (Operand.tmp 6) (Operand.tmp 31), type := 0, pos := "law.go:87", after := #[{ on := 11, ground := Ground.data }, { on := 9, ground := Ground.data }, { on := 12, ground := Ground.chain }, { on := 0, ground := Ground.phase }, { on := 1, ground := Ground.phase }, { on := 2, ground := Ground.phase }, { on := 3, ground := Ground.phase }, { on := 4, ground := Ground.phase }, { on := 5, ground := Ground.phase }, { on := 6, ground := Ground.phase }, { on := 7, ground := Ground.phase }, { on := 8, ground := Ground.phase }, { on := 9, ground := Ground.phase }, { on := 10, ground := Ground.textOnly Departure.lateStores }, { on := 11, ground := Ground.phase }, { on := 12, ground := Ground.phase }], guard := none }
@[reducible] def oqU10 : Oper := { dst := some 7, op := Op.assign (Operand.tmp 32), type := 4, pos := "law.go:87", after := #[{ on := 10, ground := Ground.data }, { on := 13, ground := Ground.chain }, { on := 0, ground := Ground.phase }, { on := 1, ground := Ground.phase }, { on := 2, ground := Ground.phase }, { on := 3, ground := Ground.phase }, { on := 4, ground := Ground.phase }, { on := 5, ground := Ground.phase }, { on := 6, ground := Ground.phase }, { on := 7, ground := Ground.phase }, { on := 8, ground := Ground.phase }, { on := 9, ground := Ground.phase }, { on := 10, ground := Ground.phase }, { on := 11, ground := Ground.phase }, { on := 12, ground := Ground.phase }, { on := 13, ground := Ground.phase }], guard := none }
@[reducible] def oqU11 : Oper := { dst := some 36, op := Op.call { callee := Callee.value (Operand.func 16), args := #[Operand.const (Value.int IntKind.i64 1), Operand.const (Value.int IntKind.i64 2), Operand.tmp 34, Operand.tmp 35], argTypes := #[3, 3, 39, 49] }, type := 46, pos := "law.go:88", after := #[{ on := 0, ground := Ground.data }, { on := 1, ground := Ground.data }], guard := none }
@[reducible] def oqU12 : Oper := { dst := some 38, op := Op.call { callee := Callee.value (Operand.func 7), args := #[Operand.tmp 36, Operand.tmp 37], argTypes := #[46, 49] }, type := 46, pos := "law.go:88", after := #[{ on := 2, ground := Ground.data }, { on := 3, ground := Ground.data }, { on := 2, ground := Ground.chain }], guard := none }
@[reducible] def oqU13 : Oper := { dst := some 40, op := Op.call { callee := Callee.value (Operand.func 12), args := #[Operand.tmp 38, Operand.tmp 39], argTypes := #[46, 49] }, type := 57, pos := "law.go:88", after := #[{ on := 4, ground := Ground.data }, { on := 5, ground := Ground.data }, { on := 4, ground := Ground.chain }], guard := none }
@[reducible] def oqU14 : Oper := { dst := some 33, op := Op.move (Operand.tmp 40), type := 57, pos := "law.go:88", after := #[{ on := 6, ground := Ground.data }], guard := none }
@[reducible] def oqU15 : Oper := { dst := some 41, op := Op.extract (Operand.tmp 33) 0, type := 56, pos := "law.go:88", after := #[{ on := 7, ground := Ground.data }], guard := none }
@[reducible] def oqU16 : Oper := { dst := some 42, op := Op.extract (Operand.tmp 33) 1, type := 46, pos := "law.go:88", after := #[{ on := 7, ground := Ground.data }, { on := 12, ground := Ground.gcOnly Departure.lateStores }], guard := none }
@[reducible] def oqU17 : Oper := { dst := some 43, op := Op.extract (Operand.tmp 33) 2, type := 4, pos := "law.go:88", after := #[{ on := 7, ground := Ground.data }, { on := 13, ground := Ground.gcOnly Departure.lateStores }], guard := none }
@[reducible] def oqU18 : Oper := { dst := some 9, op := Op.alloc 46, type := 0, pos := "law.go:88", after := #[], guard := none }
@[reducible] def oqU19 : Oper := { dst := some 8, op := Op.assign (Operand.tmp 41), type := 56, pos := "law.go:88", after := #[{ on := 8, ground := Ground.data }, { on := 6, ground := Ground.chain }, { on := 0, ground := Ground.phase }, { on := 1, ground := Ground.phase }, { on := 2, ground := Ground.phase }, { on := 3, ground := Ground.phase }, { on := 4, ground := Ground.phase }, { on := 5, ground := Ground.phase }, { on := 6, ground := Ground.phase }, { on := 7, ground := Ground.phase }, { on := 8, ground := Ground.phase }, { on := 9, ground := Ground.textOnly Departure.lateStores }, { on := 10, ground := Ground.textOnly Departure.lateStores }, { on := 11, ground := Ground.phase }], guard := none }
@[reducible] def oqU20 : Oper := { dst := none, op := Op.store 46 (Operand.tmp 9) (Operand.tmp 42), type := 0, pos := "law.go:88", after := #[{ on := 11, ground := Ground.data }, { on := 9, ground := Ground.data }, { on := 12, ground := Ground.chain }, { on := 0, ground := Ground.phase }, { on := 1, ground := Ground.phase }, { on := 2, ground := Ground.phase }, { on := 3, ground := Ground.phase }, { on := 4, ground := Ground.phase }, { on := 5, ground := Ground.phase }, { on := 6, ground := Ground.phase }, { on := 7, ground := Ground.phase }, { on := 8, ground := Ground.phase }, { on := 9, ground := Ground.phase }, { on := 10, ground := Ground.textOnly Departure.lateStores }, { on := 11, ground := Ground.phase }, { on := 12, ground := Ground.phase }], guard := none }
@[reducible] def oqU21 : Oper := { dst := some 10, op := Op.assign (Operand.tmp 43), type := 4, pos := "law.go:88", after := #[{ on := 10, ground := Ground.data }, { on := 13, ground := Ground.chain }, { on := 0, ground := Ground.phase }, { on := 1, ground := Ground.phase }, { on := 2, ground := Ground.phase }, { on := 3, ground := Ground.phase }, { on := 4, ground := Ground.phase }, { on := 5, ground := Ground.phase }, { on := 6, ground := Ground.phase }, { on := 7, ground := Ground.phase }, { on := 8, ground := Ground.phase }, { on := 9, ground := Ground.phase }, { on := 10, ground := Ground.phase }, { on := 11, ground := Ground.phase }, { on := 12, ground := Ground.phase }, { on := 13, ground := Ground.phase }], guard := none }

theorem kw_rng0 : ∀ x ∈ decd [(⟨1, ⟨spZ, spZ, kwX, true⟩⟩ : Pl)], 0 ≤ x.1 ∧ x.1 ≤ 4611686018427387904 := by
  intro x hx
  simp [decd] at hx
  subst hx
  exact ⟨by decide, by decide⟩
theorem kw_rng : ∀ x ∈ decd [(⟨1, ⟨spZ, spZ, kwX, true⟩⟩ : Pl)], -4611686018427387904 ≤ x.1 ∧ x.1 ≤ 4611686018427387904 := by
  intro x hx
  have := kw_rng0 x hx
  omega
theorem kw_new : newF 0 1 0 [kwX] (decF 1 1 (decd [])) 1 = [chM 0 1 kwX] := by
  have h : passB 1 0 [kwX] (decF 1 1 (decd [])) 0 = false := by
    rw [show decF 1 1 (decd []) = [cZ] from rfl]
    unfold passB
    rw [show cAt [cZ] 0 = cZ from rfl, eqC_refl, show eqC (cAt [kwX] 0) cZ = false from rfl]
    rfl
  rw [newF_no _ _ _ _ _ _ h]
  rfl
set_option maxRecDepth 100000 in
set_option maxHeartbeats 4000000 in
theorem known_any  (w : World) : Calls Try.prog 4 #[] w (fun e w' => e = .returned (.bool true) ∧ Kept No w w') := by
  obtain ⟨C, hC⟩ : ∃ C : Ending → World → Prop, C = (fun e w' => e = .returned (.bool true) ∧ Kept No w w') := ⟨_, rfl⟩
  have HC : Hid (C = (fun e w' => e = .returned (.bool true) ∧ Kept No w w')) := hC
  rw [← hC]
  clear hC
  have HF : Hid (Fr No w w []) := Fr.start _ _
  go_enter Try.func4, Try.ntmps4
  go_upto_region 0 with fail
  refine WL.start ?_
  refine tK (.bool false) ?_
  try simp only [pS]
  refine WL.nil ?_
  try simp only [pS]
  go_upto_region 1 with fail
  refine WL.start ?_
  refine tW (.agg (Ky.cells ⟨1, 1, 2, 3⟩)) (exec_build 39 _ rfl (Ky.cells ⟨1, 1, 2, 3⟩) (by kernel_rfl)) ?_
  try simp only [pS]
  refine wp_runW (.pointer (some ⟨w.heap.size, 0, none⟩)) (w.alloc (.cells (Ky.cells kyZ) 39)) (exec_alloc 39 rfl (Ky.cells kyZ) zero23) (by kernel_rfl) ?_
  try simp only [pS]
  have HF : Hid (Fr No w _ [(w.heap.size, 39, Ky.cells kyZ)]) := HF.out.alloc _ _
  generalize w.alloc (.cells (Ky.cells kyZ) 39) = wk2 at HF ⊢
  generalize w.heap.size = gk1 at HF ⊢
  refine wp_storeW 39 _ _ rfl ⟨gk1, 0, none⟩ (.agg (Ky.cells ⟨1, 1, 2, 3⟩)) (by kernel_rfl) (by kernel_rfl) (wk2.setRow gk1 (Ky.cells ⟨1, 1, 2, 3⟩)) (run_store_to (cur := Ky.cs kyZ) (vs := Ky.cs ⟨1, 1, 2, 3⟩) (new := Ky.cs ⟨1, 1, 2, 3⟩) (HF.out.box 0 _ _ _ rfl) (by kernel_rfl) Try.size23 (Nat.le_of_ble_eq_true (by kernel_rfl)) (Ky.oneL _) (by kernel_rfl)) (by kernel_rfl) ?_
  try simp only [pS]
  have HF : Hid (Fr No w _ [(gk1, 39, Ky.cells ⟨1, 1, 2, 3⟩)]) := HF.out.set 0 rfl _
  generalize wk2.setRow gk1 (Ky.cells ⟨1, 1, 2, 3⟩) = wk3 at HF ⊢
  refine WL.nil ?_
  try simp only [pS]
  go_upto_region 2 with fail
  refine WL.start ?_
  refine tW (.agg (Cm.cells ⟨4, 1, 2, ⟨#[]⟩, 0, 0, 0, 0, 0⟩)) (exec_build 43 _ rfl (Cm.cells ⟨4, 1, 2, ⟨#[]⟩, 0, 0, 0, 0, 0⟩) (by kernel_rfl)) ?_
  try simp only [pS]
  refine wp_runW (.pointer (some ⟨wk3.heap.size, 0, none⟩)) (wk3.alloc (.cells (Cm.cells cZ) 43)) (exec_alloc 43 rfl (Cm.cells cZ) zero47) (by kernel_rfl) ?_
  try simp only [pS]
  have HF : Hid (Fr No w _ [(gk1, 39, Ky.cells ⟨1, 1, 2, 3⟩), (wk3.heap.size, 43, Cm.cells cZ)]) := HF.out.alloc _ _
  generalize wk3.alloc (.cells (Cm.cells cZ) 43) = wk5 at HF ⊢
  generalize wk3.heap.size = gk4 at HF ⊢
  refine wp_storeW 43 _ _ rfl ⟨gk4, 0, none⟩ (.agg (Cm.cells ⟨4, 1, 2, ⟨#[]⟩, 0, 0, 0, 0, 0⟩)) (by kernel_rfl) (by kernel_rfl) (wk5.setRow gk4 (Cm.cells ⟨4, 1, 2, ⟨#[]⟩, 0, 0, 0, 0, 0⟩)) (run_store_to (cur := Cm.cs cZ) (vs := Cm.cs ⟨4, 1, 2, ⟨#[]⟩, 0, 0, 0, 0, 0⟩) (new := Cm.cs ⟨4, 1, 2, ⟨#[]⟩, 0, 0, 0, 0, 0⟩) (HF.out.box 1 _ _ _ rfl) (by kernel_rfl) Try.size47 (Nat.le_of_ble_eq_true (by kernel_rfl)) (Cm.oneL _) (by kernel_rfl)) (by kernel_rfl) ?_
  try simp only [pS]
  have HF : Hid (Fr No w _ [(gk1, 39, Ky.cells ⟨1, 1, 2, 3⟩), (gk4, 43, Cm.cells ⟨4, 1, 2, ⟨#[]⟩, 0, 0, 0, 0, 0⟩)]) := HF.out.set 1 rfl _
  generalize wk5.setRow gk4 (Cm.cells ⟨4, 1, 2, ⟨#[]⟩, 0, 0, 0, 0, 0⟩) = wk6 at HF ⊢
  refine WL.nil ?_
  try simp only [pS]
  go_upto_region 3 with fail
  refine WL.start ?_
  refine tW (.agg (Hd.cells hdZ)) (exec_build 49 _ rfl (Hd.cells hdZ) (by kernel_rfl)) ?_
  try simp only [pS]
  refine wp_runW (.pointer (some ⟨wk6.heap.size, 0, none⟩)) (wk6.alloc (.cells (Hd.cells hdZ) 49)) (exec_alloc 49 rfl (Hd.cells hdZ) zero40) (by kernel_rfl) ?_
  try simp only [pS]
  have HF : Hid (Fr No w _ [(gk1, 39, Ky.cells ⟨1, 1, 2, 3⟩), (gk4, 43, Cm.cells ⟨4, 1, 2, ⟨#[]⟩, 0, 0, 0, 0, 0⟩), (wk6.heap.size, 49, Hd.cells hdZ)]) := HF.out.alloc _ _
  generalize wk6.alloc (.cells (Hd.cells hdZ) 49) = wk8 at HF ⊢
  generalize wk6.heap.size = gk7 at HF ⊢
  refine wp_storeW 49 _ _ rfl ⟨gk7, 0, none⟩ (.agg (Hd.cells hdZ)) (by kernel_rfl) (by kernel_rfl) (wk8.setRow gk7 (Hd.cells hdZ)) (run_store_to (cur := Hd.cs hdZ) (vs := Hd.cs hdZ) (new := Hd.cs hdZ) (HF.out.box 2 _ _ _ rfl) (by kernel_rfl) Try.size40 (Nat.le_of_ble_eq_true (by kernel_rfl)) (Hd.oneL _) (by kernel_rfl)) (by kernel_rfl) ?_
  try simp only [pS]
  have HF : Hid (Fr No w _ [(gk1, 39, Ky.cells ⟨1, 1, 2, 3⟩), (gk4, 43, Cm.cells ⟨4, 1, 2, ⟨#[]⟩, 0, 0, 0, 0, 0⟩), (gk7, 49, Hd.cells hdZ)]) := HF.out.set 2 rfl _
  generalize wk8.setRow gk7 (Hd.cells hdZ) = wk9 at HF ⊢
  refine WL.nil ?_
  try simp only [pS]
  go_upto_region 4 with fail
  refine WL.start ?_
  refine tW (.agg (Sp.cells ⟨4, 1⟩)) (exec_build 23 _ rfl (Sp.cells ⟨4, 1⟩) (by kernel_rfl)) ?_
  try simp only [pS]
  refine wp_runW (.slice (some ⟨wk9.heap.size, 0, none⟩) 1 1) (wk9.alloc (.cells (#[.int .u8 9]) 5)) (exec_slice2 24 5 _ rfl (#[.int .u8 9]) (.int .u8 9) (by kernel_rfl) (by kernel_rfl)) (by kernel_rfl) ?_
  try simp only [pS]
  have HF : Hid (Fr No w _ [(gk1, 39, Ky.cells ⟨1, 1, 2, 3⟩), (gk4, 43, Cm.cells ⟨4, 1, 2, ⟨#[]⟩, 0, 0, 0, 0, 0⟩), (gk7, 49, Hd.cells hdZ), (wk9.heap.size, 5, #[.int .u8 9])]) := HF.out.alloc _ _
  generalize wk9.alloc (.cells (#[.int .u8 9]) 5) = wk11 at HF ⊢
  generalize wk9.heap.size = gk10 at HF ⊢
  refine tW (.agg (Bl.cells ⟨⟨4, 1⟩, ⟨(some ⟨gk10, 0, none⟩), 1, 1⟩⟩)) (exec_build 26 _ rfl (Bl.cells ⟨⟨4, 1⟩, ⟨(some ⟨gk10, 0, none⟩), 1, 1⟩⟩) (by kernel_rfl)) ?_
  refine tW (.agg (Cm.cells ⟨4, 1, 2, ⟨#[]⟩, 0, 0, 0, 0, 0⟩)) (eL 43 _ rfl ⟨gk4, 0, none⟩ (run_load_part (cs := Cm.cs ⟨4, 1, 2, ⟨#[]⟩, 0, 0, 0, 0, 0⟩) (sub := Cm.cs ⟨4, 1, 2, ⟨#[]⟩, 0, 0, 0, 0, 0⟩) (HF.out.box 1 _ _ _ rfl) (Part.all _) Try.und47 rfl Try.size47)) ?_
  refine tW (.agg (In.cells ⟨spZ, spZ, ⟨4, 1, 2, ⟨#[]⟩, 0, 0, 0, 0, 0⟩, true⟩)) (exec_build 65 _ rfl (In.cells ⟨spZ, spZ, ⟨4, 1, 2, ⟨#[]⟩, 0, 0, 0, 0, 0⟩, true⟩) (by kernel_rfl)) ?_
  refine tW (.agg (Pl.cells ⟨1, ⟨spZ, spZ, ⟨4, 1, 2, ⟨#[]⟩, 0, 0, 0, 0, 0⟩, true⟩⟩)) (exec_build 70 _ rfl (Pl.cells ⟨1, ⟨spZ, spZ, ⟨4, 1, 2, ⟨#[]⟩, 0, 0, 0, 0, 0⟩, true⟩⟩) (by kernel_rfl)) ?_
  try simp only [pS]
  refine wp_runW (.slice (some ⟨wk11.heap.size, 0, none⟩) 1 1) (wk11.alloc (.cells (Pl.cells ⟨1, ⟨spZ, spZ, ⟨4, 1, 2, ⟨#[]⟩, 0, 0, 0, 0, 0⟩, true⟩⟩) 70)) (exec_slice2 47 70 _ rfl (Pl.cells ⟨1, ⟨spZ, spZ, ⟨4, 1, 2, ⟨#[]⟩, 0, 0, 0, 0, 0⟩, true⟩⟩) (.agg (Pl.cells ⟨1, ⟨spZ, spZ, ⟨4, 1, 2, ⟨#[]⟩, 0, 0, 0, 0, 0⟩, true⟩⟩)) (by kernel_rfl) (by kernel_rfl)) (by kernel_rfl) ?_
  try simp only [pS]
  have HF : Hid (Fr No w _ [(gk1, 39, Ky.cells ⟨1, 1, 2, 3⟩), (gk4, 43, Cm.cells ⟨4, 1, 2, ⟨#[]⟩, 0, 0, 0, 0, 0⟩), (gk7, 49, Hd.cells hdZ), (gk10, 5, #[.int .u8 9]), (wk11.heap.size, 70, Pl.cells ⟨1, ⟨spZ, spZ, ⟨4, 1, 2, ⟨#[]⟩, 0, 0, 0, 0, 0⟩, true⟩⟩)]) := HF.out.alloc _ _
  generalize wk11.alloc (.cells (Pl.cells ⟨1, ⟨spZ, spZ, ⟨4, 1, 2, ⟨#[]⟩, 0, 0, 0, 0, 0⟩, true⟩⟩) 70) = wk13 at HF ⊢
  generalize wk11.heap.size = gk12 at HF ⊢
  refine tW (.agg (Hd.cells ⟨⟨⟨4, 1⟩, ⟨(some ⟨gk10, 0, none⟩), 1, 1⟩⟩, bvZ, ⟨(some ⟨gk12, 0, none⟩), 1, 1⟩⟩)) (exec_build 49 _ rfl (Hd.cells ⟨⟨⟨4, 1⟩, ⟨(some ⟨gk10, 0, none⟩), 1, 1⟩⟩, bvZ, ⟨(some ⟨gk12, 0, none⟩), 1, 1⟩⟩) (by kernel_rfl)) ?_
  try simp only [pS]
  refine wp_runW (.pointer (some ⟨wk13.heap.size, 0, none⟩)) (wk13.alloc (.cells (Hd.cells hdZ) 49)) (exec_alloc 49 rfl (Hd.cells hdZ) zero40) (by kernel_rfl) ?_
  try simp only [pS]
  have HF : Hid (Fr No w _ [(gk1, 39, Ky.cells ⟨1, 1, 2, 3⟩), (gk4, 43, Cm.cells ⟨4, 1, 2, ⟨#[]⟩, 0, 0, 0, 0, 0⟩), (gk7, 49, Hd.cells hdZ), (gk10, 5, #[.int .u8 9]), (gk12, 70, Pl.cells ⟨1, ⟨spZ, spZ, ⟨4, 1, 2, ⟨#[]⟩, 0, 0, 0, 0, 0⟩, true⟩⟩), (wk13.heap.size, 49, Hd.cells hdZ)]) := HF.out.alloc _ _
  generalize wk13.alloc (.cells (Hd.cells hdZ) 49) = wk15 at HF ⊢
  generalize wk13.heap.size = gk14 at HF ⊢
  refine wp_storeW 49 _ _ rfl ⟨gk14, 0, none⟩ (.agg (Hd.cells ⟨⟨⟨4, 1⟩, ⟨(some ⟨gk10, 0, none⟩), 1, 1⟩⟩, bvZ, ⟨(some ⟨gk12, 0, none⟩), 1, 1⟩⟩)) (by kernel_rfl) (by kernel_rfl) (wk15.setRow gk14 (Hd.cells ⟨⟨⟨4, 1⟩, ⟨(some ⟨gk10, 0, none⟩), 1, 1⟩⟩, bvZ, ⟨(some ⟨gk12, 0, none⟩), 1, 1⟩⟩)) (run_store_to (cur := Hd.cs hdZ) (vs := Hd.cs ⟨⟨⟨4, 1⟩, ⟨(some ⟨gk10, 0, none⟩), 1, 1⟩⟩, bvZ, ⟨(some ⟨gk12, 0, none⟩), 1, 1⟩⟩) (new := Hd.cs ⟨⟨⟨4, 1⟩, ⟨(some ⟨gk10, 0, none⟩), 1, 1⟩⟩, bvZ, ⟨(some ⟨gk12, 0, none⟩), 1, 1⟩⟩) (HF.out.box 5 _ _ _ rfl) (by kernel_rfl) Try.size40 (Nat.le_of_ble_eq_true (by kernel_rfl)) (Hd.oneL _) (by kernel_rfl)) (by kernel_rfl) ?_
  try simp only [pS]
  have HF : Hid (Fr No w _ [(gk1, 39, Ky.cells ⟨1, 1, 2, 3⟩), (gk4, 43, Cm.cells ⟨4, 1, 2, ⟨#[]⟩, 0, 0, 0, 0, 0⟩), (gk7, 49, Hd.cells hdZ), (gk10, 5, #[.int .u8 9]), (gk12, 70, Pl.cells ⟨1, ⟨spZ, spZ, ⟨4, 1, 2, ⟨#[]⟩, 0, 0, 0, 0, 0⟩, true⟩⟩), (gk14, 49, Hd.cells ⟨⟨⟨4, 1⟩, ⟨(some ⟨gk10, 0, none⟩), 1, 1⟩⟩, bvZ, ⟨(some ⟨gk12, 0, none⟩), 1, 1⟩⟩)]) := HF.out.set 5 rfl _
  generalize wk15.setRow gk14 (Hd.cells ⟨⟨⟨4, 1⟩, ⟨(some ⟨gk10, 0, none⟩), 1, 1⟩⟩, bvZ, ⟨(some ⟨gk12, 0, none⟩), 1, 1⟩⟩) = wk16 at HF ⊢
  refine WL.nil ?_
  try simp only [pS]
  go_upto_region 5 with fail
  go_cut [5, 6, 7] from 22 to 32 (fun v5 v6 v7 wc => ∃ (gl g6 : Nat) (s2 : Sl), v5 = .slice (some ⟨gl, 0, none⟩) 1 1 ∧ v6 = .pointer (some ⟨g6, 0, none⟩) ∧ v7 = .bool false ∧ Hid (Fr No w wc ([(gk1, 39, Ky.cells ⟨1, 1, 2, 3⟩), (gk4, 43, Cm.cells ⟨4, 1, 2, ⟨#[]⟩, 0, 0, 0, 0, 0⟩), (gk7, 49, Hd.cells hdZ), (gk10, 5, #[.int .u8 9]), (gk12, 70, Pl.cells ⟨1, ⟨spZ, spZ, ⟨4, 1, 2, ⟨#[]⟩, 0, 0, 0, 0, 0⟩, true⟩⟩), (gk14, 49, Hd.cells ⟨⟨⟨4, 1⟩, ⟨(some ⟨gk10, 0, none⟩), 1, 1⟩⟩, bvZ, ⟨(some ⟨gk12, 0, none⟩), 1, 1⟩⟩)] ++ [(gl, 67, Ch.cells ⟨⟨1, 1, 2, 3⟩, ⟨⟨4, 1⟩, s2⟩, inZ, bvZ⟩)])) ∧ Hid (OwB wc w.heap.size s2 [9]))
  case first =>
   rename_i J0 K0 hJ0 hK0
   refine wp_region_held_drew (S := fun w' => Box w' gk1 39 (Ky.cells ⟨1, 1, 2, 3⟩) ∧ Box w' gk7 49 (Hd.cells hdZ) ∧ Box w' gk14 49 (Hd.cells ⟨⟨⟨4, 1⟩, ⟨(some ⟨gk10, 0, none⟩), 1, 1⟩⟩, bvZ, ⟨(some ⟨gk12, 0, none⟩), 1, 1⟩⟩)) rfl ⟨HF.out.box 0 _ _ _ rfl, HF.out.box 2 _ _ _ rfl, HF.out.box 5 _ _ _ rfl⟩ (fun hH => ?_)
   have HF : Hid (Fr No w (wk16.drew) [(gk1, 39, Ky.cells ⟨1, 1, 2, 3⟩), (gk4, 43, Cm.cells ⟨4, 1, 2, ⟨#[]⟩, 0, 0, 0, 0, 0⟩), (gk7, 49, Hd.cells hdZ), (gk10, 5, #[.int .u8 9]), (gk12, 70, Pl.cells ⟨1, ⟨spZ, spZ, ⟨4, 1, 2, ⟨#[]⟩, 0, 0, 0, 0, 0⟩, true⟩⟩), (gk14, 49, Hd.cells ⟨⟨⟨4, 1⟩, ⟨(some ⟨gk10, 0, none⟩), 1, 1⟩⟩, bvZ, ⟨(some ⟨gk12, 0, none⟩), 1, 1⟩⟩)]) := HF.out.drew
   generalize wk16.drew = wk17 at HF hH ⊢
   refine aT (i := 0) (oi := { dst := some 23, op := Op.load 39 (Operand.tmp 1), type := 39, pos := "law.go:87", after := #[], guard := none }) (v := .agg (Ky.cells ⟨1, 1, 2, 3⟩)) (fun w' hw => eL 39 _ rfl ⟨gk1, 0, none⟩ (run_load_part (cs := Ky.cs ⟨1, 1, 2, 3⟩) (sub := Ky.cs ⟨1, 1, 2, 3⟩) (hw.1) (Part.all _) Try.und23 rfl Try.size23)) hH ?_
   try simp only [pS]
   refine aT (i := 1) (oi := { dst := some 24, op := Op.load 49 (Operand.tmp 3), type := 49, pos := "law.go:87", after := #[], guard := none }) (v := .agg (Hd.cells hdZ)) (fun w' hw => eL 49 _ rfl ⟨gk7, 0, none⟩ (run_load_part (cs := Hd.cs hdZ) (sub := Hd.cs hdZ) (hw.2.1) (Part.all _) Try.und40 rfl Try.size40)) hH ?_
   try simp only [pS]
   refine aT (i := 3) (oi := { dst := some 26, op := Op.load 49 (Operand.tmp 4), type := 49, pos := "law.go:87", after := #[], guard := none }) (v := .agg (Hd.cells ⟨⟨⟨4, 1⟩, ⟨(some ⟨gk10, 0, none⟩), 1, 1⟩⟩, bvZ, ⟨(some ⟨gk12, 0, none⟩), 1, 1⟩⟩)) (fun w' hw => eL 49 _ rfl ⟨gk14, 0, none⟩ (run_load_part (cs := Hd.cs ⟨⟨⟨4, 1⟩, ⟨(some ⟨gk10, 0, none⟩), 1, 1⟩⟩, bvZ, ⟨(some ⟨gk12, 0, none⟩), 1, 1⟩⟩) (sub := Hd.cs ⟨⟨⟨4, 1⟩, ⟨(some ⟨gk10, 0, none⟩), 1, 1⟩⟩, bvZ, ⟨(some ⟨gk12, 0, none⟩), 1, 1⟩⟩) (hw.2.2) (Part.all _) Try.und40 rfl Try.size40)) hH ?_
   try simp only [pS]
   refine aT (i := 5) (oi := { dst := some 28, op := Op.load 49 (Operand.tmp 3), type := 49, pos := "law.go:87", after := #[], guard := none }) (v := .agg (Hd.cells hdZ)) (fun w' hw => eL 49 _ rfl ⟨gk7, 0, none⟩ (run_load_part (cs := Hd.cs hdZ) (sub := Hd.cs hdZ) (hw.2.1) (Part.all _) Try.und40 rfl Try.size40)) hH ?_
   try simp only [pS]
   refine any_pick (rs := [2, 11]) (by kernel_rfl) (by simp) ?_
   intro i hi
   rcases pick2 hi with rfl | rfl
   ·skip
    clear hi
    refine step_call (i := 2) (o := oqU0) rfl (by kernel_rfl) 16 #[.int .i64 1, .int .i64 2, .agg (Ky.cells ⟨1, 1, 2, 3⟩), .agg (Hd.cells hdZ)] (by kernel_rfl) _ (ask_any 1 2 ⟨1, 1, 2, 3⟩ hdZ [] _ (RdP.nil _) (fun k e => absurd e At.none) (by simp) ⟨⟨by decide, by decide⟩, fun x hx => by cases hx⟩ ⟨by decide, by decide⟩) ?_
    rintro e wk18 ⟨rfl, hk⟩
    have hH2 : Box wk18 gk1 39 (Ky.cells ⟨1, 1, 2, 3⟩) ∧ Box wk18 gk7 49 (Hd.cells hdZ) ∧ Box wk18 gk14 49 (Hd.cells ⟨⟨⟨4, 1⟩, ⟨(some ⟨gk10, 0, none⟩), 1, 1⟩⟩, bvZ, ⟨(some ⟨gk12, 0, none⟩), 1, 1⟩⟩) := ⟨hH.1.kept hk (fun e => e), hH.2.1.kept hk (fun e => e), hH.2.2.kept hk (fun e => e)⟩
    have HF : Hid (Fr No w (wk18) [(gk1, 39, Ky.cells ⟨1, 1, 2, 3⟩), (gk4, 43, Cm.cells ⟨4, 1, 2, ⟨#[]⟩, 0, 0, 0, 0, 0⟩), (gk7, 49, Hd.cells hdZ), (gk10, 5, #[.int .u8 9]), (gk12, 70, Pl.cells ⟨1, ⟨spZ, spZ, ⟨4, 1, 2, ⟨#[]⟩, 0, 0, 0, 0, 0⟩, true⟩⟩), (gk14, 49, Hd.cells ⟨⟨⟨4, 1⟩, ⟨(some ⟨gk10, 0, none⟩), 1, 1⟩⟩, bvZ, ⟨(some ⟨gk12, 0, none⟩), 1, 1⟩⟩)]) := HF.out.no hk
    clear hk
    refine ⟨.agg (Mg.cells ⟨21, ⟨false, 1⟩, ⟨false, 2⟩, 0, 0, ⟨1, 1, 2, 3⟩, ⟨0, 0⟩, spZ, slZ, cZ, bvZ, slZ, false⟩), by kernel_rfl, hH2, fun hH => ?_⟩
    clear hH2
    try simp only [pS]
    refine any_pick (rs := [4, 11]) (by kernel_rfl) (by simp) ?_
    intro i hi
    rcases pick2 hi with rfl | rfl
    ·skip
     clear hi
     have HFs : Hid (w.heap.size ≤ wk18.heap.size) := HF.out.kept.size
     refine step_call (i := 4) (o := oqU1) rfl (by kernel_rfl) 7 #[.agg (Mg.cells ⟨21, ⟨false, 1⟩, ⟨false, 2⟩, 0, 0, ⟨1, 1, 2, 3⟩, ⟨0, 0⟩, spZ, slZ, cZ, bvZ, slZ, false⟩), .agg (Hd.cells ⟨⟨⟨4, 1⟩, ⟨(some ⟨gk10, 0, none⟩), 1, 1⟩⟩, bvZ, ⟨(some ⟨gk12, 0, none⟩), 1, 1⟩⟩)] (by kernel_rfl) _ (have_block_yes ⟨21, ⟨false, 1⟩, ⟨false, 2⟩, 0, 0, ⟨1, 1, 2, 3⟩, ⟨0, 0⟩, spZ, slZ, cZ, bvZ, slZ, false⟩ ⟨⟨⟨4, 1⟩, ⟨(some ⟨gk10, 0, none⟩), 1, 1⟩⟩, bvZ, ⟨(some ⟨gk12, 0, none⟩), 1, 1⟩⟩ [9] _ (by kernel_rfl) (by kernel_rfl) (by kernel_rfl) (RdB.one (HF.out.box 3 _ _ _ rfl)) (by show 1 ≤ _; omega) (fun k e => by obtain ⟨ad, e1, rfl⟩ := e; cases e1; exact (HF.out.box 3 _ _ _ rfl).lt)) ?_
     rintro e wk19 ⟨s', rfl, ho, hk⟩
     have hH2 : Box wk19 gk1 39 (Ky.cells ⟨1, 1, 2, 3⟩) ∧ Box wk19 gk7 49 (Hd.cells hdZ) ∧ Box wk19 gk14 49 (Hd.cells ⟨⟨⟨4, 1⟩, ⟨(some ⟨gk10, 0, none⟩), 1, 1⟩⟩, bvZ, ⟨(some ⟨gk12, 0, none⟩), 1, 1⟩⟩) := ⟨hH.1.kept hk (fun e => e), hH.2.1.kept hk (fun e => e), hH.2.2.kept hk (fun e => e)⟩
     have HF : Hid (Fr No w (wk19) [(gk1, 39, Ky.cells ⟨1, 1, 2, 3⟩), (gk4, 43, Cm.cells ⟨4, 1, 2, ⟨#[]⟩, 0, 0, 0, 0, 0⟩), (gk7, 49, Hd.cells hdZ), (gk10, 5, #[.int .u8 9]), (gk12, 70, Pl.cells ⟨1, ⟨spZ, spZ, ⟨4, 1, 2, ⟨#[]⟩, 0, 0, 0, 0, 0⟩, true⟩⟩), (gk14, 49, Hd.cells ⟨⟨⟨4, 1⟩, ⟨(some ⟨gk10, 0, none⟩), 1, 1⟩⟩, bvZ, ⟨(some ⟨gk12, 0, none⟩), 1, 1⟩⟩)]) := HF.out.no hk
     have HS : Hid (OwB wk19 w.heap.size s' [9]) := ⟨ho.own.lower HFs.out, ho.len⟩
     clear ho
     clear hk
     refine ⟨.agg (Mg.cells ⟨22, ⟨false, 2⟩, ⟨false, 1⟩, 0, 0, ⟨1, 1, 2, 3⟩, ⟨4, 1⟩, spZ, s', cZ, bvZ, slZ, false⟩), by kernel_rfl, hH2, fun hH => ?_⟩
     clear hH2
     try simp only [pS]
     refine any_pick (rs := [6, 11]) (by kernel_rfl) (by simp) ?_
     intro i hi
     rcases pick2 hi with rfl | rfl
     ·skip
      clear hi
      refine step_call (i := 6) (o := oqU2) rfl (by kernel_rfl) 12 #[.agg (Mg.cells ⟨22, ⟨false, 2⟩, ⟨false, 1⟩, 0, 0, ⟨1, 1, 2, 3⟩, ⟨4, 1⟩, spZ, s', cZ, bvZ, slZ, false⟩), .agg (Hd.cells hdZ)] (by kernel_rfl) _ (take_block_yes ⟨22, ⟨false, 2⟩, ⟨false, 1⟩, 0, 0, ⟨1, 1, 2, 3⟩, ⟨4, 1⟩, spZ, s', cZ, bvZ, slZ, false⟩ hdZ [9] _ (by kernel_rfl) (by kernel_rfl) (by kernel_rfl) HS.out.rd (by show s'.l ≤ _; have := HS.out.len; simp at this; omega)) ?_
      rintro e wk20 ⟨gl, s2, rfl, hbg, ho, hgl, hk⟩
      have hH2 : Box wk20 gk1 39 (Ky.cells ⟨1, 1, 2, 3⟩) ∧ Box wk20 gk7 49 (Hd.cells hdZ) ∧ Box wk20 gk14 49 (Hd.cells ⟨⟨⟨4, 1⟩, ⟨(some ⟨gk10, 0, none⟩), 1, 1⟩⟩, bvZ, ⟨(some ⟨gk12, 0, none⟩), 1, 1⟩⟩) := ⟨hH.1.kept hk (fun e => e), hH.2.1.kept hk (fun e => e), hH.2.2.kept hk (fun e => e)⟩
      have HO : Hid (OwB wk20 w.heap.size s2 [9]) := ⟨ho.own.lower HF.out.kept.size, ho.len⟩
      clear HS
      have HF : Hid (Fr No w (wk20) [(gk1, 39, Ky.cells ⟨1, 1, 2, 3⟩), (gk4, 43, Cm.cells ⟨4, 1, 2, ⟨#[]⟩, 0, 0, 0, 0, 0⟩), (gk7, 49, Hd.cells hdZ), (gk10, 5, #[.int .u8 9]), (gk12, 70, Pl.cells ⟨1, ⟨spZ, spZ, ⟨4, 1, 2, ⟨#[]⟩, 0, 0, 0, 0, 0⟩, true⟩⟩), (gk14, 49, Hd.cells ⟨⟨⟨4, 1⟩, ⟨(some ⟨gk10, 0, none⟩), 1, 1⟩⟩, bvZ, ⟨(some ⟨gk12, 0, none⟩), 1, 1⟩⟩), (gl, 67, Ch.cells ⟨⟨1, 1, 2, 3⟩, ⟨⟨4, 1⟩, s2⟩, inZ, bvZ⟩)]) := HF.out.add hk hgl hbg
      clear hbg hgl hk ho
      refine ⟨.tuple #[.slice (some ⟨gl, 0, none⟩) 1 1, .agg (Mg.cells mgZ), .bool false], rfl, hH2, fun hH => ?_⟩
      clear hH2
      try simp only [pS]
      refine aT (i := 7) (oi := oqU3) (v := .tuple #[.slice (some ⟨gl, 0, none⟩) 1 1, .agg (Mg.cells mgZ), .bool false]) (fun _ _ => by kernel_rfl) hH ?_
      try simp only [pS]
      refine aT (i := 8) (oi := oqU4) (v := .slice (some ⟨gl, 0, none⟩) 1 1) (fun _ _ => by kernel_rfl) hH ?_
      try simp only [pS]
      refine aT (i := 9) (oi := oqU5) (v := .agg (Mg.cells mgZ)) (fun _ _ => by kernel_rfl) hH ?_
      try simp only [pS]
      refine aT (i := 10) (oi := oqU6) (v := .bool false) (fun _ _ => by kernel_rfl) hH ?_
      try simp only [pS]
      refine any_step (i := 11) (o := oqU7) rfl (by kernel_rfl) (by kernel_rfl) (exec_alloc 46 rfl (Mg.cells mgZ) zero50) (⟨hH.1.alloc _, hH.2.1.alloc _, hH.2.2.alloc _⟩) (fun hH => ?_)
      try simp only [pS]
      have HO : Hid (OwB (wk20.alloc (.cells (Mg.cells mgZ) 46)) w.heap.size s2 [9]) := HO.out.no ((Kept.refl No _).alloc _)
      have HF : Hid (Fr No w _ [(gk1, 39, Ky.cells ⟨1, 1, 2, 3⟩), (gk4, 43, Cm.cells ⟨4, 1, 2, ⟨#[]⟩, 0, 0, 0, 0, 0⟩), (gk7, 49, Hd.cells hdZ), (gk10, 5, #[.int .u8 9]), (gk12, 70, Pl.cells ⟨1, ⟨spZ, spZ, ⟨4, 1, 2, ⟨#[]⟩, 0, 0, 0, 0, 0⟩, true⟩⟩), (gk14, 49, Hd.cells ⟨⟨⟨4, 1⟩, ⟨(some ⟨gk10, 0, none⟩), 1, 1⟩⟩, bvZ, ⟨(some ⟨gk12, 0, none⟩), 1, 1⟩⟩), (gl, 67, Ch.cells ⟨⟨1, 1, 2, 3⟩, ⟨⟨4, 1⟩, s2⟩, inZ, bvZ⟩), (wk20.heap.size, 46, Mg.cells mgZ)]) := HF.out.alloc _ _
      generalize wk20.alloc (.cells (Mg.cells mgZ) 46) = wk22 at HF HO hH ⊢
      generalize wk20.heap.size = gk21 at HF ⊢
      refine aT (i := 12) (oi := oqU8) (v := .slice (some ⟨gl, 0, none⟩) 1 1) (fun _ _ => by kernel_rfl) hH ?_
      try simp only [pS]
      refine any_store (i := 13) (o := oqU9) (w' := wk22.setRow gk21 (Mg.cells mgZ)) rfl (by kernel_rfl) (by kernel_rfl) 46 _ _ rfl ⟨gk21, 0, none⟩ (.agg (Mg.cells mgZ)) (by kernel_rfl) (by kernel_rfl) (run_store_to (cur := Mg.cs mgZ) (vs := Mg.cs mgZ) (new := Mg.cs mgZ) (HF.out.box 7 _ _ _ rfl) (by kernel_rfl) Try.size50 (Nat.le_of_ble_eq_true (by kernel_rfl)) (Mg.oneL _) (by kernel_rfl)) (⟨hH.1.rowNe (HF.out.ne 0 7 rfl rfl (by simp)) _, hH.2.1.rowNe (HF.out.ne 2 7 rfl rfl (by simp)) _, hH.2.2.rowNe (HF.out.ne 5 7 rfl rfl (by simp)) _⟩) (fun hH => ?_)
      try simp only [pS]
      have HO : Hid (OwB (wk22.setRow gk21 (Mg.cells mgZ)) w.heap.size s2 [9]) := HO.out.kept (Kept.setRow _ _ _) (fun k h e => (HO.out.own.notBox (HF.out.box 7 _ _ _ rfl) (by decide)) ((show k = gk21 from e) ▸ h))
      have HF : Hid (Fr No w _ [(gk1, 39, Ky.cells ⟨1, 1, 2, 3⟩), (gk4, 43, Cm.cells ⟨4, 1, 2, ⟨#[]⟩, 0, 0, 0, 0, 0⟩), (gk7, 49, Hd.cells hdZ), (gk10, 5, #[.int .u8 9]), (gk12, 70, Pl.cells ⟨1, ⟨spZ, spZ, ⟨4, 1, 2, ⟨#[]⟩, 0, 0, 0, 0, 0⟩, true⟩⟩), (gk14, 49, Hd.cells ⟨⟨⟨4, 1⟩, ⟨(some ⟨gk10, 0, none⟩), 1, 1⟩⟩, bvZ, ⟨(some ⟨gk12, 0, none⟩), 1, 1⟩⟩), (gl, 67, Ch.cells ⟨⟨1, 1, 2, 3⟩, ⟨⟨4, 1⟩, s2⟩, inZ, bvZ⟩), (gk21, 46, Mg.cells mgZ)]) := HF.out.set 7 rfl _
      generalize wk22.setRow gk21 (Mg.cells mgZ) = wk23 at HF HO hH ⊢
      refine aT (i := 14) (oi := oqU10) (v := .bool false) (fun _ _ => by kernel_rfl) hH ?_
      try simp only [pS]
      refine wpAnyH_done (by kernel_rfl) ?_ _
      try simp only [pS]
      clear hH
      have HF : Hid (Fr No w wk23 ([(gk1, 39, Ky.cells ⟨1, 1, 2, 3⟩), (gk4, 43, Cm.cells ⟨4, 1, 2, ⟨#[]⟩, 0, 0, 0, 0, 0⟩), (gk7, 49, Hd.cells hdZ), (gk10, 5, #[.int .u8 9]), (gk12, 70, Pl.cells ⟨1, ⟨spZ, spZ, ⟨4, 1, 2, ⟨#[]⟩, 0, 0, 0, 0, 0⟩, true⟩⟩), (gk14, 49, Hd.cells ⟨⟨⟨4, 1⟩, ⟨(some ⟨gk10, 0, none⟩), 1, 1⟩⟩, bvZ, ⟨(some ⟨gk12, 0, none⟩), 1, 1⟩⟩)] ++ [(gl, 67, Ch.cells ⟨⟨1, 1, 2, 3⟩, ⟨⟨4, 1⟩, s2⟩, inZ, bvZ⟩)])) := Fr.front (m := [(gk21, 46, Mg.cells mgZ)]) (show Fr No w _ (([(gk1, 39, Ky.cells ⟨1, 1, 2, 3⟩), (gk4, 43, Cm.cells ⟨4, 1, 2, ⟨#[]⟩, 0, 0, 0, 0, 0⟩), (gk7, 49, Hd.cells hdZ), (gk10, 5, #[.int .u8 9]), (gk12, 70, Pl.cells ⟨1, ⟨spZ, spZ, ⟨4, 1, 2, ⟨#[]⟩, 0, 0, 0, 0, 0⟩, true⟩⟩), (gk14, 49, Hd.cells ⟨⟨⟨4, 1⟩, ⟨(some ⟨gk10, 0, none⟩), 1, 1⟩⟩, bvZ, ⟨(some ⟨gk12, 0, none⟩), 1, 1⟩⟩)] ++ [(gl, 67, Ch.cells ⟨⟨1, 1, 2, 3⟩, ⟨⟨4, 1⟩, s2⟩, inZ, bvZ⟩)]) ++ _) from HF.out)
      refine hK0 _ _ (Met.intro (hJ0 _ _ ?_))
      (repeat apply Exists.intro)
      refine ⟨?_, rfl⟩
      exact ⟨gl, gk21, s2, rfl, rfl, rfl, HF, HO⟩
     ·skip
      clear hi
      refine step_run (i := 11) (o := oqU7) rfl (by kernel_rfl) (exec_alloc 46 rfl (Mg.cells mgZ) zero50) (⟨hH.1.alloc _, hH.2.1.alloc _, hH.2.2.alloc _⟩) (fun hH => ?_)
      try simp only [pS]
      have HS : Hid (OwB (wk19.alloc (.cells (Mg.cells mgZ) 46)) w.heap.size s' [9]) := HS.out.no ((Kept.refl No _).alloc _)
      have HF : Hid (Fr No w _ [(gk1, 39, Ky.cells ⟨1, 1, 2, 3⟩), (gk4, 43, Cm.cells ⟨4, 1, 2, ⟨#[]⟩, 0, 0, 0, 0, 0⟩), (gk7, 49, Hd.cells hdZ), (gk10, 5, #[.int .u8 9]), (gk12, 70, Pl.cells ⟨1, ⟨spZ, spZ, ⟨4, 1, 2, ⟨#[]⟩, 0, 0, 0, 0, 0⟩, true⟩⟩), (gk14, 49, Hd.cells ⟨⟨⟨4, 1⟩, ⟨(some ⟨gk10, 0, none⟩), 1, 1⟩⟩, bvZ, ⟨(some ⟨gk12, 0, none⟩), 1, 1⟩⟩), (wk19.heap.size, 46, Mg.cells mgZ)]) := HF.out.alloc _ _
      generalize wk19.alloc (.cells (Mg.cells mgZ) 46) = wk25 at HF HS hH ⊢
      generalize wk19.heap.size = gk24 at HF ⊢
      refine any_call (i := 6) (o := oqU2) rfl (by kernel_rfl) (by kernel_rfl) 12 #[.agg (Mg.cells ⟨22, ⟨false, 2⟩, ⟨false, 1⟩, 0, 0, ⟨1, 1, 2, 3⟩, ⟨4, 1⟩, spZ, s', cZ, bvZ, slZ, false⟩), .agg (Hd.cells hdZ)] (by kernel_rfl) _ (take_block_yes ⟨22, ⟨false, 2⟩, ⟨false, 1⟩, 0, 0, ⟨1, 1, 2, 3⟩, ⟨4, 1⟩, spZ, s', cZ, bvZ, slZ, false⟩ hdZ [9] _ (by kernel_rfl) (by kernel_rfl) (by kernel_rfl) HS.out.rd (by show s'.l ≤ _; have := HS.out.len; simp at this; omega)) ?_
      rintro e wk26 ⟨gl, s2, rfl, hbg, ho, hgl, hk⟩
      have hH2 : Box wk26 gk1 39 (Ky.cells ⟨1, 1, 2, 3⟩) ∧ Box wk26 gk7 49 (Hd.cells hdZ) ∧ Box wk26 gk14 49 (Hd.cells ⟨⟨⟨4, 1⟩, ⟨(some ⟨gk10, 0, none⟩), 1, 1⟩⟩, bvZ, ⟨(some ⟨gk12, 0, none⟩), 1, 1⟩⟩) := ⟨hH.1.kept hk (fun e => e), hH.2.1.kept hk (fun e => e), hH.2.2.kept hk (fun e => e)⟩
      have HO : Hid (OwB wk26 w.heap.size s2 [9]) := ⟨ho.own.lower HF.out.kept.size, ho.len⟩
      clear HS
      have HF : Hid (Fr No w (wk26) [(gk1, 39, Ky.cells ⟨1, 1, 2, 3⟩), (gk4, 43, Cm.cells ⟨4, 1, 2, ⟨#[]⟩, 0, 0, 0, 0, 0⟩), (gk7, 49, Hd.cells hdZ), (gk10, 5, #[.int .u8 9]), (gk12, 70, Pl.cells ⟨1, ⟨spZ, spZ, ⟨4, 1, 2, ⟨#[]⟩, 0, 0, 0, 0, 0⟩, true⟩⟩), (gk14, 49, Hd.cells ⟨⟨⟨4, 1⟩, ⟨(some ⟨gk10, 0, none⟩), 1, 1⟩⟩, bvZ, ⟨(some ⟨gk12, 0, none⟩), 1, 1⟩⟩), (gk24, 46, Mg.cells mgZ), (gl, 67, Ch.cells ⟨⟨1, 1, 2, 3⟩, ⟨⟨4, 1⟩, s2⟩, inZ, bvZ⟩)]) := HF.out.add hk hgl hbg
      clear hbg hgl hk ho
      refine ⟨.tuple #[.slice (some ⟨gl, 0, none⟩) 1 1, .agg (Mg.cells mgZ), .bool false], rfl, hH2, fun hH => ?_⟩
      clear hH2
      try simp only [pS]
      refine aT (i := 7) (oi := oqU3) (v := .tuple #[.slice (some ⟨gl, 0, none⟩) 1 1, .agg (Mg.cells mgZ), .bool false]) (fun _ _ => by kernel_rfl) hH ?_
      try simp only [pS]
      refine aT (i := 8) (oi := oqU4) (v := .slice (some ⟨gl, 0, none⟩) 1 1) (fun _ _ => by kernel_rfl) hH ?_
      try simp only [pS]
      refine aT (i := 9) (oi := oqU5) (v := .agg (Mg.cells mgZ)) (fun _ _ => by kernel_rfl) hH ?_
      try simp only [pS]
      refine aT (i := 10) (oi := oqU6) (v := .bool false) (fun _ _ => by kernel_rfl) hH ?_
      try simp only [pS]
      refine aT (i := 12) (oi := oqU8) (v := .slice (some ⟨gl, 0, none⟩) 1 1) (fun _ _ => by kernel_rfl) hH ?_
      try simp only [pS]
      refine any_store (i := 13) (o := oqU9) (w' := wk26.setRow gk24 (Mg.cells mgZ)) rfl (by kernel_rfl) (by kernel_rfl) 46 _ _ rfl ⟨gk24, 0, none⟩ (.agg (Mg.cells mgZ)) (by kernel_rfl) (by kernel_rfl) (run_store_to (cur := Mg.cs mgZ) (vs := Mg.cs mgZ) (new := Mg.cs mgZ) (HF.out.box 6 _ _ _ rfl) (by kernel_rfl) Try.size50 (Nat.le_of_ble_eq_true (by kernel_rfl)) (Mg.oneL _) (by kernel_rfl)) (⟨hH.1.rowNe (HF.out.ne 0 6 rfl rfl (by simp)) _, hH.2.1.rowNe (HF.out.ne 2 6 rfl rfl (by simp)) _, hH.2.2.rowNe (HF.out.ne 5 6 rfl rfl (by simp)) _⟩) (fun hH => ?_)
      try simp only [pS]
      have HO : Hid (OwB (wk26.setRow gk24 (Mg.cells mgZ)) w.heap.size s2 [9]) := HO.out.kept (Kept.setRow _ _ _) (fun k h e => (HO.out.own.notBox (HF.out.box 6 _ _ _ rfl) (by decide)) ((show k = gk24 from e) ▸ h))
      have HF : Hid (Fr No w _ [(gk1, 39, Ky.cells ⟨1, 1, 2, 3⟩), (gk4, 43, Cm.cells ⟨4, 1, 2, ⟨#[]⟩, 0, 0, 0, 0, 0⟩), (gk7, 49, Hd.cells hdZ), (gk10, 5, #[.int .u8 9]), (gk12, 70, Pl.cells ⟨1, ⟨spZ, spZ, ⟨4, 1, 2, ⟨#[]⟩, 0, 0, 0, 0, 0⟩, true⟩⟩), (gk14, 49, Hd.cells ⟨⟨⟨4, 1⟩, ⟨(some ⟨gk10, 0, none⟩), 1, 1⟩⟩, bvZ, ⟨(some ⟨gk12, 0, none⟩), 1, 1⟩⟩), (gk24, 46, Mg.cells mgZ), (gl, 67, Ch.cells ⟨⟨1, 1, 2, 3⟩, ⟨⟨4, 1⟩, s2⟩, inZ, bvZ⟩)]) := HF.out.set 6 rfl _
      generalize wk26.setRow gk24 (Mg.cells mgZ) = wk27 at HF HO hH ⊢
      refine aT (i := 14) (oi := oqU10) (v := .bool false) (fun _ _ => by kernel_rfl) hH ?_
      try simp only [pS]
      refine wpAnyH_done (by kernel_rfl) ?_ _
      try simp only [pS]
      clear hH
      have HF : Hid (Fr No w wk27 ([(gk1, 39, Ky.cells ⟨1, 1, 2, 3⟩), (gk4, 43, Cm.cells ⟨4, 1, 2, ⟨#[]⟩, 0, 0, 0, 0, 0⟩), (gk7, 49, Hd.cells hdZ), (gk10, 5, #[.int .u8 9]), (gk12, 70, Pl.cells ⟨1, ⟨spZ, spZ, ⟨4, 1, 2, ⟨#[]⟩, 0, 0, 0, 0, 0⟩, true⟩⟩), (gk14, 49, Hd.cells ⟨⟨⟨4, 1⟩, ⟨(some ⟨gk10, 0, none⟩), 1, 1⟩⟩, bvZ, ⟨(some ⟨gk12, 0, none⟩), 1, 1⟩⟩)] ++ [(gl, 67, Ch.cells ⟨⟨1, 1, 2, 3⟩, ⟨⟨4, 1⟩, s2⟩, inZ, bvZ⟩), (gk24, 46, Mg.cells mgZ)])) := Fr.swap (l := [(gk1, 39, Ky.cells ⟨1, 1, 2, 3⟩), (gk4, 43, Cm.cells ⟨4, 1, 2, ⟨#[]⟩, 0, 0, 0, 0, 0⟩), (gk7, 49, Hd.cells hdZ), (gk10, 5, #[.int .u8 9]), (gk12, 70, Pl.cells ⟨1, ⟨spZ, spZ, ⟨4, 1, 2, ⟨#[]⟩, 0, 0, 0, 0, 0⟩, true⟩⟩), (gk14, 49, Hd.cells ⟨⟨⟨4, 1⟩, ⟨(some ⟨gk10, 0, none⟩), 1, 1⟩⟩, bvZ, ⟨(some ⟨gk12, 0, none⟩), 1, 1⟩⟩)]) HF.out
      have HF : Hid (Fr No w wk27 ([(gk1, 39, Ky.cells ⟨1, 1, 2, 3⟩), (gk4, 43, Cm.cells ⟨4, 1, 2, ⟨#[]⟩, 0, 0, 0, 0, 0⟩), (gk7, 49, Hd.cells hdZ), (gk10, 5, #[.int .u8 9]), (gk12, 70, Pl.cells ⟨1, ⟨spZ, spZ, ⟨4, 1, 2, ⟨#[]⟩, 0, 0, 0, 0, 0⟩, true⟩⟩), (gk14, 49, Hd.cells ⟨⟨⟨4, 1⟩, ⟨(some ⟨gk10, 0, none⟩), 1, 1⟩⟩, bvZ, ⟨(some ⟨gk12, 0, none⟩), 1, 1⟩⟩)] ++ [(gl, 67, Ch.cells ⟨⟨1, 1, 2, 3⟩, ⟨⟨4, 1⟩, s2⟩, inZ, bvZ⟩)])) := Fr.front (m := [(gk24, 46, Mg.cells mgZ)]) (show Fr No w _ (([(gk1, 39, Ky.cells ⟨1, 1, 2, 3⟩), (gk4, 43, Cm.cells ⟨4, 1, 2, ⟨#[]⟩, 0, 0, 0, 0, 0⟩), (gk7, 49, Hd.cells hdZ), (gk10, 5, #[.int .u8 9]), (gk12, 70, Pl.cells ⟨1, ⟨spZ, spZ, ⟨4, 1, 2, ⟨#[]⟩, 0, 0, 0, 0, 0⟩, true⟩⟩), (gk14, 49, Hd.cells ⟨⟨⟨4, 1⟩, ⟨(some ⟨gk10, 0, none⟩), 1, 1⟩⟩, bvZ, ⟨(some ⟨gk12, 0, none⟩), 1, 1⟩⟩)] ++ [(gl, 67, Ch.cells ⟨⟨1, 1, 2, 3⟩, ⟨⟨4, 1⟩, s2⟩, inZ, bvZ⟩)]) ++ _) from HF.out)
      refine hK0 _ _ (Met.intro (hJ0 _ _ ?_))
      (repeat apply Exists.intro)
      refine ⟨?_, rfl⟩
      exact ⟨gl, gk24, s2, rfl, rfl, rfl, HF, HO⟩
    ·skip
     clear hi
     refine step_run (i := 11) (o := oqU7) rfl (by kernel_rfl) (exec_alloc 46 rfl (Mg.cells mgZ) zero50) (⟨hH.1.alloc _, hH.2.1.alloc _, hH.2.2.alloc _⟩) (fun hH => ?_)
     try simp only [pS]
     have HF : Hid (Fr No w _ [(gk1, 39, Ky.cells ⟨1, 1, 2, 3⟩), (gk4, 43, Cm.cells ⟨4, 1, 2, ⟨#[]⟩, 0, 0, 0, 0, 0⟩), (gk7, 49, Hd.cells hdZ), (gk10, 5, #[.int .u8 9]), (gk12, 70, Pl.cells ⟨1, ⟨spZ, spZ, ⟨4, 1, 2, ⟨#[]⟩, 0, 0, 0, 0, 0⟩, true⟩⟩), (gk14, 49, Hd.cells ⟨⟨⟨4, 1⟩, ⟨(some ⟨gk10, 0, none⟩), 1, 1⟩⟩, bvZ, ⟨(some ⟨gk12, 0, none⟩), 1, 1⟩⟩), (wk18.heap.size, 46, Mg.cells mgZ)]) := HF.out.alloc _ _
     generalize wk18.alloc (.cells (Mg.cells mgZ) 46) = wk29 at HF hH ⊢
     generalize wk18.heap.size = gk28 at HF ⊢
     have HFs : Hid (w.heap.size ≤ wk29.heap.size) := HF.out.kept.size
     refine any_call (i := 4) (o := oqU1) rfl (by kernel_rfl) (by kernel_rfl) 7 #[.agg (Mg.cells ⟨21, ⟨false, 1⟩, ⟨false, 2⟩, 0, 0, ⟨1, 1, 2, 3⟩, ⟨0, 0⟩, spZ, slZ, cZ, bvZ, slZ, false⟩), .agg (Hd.cells ⟨⟨⟨4, 1⟩, ⟨(some ⟨gk10, 0, none⟩), 1, 1⟩⟩, bvZ, ⟨(some ⟨gk12, 0, none⟩), 1, 1⟩⟩)] (by kernel_rfl) _ (have_block_yes ⟨21, ⟨false, 1⟩, ⟨false, 2⟩, 0, 0, ⟨1, 1, 2, 3⟩, ⟨0, 0⟩, spZ, slZ, cZ, bvZ, slZ, false⟩ ⟨⟨⟨4, 1⟩, ⟨(some ⟨gk10, 0, none⟩), 1, 1⟩⟩, bvZ, ⟨(some ⟨gk12, 0, none⟩), 1, 1⟩⟩ [9] _ (by kernel_rfl) (by kernel_rfl) (by kernel_rfl) (RdB.one (HF.out.box 3 _ _ _ rfl)) (by show 1 ≤ _; omega) (fun k e => by obtain ⟨ad, e1, rfl⟩ := e; cases e1; exact (HF.out.box 3 _ _ _ rfl).lt)) ?_
     rintro e wk30 ⟨s', rfl, ho, hk⟩
     have hH2 : Box wk30 gk1 39 (Ky.cells ⟨1, 1, 2, 3⟩) ∧ Box wk30 gk7 49 (Hd.cells hdZ) ∧ Box wk30 gk14 49 (Hd.cells ⟨⟨⟨4, 1⟩, ⟨(some ⟨gk10, 0, none⟩), 1, 1⟩⟩, bvZ, ⟨(some ⟨gk12, 0, none⟩), 1, 1⟩⟩) := ⟨hH.1.kept hk (fun e => e), hH.2.1.kept hk (fun e => e), hH.2.2.kept hk (fun e => e)⟩
     have HF : Hid (Fr No w (wk30) [(gk1, 39, Ky.cells ⟨1, 1, 2, 3⟩), (gk4, 43, Cm.cells ⟨4, 1, 2, ⟨#[]⟩, 0, 0, 0, 0, 0⟩), (gk7, 49, Hd.cells hdZ), (gk10, 5, #[.int .u8 9]), (gk12, 70, Pl.cells ⟨1, ⟨spZ, spZ, ⟨4, 1, 2, ⟨#[]⟩, 0, 0, 0, 0, 0⟩, true⟩⟩), (gk14, 49, Hd.cells ⟨⟨⟨4, 1⟩, ⟨(some ⟨gk10, 0, none⟩), 1, 1⟩⟩, bvZ, ⟨(some ⟨gk12, 0, none⟩), 1, 1⟩⟩), (gk28, 46, Mg.cells mgZ)]) := HF.out.no hk
     have HS : Hid (OwB wk30 w.heap.size s' [9]) := ⟨ho.own.lower HFs.out, ho.len⟩
     clear ho
     clear hk
     refine ⟨.agg (Mg.cells ⟨22, ⟨false, 2⟩, ⟨false, 1⟩, 0, 0, ⟨1, 1, 2, 3⟩, ⟨4, 1⟩, spZ, s', cZ, bvZ, slZ, false⟩), by kernel_rfl, hH2, fun hH => ?_⟩
     clear hH2
     try simp only [pS]
     refine any_call (i := 6) (o := oqU2) rfl (by kernel_rfl) (by kernel_rfl) 12 #[.agg (Mg.cells ⟨22, ⟨false, 2⟩, ⟨false, 1⟩, 0, 0, ⟨1, 1, 2, 3⟩, ⟨4, 1⟩, spZ, s', cZ, bvZ, slZ, false⟩), .agg (Hd.cells hdZ)] (by kernel_rfl) _ (take_block_yes ⟨22, ⟨false, 2⟩, ⟨false, 1⟩, 0, 0, ⟨1, 1, 2, 3⟩, ⟨4, 1⟩, spZ, s', cZ, bvZ, slZ, false⟩ hdZ [9] _ (by kernel_rfl) (by kernel_rfl) (by kernel_rfl) HS.out.rd (by show s'.l ≤ _; have := HS.out.len; simp at this; omega)) ?_
     rintro e wk31 ⟨gl, s2, rfl, hbg, ho, hgl, hk⟩
     have hH2 : Box wk31 gk1 39 (Ky.cells ⟨1, 1, 2, 3⟩) ∧ Box wk31 gk7 49 (Hd.cells hdZ) ∧ Box wk31 gk14 49 (Hd.cells ⟨⟨⟨4, 1⟩, ⟨(some ⟨gk10, 0, none⟩), 1, 1⟩⟩, bvZ, ⟨(some ⟨gk12, 0, none⟩), 1, 1⟩⟩) := ⟨hH.1.kept hk (fun e => e), hH.2.1.kept hk (fun e => e), hH.2.2.kept hk (fun e => e)⟩
     have HO : Hid (OwB wk31 w.heap.size s2 [9]) := ⟨ho.own.lower HF.out.kept.size, ho.len⟩
     clear HS
     have HF : Hid (Fr No w (wk31) [(gk1, 39, Ky.cells ⟨1, 1, 2, 3⟩), (gk4, 43, Cm.cells ⟨4, 1, 2, ⟨#[]⟩, 0, 0, 0, 0, 0⟩), (gk7, 49, Hd.cells hdZ), (gk10, 5, #[.int .u8 9]), (gk12, 70, Pl.cells ⟨1, ⟨spZ, spZ, ⟨4, 1, 2, ⟨#[]⟩, 0, 0, 0, 0, 0⟩, true⟩⟩), (gk14, 49, Hd.cells ⟨⟨⟨4, 1⟩, ⟨(some ⟨gk10, 0, none⟩), 1, 1⟩⟩, bvZ, ⟨(some ⟨gk12, 0, none⟩), 1, 1⟩⟩), (gk28, 46, Mg.cells mgZ), (gl, 67, Ch.cells ⟨⟨1, 1, 2, 3⟩, ⟨⟨4, 1⟩, s2⟩, inZ, bvZ⟩)]) := HF.out.add hk hgl hbg
     clear hbg hgl hk ho
     refine ⟨.tuple #[.slice (some ⟨gl, 0, none⟩) 1 1, .agg (Mg.cells mgZ), .bool false], rfl, hH2, fun hH => ?_⟩
     clear hH2
     try simp only [pS]
     refine aT (i := 7) (oi := oqU3) (v := .tuple #[.slice (some ⟨gl, 0, none⟩) 1 1, .agg (Mg.cells mgZ), .bool false]) (fun _ _ => by kernel_rfl) hH ?_
     try simp only [pS]
     refine aT (i := 8) (oi := oqU4) (v := .slice (some ⟨gl, 0, none⟩) 1 1) (fun _ _ => by kernel_rfl) hH ?_
     try simp only [pS]
     refine aT (i := 9) (oi := oqU5) (v := .agg (Mg.cells mgZ)) (fun _ _ => by kernel_rfl) hH ?_
     try simp only [pS]
     refine aT (i := 10) (oi := oqU6) (v := .bool false) (fun _ _ => by kernel_rfl) hH ?_
     try simp only [pS]
     refine aT (i := 12) (oi := oqU8) (v := .slice (some ⟨gl, 0, none⟩) 1 1) (fun _ _ => by kernel_rfl) hH ?_
     try simp only [pS]
     refine any_store (i := 13) (o := oqU9) (w' := wk31.setRow gk28 (Mg.cells mgZ)) rfl (by kernel_rfl) (by kernel_rfl) 46 _ _ rfl ⟨gk28, 0, none⟩ (.agg (Mg.cells mgZ)) (by kernel_rfl) (by kernel_rfl) (run_store_to (cur := Mg.cs mgZ) (vs := Mg.cs mgZ) (new := Mg.cs mgZ) (HF.out.box 6 _ _ _ rfl) (by kernel_rfl) Try.size50 (Nat.le_of_ble_eq_true (by kernel_rfl)) (Mg.oneL _) (by kernel_rfl)) (⟨hH.1.rowNe (HF.out.ne 0 6 rfl rfl (by simp)) _, hH.2.1.rowNe (HF.out.ne 2 6 rfl rfl (by simp)) _, hH.2.2.rowNe (HF.out.ne 5 6 rfl rfl (by simp)) _⟩) (fun hH => ?_)
     try simp only [pS]
     have HO : Hid (OwB (wk31.setRow gk28 (Mg.cells mgZ)) w.heap.size s2 [9]) := HO.out.kept (Kept.setRow _ _ _) (fun k h e => (HO.out.own.notBox (HF.out.box 6 _ _ _ rfl) (by decide)) ((show k = gk28 from e) ▸ h))
     have HF : Hid (Fr No w _ [(gk1, 39, Ky.cells ⟨1, 1, 2, 3⟩), (gk4, 43, Cm.cells ⟨4, 1, 2, ⟨#[]⟩, 0, 0, 0, 0, 0⟩), (gk7, 49, Hd.cells hdZ), (gk10, 5, #[.int .u8 9]), (gk12, 70, Pl.cells ⟨1, ⟨spZ, spZ, ⟨4, 1, 2, ⟨#[]⟩, 0, 0, 0, 0, 0⟩, true⟩⟩), (gk14, 49, Hd.cells ⟨⟨⟨4, 1⟩, ⟨(some ⟨gk10, 0, none⟩), 1, 1⟩⟩, bvZ, ⟨(some ⟨gk12, 0, none⟩), 1, 1⟩⟩), (gk28, 46, Mg.cells mgZ), (gl, 67, Ch.cells ⟨⟨1, 1, 2, 3⟩, ⟨⟨4, 1⟩, s2⟩, inZ, bvZ⟩)]) := HF.out.set 6 rfl _
     generalize wk31.setRow gk28 (Mg.cells mgZ) = wk32 at HF HO hH ⊢
     refine aT (i := 14) (oi := oqU10) (v := .bool false) (fun _ _ => by kernel_rfl) hH ?_
     try simp only [pS]
     refine wpAnyH_done (by kernel_rfl) ?_ _
     try simp only [pS]
     clear hH
     have HF : Hid (Fr No w wk32 ([(gk1, 39, Ky.cells ⟨1, 1, 2, 3⟩), (gk4, 43, Cm.cells ⟨4, 1, 2, ⟨#[]⟩, 0, 0, 0, 0, 0⟩), (gk7, 49, Hd.cells hdZ), (gk10, 5, #[.int .u8 9]), (gk12, 70, Pl.cells ⟨1, ⟨spZ, spZ, ⟨4, 1, 2, ⟨#[]⟩, 0, 0, 0, 0, 0⟩, true⟩⟩), (gk14, 49, Hd.cells ⟨⟨⟨4, 1⟩, ⟨(some ⟨gk10, 0, none⟩), 1, 1⟩⟩, bvZ, ⟨(some ⟨gk12, 0, none⟩), 1, 1⟩⟩)] ++ [(gl, 67, Ch.cells ⟨⟨1, 1, 2, 3⟩, ⟨⟨4, 1⟩, s2⟩, inZ, bvZ⟩), (gk28, 46, Mg.cells mgZ)])) := Fr.swap (l := [(gk1, 39, Ky.cells ⟨1, 1, 2, 3⟩), (gk4, 43, Cm.cells ⟨4, 1, 2, ⟨#[]⟩, 0, 0, 0, 0, 0⟩), (gk7, 49, Hd.cells hdZ), (gk10, 5, #[.int .u8 9]), (gk12, 70, Pl.cells ⟨1, ⟨spZ, spZ, ⟨4, 1, 2, ⟨#[]⟩, 0, 0, 0, 0, 0⟩, true⟩⟩), (gk14, 49, Hd.cells ⟨⟨⟨4, 1⟩, ⟨(some ⟨gk10, 0, none⟩), 1, 1⟩⟩, bvZ, ⟨(some ⟨gk12, 0, none⟩), 1, 1⟩⟩)]) HF.out
     have HF : Hid (Fr No w wk32 ([(gk1, 39, Ky.cells ⟨1, 1, 2, 3⟩), (gk4, 43, Cm.cells ⟨4, 1, 2, ⟨#[]⟩, 0, 0, 0, 0, 0⟩), (gk7, 49, Hd.cells hdZ), (gk10, 5, #[.int .u8 9]), (gk12, 70, Pl.cells ⟨1, ⟨spZ, spZ, ⟨4, 1, 2, ⟨#[]⟩, 0, 0, 0, 0, 0⟩, true⟩⟩), (gk14, 49, Hd.cells ⟨⟨⟨4, 1⟩, ⟨(some ⟨gk10, 0, none⟩), 1, 1⟩⟩, bvZ, ⟨(some ⟨gk12, 0, none⟩), 1, 1⟩⟩)] ++ [(gl, 67, Ch.cells ⟨⟨1, 1, 2, 3⟩, ⟨⟨4, 1⟩, s2⟩, inZ, bvZ⟩)])) := Fr.front (m := [(gk28, 46, Mg.cells mgZ)]) (show Fr No w _ (([(gk1, 39, Ky.cells ⟨1, 1, 2, 3⟩), (gk4, 43, Cm.cells ⟨4, 1, 2, ⟨#[]⟩, 0, 0, 0, 0, 0⟩), (gk7, 49, Hd.cells hdZ), (gk10, 5, #[.int .u8 9]), (gk12, 70, Pl.cells ⟨1, ⟨spZ, spZ, ⟨4, 1, 2, ⟨#[]⟩, 0, 0, 0, 0, 0⟩, true⟩⟩), (gk14, 49, Hd.cells ⟨⟨⟨4, 1⟩, ⟨(some ⟨gk10, 0, none⟩), 1, 1⟩⟩, bvZ, ⟨(some ⟨gk12, 0, none⟩), 1, 1⟩⟩)] ++ [(gl, 67, Ch.cells ⟨⟨1, 1, 2, 3⟩, ⟨⟨4, 1⟩, s2⟩, inZ, bvZ⟩)]) ++ _) from HF.out)
     refine hK0 _ _ (Met.intro (hJ0 _ _ ?_))
     (repeat apply Exists.intro)
     refine ⟨?_, rfl⟩
     exact ⟨gl, gk28, s2, rfl, rfl, rfl, HF, HO⟩
   ·skip
    clear hi
    refine step_run (i := 11) (o := oqU7) rfl (by kernel_rfl) (exec_alloc 46 rfl (Mg.cells mgZ) zero50) (⟨hH.1.alloc _, hH.2.1.alloc _, hH.2.2.alloc _⟩) (fun hH => ?_)
    try simp only [pS]
    have HF : Hid (Fr No w _ [(gk1, 39, Ky.cells ⟨1, 1, 2, 3⟩), (gk4, 43, Cm.cells ⟨4, 1, 2, ⟨#[]⟩, 0, 0, 0, 0, 0⟩), (gk7, 49, Hd.cells hdZ), (gk10, 5, #[.int .u8 9]), (gk12, 70, Pl.cells ⟨1, ⟨spZ, spZ, ⟨4, 1, 2, ⟨#[]⟩, 0, 0, 0, 0, 0⟩, true⟩⟩), (gk14, 49, Hd.cells ⟨⟨⟨4, 1⟩, ⟨(some ⟨gk10, 0, none⟩), 1, 1⟩⟩, bvZ, ⟨(some ⟨gk12, 0, none⟩), 1, 1⟩⟩), (wk17.heap.size, 46, Mg.cells mgZ)]) := HF.out.alloc _ _
    generalize wk17.alloc (.cells (Mg.cells mgZ) 46) = wk34 at HF hH ⊢
    generalize wk17.heap.size = gk33 at HF ⊢
    refine any_call (i := 2) (o := oqU0) rfl (by kernel_rfl) (by kernel_rfl) 16 #[.int .i64 1, .int .i64 2, .agg (Ky.cells ⟨1, 1, 2, 3⟩), .agg (Hd.cells hdZ)] (by kernel_rfl) _ (ask_any 1 2 ⟨1, 1, 2, 3⟩ hdZ [] _ (RdP.nil _) (fun k e => absurd e At.none) (by simp) ⟨⟨by decide, by decide⟩, fun x hx => by cases hx⟩ ⟨by decide, by decide⟩) ?_
    rintro e wk35 ⟨rfl, hk⟩
    have hH2 : Box wk35 gk1 39 (Ky.cells ⟨1, 1, 2, 3⟩) ∧ Box wk35 gk7 49 (Hd.cells hdZ) ∧ Box wk35 gk14 49 (Hd.cells ⟨⟨⟨4, 1⟩, ⟨(some ⟨gk10, 0, none⟩), 1, 1⟩⟩, bvZ, ⟨(some ⟨gk12, 0, none⟩), 1, 1⟩⟩) := ⟨hH.1.kept hk (fun e => e), hH.2.1.kept hk (fun e => e), hH.2.2.kept hk (fun e => e)⟩
    have HF : Hid (Fr No w (wk35) [(gk1, 39, Ky.cells ⟨1, 1, 2, 3⟩), (gk4, 43, Cm.cells ⟨4, 1, 2, ⟨#[]⟩, 0, 0, 0, 0, 0⟩), (gk7, 49, Hd.cells hdZ), (gk10, 5, #[.int .u8 9]), (gk12, 70, Pl.cells ⟨1, ⟨spZ, spZ, ⟨4, 1, 2, ⟨#[]⟩, 0, 0, 0, 0, 0⟩, true⟩⟩), (gk14, 49, Hd.cells ⟨⟨⟨4, 1⟩, ⟨(some ⟨gk10, 0, none⟩), 1, 1⟩⟩, bvZ, ⟨(some ⟨gk12, 0, none⟩), 1, 1⟩⟩), (gk33, 46, Mg.cells mgZ)]) := HF.out.no hk
    clear hk
    refine ⟨.agg (Mg.cells ⟨21, ⟨false, 1⟩, ⟨false, 2⟩, 0, 0, ⟨1, 1, 2, 3⟩, ⟨0, 0⟩, spZ, slZ, cZ, bvZ, slZ, false⟩), by kernel_rfl, hH2, fun hH => ?_⟩
    clear hH2
    try simp only [pS]
    have HFs : Hid (w.heap.size ≤ wk35.heap.size) := HF.out.kept.size
    refine any_call (i := 4) (o := oqU1) rfl (by kernel_rfl) (by kernel_rfl) 7 #[.agg (Mg.cells ⟨21, ⟨false, 1⟩, ⟨false, 2⟩, 0, 0, ⟨1, 1, 2, 3⟩, ⟨0, 0⟩, spZ, slZ, cZ, bvZ, slZ, false⟩), .agg (Hd.cells ⟨⟨⟨4, 1⟩, ⟨(some ⟨gk10, 0, none⟩), 1, 1⟩⟩, bvZ, ⟨(some ⟨gk12, 0, none⟩), 1, 1⟩⟩)] (by kernel_rfl) _ (have_block_yes ⟨21, ⟨false, 1⟩, ⟨false, 2⟩, 0, 0, ⟨1, 1, 2, 3⟩, ⟨0, 0⟩, spZ, slZ, cZ, bvZ, slZ, false⟩ ⟨⟨⟨4, 1⟩, ⟨(some ⟨gk10, 0, none⟩), 1, 1⟩⟩, bvZ, ⟨(some ⟨gk12, 0, none⟩), 1, 1⟩⟩ [9] _ (by kernel_rfl) (by kernel_rfl) (by kernel_rfl) (RdB.one (HF.out.box 3 _ _ _ rfl)) (by show 1 ≤ _; omega) (fun k e => by obtain ⟨ad, e1, rfl⟩ := e; cases e1; exact (HF.out.box 3 _ _ _ rfl).lt)) ?_
    rintro e wk36 ⟨s', rfl, ho, hk⟩
    have hH2 : Box wk36 gk1 39 (Ky.cells ⟨1, 1, 2, 3⟩) ∧ Box wk36 gk7 49 (Hd.cells hdZ) ∧ Box wk36 gk14 49 (Hd.cells ⟨⟨⟨4, 1⟩, ⟨(some ⟨gk10, 0, none⟩), 1, 1⟩⟩, bvZ, ⟨(some ⟨gk12, 0, none⟩), 1, 1⟩⟩) := ⟨hH.1.kept hk (fun e => e), hH.2.1.kept hk (fun e => e), hH.2.2.kept hk (fun e => e)⟩
    have HF : Hid (Fr No w (wk36) [(gk1, 39, Ky.cells ⟨1, 1, 2, 3⟩), (gk4, 43, Cm.cells ⟨4, 1, 2, ⟨#[]⟩, 0, 0, 0, 0, 0⟩), (gk7, 49, Hd.cells hdZ), (gk10, 5, #[.int .u8 9]), (gk12, 70, Pl.cells ⟨1, ⟨spZ, spZ, ⟨4, 1, 2, ⟨#[]⟩, 0, 0, 0, 0, 0⟩, true⟩⟩), (gk14, 49, Hd.cells ⟨⟨⟨4, 1⟩, ⟨(some ⟨gk10, 0, none⟩), 1, 1⟩⟩, bvZ, ⟨(some ⟨gk12, 0, none⟩), 1, 1⟩⟩), (gk33, 46, Mg.cells mgZ)]) := HF.out.no hk
    have HS : Hid (OwB wk36 w.heap.size s' [9]) := ⟨ho.own.lower HFs.out, ho.len⟩
    clear ho
    clear hk
    refine ⟨.agg (Mg.cells ⟨22, ⟨false, 2⟩, ⟨false, 1⟩, 0, 0, ⟨1, 1, 2, 3⟩, ⟨4, 1⟩, spZ, s', cZ, bvZ, slZ, false⟩), by kernel_rfl, hH2, fun hH => ?_⟩
    clear hH2
    try simp only [pS]
    refine any_call (i := 6) (o := oqU2) rfl (by kernel_rfl) (by kernel_rfl) 12 #[.agg (Mg.cells ⟨22, ⟨false, 2⟩, ⟨false, 1⟩, 0, 0, ⟨1, 1, 2, 3⟩, ⟨4, 1⟩, spZ, s', cZ, bvZ, slZ, false⟩), .agg (Hd.cells hdZ)] (by kernel_rfl) _ (take_block_yes ⟨22, ⟨false, 2⟩, ⟨false, 1⟩, 0, 0, ⟨1, 1, 2, 3⟩, ⟨4, 1⟩, spZ, s', cZ, bvZ, slZ, false⟩ hdZ [9] _ (by kernel_rfl) (by kernel_rfl) (by kernel_rfl) HS.out.rd (by show s'.l ≤ _; have := HS.out.len; simp at this; omega)) ?_
    rintro e wk37 ⟨gl, s2, rfl, hbg, ho, hgl, hk⟩
    have hH2 : Box wk37 gk1 39 (Ky.cells ⟨1, 1, 2, 3⟩) ∧ Box wk37 gk7 49 (Hd.cells hdZ) ∧ Box wk37 gk14 49 (Hd.cells ⟨⟨⟨4, 1⟩, ⟨(some ⟨gk10, 0, none⟩), 1, 1⟩⟩, bvZ, ⟨(some ⟨gk12, 0, none⟩), 1, 1⟩⟩) := ⟨hH.1.kept hk (fun e => e), hH.2.1.kept hk (fun e => e), hH.2.2.kept hk (fun e => e)⟩
    have HO : Hid (OwB wk37 w.heap.size s2 [9]) := ⟨ho.own.lower HF.out.kept.size, ho.len⟩
    clear HS
    have HF : Hid (Fr No w (wk37) [(gk1, 39, Ky.cells ⟨1, 1, 2, 3⟩), (gk4, 43, Cm.cells ⟨4, 1, 2, ⟨#[]⟩, 0, 0, 0, 0, 0⟩), (gk7, 49, Hd.cells hdZ), (gk10, 5, #[.int .u8 9]), (gk12, 70, Pl.cells ⟨1, ⟨spZ, spZ, ⟨4, 1, 2, ⟨#[]⟩, 0, 0, 0, 0, 0⟩, true⟩⟩), (gk14, 49, Hd.cells ⟨⟨⟨4, 1⟩, ⟨(some ⟨gk10, 0, none⟩), 1, 1⟩⟩, bvZ, ⟨(some ⟨gk12, 0, none⟩), 1, 1⟩⟩), (gk33, 46, Mg.cells mgZ), (gl, 67, Ch.cells ⟨⟨1, 1, 2, 3⟩, ⟨⟨4, 1⟩, s2⟩, inZ, bvZ⟩)]) := HF.out.add hk hgl hbg
    clear hbg hgl hk ho
    refine ⟨.tuple #[.slice (some ⟨gl, 0, none⟩) 1 1, .agg (Mg.cells mgZ), .bool false], rfl, hH2, fun hH => ?_⟩
    clear hH2
    try simp only [pS]
    refine aT (i := 7) (oi := oqU3) (v := .tuple #[.slice (some ⟨gl, 0, none⟩) 1 1, .agg (Mg.cells mgZ), .bool false]) (fun _ _ => by kernel_rfl) hH ?_
    try simp only [pS]
    refine aT (i := 8) (oi := oqU4) (v := .slice (some ⟨gl, 0, none⟩) 1 1) (fun _ _ => by kernel_rfl) hH ?_
    try simp only [pS]
    refine aT (i := 9) (oi := oqU5) (v := .agg (Mg.cells mgZ)) (fun _ _ => by kernel_rfl) hH ?_
    try simp only [pS]
    refine aT (i := 10) (oi := oqU6) (v := .bool false) (fun _ _ => by kernel_rfl) hH ?_
    try simp only [pS]
    refine aT (i := 12) (oi := oqU8) (v := .slice (some ⟨gl, 0, none⟩) 1 1) (fun _ _ => by kernel_rfl) hH ?_
    try simp only [pS]
    refine any_store (i := 13) (o := oqU9) (w' := wk37.setRow gk33 (Mg.cells mgZ)) rfl (by kernel_rfl) (by kernel_rfl) 46 _ _ rfl ⟨gk33, 0, none⟩ (.agg (Mg.cells mgZ)) (by kernel_rfl) (by kernel_rfl) (run_store_to (cur := Mg.cs mgZ) (vs := Mg.cs mgZ) (new := Mg.cs mgZ) (HF.out.box 6 _ _ _ rfl) (by kernel_rfl) Try.size50 (Nat.le_of_ble_eq_true (by kernel_rfl)) (Mg.oneL _) (by kernel_rfl)) (⟨hH.1.rowNe (HF.out.ne 0 6 rfl rfl (by simp)) _, hH.2.1.rowNe (HF.out.ne 2 6 rfl rfl (by simp)) _, hH.2.2.rowNe (HF.out.ne 5 6 rfl rfl (by simp)) _⟩) (fun hH => ?_)
    try simp only [pS]
    have HO : Hid (OwB (wk37.setRow gk33 (Mg.cells mgZ)) w.heap.size s2 [9]) := HO.out.kept (Kept.setRow _ _ _) (fun k h e => (HO.out.own.notBox (HF.out.box 6 _ _ _ rfl) (by decide)) ((show k = gk33 from e) ▸ h))
    have HF : Hid (Fr No w _ [(gk1, 39, Ky.cells ⟨1, 1, 2, 3⟩), (gk4, 43, Cm.cells ⟨4, 1, 2, ⟨#[]⟩, 0, 0, 0, 0, 0⟩), (gk7, 49, Hd.cells hdZ), (gk10, 5, #[.int .u8 9]), (gk12, 70, Pl.cells ⟨1, ⟨spZ, spZ, ⟨4, 1, 2, ⟨#[]⟩, 0, 0, 0, 0, 0⟩, true⟩⟩), (gk14, 49, Hd.cells ⟨⟨⟨4, 1⟩, ⟨(some ⟨gk10, 0, none⟩), 1, 1⟩⟩, bvZ, ⟨(some ⟨gk12, 0, none⟩), 1, 1⟩⟩), (gk33, 46, Mg.cells mgZ), (gl, 67, Ch.cells ⟨⟨1, 1, 2, 3⟩, ⟨⟨4, 1⟩, s2⟩, inZ, bvZ⟩)]) := HF.out.set 6 rfl _
    generalize wk37.setRow gk33 (Mg.cells mgZ) = wk38 at HF HO hH ⊢
    refine aT (i := 14) (oi := oqU10) (v := .bool false) (fun _ _ => by kernel_rfl) hH ?_
    try simp only [pS]
    refine wpAnyH_done (by kernel_rfl) ?_ _
    try simp only [pS]
    clear hH
    have HF : Hid (Fr No w wk38 ([(gk1, 39, Ky.cells ⟨1, 1, 2, 3⟩), (gk4, 43, Cm.cells ⟨4, 1, 2, ⟨#[]⟩, 0, 0, 0, 0, 0⟩), (gk7, 49, Hd.cells hdZ), (gk10, 5, #[.int .u8 9]), (gk12, 70, Pl.cells ⟨1, ⟨spZ, spZ, ⟨4, 1, 2, ⟨#[]⟩, 0, 0, 0, 0, 0⟩, true⟩⟩), (gk14, 49, Hd.cells ⟨⟨⟨4, 1⟩, ⟨(some ⟨gk10, 0, none⟩), 1, 1⟩⟩, bvZ, ⟨(some ⟨gk12, 0, none⟩), 1, 1⟩⟩)] ++ [(gl, 67, Ch.cells ⟨⟨1, 1, 2, 3⟩, ⟨⟨4, 1⟩, s2⟩, inZ, bvZ⟩), (gk33, 46, Mg.cells mgZ)])) := Fr.swap (l := [(gk1, 39, Ky.cells ⟨1, 1, 2, 3⟩), (gk4, 43, Cm.cells ⟨4, 1, 2, ⟨#[]⟩, 0, 0, 0, 0, 0⟩), (gk7, 49, Hd.cells hdZ), (gk10, 5, #[.int .u8 9]), (gk12, 70, Pl.cells ⟨1, ⟨spZ, spZ, ⟨4, 1, 2, ⟨#[]⟩, 0, 0, 0, 0, 0⟩, true⟩⟩), (gk14, 49, Hd.cells ⟨⟨⟨4, 1⟩, ⟨(some ⟨gk10, 0, none⟩), 1, 1⟩⟩, bvZ, ⟨(some ⟨gk12, 0, none⟩), 1, 1⟩⟩)]) HF.out
    have HF : Hid (Fr No w wk38 ([(gk1, 39, Ky.cells ⟨1, 1, 2, 3⟩), (gk4, 43, Cm.cells ⟨4, 1, 2, ⟨#[]⟩, 0, 0, 0, 0, 0⟩), (gk7, 49, Hd.cells hdZ), (gk10, 5, #[.int .u8 9]), (gk12, 70, Pl.cells ⟨1, ⟨spZ, spZ, ⟨4, 1, 2, ⟨#[]⟩, 0, 0, 0, 0, 0⟩, true⟩⟩), (gk14, 49, Hd.cells ⟨⟨⟨4, 1⟩, ⟨(some ⟨gk10, 0, none⟩), 1, 1⟩⟩, bvZ, ⟨(some ⟨gk12, 0, none⟩), 1, 1⟩⟩)] ++ [(gl, 67, Ch.cells ⟨⟨1, 1, 2, 3⟩, ⟨⟨4, 1⟩, s2⟩, inZ, bvZ⟩)])) := Fr.front (m := [(gk33, 46, Mg.cells mgZ)]) (show Fr No w _ (([(gk1, 39, Ky.cells ⟨1, 1, 2, 3⟩), (gk4, 43, Cm.cells ⟨4, 1, 2, ⟨#[]⟩, 0, 0, 0, 0, 0⟩), (gk7, 49, Hd.cells hdZ), (gk10, 5, #[.int .u8 9]), (gk12, 70, Pl.cells ⟨1, ⟨spZ, spZ, ⟨4, 1, 2, ⟨#[]⟩, 0, 0, 0, 0, 0⟩, true⟩⟩), (gk14, 49, Hd.cells ⟨⟨⟨4, 1⟩, ⟨(some ⟨gk10, 0, none⟩), 1, 1⟩⟩, bvZ, ⟨(some ⟨gk12, 0, none⟩), 1, 1⟩⟩)] ++ [(gl, 67, Ch.cells ⟨⟨1, 1, 2, 3⟩, ⟨⟨4, 1⟩, s2⟩, inZ, bvZ⟩)]) ++ _) from HF.out)
    refine hK0 _ _ (Met.intro (hJ0 _ _ ?_))
    (repeat apply Exists.intro)
    refine ⟨?_, rfl⟩
    exact ⟨gl, gk33, s2, rfl, rfl, rfl, HF, HO⟩
  case rest =>
   obtain ⟨gl, g6, s2, rfl, rfl, rfl, HF, HO⟩ := hcut
   have HF : Hid (Fr No w (wc) [(gk1, 39, Ky.cells ⟨1, 1, 2, 3⟩), (gk4, 43, Cm.cells ⟨4, 1, 2, ⟨#[]⟩, 0, 0, 0, 0, 0⟩), (gk7, 49, Hd.cells hdZ), (gk10, 5, #[.int .u8 9]), (gk12, 70, Pl.cells ⟨1, ⟨spZ, spZ, ⟨4, 1, 2, ⟨#[]⟩, 0, 0, 0, 0, 0⟩, true⟩⟩), (gk14, 49, Hd.cells ⟨⟨⟨4, 1⟩, ⟨(some ⟨gk10, 0, none⟩), 1, 1⟩⟩, bvZ, ⟨(some ⟨gk12, 0, none⟩), 1, 1⟩⟩), (gl, 67, Ch.cells ⟨⟨1, 1, 2, 3⟩, ⟨⟨4, 1⟩, s2⟩, inZ, bvZ⟩)]) := HF.out
   go_upto_region 6 with fail
   go_cut [8, 9, 10] from 33 to 43 (fun v8 v9 v10 wc => ∃ (gm g9 : Nat) (km : Nat) (sp : List Value), v8 = .slice (some ⟨gm, 0, none⟩) 1 km ∧ v9 = .pointer (some ⟨g9, 0, none⟩) ∧ v10 = .bool false ∧ Hid (Fr No w wc ([(gk1, 39, Ky.cells ⟨1, 1, 2, 3⟩), (gk4, 43, Cm.cells ⟨4, 1, 2, ⟨#[]⟩, 0, 0, 0, 0, 0⟩), (gk7, 49, Hd.cells hdZ), (gk10, 5, #[.int .u8 9]), (gk12, 70, Pl.cells ⟨1, ⟨spZ, spZ, ⟨4, 1, 2, ⟨#[]⟩, 0, 0, 0, 0, 0⟩, true⟩⟩), (gk14, 49, Hd.cells ⟨⟨⟨4, 1⟩, ⟨(some ⟨gk10, 0, none⟩), 1, 1⟩⟩, bvZ, ⟨(some ⟨gk12, 0, none⟩), 1, 1⟩⟩), (gl, 67, Ch.cells ⟨⟨1, 1, 2, 3⟩, ⟨⟨4, 1⟩, s2⟩, inZ, bvZ⟩)] ++ [(gm, 67, (Ch.cs ⟨⟨3, 0, 1, 0⟩, blZ, ⟨spZ, spZ, ⟨4, 1, 2, ⟨#[]⟩, 0, 0, 0, 0, 0⟩, true⟩, bvZ⟩ ++ sp).toArray)])) ∧ Hid (OwB wc w.heap.size s2 [9]))
   case first =>
    rename_i J0 K0 hJ0 hK0
    refine wp_region_held_drew (S := fun w' => Box w' gk7 49 (Hd.cells hdZ) ∧ Box w' gk14 49 (Hd.cells ⟨⟨⟨4, 1⟩, ⟨(some ⟨gk10, 0, none⟩), 1, 1⟩⟩, bvZ, ⟨(some ⟨gk12, 0, none⟩), 1, 1⟩⟩)) rfl ⟨HF.out.box 2 _ _ _ rfl, HF.out.box 5 _ _ _ rfl⟩ (fun hH => ?_)
    have HO : Hid (OwB (wc.drew) w.heap.size s2 [9]) := HO.out.no (Kept.refl No _).drew
    have HF : Hid (Fr No w (wc.drew) [(gk1, 39, Ky.cells ⟨1, 1, 2, 3⟩), (gk4, 43, Cm.cells ⟨4, 1, 2, ⟨#[]⟩, 0, 0, 0, 0, 0⟩), (gk7, 49, Hd.cells hdZ), (gk10, 5, #[.int .u8 9]), (gk12, 70, Pl.cells ⟨1, ⟨spZ, spZ, ⟨4, 1, 2, ⟨#[]⟩, 0, 0, 0, 0, 0⟩, true⟩⟩), (gk14, 49, Hd.cells ⟨⟨⟨4, 1⟩, ⟨(some ⟨gk10, 0, none⟩), 1, 1⟩⟩, bvZ, ⟨(some ⟨gk12, 0, none⟩), 1, 1⟩⟩), (gl, 67, Ch.cells ⟨⟨1, 1, 2, 3⟩, ⟨⟨4, 1⟩, s2⟩, inZ, bvZ⟩)]) := HF.out.drew
    generalize wc.drew = wk39 at HF HO hH ⊢
    refine aT (i := 0) (oi := { dst := some 34, op := Op.build 39 #[(0, Operand.const (Value.int IntKind.i64 2))], type := 39, pos := "law.go:88", after := #[], guard := none }) (v := .agg (Ky.cells ⟨2, 0, 0, 0⟩)) (fun w' hw => exec_build 39 _ rfl (Ky.cells ⟨2, 0, 0, 0⟩) (by kernel_rfl)) hH ?_
    try simp only [pS]
    refine aT (i := 1) (oi := { dst := some 35, op := Op.load 49 (Operand.tmp 3), type := 49, pos := "law.go:88", after := #[], guard := none }) (v := .agg (Hd.cells hdZ)) (fun w' hw => eL 49 _ rfl ⟨gk7, 0, none⟩ (run_load_part (cs := Hd.cs hdZ) (sub := Hd.cs hdZ) (hw.1) (Part.all _) Try.und40 rfl Try.size40)) hH ?_
    try simp only [pS]
    refine aT (i := 3) (oi := { dst := some 37, op := Op.load 49 (Operand.tmp 4), type := 49, pos := "law.go:88", after := #[], guard := none }) (v := .agg (Hd.cells ⟨⟨⟨4, 1⟩, ⟨(some ⟨gk10, 0, none⟩), 1, 1⟩⟩, bvZ, ⟨(some ⟨gk12, 0, none⟩), 1, 1⟩⟩)) (fun w' hw => eL 49 _ rfl ⟨gk14, 0, none⟩ (run_load_part (cs := Hd.cs ⟨⟨⟨4, 1⟩, ⟨(some ⟨gk10, 0, none⟩), 1, 1⟩⟩, bvZ, ⟨(some ⟨gk12, 0, none⟩), 1, 1⟩⟩) (sub := Hd.cs ⟨⟨⟨4, 1⟩, ⟨(some ⟨gk10, 0, none⟩), 1, 1⟩⟩, bvZ, ⟨(some ⟨gk12, 0, none⟩), 1, 1⟩⟩) (hw.2) (Part.all _) Try.und40 rfl Try.size40)) hH ?_
    try simp only [pS]
    refine aT (i := 5) (oi := { dst := some 39, op := Op.load 49 (Operand.tmp 3), type := 49, pos := "law.go:88", after := #[], guard := none }) (v := .agg (Hd.cells hdZ)) (fun w' hw => eL 49 _ rfl ⟨gk7, 0, none⟩ (run_load_part (cs := Hd.cs hdZ) (sub := Hd.cs hdZ) (hw.1) (Part.all _) Try.und40 rfl Try.size40)) hH ?_
    try simp only [pS]
    refine any_pick (rs := [2, 11]) (by kernel_rfl) (by simp) ?_
    intro i hi
    rcases pick2 hi with rfl | rfl
    ·skip
     clear hi
     refine step_call (i := 2) (o := oqU11) rfl (by kernel_rfl) 16 #[.int .i64 1, .int .i64 2, .agg (Ky.cells ⟨2, 0, 0, 0⟩), .agg (Hd.cells hdZ)] (by kernel_rfl) _ (ask_any 1 2 ⟨2, 0, 0, 0⟩ hdZ [] _ (RdP.nil _) (fun k e => absurd e At.none) (by simp) ⟨⟨by decide, by decide⟩, fun x hx => by cases hx⟩ ⟨by decide, by decide⟩) ?_
     rintro e wk40 ⟨rfl, hk⟩
     have hH2 : Box wk40 gk7 49 (Hd.cells hdZ) ∧ Box wk40 gk14 49 (Hd.cells ⟨⟨⟨4, 1⟩, ⟨(some ⟨gk10, 0, none⟩), 1, 1⟩⟩, bvZ, ⟨(some ⟨gk12, 0, none⟩), 1, 1⟩⟩) := ⟨hH.1.kept hk (fun e => e), hH.2.kept hk (fun e => e)⟩
     have HO : Hid (OwB (wk40) w.heap.size s2 [9]) := HO.out.no hk
     have HF : Hid (Fr No w (wk40) [(gk1, 39, Ky.cells ⟨1, 1, 2, 3⟩), (gk4, 43, Cm.cells ⟨4, 1, 2, ⟨#[]⟩, 0, 0, 0, 0, 0⟩), (gk7, 49, Hd.cells hdZ), (gk10, 5, #[.int .u8 9]), (gk12, 70, Pl.cells ⟨1, ⟨spZ, spZ, ⟨4, 1, 2, ⟨#[]⟩, 0, 0, 0, 0, 0⟩, true⟩⟩), (gk14, 49, Hd.cells ⟨⟨⟨4, 1⟩, ⟨(some ⟨gk10, 0, none⟩), 1, 1⟩⟩, bvZ, ⟨(some ⟨gk12, 0, none⟩), 1, 1⟩⟩), (gl, 67, Ch.cells ⟨⟨1, 1, 2, 3⟩, ⟨⟨4, 1⟩, s2⟩, inZ, bvZ⟩)]) := HF.out.no hk
     clear hk
     refine ⟨.agg (Mg.cells ⟨21, ⟨false, 1⟩, ⟨false, 2⟩, 0, 0, ⟨2, 0, 0, 0⟩, ⟨1, 0⟩, spZ, slZ, cZ, bvZ, slZ, false⟩), by kernel_rfl, hH2, fun hH => ?_⟩
     clear hH2
     try simp only [pS]
     refine any_pick (rs := [4, 11]) (by kernel_rfl) (by simp) ?_
     intro i hi
     rcases pick2 hi with rfl | rfl
     ·skip
      clear hi
      refine step_call (i := 4) (o := oqU12) rfl (by kernel_rfl) 7 #[.agg (Mg.cells ⟨21, ⟨false, 1⟩, ⟨false, 2⟩, 0, 0, ⟨2, 0, 0, 0⟩, ⟨1, 0⟩, spZ, slZ, cZ, bvZ, slZ, false⟩), .agg (Hd.cells ⟨⟨⟨4, 1⟩, ⟨(some ⟨gk10, 0, none⟩), 1, 1⟩⟩, bvZ, ⟨(some ⟨gk12, 0, none⟩), 1, 1⟩⟩)] (by kernel_rfl) _ (have_cmds_yes ⟨21, ⟨false, 1⟩, ⟨false, 2⟩, 0, 0, ⟨2, 0, 0, 0⟩, ⟨1, 0⟩, spZ, slZ, cZ, bvZ, slZ, false⟩ ⟨⟨⟨4, 1⟩, ⟨(some ⟨gk10, 0, none⟩), 1, 1⟩⟩, bvZ, ⟨(some ⟨gk12, 0, none⟩), 1, 1⟩⟩ [⟨1, ⟨spZ, spZ, kwX, true⟩⟩] 1 _ (by kernel_rfl) (by kernel_rfl) (by kernel_rfl) (by kernel_rfl) (by kernel_rfl) (RdP.one (HF.out.box 4 _ _ _ rfl)) (fun k e => by obtain ⟨ad, e1, rfl⟩ := e; cases e1; exact (HF.out.box 4 _ _ _ rfl).lt) (by simp) ⟨⟨by show (-4611686018427387904 : Int) ≤ 0; decide, by show (0 : Int) ≤ 4611686018427387904; decide⟩, kw_rng⟩ kw_rng0 (by kernel_rfl) (by decide)) ?_
      rintro e wk41 ⟨gc, rfl, hbc, hgc, hk⟩
      have hH2 : Box wk41 gk7 49 (Hd.cells hdZ) ∧ Box wk41 gk14 49 (Hd.cells ⟨⟨⟨4, 1⟩, ⟨(some ⟨gk10, 0, none⟩), 1, 1⟩⟩, bvZ, ⟨(some ⟨gk12, 0, none⟩), 1, 1⟩⟩) := ⟨hH.1.kept hk (fun e => e), hH.2.kept hk (fun e => e)⟩
      have HO : Hid (OwB (wk41) w.heap.size s2 [9]) := HO.out.no hk
      have HF : Hid (Fr No w (wk41) [(gk1, 39, Ky.cells ⟨1, 1, 2, 3⟩), (gk4, 43, Cm.cells ⟨4, 1, 2, ⟨#[]⟩, 0, 0, 0, 0, 0⟩), (gk7, 49, Hd.cells hdZ), (gk10, 5, #[.int .u8 9]), (gk12, 70, Pl.cells ⟨1, ⟨spZ, spZ, ⟨4, 1, 2, ⟨#[]⟩, 0, 0, 0, 0, 0⟩, true⟩⟩), (gk14, 49, Hd.cells ⟨⟨⟨4, 1⟩, ⟨(some ⟨gk10, 0, none⟩), 1, 1⟩⟩, bvZ, ⟨(some ⟨gk12, 0, none⟩), 1, 1⟩⟩), (gl, 67, Ch.cells ⟨⟨1, 1, 2, 3⟩, ⟨⟨4, 1⟩, s2⟩, inZ, bvZ⟩)]) := HF.out.no hk
      have HS : Hid (Box wk41 gc 43 (cmL [kwX]).toArray) := hbc
      clear hbc hgc
      clear hk
      refine ⟨.agg (Mg.cells ⟨22, ⟨false, 2⟩, ⟨false, 1⟩, 0, 0, ⟨2, 0, 0, 0⟩, ⟨1, 0⟩, spZ, slZ, cZ, bvZ, ⟨(some ⟨gc, 0, none⟩), 1, 1⟩, false⟩), by kernel_rfl, hH2, fun hH => ?_⟩
      clear hH2
      try simp only [pS]
      refine any_pick (rs := [6, 11]) (by kernel_rfl) (by simp) ?_
      intro i hi
      rcases pick2 hi with rfl | rfl
      ·skip
       clear hi
       refine step_call (i := 6) (o := oqU13) rfl (by kernel_rfl) 12 #[.agg (Mg.cells ⟨22, ⟨false, 2⟩, ⟨false, 1⟩, 0, 0, ⟨2, 0, 0, 0⟩, ⟨1, 0⟩, spZ, slZ, cZ, bvZ, ⟨(some ⟨gc, 0, none⟩), 1, 1⟩, false⟩), .agg (Hd.cells hdZ)] (by kernel_rfl) _ (take_cmds ⟨22, ⟨false, 2⟩, ⟨false, 1⟩, 0, 0, ⟨2, 0, 0, 0⟩, ⟨1, 0⟩, spZ, slZ, cZ, bvZ, ⟨(some ⟨gc, 0, none⟩), 1, 1⟩, false⟩ hdZ [] [kwX] _ (by kernel_rfl) (by kernel_rfl) (by kernel_rfl) (by kernel_rfl) (by kernel_rfl) (RdC.ofBox HS.out rfl) (RdP.nil _) (fun k e => absurd e At.none) (by simp) (fun x hx => by cases hx) (by show 1 ≤ _; omega)) ?_
       rintro e wk42 ⟨sq, rfl, ho, hk⟩
       have hH2 : Box wk42 gk7 49 (Hd.cells hdZ) ∧ Box wk42 gk14 49 (Hd.cells ⟨⟨⟨4, 1⟩, ⟨(some ⟨gk10, 0, none⟩), 1, 1⟩⟩, bvZ, ⟨(some ⟨gk12, 0, none⟩), 1, 1⟩⟩) := ⟨hH.1.kept hk (fun e => e), hH.2.kept hk (fun e => e)⟩
       have ho2 : OwH wk42 wk41.heap.size sq (newF 0 1 0 [kwX] (decF 1 1 (decd [])) 1) := ho
       rw [kw_new] at ho2
       obtain ⟨gm, km, sp, rfl, hgm, hbm⟩ := OwH.one ho2
       clear ho2
       have HO : Hid (OwB wk42 w.heap.size s2 [9]) := HO.out.no hk
       clear HS
       have HF : Hid (Fr No w (wk42) [(gk1, 39, Ky.cells ⟨1, 1, 2, 3⟩), (gk4, 43, Cm.cells ⟨4, 1, 2, ⟨#[]⟩, 0, 0, 0, 0, 0⟩), (gk7, 49, Hd.cells hdZ), (gk10, 5, #[.int .u8 9]), (gk12, 70, Pl.cells ⟨1, ⟨spZ, spZ, ⟨4, 1, 2, ⟨#[]⟩, 0, 0, 0, 0, 0⟩, true⟩⟩), (gk14, 49, Hd.cells ⟨⟨⟨4, 1⟩, ⟨(some ⟨gk10, 0, none⟩), 1, 1⟩⟩, bvZ, ⟨(some ⟨gk12, 0, none⟩), 1, 1⟩⟩), (gl, 67, Ch.cells ⟨⟨1, 1, 2, 3⟩, ⟨⟨4, 1⟩, s2⟩, inZ, bvZ⟩), (gm, 67, (Ch.cs ⟨⟨3, 0, 1, 0⟩, blZ, ⟨spZ, spZ, ⟨4, 1, 2, ⟨#[]⟩, 0, 0, 0, 0, 0⟩, true⟩, bvZ⟩ ++ sp).toArray)]) := HF.out.add hk hgm hbm
       clear hbm hgm hk ho
       refine ⟨.tuple #[.slice (some ⟨gm, 0, none⟩) 1 km, .agg (Mg.cells mgZ), .bool false], by kernel_rfl, hH2, fun hH => ?_⟩
       clear hH2
       try simp only [pS]
       refine aT (i := 7) (oi := oqU14) (v := .tuple #[.slice (some ⟨gm, 0, none⟩) 1 km, .agg (Mg.cells mgZ), .bool false]) (fun _ _ => by kernel_rfl) hH ?_
       try simp only [pS]
       refine aT (i := 8) (oi := oqU15) (v := .slice (some ⟨gm, 0, none⟩) 1 km) (fun _ _ => by kernel_rfl) hH ?_
       try simp only [pS]
       refine aT (i := 9) (oi := oqU16) (v := .agg (Mg.cells mgZ)) (fun _ _ => by kernel_rfl) hH ?_
       try simp only [pS]
       refine aT (i := 10) (oi := oqU17) (v := .bool false) (fun _ _ => by kernel_rfl) hH ?_
       try simp only [pS]
       refine any_step (i := 11) (o := oqU18) rfl (by kernel_rfl) (by kernel_rfl) (exec_alloc 46 rfl (Mg.cells mgZ) zero50) (⟨hH.1.alloc _, hH.2.alloc _⟩) (fun hH => ?_)
       try simp only [pS]
       have HO : Hid (OwB (wk42.alloc (.cells (Mg.cells mgZ) 46)) w.heap.size s2 [9]) := HO.out.no ((Kept.refl No _).alloc _)
       have HF : Hid (Fr No w _ [(gk1, 39, Ky.cells ⟨1, 1, 2, 3⟩), (gk4, 43, Cm.cells ⟨4, 1, 2, ⟨#[]⟩, 0, 0, 0, 0, 0⟩), (gk7, 49, Hd.cells hdZ), (gk10, 5, #[.int .u8 9]), (gk12, 70, Pl.cells ⟨1, ⟨spZ, spZ, ⟨4, 1, 2, ⟨#[]⟩, 0, 0, 0, 0, 0⟩, true⟩⟩), (gk14, 49, Hd.cells ⟨⟨⟨4, 1⟩, ⟨(some ⟨gk10, 0, none⟩), 1, 1⟩⟩, bvZ, ⟨(some ⟨gk12, 0, none⟩), 1, 1⟩⟩), (gl, 67, Ch.cells ⟨⟨1, 1, 2, 3⟩, ⟨⟨4, 1⟩, s2⟩, inZ, bvZ⟩), (gm, 67, (Ch.cs ⟨⟨3, 0, 1, 0⟩, blZ, ⟨spZ, spZ, ⟨4, 1, 2, ⟨#[]⟩, 0, 0, 0, 0, 0⟩, true⟩, bvZ⟩ ++ sp).toArray), (wk42.heap.size, 46, Mg.cells mgZ)]) := HF.out.alloc _ _
       generalize wk42.alloc (.cells (Mg.cells mgZ) 46) = wk44 at HF HO hH ⊢
       generalize wk42.heap.size = gk43 at HF ⊢
       refine aT (i := 12) (oi := oqU19) (v := .slice (some ⟨gm, 0, none⟩) 1 km) (fun _ _ => by kernel_rfl) hH ?_
       try simp only [pS]
       refine any_store (i := 13) (o := oqU20) (w' := wk44.setRow gk43 (Mg.cells mgZ)) rfl (by kernel_rfl) (by kernel_rfl) 46 _ _ rfl ⟨gk43, 0, none⟩ (.agg (Mg.cells mgZ)) (by kernel_rfl) (by kernel_rfl) (run_store_to (cur := Mg.cs mgZ) (vs := Mg.cs mgZ) (new := Mg.cs mgZ) (HF.out.box 8 _ _ _ rfl) (by kernel_rfl) Try.size50 (Nat.le_of_ble_eq_true (by kernel_rfl)) (Mg.oneL _) (by kernel_rfl)) (⟨hH.1.rowNe (HF.out.ne 2 8 rfl rfl (by simp)) _, hH.2.rowNe (HF.out.ne 5 8 rfl rfl (by simp)) _⟩) (fun hH => ?_)
       try simp only [pS]
       have HO : Hid (OwB (wk44.setRow gk43 (Mg.cells mgZ)) w.heap.size s2 [9]) := HO.out.kept (Kept.setRow _ _ _) (fun k h e => (HO.out.own.notBox (HF.out.box 8 _ _ _ rfl) (by decide)) ((show k = gk43 from e) ▸ h))
       have HF : Hid (Fr No w _ [(gk1, 39, Ky.cells ⟨1, 1, 2, 3⟩), (gk4, 43, Cm.cells ⟨4, 1, 2, ⟨#[]⟩, 0, 0, 0, 0, 0⟩), (gk7, 49, Hd.cells hdZ), (gk10, 5, #[.int .u8 9]), (gk12, 70, Pl.cells ⟨1, ⟨spZ, spZ, ⟨4, 1, 2, ⟨#[]⟩, 0, 0, 0, 0, 0⟩, true⟩⟩), (gk14, 49, Hd.cells ⟨⟨⟨4, 1⟩, ⟨(some ⟨gk10, 0, none⟩), 1, 1⟩⟩, bvZ, ⟨(some ⟨gk12, 0, none⟩), 1, 1⟩⟩), (gl, 67, Ch.cells ⟨⟨1, 1, 2, 3⟩, ⟨⟨4, 1⟩, s2⟩, inZ, bvZ⟩), (gm, 67, (Ch.cs ⟨⟨3, 0, 1, 0⟩, blZ, ⟨spZ, spZ, ⟨4, 1, 2, ⟨#[]⟩, 0, 0, 0, 0, 0⟩, true⟩, bvZ⟩ ++ sp).toArray), (gk43, 46, Mg.cells mgZ)]) := HF.out.set 8 rfl _
       generalize wk44.setRow gk43 (Mg.cells mgZ) = wk45 at HF HO hH ⊢
       refine aT (i := 14) (oi := oqU21) (v := .bool false) (fun _ _ => by kernel_rfl) hH ?_
       try simp only [pS]
       refine wpAnyH_done (by kernel_rfl) ?_ _
       try simp only [pS]
       clear hH
       have HF : Hid (Fr No w wk45 ([(gk1, 39, Ky.cells ⟨1, 1, 2, 3⟩), (gk4, 43, Cm.cells ⟨4, 1, 2, ⟨#[]⟩, 0, 0, 0, 0, 0⟩), (gk7, 49, Hd.cells hdZ), (gk10, 5, #[.int .u8 9]), (gk12, 70, Pl.cells ⟨1, ⟨spZ, spZ, ⟨4, 1, 2, ⟨#[]⟩, 0, 0, 0, 0, 0⟩, true⟩⟩), (gk14, 49, Hd.cells ⟨⟨⟨4, 1⟩, ⟨(some ⟨gk10, 0, none⟩), 1, 1⟩⟩, bvZ, ⟨(some ⟨gk12, 0, none⟩), 1, 1⟩⟩), (gl, 67, Ch.cells ⟨⟨1, 1, 2, 3⟩, ⟨⟨4, 1⟩, s2⟩, inZ, bvZ⟩)] ++ [(gm, 67, (Ch.cs ⟨⟨3, 0, 1, 0⟩, blZ, ⟨spZ, spZ, ⟨4, 1, 2, ⟨#[]⟩, 0, 0, 0, 0, 0⟩, true⟩, bvZ⟩ ++ sp).toArray)])) := Fr.front (m := [(gk43, 46, Mg.cells mgZ)]) (show Fr No w _ (([(gk1, 39, Ky.cells ⟨1, 1, 2, 3⟩), (gk4, 43, Cm.cells ⟨4, 1, 2, ⟨#[]⟩, 0, 0, 0, 0, 0⟩), (gk7, 49, Hd.cells hdZ), (gk10, 5, #[.int .u8 9]), (gk12, 70, Pl.cells ⟨1, ⟨spZ, spZ, ⟨4, 1, 2, ⟨#[]⟩, 0, 0, 0, 0, 0⟩, true⟩⟩), (gk14, 49, Hd.cells ⟨⟨⟨4, 1⟩, ⟨(some ⟨gk10, 0, none⟩), 1, 1⟩⟩, bvZ, ⟨(some ⟨gk12, 0, none⟩), 1, 1⟩⟩), (gl, 67, Ch.cells ⟨⟨1, 1, 2, 3⟩, ⟨⟨4, 1⟩, s2⟩, inZ, bvZ⟩)] ++ [(gm, 67, (Ch.cs ⟨⟨3, 0, 1, 0⟩, blZ, ⟨spZ, spZ, ⟨4, 1, 2, ⟨#[]⟩, 0, 0, 0, 0, 0⟩, true⟩, bvZ⟩ ++ sp).toArray)]) ++ _) from HF.out)
       refine hK0 _ _ (Met.intro (hJ0 _ _ ?_))
       (repeat apply Exists.intro)
       refine ⟨?_, rfl⟩
       exact ⟨gm, gk43, km, sp, rfl, rfl, rfl, HF, HO⟩
      ·skip
       clear hi
       refine step_run (i := 11) (o := oqU18) rfl (by kernel_rfl) (exec_alloc 46 rfl (Mg.cells mgZ) zero50) (⟨hH.1.alloc _, hH.2.alloc _⟩) (fun hH => ?_)
       try simp only [pS]
       have HO : Hid (OwB (wk41.alloc (.cells (Mg.cells mgZ) 46)) w.heap.size s2 [9]) := HO.out.no ((Kept.refl No _).alloc _)
       have HS : Hid (Box (wk41.alloc (.cells (Mg.cells mgZ) 46)) gc 43 (cmL [kwX]).toArray) := HS.out.no ((Kept.refl No _).alloc _)
       have HF : Hid (Fr No w _ [(gk1, 39, Ky.cells ⟨1, 1, 2, 3⟩), (gk4, 43, Cm.cells ⟨4, 1, 2, ⟨#[]⟩, 0, 0, 0, 0, 0⟩), (gk7, 49, Hd.cells hdZ), (gk10, 5, #[.int .u8 9]), (gk12, 70, Pl.cells ⟨1, ⟨spZ, spZ, ⟨4, 1, 2, ⟨#[]⟩, 0, 0, 0, 0, 0⟩, true⟩⟩), (gk14, 49, Hd.cells ⟨⟨⟨4, 1⟩, ⟨(some ⟨gk10, 0, none⟩), 1, 1⟩⟩, bvZ, ⟨(some ⟨gk12, 0, none⟩), 1, 1⟩⟩), (gl, 67, Ch.cells ⟨⟨1, 1, 2, 3⟩, ⟨⟨4, 1⟩, s2⟩, inZ, bvZ⟩), (wk41.heap.size, 46, Mg.cells mgZ)]) := HF.out.alloc _ _
       generalize wk41.alloc (.cells (Mg.cells mgZ) 46) = wk47 at HF HO HS hH ⊢
       generalize wk41.heap.size = gk46 at HF ⊢
       refine any_call (i := 6) (o := oqU13) rfl (by kernel_rfl) (by kernel_rfl) 12 #[.agg (Mg.cells ⟨22, ⟨false, 2⟩, ⟨false, 1⟩, 0, 0, ⟨2, 0, 0, 0⟩, ⟨1, 0⟩, spZ, slZ, cZ, bvZ, ⟨(some ⟨gc, 0, none⟩), 1, 1⟩, false⟩), .agg (Hd.cells hdZ)] (by kernel_rfl) _ (take_cmds ⟨22, ⟨false, 2⟩, ⟨false, 1⟩, 0, 0, ⟨2, 0, 0, 0⟩, ⟨1, 0⟩, spZ, slZ, cZ, bvZ, ⟨(some ⟨gc, 0, none⟩), 1, 1⟩, false⟩ hdZ [] [kwX] _ (by kernel_rfl) (by kernel_rfl) (by kernel_rfl) (by kernel_rfl) (by kernel_rfl) (RdC.ofBox HS.out rfl) (RdP.nil _) (fun k e => absurd e At.none) (by simp) (fun x hx => by cases hx) (by show 1 ≤ _; omega)) ?_
       rintro e wk48 ⟨sq, rfl, ho, hk⟩
       have hH2 : Box wk48 gk7 49 (Hd.cells hdZ) ∧ Box wk48 gk14 49 (Hd.cells ⟨⟨⟨4, 1⟩, ⟨(some ⟨gk10, 0, none⟩), 1, 1⟩⟩, bvZ, ⟨(some ⟨gk12, 0, none⟩), 1, 1⟩⟩) := ⟨hH.1.kept hk (fun e => e), hH.2.kept hk (fun e => e)⟩
       have ho2 : OwH wk48 wk47.heap.size sq (newF 0 1 0 [kwX] (decF 1 1 (decd [])) 1) := ho
       rw [kw_new] at ho2
       obtain ⟨gm, km, sp, rfl, hgm, hbm⟩ := OwH.one ho2
       clear ho2
       have HO : Hid (OwB wk48 w.heap.size s2 [9]) := HO.out.no hk
       clear HS
       have HF : Hid (Fr No w (wk48) [(gk1, 39, Ky.cells ⟨1, 1, 2, 3⟩), (gk4, 43, Cm.cells ⟨4, 1, 2, ⟨#[]⟩, 0, 0, 0, 0, 0⟩), (gk7, 49, Hd.cells hdZ), (gk10, 5, #[.int .u8 9]), (gk12, 70, Pl.cells ⟨1, ⟨spZ, spZ, ⟨4, 1, 2, ⟨#[]⟩, 0, 0, 0, 0, 0⟩, true⟩⟩), (gk14, 49, Hd.cells ⟨⟨⟨4, 1⟩, ⟨(some ⟨gk10, 0, none⟩), 1, 1⟩⟩, bvZ, ⟨(some ⟨gk12, 0, none⟩), 1, 1⟩⟩), (gl, 67, Ch.cells ⟨⟨1, 1, 2, 3⟩, ⟨⟨4, 1⟩, s2⟩, inZ, bvZ⟩), (gk46, 46, Mg.cells mgZ), (gm, 67, (Ch.cs ⟨⟨3, 0, 1, 0⟩, blZ, ⟨spZ, spZ, ⟨4, 1, 2, ⟨#[]⟩, 0, 0, 0, 0, 0⟩, true⟩, bvZ⟩ ++ sp).toArray)]) := HF.out.add hk hgm hbm
       clear hbm hgm hk ho
       refine ⟨.tuple #[.slice (some ⟨gm, 0, none⟩) 1 km, .agg (Mg.cells mgZ), .bool false], by kernel_rfl, hH2, fun hH => ?_⟩
       clear hH2
       try simp only [pS]
       refine aT (i := 7) (oi := oqU14) (v := .tuple #[.slice (some ⟨gm, 0, none⟩) 1 km, .agg (Mg.cells mgZ), .bool false]) (fun _ _ => by kernel_rfl) hH ?_
       try simp only [pS]
       refine aT (i := 8) (oi := oqU15) (v := .slice (some ⟨gm, 0, none⟩) 1 km) (fun _ _ => by kernel_rfl) hH ?_
       try simp only [pS]
       refine aT (i := 9) (oi := oqU16) (v := .agg (Mg.cells mgZ)) (fun _ _ => by kernel_rfl) hH ?_
       try simp only [pS]
       refine aT (i := 10) (oi := oqU17) (v := .bool false) (fun _ _ => by kernel_rfl) hH ?_
       try simp only [pS]
       refine aT (i := 12) (oi := oqU19) (v := .slice (some ⟨gm, 0, none⟩) 1 km) (fun _ _ => by kernel_rfl) hH ?_
       try simp only [pS]
       refine any_store (i := 13) (o := oqU20) (w' := wk48.setRow gk46 (Mg.cells mgZ)) rfl (by kernel_rfl) (by kernel_rfl) 46 _ _ rfl ⟨gk46, 0, none⟩ (.agg (Mg.cells mgZ)) (by kernel_rfl) (by kernel_rfl) (run_store_to (cur := Mg.cs mgZ) (vs := Mg.cs mgZ) (new := Mg.cs mgZ) (HF.out.box 7 _ _ _ rfl) (by kernel_rfl) Try.size50 (Nat.le_of_ble_eq_true (by kernel_rfl)) (Mg.oneL _) (by kernel_rfl)) (⟨hH.1.rowNe (HF.out.ne 2 7 rfl rfl (by simp)) _, hH.2.rowNe (HF.out.ne 5 7 rfl rfl (by simp)) _⟩) (fun hH => ?_)
       try simp only [pS]
       have HO : Hid (OwB (wk48.setRow gk46 (Mg.cells mgZ)) w.heap.size s2 [9]) := HO.out.kept (Kept.setRow _ _ _) (fun k h e => (HO.out.own.notBox (HF.out.box 7 _ _ _ rfl) (by decide)) ((show k = gk46 from e) ▸ h))
       have HF : Hid (Fr No w _ [(gk1, 39, Ky.cells ⟨1, 1, 2, 3⟩), (gk4, 43, Cm.cells ⟨4, 1, 2, ⟨#[]⟩, 0, 0, 0, 0, 0⟩), (gk7, 49, Hd.cells hdZ), (gk10, 5, #[.int .u8 9]), (gk12, 70, Pl.cells ⟨1, ⟨spZ, spZ, ⟨4, 1, 2, ⟨#[]⟩, 0, 0, 0, 0, 0⟩, true⟩⟩), (gk14, 49, Hd.cells ⟨⟨⟨4, 1⟩, ⟨(some ⟨gk10, 0, none⟩), 1, 1⟩⟩, bvZ, ⟨(some ⟨gk12, 0, none⟩), 1, 1⟩⟩), (gl, 67, Ch.cells ⟨⟨1, 1, 2, 3⟩, ⟨⟨4, 1⟩, s2⟩, inZ, bvZ⟩), (gk46, 46, Mg.cells mgZ), (gm, 67, (Ch.cs ⟨⟨3, 0, 1, 0⟩, blZ, ⟨spZ, spZ, ⟨4, 1, 2, ⟨#[]⟩, 0, 0, 0, 0, 0⟩, true⟩, bvZ⟩ ++ sp).toArray)]) := HF.out.set 7 rfl _
       generalize wk48.setRow gk46 (Mg.cells mgZ) = wk49 at HF HO hH ⊢
       refine aT (i := 14) (oi := oqU21) (v := .bool false) (fun _ _ => by kernel_rfl) hH ?_
       try simp only [pS]
       refine wpAnyH_done (by kernel_rfl) ?_ _
       try simp only [pS]
       clear hH
       have HF : Hid (Fr No w wk49 ([(gk1, 39, Ky.cells ⟨1, 1, 2, 3⟩), (gk4, 43, Cm.cells ⟨4, 1, 2, ⟨#[]⟩, 0, 0, 0, 0, 0⟩), (gk7, 49, Hd.cells hdZ), (gk10, 5, #[.int .u8 9]), (gk12, 70, Pl.cells ⟨1, ⟨spZ, spZ, ⟨4, 1, 2, ⟨#[]⟩, 0, 0, 0, 0, 0⟩, true⟩⟩), (gk14, 49, Hd.cells ⟨⟨⟨4, 1⟩, ⟨(some ⟨gk10, 0, none⟩), 1, 1⟩⟩, bvZ, ⟨(some ⟨gk12, 0, none⟩), 1, 1⟩⟩), (gl, 67, Ch.cells ⟨⟨1, 1, 2, 3⟩, ⟨⟨4, 1⟩, s2⟩, inZ, bvZ⟩)] ++ [(gm, 67, (Ch.cs ⟨⟨3, 0, 1, 0⟩, blZ, ⟨spZ, spZ, ⟨4, 1, 2, ⟨#[]⟩, 0, 0, 0, 0, 0⟩, true⟩, bvZ⟩ ++ sp).toArray), (gk46, 46, Mg.cells mgZ)])) := Fr.swap (l := [(gk1, 39, Ky.cells ⟨1, 1, 2, 3⟩), (gk4, 43, Cm.cells ⟨4, 1, 2, ⟨#[]⟩, 0, 0, 0, 0, 0⟩), (gk7, 49, Hd.cells hdZ), (gk10, 5, #[.int .u8 9]), (gk12, 70, Pl.cells ⟨1, ⟨spZ, spZ, ⟨4, 1, 2, ⟨#[]⟩, 0, 0, 0, 0, 0⟩, true⟩⟩), (gk14, 49, Hd.cells ⟨⟨⟨4, 1⟩, ⟨(some ⟨gk10, 0, none⟩), 1, 1⟩⟩, bvZ, ⟨(some ⟨gk12, 0, none⟩), 1, 1⟩⟩), (gl, 67, Ch.cells ⟨⟨1, 1, 2, 3⟩, ⟨⟨4, 1⟩, s2⟩, inZ, bvZ⟩)]) HF.out
       have HF : Hid (Fr No w wk49 ([(gk1, 39, Ky.cells ⟨1, 1, 2, 3⟩), (gk4, 43, Cm.cells ⟨4, 1, 2, ⟨#[]⟩, 0, 0, 0, 0, 0⟩), (gk7, 49, Hd.cells hdZ), (gk10, 5, #[.int .u8 9]), (gk12, 70, Pl.cells ⟨1, ⟨spZ, spZ, ⟨4, 1, 2, ⟨#[]⟩, 0, 0, 0, 0, 0⟩, true⟩⟩), (gk14, 49, Hd.cells ⟨⟨⟨4, 1⟩, ⟨(some ⟨gk10, 0, none⟩), 1, 1⟩⟩, bvZ, ⟨(some ⟨gk12, 0, none⟩), 1, 1⟩⟩), (gl, 67, Ch.cells ⟨⟨1, 1, 2, 3⟩, ⟨⟨4, 1⟩, s2⟩, inZ, bvZ⟩)] ++ [(gm, 67, (Ch.cs ⟨⟨3, 0, 1, 0⟩, blZ, ⟨spZ, spZ, ⟨4, 1, 2, ⟨#[]⟩, 0, 0, 0, 0, 0⟩, true⟩, bvZ⟩ ++ sp).toArray)])) := Fr.front (m := [(gk46, 46, Mg.cells mgZ)]) (show Fr No w _ (([(gk1, 39, Ky.cells ⟨1, 1, 2, 3⟩), (gk4, 43, Cm.cells ⟨4, 1, 2, ⟨#[]⟩, 0, 0, 0, 0, 0⟩), (gk7, 49, Hd.cells hdZ), (gk10, 5, #[.int .u8 9]), (gk12, 70, Pl.cells ⟨1, ⟨spZ, spZ, ⟨4, 1, 2, ⟨#[]⟩, 0, 0, 0, 0, 0⟩, true⟩⟩), (gk14, 49, Hd.cells ⟨⟨⟨4, 1⟩, ⟨(some ⟨gk10, 0, none⟩), 1, 1⟩⟩, bvZ, ⟨(some ⟨gk12, 0, none⟩), 1, 1⟩⟩), (gl, 67, Ch.cells ⟨⟨1, 1, 2, 3⟩, ⟨⟨4, 1⟩, s2⟩, inZ, bvZ⟩)] ++ [(gm, 67, (Ch.cs ⟨⟨3, 0, 1, 0⟩, blZ, ⟨spZ, spZ, ⟨4, 1, 2, ⟨#[]⟩, 0, 0, 0, 0, 0⟩, true⟩, bvZ⟩ ++ sp).toArray)]) ++ _) from HF.out)
       refine hK0 _ _ (Met.intro (hJ0 _ _ ?_))
       (repeat apply Exists.intro)
       refine ⟨?_, rfl⟩
       exact ⟨gm, gk46, km, sp, rfl, rfl, rfl, HF, HO⟩
     ·skip
      clear hi
      refine step_run (i := 11) (o := oqU18) rfl (by kernel_rfl) (exec_alloc 46 rfl (Mg.cells mgZ) zero50) (⟨hH.1.alloc _, hH.2.alloc _⟩) (fun hH => ?_)
      try simp only [pS]
      have HO : Hid (OwB (wk40.alloc (.cells (Mg.cells mgZ) 46)) w.heap.size s2 [9]) := HO.out.no ((Kept.refl No _).alloc _)
      have HF : Hid (Fr No w _ [(gk1, 39, Ky.cells ⟨1, 1, 2, 3⟩), (gk4, 43, Cm.cells ⟨4, 1, 2, ⟨#[]⟩, 0, 0, 0, 0, 0⟩), (gk7, 49, Hd.cells hdZ), (gk10, 5, #[.int .u8 9]), (gk12, 70, Pl.cells ⟨1, ⟨spZ, spZ, ⟨4, 1, 2, ⟨#[]⟩, 0, 0, 0, 0, 0⟩, true⟩⟩), (gk14, 49, Hd.cells ⟨⟨⟨4, 1⟩, ⟨(some ⟨gk10, 0, none⟩), 1, 1⟩⟩, bvZ, ⟨(some ⟨gk12, 0, none⟩), 1, 1⟩⟩), (gl, 67, Ch.cells ⟨⟨1, 1, 2, 3⟩, ⟨⟨4, 1⟩, s2⟩, inZ, bvZ⟩), (wk40.heap.size, 46, Mg.cells mgZ)]) := HF.out.alloc _ _
      generalize wk40.alloc (.cells (Mg.cells mgZ) 46) = wk51 at HF HO hH ⊢
      generalize wk40.heap.size = gk50 at HF ⊢
      refine any_call (i := 4) (o := oqU12) rfl (by kernel_rfl) (by kernel_rfl) 7 #[.agg (Mg.cells ⟨21, ⟨false, 1⟩, ⟨false, 2⟩, 0, 0, ⟨2, 0, 0, 0⟩, ⟨1, 0⟩, spZ, slZ, cZ, bvZ, slZ, false⟩), .agg (Hd.cells ⟨⟨⟨4, 1⟩, ⟨(some ⟨gk10, 0, none⟩), 1, 1⟩⟩, bvZ, ⟨(some ⟨gk12, 0, none⟩), 1, 1⟩⟩)] (by kernel_rfl) _ (have_cmds_yes ⟨21, ⟨false, 1⟩, ⟨false, 2⟩, 0, 0, ⟨2, 0, 0, 0⟩, ⟨1, 0⟩, spZ, slZ, cZ, bvZ, slZ, false⟩ ⟨⟨⟨4, 1⟩, ⟨(some ⟨gk10, 0, none⟩), 1, 1⟩⟩, bvZ, ⟨(some ⟨gk12, 0, none⟩), 1, 1⟩⟩ [⟨1, ⟨spZ, spZ, kwX, true⟩⟩] 1 _ (by kernel_rfl) (by kernel_rfl) (by kernel_rfl) (by kernel_rfl) (by kernel_rfl) (RdP.one (HF.out.box 4 _ _ _ rfl)) (fun k e => by obtain ⟨ad, e1, rfl⟩ := e; cases e1; exact (HF.out.box 4 _ _ _ rfl).lt) (by simp) ⟨⟨by show (-4611686018427387904 : Int) ≤ 0; decide, by show (0 : Int) ≤ 4611686018427387904; decide⟩, kw_rng⟩ kw_rng0 (by kernel_rfl) (by decide)) ?_
      rintro e wk52 ⟨gc, rfl, hbc, hgc, hk⟩
      have hH2 : Box wk52 gk7 49 (Hd.cells hdZ) ∧ Box wk52 gk14 49 (Hd.cells ⟨⟨⟨4, 1⟩, ⟨(some ⟨gk10, 0, none⟩), 1, 1⟩⟩, bvZ, ⟨(some ⟨gk12, 0, none⟩), 1, 1⟩⟩) := ⟨hH.1.kept hk (fun e => e), hH.2.kept hk (fun e => e)⟩
      have HO : Hid (OwB (wk52) w.heap.size s2 [9]) := HO.out.no hk
      have HF : Hid (Fr No w (wk52) [(gk1, 39, Ky.cells ⟨1, 1, 2, 3⟩), (gk4, 43, Cm.cells ⟨4, 1, 2, ⟨#[]⟩, 0, 0, 0, 0, 0⟩), (gk7, 49, Hd.cells hdZ), (gk10, 5, #[.int .u8 9]), (gk12, 70, Pl.cells ⟨1, ⟨spZ, spZ, ⟨4, 1, 2, ⟨#[]⟩, 0, 0, 0, 0, 0⟩, true⟩⟩), (gk14, 49, Hd.cells ⟨⟨⟨4, 1⟩, ⟨(some ⟨gk10, 0, none⟩), 1, 1⟩⟩, bvZ, ⟨(some ⟨gk12, 0, none⟩), 1, 1⟩⟩), (gl, 67, Ch.cells ⟨⟨1, 1, 2, 3⟩, ⟨⟨4, 1⟩, s2⟩, inZ, bvZ⟩), (gk50, 46, Mg.cells mgZ)]) := HF.out.no hk
      have HS : Hid (Box wk52 gc 43 (cmL [kwX]).toArray) := hbc
      clear hbc hgc
      clear hk
      refine ⟨.agg (Mg.cells ⟨22, ⟨false, 2⟩, ⟨false, 1⟩, 0, 0, ⟨2, 0, 0, 0⟩, ⟨1, 0⟩, spZ, slZ, cZ, bvZ, ⟨(some ⟨gc, 0, none⟩), 1, 1⟩, false⟩), by kernel_rfl, hH2, fun hH => ?_⟩
      clear hH2
      try simp only [pS]
      refine any_call (i := 6) (o := oqU13) rfl (by kernel_rfl) (by kernel_rfl) 12 #[.agg (Mg.cells ⟨22, ⟨false, 2⟩, ⟨false, 1⟩, 0, 0, ⟨2, 0, 0, 0⟩, ⟨1, 0⟩, spZ, slZ, cZ, bvZ, ⟨(some ⟨gc, 0, none⟩), 1, 1⟩, false⟩), .agg (Hd.cells hdZ)] (by kernel_rfl) _ (take_cmds ⟨22, ⟨false, 2⟩, ⟨false, 1⟩, 0, 0, ⟨2, 0, 0, 0⟩, ⟨1, 0⟩, spZ, slZ, cZ, bvZ, ⟨(some ⟨gc, 0, none⟩), 1, 1⟩, false⟩ hdZ [] [kwX] _ (by kernel_rfl) (by kernel_rfl) (by kernel_rfl) (by kernel_rfl) (by kernel_rfl) (RdC.ofBox HS.out rfl) (RdP.nil _) (fun k e => absurd e At.none) (by simp) (fun x hx => by cases hx) (by show 1 ≤ _; omega)) ?_
      rintro e wk53 ⟨sq, rfl, ho, hk⟩
      have hH2 : Box wk53 gk7 49 (Hd.cells hdZ) ∧ Box wk53 gk14 49 (Hd.cells ⟨⟨⟨4, 1⟩, ⟨(some ⟨gk10, 0, none⟩), 1, 1⟩⟩, bvZ, ⟨(some ⟨gk12, 0, none⟩), 1, 1⟩⟩) := ⟨hH.1.kept hk (fun e => e), hH.2.kept hk (fun e => e)⟩
      have ho2 : OwH wk53 wk52.heap.size sq (newF 0 1 0 [kwX] (decF 1 1 (decd [])) 1) := ho
      rw [kw_new] at ho2
      obtain ⟨gm, km, sp, rfl, hgm, hbm⟩ := OwH.one ho2
      clear ho2
      have HO : Hid (OwB wk53 w.heap.size s2 [9]) := HO.out.no hk
      clear HS
      have HF : Hid (Fr No w (wk53) [(gk1, 39, Ky.cells ⟨1, 1, 2, 3⟩), (gk4, 43, Cm.cells ⟨4, 1, 2, ⟨#[]⟩, 0, 0, 0, 0, 0⟩), (gk7, 49, Hd.cells hdZ), (gk10, 5, #[.int .u8 9]), (gk12, 70, Pl.cells ⟨1, ⟨spZ, spZ, ⟨4, 1, 2, ⟨#[]⟩, 0, 0, 0, 0, 0⟩, true⟩⟩), (gk14, 49, Hd.cells ⟨⟨⟨4, 1⟩, ⟨(some ⟨gk10, 0, none⟩), 1, 1⟩⟩, bvZ, ⟨(some ⟨gk12, 0, none⟩), 1, 1⟩⟩), (gl, 67, Ch.cells ⟨⟨1, 1, 2, 3⟩, ⟨⟨4, 1⟩, s2⟩, inZ, bvZ⟩), (gk50, 46, Mg.cells mgZ), (gm, 67, (Ch.cs ⟨⟨3, 0, 1, 0⟩, blZ, ⟨spZ, spZ, ⟨4, 1, 2, ⟨#[]⟩, 0, 0, 0, 0, 0⟩, true⟩, bvZ⟩ ++ sp).toArray)]) := HF.out.add hk hgm hbm
      clear hbm hgm hk ho
      refine ⟨.tuple #[.slice (some ⟨gm, 0, none⟩) 1 km, .agg (Mg.cells mgZ), .bool false], by kernel_rfl, hH2, fun hH => ?_⟩
      clear hH2
      try simp only [pS]
      refine aT (i := 7) (oi := oqU14) (v := .tuple #[.slice (some ⟨gm, 0, none⟩) 1 km, .agg (Mg.cells mgZ), .bool false]) (fun _ _ => by kernel_rfl) hH ?_
      try simp only [pS]
      refine aT (i := 8) (oi := oqU15) (v := .slice (some ⟨gm, 0, none⟩) 1 km) (fun _ _ => by kernel_rfl) hH ?_
      try simp only [pS]
      refine aT (i := 9) (oi := oqU16) (v := .agg (Mg.cells mgZ)) (fun _ _ => by kernel_rfl) hH ?_
      try simp only [pS]
      refine aT (i := 10) (oi := oqU17) (v := .bool false) (fun _ _ => by kernel_rfl) hH ?_
      try simp only [pS]
      refine aT (i := 12) (oi := oqU19) (v := .slice (some ⟨gm, 0, none⟩) 1 km) (fun _ _ => by kernel_rfl) hH ?_
      try simp only [pS]
      refine any_store (i := 13) (o := oqU20) (w' := wk53.setRow gk50 (Mg.cells mgZ)) rfl (by kernel_rfl) (by kernel_rfl) 46 _ _ rfl ⟨gk50, 0, none⟩ (.agg (Mg.cells mgZ)) (by kernel_rfl) (by kernel_rfl) (run_store_to (cur := Mg.cs mgZ) (vs := Mg.cs mgZ) (new := Mg.cs mgZ) (HF.out.box 7 _ _ _ rfl) (by kernel_rfl) Try.size50 (Nat.le_of_ble_eq_true (by kernel_rfl)) (Mg.oneL _) (by kernel_rfl)) (⟨hH.1.rowNe (HF.out.ne 2 7 rfl rfl (by simp)) _, hH.2.rowNe (HF.out.ne 5 7 rfl rfl (by simp)) _⟩) (fun hH => ?_)
      try simp only [pS]
      have HO : Hid (OwB (wk53.setRow gk50 (Mg.cells mgZ)) w.heap.size s2 [9]) := HO.out.kept (Kept.setRow _ _ _) (fun k h e => (HO.out.own.notBox (HF.out.box 7 _ _ _ rfl) (by decide)) ((show k = gk50 from e) ▸ h))
      have HF : Hid (Fr No w _ [(gk1, 39, Ky.cells ⟨1, 1, 2, 3⟩), (gk4, 43, Cm.cells ⟨4, 1, 2, ⟨#[]⟩, 0, 0, 0, 0, 0⟩), (gk7, 49, Hd.cells hdZ), (gk10, 5, #[.int .u8 9]), (gk12, 70, Pl.cells ⟨1, ⟨spZ, spZ, ⟨4, 1, 2, ⟨#[]⟩, 0, 0, 0, 0, 0⟩, true⟩⟩), (gk14, 49, Hd.cells ⟨⟨⟨4, 1⟩, ⟨(some ⟨gk10, 0, none⟩), 1, 1⟩⟩, bvZ, ⟨(some ⟨gk12, 0, none⟩), 1, 1⟩⟩), (gl, 67, Ch.cells ⟨⟨1, 1, 2, 3⟩, ⟨⟨4, 1⟩, s2⟩, inZ, bvZ⟩), (gk50, 46, Mg.cells mgZ), (gm, 67, (Ch.cs ⟨⟨3, 0, 1, 0⟩, blZ, ⟨spZ, spZ, ⟨4, 1, 2, ⟨#[]⟩, 0, 0, 0, 0, 0⟩, true⟩, bvZ⟩ ++ sp).toArray)]) := HF.out.set 7 rfl _
      generalize wk53.setRow gk50 (Mg.cells mgZ) = wk54 at HF HO hH ⊢
      refine aT (i := 14) (oi := oqU21) (v := .bool false) (fun _ _ => by kernel_rfl) hH ?_
      try simp only [pS]
      refine wpAnyH_done (by kernel_rfl) ?_ _
      try simp only [pS]
      clear hH
      have HF : Hid (Fr No w wk54 ([(gk1, 39, Ky.cells ⟨1, 1, 2, 3⟩), (gk4, 43, Cm.cells ⟨4, 1, 2, ⟨#[]⟩, 0, 0, 0, 0, 0⟩), (gk7, 49, Hd.cells hdZ), (gk10, 5, #[.int .u8 9]), (gk12, 70, Pl.cells ⟨1, ⟨spZ, spZ, ⟨4, 1, 2, ⟨#[]⟩, 0, 0, 0, 0, 0⟩, true⟩⟩), (gk14, 49, Hd.cells ⟨⟨⟨4, 1⟩, ⟨(some ⟨gk10, 0, none⟩), 1, 1⟩⟩, bvZ, ⟨(some ⟨gk12, 0, none⟩), 1, 1⟩⟩), (gl, 67, Ch.cells ⟨⟨1, 1, 2, 3⟩, ⟨⟨4, 1⟩, s2⟩, inZ, bvZ⟩)] ++ [(gm, 67, (Ch.cs ⟨⟨3, 0, 1, 0⟩, blZ, ⟨spZ, spZ, ⟨4, 1, 2, ⟨#[]⟩, 0, 0, 0, 0, 0⟩, true⟩, bvZ⟩ ++ sp).toArray), (gk50, 46, Mg.cells mgZ)])) := Fr.swap (l := [(gk1, 39, Ky.cells ⟨1, 1, 2, 3⟩), (gk4, 43, Cm.cells ⟨4, 1, 2, ⟨#[]⟩, 0, 0, 0, 0, 0⟩), (gk7, 49, Hd.cells hdZ), (gk10, 5, #[.int .u8 9]), (gk12, 70, Pl.cells ⟨1, ⟨spZ, spZ, ⟨4, 1, 2, ⟨#[]⟩, 0, 0, 0, 0, 0⟩, true⟩⟩), (gk14, 49, Hd.cells ⟨⟨⟨4, 1⟩, ⟨(some ⟨gk10, 0, none⟩), 1, 1⟩⟩, bvZ, ⟨(some ⟨gk12, 0, none⟩), 1, 1⟩⟩), (gl, 67, Ch.cells ⟨⟨1, 1, 2, 3⟩, ⟨⟨4, 1⟩, s2⟩, inZ, bvZ⟩)]) HF.out
      have HF : Hid (Fr No w wk54 ([(gk1, 39, Ky.cells ⟨1, 1, 2, 3⟩), (gk4, 43, Cm.cells ⟨4, 1, 2, ⟨#[]⟩, 0, 0, 0, 0, 0⟩), (gk7, 49, Hd.cells hdZ), (gk10, 5, #[.int .u8 9]), (gk12, 70, Pl.cells ⟨1, ⟨spZ, spZ, ⟨4, 1, 2, ⟨#[]⟩, 0, 0, 0, 0, 0⟩, true⟩⟩), (gk14, 49, Hd.cells ⟨⟨⟨4, 1⟩, ⟨(some ⟨gk10, 0, none⟩), 1, 1⟩⟩, bvZ, ⟨(some ⟨gk12, 0, none⟩), 1, 1⟩⟩), (gl, 67, Ch.cells ⟨⟨1, 1, 2, 3⟩, ⟨⟨4, 1⟩, s2⟩, inZ, bvZ⟩)] ++ [(gm, 67, (Ch.cs ⟨⟨3, 0, 1, 0⟩, blZ, ⟨spZ, spZ, ⟨4, 1, 2, ⟨#[]⟩, 0, 0, 0, 0, 0⟩, true⟩, bvZ⟩ ++ sp).toArray)])) := Fr.front (m := [(gk50, 46, Mg.cells mgZ)]) (show Fr No w _ (([(gk1, 39, Ky.cells ⟨1, 1, 2, 3⟩), (gk4, 43, Cm.cells ⟨4, 1, 2, ⟨#[]⟩, 0, 0, 0, 0, 0⟩), (gk7, 49, Hd.cells hdZ), (gk10, 5, #[.int .u8 9]), (gk12, 70, Pl.cells ⟨1, ⟨spZ, spZ, ⟨4, 1, 2, ⟨#[]⟩, 0, 0, 0, 0, 0⟩, true⟩⟩), (gk14, 49, Hd.cells ⟨⟨⟨4, 1⟩, ⟨(some ⟨gk10, 0, none⟩), 1, 1⟩⟩, bvZ, ⟨(some ⟨gk12, 0, none⟩), 1, 1⟩⟩), (gl, 67, Ch.cells ⟨⟨1, 1, 2, 3⟩, ⟨⟨4, 1⟩, s2⟩, inZ, bvZ⟩)] ++ [(gm, 67, (Ch.cs ⟨⟨3, 0, 1, 0⟩, blZ, ⟨spZ, spZ, ⟨4, 1, 2, ⟨#[]⟩, 0, 0, 0, 0, 0⟩, true⟩, bvZ⟩ ++ sp).toArray)]) ++ _) from HF.out)
      refine hK0 _ _ (Met.intro (hJ0 _ _ ?_))
      (repeat apply Exists.intro)
      refine ⟨?_, rfl⟩
      exact ⟨gm, gk50, km, sp, rfl, rfl, rfl, HF, HO⟩
    ·skip
     clear hi
     refine step_run (i := 11) (o := oqU18) rfl (by kernel_rfl) (exec_alloc 46 rfl (Mg.cells mgZ) zero50) (⟨hH.1.alloc _, hH.2.alloc _⟩) (fun hH => ?_)
     try simp only [pS]
     have HO : Hid (OwB (wk39.alloc (.cells (Mg.cells mgZ) 46)) w.heap.size s2 [9]) := HO.out.no ((Kept.refl No _).alloc _)
     have HF : Hid (Fr No w _ [(gk1, 39, Ky.cells ⟨1, 1, 2, 3⟩), (gk4, 43, Cm.cells ⟨4, 1, 2, ⟨#[]⟩, 0, 0, 0, 0, 0⟩), (gk7, 49, Hd.cells hdZ), (gk10, 5, #[.int .u8 9]), (gk12, 70, Pl.cells ⟨1, ⟨spZ, spZ, ⟨4, 1, 2, ⟨#[]⟩, 0, 0, 0, 0, 0⟩, true⟩⟩), (gk14, 49, Hd.cells ⟨⟨⟨4, 1⟩, ⟨(some ⟨gk10, 0, none⟩), 1, 1⟩⟩, bvZ, ⟨(some ⟨gk12, 0, none⟩), 1, 1⟩⟩), (gl, 67, Ch.cells ⟨⟨1, 1, 2, 3⟩, ⟨⟨4, 1⟩, s2⟩, inZ, bvZ⟩), (wk39.heap.size, 46, Mg.cells mgZ)]) := HF.out.alloc _ _
     generalize wk39.alloc (.cells (Mg.cells mgZ) 46) = wk56 at HF HO hH ⊢
     generalize wk39.heap.size = gk55 at HF ⊢
     refine any_call (i := 2) (o := oqU11) rfl (by kernel_rfl) (by kernel_rfl) 16 #[.int .i64 1, .int .i64 2, .agg (Ky.cells ⟨2, 0, 0, 0⟩), .agg (Hd.cells hdZ)] (by kernel_rfl) _ (ask_any 1 2 ⟨2, 0, 0, 0⟩ hdZ [] _ (RdP.nil _) (fun k e => absurd e At.none) (by simp) ⟨⟨by decide, by decide⟩, fun x hx => by cases hx⟩ ⟨by decide, by decide⟩) ?_
     rintro e wk57 ⟨rfl, hk⟩
     have hH2 : Box wk57 gk7 49 (Hd.cells hdZ) ∧ Box wk57 gk14 49 (Hd.cells ⟨⟨⟨4, 1⟩, ⟨(some ⟨gk10, 0, none⟩), 1, 1⟩⟩, bvZ, ⟨(some ⟨gk12, 0, none⟩), 1, 1⟩⟩) := ⟨hH.1.kept hk (fun e => e), hH.2.kept hk (fun e => e)⟩
     have HO : Hid (OwB (wk57) w.heap.size s2 [9]) := HO.out.no hk
     have HF : Hid (Fr No w (wk57) [(gk1, 39, Ky.cells ⟨1, 1, 2, 3⟩), (gk4, 43, Cm.cells ⟨4, 1, 2, ⟨#[]⟩, 0, 0, 0, 0, 0⟩), (gk7, 49, Hd.cells hdZ), (gk10, 5, #[.int .u8 9]), (gk12, 70, Pl.cells ⟨1, ⟨spZ, spZ, ⟨4, 1, 2, ⟨#[]⟩, 0, 0, 0, 0, 0⟩, true⟩⟩), (gk14, 49, Hd.cells ⟨⟨⟨4, 1⟩, ⟨(some ⟨gk10, 0, none⟩), 1, 1⟩⟩, bvZ, ⟨(some ⟨gk12, 0, none⟩), 1, 1⟩⟩), (gl, 67, Ch.cells ⟨⟨1, 1, 2, 3⟩, ⟨⟨4, 1⟩, s2⟩, inZ, bvZ⟩), (gk55, 46, Mg.cells mgZ)]) := HF.out.no hk
     clear hk
     refine ⟨.agg (Mg.cells ⟨21, ⟨false, 1⟩, ⟨false, 2⟩, 0, 0, ⟨2, 0, 0, 0⟩, ⟨1, 0⟩, spZ, slZ, cZ, bvZ, slZ, false⟩), by kernel_rfl, hH2, fun hH => ?_⟩
     clear hH2
     try simp only [pS]
     refine any_call (i := 4) (o := oqU12) rfl (by kernel_rfl) (by kernel_rfl) 7 #[.agg (Mg.cells ⟨21, ⟨false, 1⟩, ⟨false, 2⟩, 0, 0, ⟨2, 0, 0, 0⟩, ⟨1, 0⟩, spZ, slZ, cZ, bvZ, slZ, false⟩), .agg (Hd.cells ⟨⟨⟨4, 1⟩, ⟨(some ⟨gk10, 0, none⟩), 1, 1⟩⟩, bvZ, ⟨(some ⟨gk12, 0, none⟩), 1, 1⟩⟩)] (by kernel_rfl) _ (have_cmds_yes ⟨21, ⟨false, 1⟩, ⟨false, 2⟩, 0, 0, ⟨2, 0, 0, 0⟩, ⟨1, 0⟩, spZ, slZ, cZ, bvZ, slZ, false⟩ ⟨⟨⟨4, 1⟩, ⟨(some ⟨gk10, 0, none⟩), 1, 1⟩⟩, bvZ, ⟨(some ⟨gk12, 0, none⟩), 1, 1⟩⟩ [⟨1, ⟨spZ, spZ, kwX, true⟩⟩] 1 _ (by kernel_rfl) (by kernel_rfl) (by kernel_rfl) (by kernel_rfl) (by kernel_rfl) (RdP.one (HF.out.box 4 _ _ _ rfl)) (fun k e => by obtain ⟨ad, e1, rfl⟩ := e; cases e1; exact (HF.out.box 4 _ _ _ rfl).lt) (by simp) ⟨⟨by show (-4611686018427387904 : Int) ≤ 0; decide, by show (0 : Int) ≤ 4611686018427387904; decide⟩, kw_rng⟩ kw_rng0 (by kernel_rfl) (by decide)) ?_
     rintro e wk58 ⟨gc, rfl, hbc, hgc, hk⟩
     have hH2 : Box wk58 gk7 49 (Hd.cells hdZ) ∧ Box wk58 gk14 49 (Hd.cells ⟨⟨⟨4, 1⟩, ⟨(some ⟨gk10, 0, none⟩), 1, 1⟩⟩, bvZ, ⟨(some ⟨gk12, 0, none⟩), 1, 1⟩⟩) := ⟨hH.1.kept hk (fun e => e), hH.2.kept hk (fun e => e)⟩
     have HO : Hid (OwB (wk58) w.heap.size s2 [9]) := HO.out.no hk
     have HF : Hid (Fr No w (wk58) [(gk1, 39, Ky.cells ⟨1, 1, 2, 3⟩), (gk4, 43, Cm.cells ⟨4, 1, 2, ⟨#[]⟩, 0, 0, 0, 0, 0⟩), (gk7, 49, Hd.cells hdZ), (gk10, 5, #[.int .u8 9]), (gk12, 70, Pl.cells ⟨1, ⟨spZ, spZ, ⟨4, 1, 2, ⟨#[]⟩, 0, 0, 0, 0, 0⟩, true⟩⟩), (gk14, 49, Hd.cells ⟨⟨⟨4, 1⟩, ⟨(some ⟨gk10, 0, none⟩), 1, 1⟩⟩, bvZ, ⟨(some ⟨gk12, 0, none⟩), 1, 1⟩⟩), (gl, 67, Ch.cells ⟨⟨1, 1, 2, 3⟩, ⟨⟨4, 1⟩, s2⟩, inZ, bvZ⟩), (gk55, 46, Mg.cells mgZ)]) := HF.out.no hk
     have HS : Hid (Box wk58 gc 43 (cmL [kwX]).toArray) := hbc
     clear hbc hgc
     clear hk
     refine ⟨.agg (Mg.cells ⟨22, ⟨false, 2⟩, ⟨false, 1⟩, 0, 0, ⟨2, 0, 0, 0⟩, ⟨1, 0⟩, spZ, slZ, cZ, bvZ, ⟨(some ⟨gc, 0, none⟩), 1, 1⟩, false⟩), by kernel_rfl, hH2, fun hH => ?_⟩
     clear hH2
     try simp only [pS]
     refine any_call (i := 6) (o := oqU13) rfl (by kernel_rfl) (by kernel_rfl) 12 #[.agg (Mg.cells ⟨22, ⟨false, 2⟩, ⟨false, 1⟩, 0, 0, ⟨2, 0, 0, 0⟩, ⟨1, 0⟩, spZ, slZ, cZ, bvZ, ⟨(some ⟨gc, 0, none⟩), 1, 1⟩, false⟩), .agg (Hd.cells hdZ)] (by kernel_rfl) _ (take_cmds ⟨22, ⟨false, 2⟩, ⟨false, 1⟩, 0, 0, ⟨2, 0, 0, 0⟩, ⟨1, 0⟩, spZ, slZ, cZ, bvZ, ⟨(some ⟨gc, 0, none⟩), 1, 1⟩, false⟩ hdZ [] [kwX] _ (by kernel_rfl) (by kernel_rfl) (by kernel_rfl) (by kernel_rfl) (by kernel_rfl) (RdC.ofBox HS.out rfl) (RdP.nil _) (fun k e => absurd e At.none) (by simp) (fun x hx => by cases hx) (by show 1 ≤ _; omega)) ?_
     rintro e wk59 ⟨sq, rfl, ho, hk⟩
     have hH2 : Box wk59 gk7 49 (Hd.cells hdZ) ∧ Box wk59 gk14 49 (Hd.cells ⟨⟨⟨4, 1⟩, ⟨(some ⟨gk10, 0, none⟩), 1, 1⟩⟩, bvZ, ⟨(some ⟨gk12, 0, none⟩), 1, 1⟩⟩) := ⟨hH.1.kept hk (fun e => e), hH.2.kept hk (fun e => e)⟩
     have ho2 : OwH wk59 wk58.heap.size sq (newF 0 1 0 [kwX] (decF 1 1 (decd [])) 1) := ho
     rw [kw_new] at ho2
     obtain ⟨gm, km, sp, rfl, hgm, hbm⟩ := OwH.one ho2
     clear ho2
     have HO : Hid (OwB wk59 w.heap.size s2 [9]) := HO.out.no hk
     clear HS
     have HF : Hid (Fr No w (wk59) [(gk1, 39, Ky.cells ⟨1, 1, 2, 3⟩), (gk4, 43, Cm.cells ⟨4, 1, 2, ⟨#[]⟩, 0, 0, 0, 0, 0⟩), (gk7, 49, Hd.cells hdZ), (gk10, 5, #[.int .u8 9]), (gk12, 70, Pl.cells ⟨1, ⟨spZ, spZ, ⟨4, 1, 2, ⟨#[]⟩, 0, 0, 0, 0, 0⟩, true⟩⟩), (gk14, 49, Hd.cells ⟨⟨⟨4, 1⟩, ⟨(some ⟨gk10, 0, none⟩), 1, 1⟩⟩, bvZ, ⟨(some ⟨gk12, 0, none⟩), 1, 1⟩⟩), (gl, 67, Ch.cells ⟨⟨1, 1, 2, 3⟩, ⟨⟨4, 1⟩, s2⟩, inZ, bvZ⟩), (gk55, 46, Mg.cells mgZ), (gm, 67, (Ch.cs ⟨⟨3, 0, 1, 0⟩, blZ, ⟨spZ, spZ, ⟨4, 1, 2, ⟨#[]⟩, 0, 0, 0, 0, 0⟩, true⟩, bvZ⟩ ++ sp).toArray)]) := HF.out.add hk hgm hbm
     clear hbm hgm hk ho
     refine ⟨.tuple #[.slice (some ⟨gm, 0, none⟩) 1 km, .agg (Mg.cells mgZ), .bool false], by kernel_rfl, hH2, fun hH => ?_⟩
     clear hH2
     try simp only [pS]
     refine aT (i := 7) (oi := oqU14) (v := .tuple #[.slice (some ⟨gm, 0, none⟩) 1 km, .agg (Mg.cells mgZ), .bool false]) (fun _ _ => by kernel_rfl) hH ?_
     try simp only [pS]
     refine aT (i := 8) (oi := oqU15) (v := .slice (some ⟨gm, 0, none⟩) 1 km) (fun _ _ => by kernel_rfl) hH ?_
     try simp only [pS]
     refine aT (i := 9) (oi := oqU16) (v := .agg (Mg.cells mgZ)) (fun _ _ => by kernel_rfl) hH ?_
     try simp only [pS]
     refine aT (i := 10) (oi := oqU17) (v := .bool false) (fun _ _ => by kernel_rfl) hH ?_
     try simp only [pS]
     refine aT (i := 12) (oi := oqU19) (v := .slice (some ⟨gm, 0, none⟩) 1 km) (fun _ _ => by kernel_rfl) hH ?_
     try simp only [pS]
     refine any_store (i := 13) (o := oqU20) (w' := wk59.setRow gk55 (Mg.cells mgZ)) rfl (by kernel_rfl) (by kernel_rfl) 46 _ _ rfl ⟨gk55, 0, none⟩ (.agg (Mg.cells mgZ)) (by kernel_rfl) (by kernel_rfl) (run_store_to (cur := Mg.cs mgZ) (vs := Mg.cs mgZ) (new := Mg.cs mgZ) (HF.out.box 7 _ _ _ rfl) (by kernel_rfl) Try.size50 (Nat.le_of_ble_eq_true (by kernel_rfl)) (Mg.oneL _) (by kernel_rfl)) (⟨hH.1.rowNe (HF.out.ne 2 7 rfl rfl (by simp)) _, hH.2.rowNe (HF.out.ne 5 7 rfl rfl (by simp)) _⟩) (fun hH => ?_)
     try simp only [pS]
     have HO : Hid (OwB (wk59.setRow gk55 (Mg.cells mgZ)) w.heap.size s2 [9]) := HO.out.kept (Kept.setRow _ _ _) (fun k h e => (HO.out.own.notBox (HF.out.box 7 _ _ _ rfl) (by decide)) ((show k = gk55 from e) ▸ h))
     have HF : Hid (Fr No w _ [(gk1, 39, Ky.cells ⟨1, 1, 2, 3⟩), (gk4, 43, Cm.cells ⟨4, 1, 2, ⟨#[]⟩, 0, 0, 0, 0, 0⟩), (gk7, 49, Hd.cells hdZ), (gk10, 5, #[.int .u8 9]), (gk12, 70, Pl.cells ⟨1, ⟨spZ, spZ, ⟨4, 1, 2, ⟨#[]⟩, 0, 0, 0, 0, 0⟩, true⟩⟩), (gk14, 49, Hd.cells ⟨⟨⟨4, 1⟩, ⟨(some ⟨gk10, 0, none⟩), 1, 1⟩⟩, bvZ, ⟨(some ⟨gk12, 0, none⟩), 1, 1⟩⟩), (gl, 67, Ch.cells ⟨⟨1, 1, 2, 3⟩, ⟨⟨4, 1⟩, s2⟩, inZ, bvZ⟩), (gk55, 46, Mg.cells mgZ), (gm, 67, (Ch.cs ⟨⟨3, 0, 1, 0⟩, blZ, ⟨spZ, spZ, ⟨4, 1, 2, ⟨#[]⟩, 0, 0, 0, 0, 0⟩, true⟩, bvZ⟩ ++ sp).toArray)]) := HF.out.set 7 rfl _
     generalize wk59.setRow gk55 (Mg.cells mgZ) = wk60 at HF HO hH ⊢
     refine aT (i := 14) (oi := oqU21) (v := .bool false) (fun _ _ => by kernel_rfl) hH ?_
     try simp only [pS]
     refine wpAnyH_done (by kernel_rfl) ?_ _
     try simp only [pS]
     clear hH
     have HF : Hid (Fr No w wk60 ([(gk1, 39, Ky.cells ⟨1, 1, 2, 3⟩), (gk4, 43, Cm.cells ⟨4, 1, 2, ⟨#[]⟩, 0, 0, 0, 0, 0⟩), (gk7, 49, Hd.cells hdZ), (gk10, 5, #[.int .u8 9]), (gk12, 70, Pl.cells ⟨1, ⟨spZ, spZ, ⟨4, 1, 2, ⟨#[]⟩, 0, 0, 0, 0, 0⟩, true⟩⟩), (gk14, 49, Hd.cells ⟨⟨⟨4, 1⟩, ⟨(some ⟨gk10, 0, none⟩), 1, 1⟩⟩, bvZ, ⟨(some ⟨gk12, 0, none⟩), 1, 1⟩⟩), (gl, 67, Ch.cells ⟨⟨1, 1, 2, 3⟩, ⟨⟨4, 1⟩, s2⟩, inZ, bvZ⟩)] ++ [(gm, 67, (Ch.cs ⟨⟨3, 0, 1, 0⟩, blZ, ⟨spZ, spZ, ⟨4, 1, 2, ⟨#[]⟩, 0, 0, 0, 0, 0⟩, true⟩, bvZ⟩ ++ sp).toArray), (gk55, 46, Mg.cells mgZ)])) := Fr.swap (l := [(gk1, 39, Ky.cells ⟨1, 1, 2, 3⟩), (gk4, 43, Cm.cells ⟨4, 1, 2, ⟨#[]⟩, 0, 0, 0, 0, 0⟩), (gk7, 49, Hd.cells hdZ), (gk10, 5, #[.int .u8 9]), (gk12, 70, Pl.cells ⟨1, ⟨spZ, spZ, ⟨4, 1, 2, ⟨#[]⟩, 0, 0, 0, 0, 0⟩, true⟩⟩), (gk14, 49, Hd.cells ⟨⟨⟨4, 1⟩, ⟨(some ⟨gk10, 0, none⟩), 1, 1⟩⟩, bvZ, ⟨(some ⟨gk12, 0, none⟩), 1, 1⟩⟩), (gl, 67, Ch.cells ⟨⟨1, 1, 2, 3⟩, ⟨⟨4, 1⟩, s2⟩, inZ, bvZ⟩)]) HF.out
     have HF : Hid (Fr No w wk60 ([(gk1, 39, Ky.cells ⟨1, 1, 2, 3⟩), (gk4, 43, Cm.cells ⟨4, 1, 2, ⟨#[]⟩, 0, 0, 0, 0, 0⟩), (gk7, 49, Hd.cells hdZ), (gk10, 5, #[.int .u8 9]), (gk12, 70, Pl.cells ⟨1, ⟨spZ, spZ, ⟨4, 1, 2, ⟨#[]⟩, 0, 0, 0, 0, 0⟩, true⟩⟩), (gk14, 49, Hd.cells ⟨⟨⟨4, 1⟩, ⟨(some ⟨gk10, 0, none⟩), 1, 1⟩⟩, bvZ, ⟨(some ⟨gk12, 0, none⟩), 1, 1⟩⟩), (gl, 67, Ch.cells ⟨⟨1, 1, 2, 3⟩, ⟨⟨4, 1⟩, s2⟩, inZ, bvZ⟩)] ++ [(gm, 67, (Ch.cs ⟨⟨3, 0, 1, 0⟩, blZ, ⟨spZ, spZ, ⟨4, 1, 2, ⟨#[]⟩, 0, 0, 0, 0, 0⟩, true⟩, bvZ⟩ ++ sp).toArray)])) := Fr.front (m := [(gk55, 46, Mg.cells mgZ)]) (show Fr No w _ (([(gk1, 39, Ky.cells ⟨1, 1, 2, 3⟩), (gk4, 43, Cm.cells ⟨4, 1, 2, ⟨#[]⟩, 0, 0, 0, 0, 0⟩), (gk7, 49, Hd.cells hdZ), (gk10, 5, #[.int .u8 9]), (gk12, 70, Pl.cells ⟨1, ⟨spZ, spZ, ⟨4, 1, 2, ⟨#[]⟩, 0, 0, 0, 0, 0⟩, true⟩⟩), (gk14, 49, Hd.cells ⟨⟨⟨4, 1⟩, ⟨(some ⟨gk10, 0, none⟩), 1, 1⟩⟩, bvZ, ⟨(some ⟨gk12, 0, none⟩), 1, 1⟩⟩), (gl, 67, Ch.cells ⟨⟨1, 1, 2, 3⟩, ⟨⟨4, 1⟩, s2⟩, inZ, bvZ⟩)] ++ [(gm, 67, (Ch.cs ⟨⟨3, 0, 1, 0⟩, blZ, ⟨spZ, spZ, ⟨4, 1, 2, ⟨#[]⟩, 0, 0, 0, 0, 0⟩, true⟩, bvZ⟩ ++ sp).toArray)]) ++ _) from HF.out)
     refine hK0 _ _ (Met.intro (hJ0 _ _ ?_))
     (repeat apply Exists.intro)
     refine ⟨?_, rfl⟩
     exact ⟨gm, gk55, km, sp, rfl, rfl, rfl, HF, HO⟩
   case rest =>
    obtain ⟨gm, g9, km, sp, rfl, rfl, rfl, HF, HO⟩ := hcut
    have HF : Hid (Fr No w (wc) [(gk1, 39, Ky.cells ⟨1, 1, 2, 3⟩), (gk4, 43, Cm.cells ⟨4, 1, 2, ⟨#[]⟩, 0, 0, 0, 0, 0⟩), (gk7, 49, Hd.cells hdZ), (gk10, 5, #[.int .u8 9]), (gk12, 70, Pl.cells ⟨1, ⟨spZ, spZ, ⟨4, 1, 2, ⟨#[]⟩, 0, 0, 0, 0, 0⟩, true⟩⟩), (gk14, 49, Hd.cells ⟨⟨⟨4, 1⟩, ⟨(some ⟨gk10, 0, none⟩), 1, 1⟩⟩, bvZ, ⟨(some ⟨gk12, 0, none⟩), 1, 1⟩⟩), (gl, 67, Ch.cells ⟨⟨1, 1, 2, 3⟩, ⟨⟨4, 1⟩, s2⟩, inZ, bvZ⟩), (gm, 67, (Ch.cs ⟨⟨3, 0, 1, 0⟩, blZ, ⟨spZ, spZ, ⟨4, 1, 2, ⟨#[]⟩, 0, 0, 0, 0, 0⟩, true⟩, bvZ⟩ ++ sp).toArray)]) := HF.out
    go_upto_region 7 with fail
    refine wp_region_held_drew (S := fun w' => Box w' gk1 39 (Ky.cells ⟨1, 1, 2, 3⟩) ∧ Box w' gk4 43 (Cm.cells ⟨4, 1, 2, ⟨#[]⟩, 0, 0, 0, 0, 0⟩) ∧ Box w' gl 67 (Ch.cells ⟨⟨1, 1, 2, 3⟩, ⟨⟨4, 1⟩, s2⟩, inZ, bvZ⟩) ∧ Box w' gm 67 ((Ch.cs ⟨⟨3, 0, 1, 0⟩, blZ, ⟨spZ, spZ, ⟨4, 1, 2, ⟨#[]⟩, 0, 0, 0, 0, 0⟩, true⟩, bvZ⟩ ++ sp).toArray)) rfl ⟨HF.out.box 0 _ _ _ rfl, HF.out.box 1 _ _ _ rfl, HF.out.box 6 _ _ _ rfl, HF.out.box 7 _ _ _ rfl⟩ (fun hH => ?_)
    have HO : Hid (OwB (wc.drew) w.heap.size s2 [9]) := HO.out.no (Kept.refl No _).drew
    have HF : Hid (Fr No w (wc.drew) [(gk1, 39, Ky.cells ⟨1, 1, 2, 3⟩), (gk4, 43, Cm.cells ⟨4, 1, 2, ⟨#[]⟩, 0, 0, 0, 0, 0⟩), (gk7, 49, Hd.cells hdZ), (gk10, 5, #[.int .u8 9]), (gk12, 70, Pl.cells ⟨1, ⟨spZ, spZ, ⟨4, 1, 2, ⟨#[]⟩, 0, 0, 0, 0, 0⟩, true⟩⟩), (gk14, 49, Hd.cells ⟨⟨⟨4, 1⟩, ⟨(some ⟨gk10, 0, none⟩), 1, 1⟩⟩, bvZ, ⟨(some ⟨gk12, 0, none⟩), 1, 1⟩⟩), (gl, 67, Ch.cells ⟨⟨1, 1, 2, 3⟩, ⟨⟨4, 1⟩, s2⟩, inZ, bvZ⟩), (gm, 67, (Ch.cs ⟨⟨3, 0, 1, 0⟩, blZ, ⟨spZ, spZ, ⟨4, 1, 2, ⟨#[]⟩, 0, 0, 0, 0, 0⟩, true⟩, bvZ⟩ ++ sp).toArray)]) := HF.out.drew
    generalize wc.drew = wk61 at HF HO hH ⊢
    refine aT (i := 0) (oi := { dst := some 44, op := Op.move (Operand.tmp 5), type := 56, pos := "law.go:89", after := #[], guard := none }) (v := .slice (some ⟨gl, 0, none⟩) 1 1) (fun _ _ => by kernel_rfl) hH ?_
    try simp only [pS]
    refine aT (i := 1) (oi := { dst := some 45, op := Op.call { callee := Callee.builtin Builtin.len, args := #[Operand.tmp 44], argTypes := #[56] }, type := 3, pos := "law.go:89", after := #[{ on := 0, ground := Ground.data }], guard := none }) (v := .int .i64 ((1 : Nat) : Int)) (fun _ _ => by kernel_rfl) hH ?_
    try simp only [pS]
    refine aT (i := 2) (oi := { dst := some 46, op := Op.binOp BinOp.eql 3 (Operand.tmp 45) (Operand.const (Value.int IntKind.i64 1)) 3, type := 4, pos := "law.go:89", after := #[{ on := 1, ground := Ground.data }], guard := none }) (v := .bool true) (fun w' hw => eB .eql 3 _ _ _ rfl (.int .i64 ((1 : Nat) : Int)) (.int .i64 1) _ (by kernel_rfl)) hH ?_
    try simp only [pS]
    refine aT (i := 3) (oi := { dst := some 47, op := Op.move (Operand.tmp 46), type := 4, pos := "law.go:89", after := #[{ on := 2, ground := Ground.data }], guard := none }) (v := .bool true) (fun _ _ => by kernel_rfl) hH ?_
    try simp only [pS]
    refine aT (i := 4) (oi := { dst := some 48, op := Op.move (Operand.tmp 5), type := 56, pos := "law.go:89", after := #[{ on := 3, ground := Ground.guard }], guard := some (3, true) }) (v := .slice (some ⟨gl, 0, none⟩) 1 1) (fun _ _ => by kernel_rfl) hH ?_
    try simp only [pS]
    refine aT (i := 5) (oi := { dst := some 49, op := Op.indexAddr 56 (Operand.tmp 48) (Operand.const (Value.int IntKind.i64 0)), type := 0, pos := "law.go:89", after := #[{ on := 4, ground := Ground.data }, { on := 3, ground := Ground.guard }], guard := some (3, true) }) (v := .pointer (some ⟨gl, 0 + 0 * 24, none⟩)) (fun w' hw => exec_ixA 56 24 Try.und61e Try.size61e _ _ rfl gl 0 1 1 0 (by kernel_rfl) (by kernel_rfl) (by omega)) hH ?_
    try simp only [pS]
    refine aT (i := 6) (oi := { dst := some 50, op := Op.fieldAddr 67 (Operand.tmp 49) 0, type := 0, pos := "law.go:89", after := #[{ on := 5, ground := Ground.data }, { on := 3, ground := Ground.guard }], guard := some (3, true) }) (v := .pointer (some ⟨gl, 0 + 0 * 24, none⟩)) (fun _ _ => by kernel_rfl) hH ?_
    try simp only [pS]
    refine aT (i := 7) (oi := { dst := some 51, op := Op.load 39 (Operand.tmp 50), type := 39, pos := "law.go:89", after := #[{ on := 6, ground := Ground.data }, { on := 3, ground := Ground.guard }], guard := some (3, true) }) (v := .agg (Ky.cells ⟨1, 1, 2, 3⟩)) (fun w' hw => eL 39 _ rfl ⟨gl, 0 + 0 * 24, none⟩ (run_load_part (cs := Ch.cs ⟨⟨1, 1, 2, 3⟩, ⟨⟨4, 1⟩, s2⟩, inZ, bvZ⟩) (sub := Ky.cs ⟨1, 1, 2, 3⟩) (hw.2.2.1) (part_of (by kernel_rfl)) Try.und23 rfl Try.size23)) hH ?_
    try simp only [pS]
    refine aT (i := 8) (oi := { dst := some 52, op := Op.load 39 (Operand.tmp 1), type := 39, pos := "law.go:89", after := #[{ on := 3, ground := Ground.guard }], guard := some (3, true) }) (v := .agg (Ky.cells ⟨1, 1, 2, 3⟩)) (fun w' hw => eL 39 _ rfl ⟨gk1, 0, none⟩ (run_load_part (cs := Ky.cs ⟨1, 1, 2, 3⟩) (sub := Ky.cs ⟨1, 1, 2, 3⟩) (hw.1) (Part.all _) Try.und23 rfl Try.size23)) hH ?_
    try simp only [pS]
    refine aT (i := 9) (oi := { dst := some 53, op := Op.binOp BinOp.eql 39 (Operand.tmp 51) (Operand.tmp 52) 39, type := 4, pos := "law.go:89", after := #[{ on := 7, ground := Ground.data }, { on := 8, ground := Ground.data }, { on := 3, ground := Ground.guard }], guard := some (3, true) }) (v := .bool true) (fun w' hw => eB .eql 39 _ _ _ rfl (.agg (Ky.cells ⟨1, 1, 2, 3⟩)) (.agg (Ky.cells ⟨1, 1, 2, 3⟩)) _ (by kernel_rfl)) hH ?_
    try simp only [pS]
    refine aT (i := 10) (oi := { dst := some 54, op := Op.pick (Operand.tmp 47) (Operand.tmp 53) (Operand.const (Value.bool false)), type := 4, pos := "law.go:89", after := #[{ on := 3, ground := Ground.data }, { on := 9, ground := Ground.data }], guard := none }) (v := .bool true) (fun _ _ => by kernel_rfl) hH ?_
    try simp only [pS]
    refine aT (i := 11) (oi := { dst := some 55, op := Op.move (Operand.tmp 54), type := 4, pos := "law.go:89", after := #[{ on := 10, ground := Ground.data }, { on := 3, ground := Ground.chain }], guard := none }) (v := .bool true) (fun _ _ => by kernel_rfl) hH ?_
    try simp only [pS]
    refine aT (i := 12) (oi := { dst := some 56, op := Op.move (Operand.tmp 5), type := 56, pos := "law.go:89", after := #[{ on := 11, ground := Ground.guard }], guard := some (11, true) }) (v := .slice (some ⟨gl, 0, none⟩) 1 1) (fun _ _ => by kernel_rfl) hH ?_
    try simp only [pS]
    refine aT (i := 13) (oi := { dst := some 57, op := Op.indexAddr 56 (Operand.tmp 56) (Operand.const (Value.int IntKind.i64 0)), type := 0, pos := "law.go:89", after := #[{ on := 12, ground := Ground.data }, { on := 11, ground := Ground.guard }], guard := some (11, true) }) (v := .pointer (some ⟨gl, 0 + 0 * 24, none⟩)) (fun w' hw => exec_ixA 56 24 Try.und61e Try.size61e _ _ rfl gl 0 1 1 0 (by kernel_rfl) (by kernel_rfl) (by omega)) hH ?_
    try simp only [pS]
    refine aT (i := 14) (oi := { dst := some 58, op := Op.fieldAddr 67 (Operand.tmp 57) 1, type := 0, pos := "law.go:89", after := #[{ on := 13, ground := Ground.data }, { on := 11, ground := Ground.guard }], guard := some (11, true) }) (v := .pointer (some ⟨gl, 0 + 0 * 24 + 4, none⟩)) (fun _ _ => by kernel_rfl) hH ?_
    try simp only [pS]
    refine aT (i := 15) (oi := { dst := some 59, op := Op.fieldAddr 26 (Operand.tmp 58) 1, type := 0, pos := "law.go:89", after := #[{ on := 14, ground := Ground.data }, { on := 11, ground := Ground.guard }], guard := some (11, true) }) (v := .pointer (some ⟨gl, 0 + 0 * 24 + 4 + 2, none⟩)) (fun _ _ => by kernel_rfl) hH ?_
    try simp only [pS]
    refine aT (i := 16) (oi := { dst := some 60, op := Op.load 24 (Operand.tmp 59), type := 24, pos := "law.go:89", after := #[{ on := 15, ground := Ground.data }, { on := 11, ground := Ground.guard }], guard := some (11, true) }) (v := s2.v) (fun w' hw => eL 24 _ rfl ⟨gl, 0 + 0 * 24 + 4 + 2, none⟩ (load_one ((hw.2.2.1).cell 6 |>.trans (by kernel_rfl)) Try.und26 rfl)) hH ?_
    try simp only [pS]
    refine any_step (i := 17) (o := { dst := some 61, op := Op.buildSlice 24 1 #[(0, Operand.const (Value.int IntKind.u8 9))], type := 24, pos := "law.go:89", after := #[{ on := 11, ground := Ground.guard }], guard := some (11, true) }) rfl (by kernel_rfl) (by kernel_rfl) (exec_slice2 24 5 _ rfl (#[.int .u8 9]) (.int .u8 9) (by kernel_rfl) (by kernel_rfl)) (⟨hH.1.alloc _, hH.2.1.alloc _, hH.2.2.1.alloc _, hH.2.2.2.alloc _⟩) (fun hH => ?_)
    try simp only [pS]
    have HO : Hid (OwB (wk61.alloc (.cells (#[.int .u8 9]) 5)) w.heap.size s2 [9]) := HO.out.no ((Kept.refl No _).alloc _)
    have HF : Hid (Fr No w _ [(gk1, 39, Ky.cells ⟨1, 1, 2, 3⟩), (gk4, 43, Cm.cells ⟨4, 1, 2, ⟨#[]⟩, 0, 0, 0, 0, 0⟩), (gk7, 49, Hd.cells hdZ), (gk10, 5, #[.int .u8 9]), (gk12, 70, Pl.cells ⟨1, ⟨spZ, spZ, ⟨4, 1, 2, ⟨#[]⟩, 0, 0, 0, 0, 0⟩, true⟩⟩), (gk14, 49, Hd.cells ⟨⟨⟨4, 1⟩, ⟨(some ⟨gk10, 0, none⟩), 1, 1⟩⟩, bvZ, ⟨(some ⟨gk12, 0, none⟩), 1, 1⟩⟩), (gl, 67, Ch.cells ⟨⟨1, 1, 2, 3⟩, ⟨⟨4, 1⟩, s2⟩, inZ, bvZ⟩), (gm, 67, (Ch.cs ⟨⟨3, 0, 1, 0⟩, blZ, ⟨spZ, spZ, ⟨4, 1, 2, ⟨#[]⟩, 0, 0, 0, 0, 0⟩, true⟩, bvZ⟩ ++ sp).toArray), (wk61.heap.size, 5, #[.int .u8 9])]) := HF.out.alloc _ _
    generalize wk61.alloc (.cells (#[.int .u8 9]) 5) = wk63 at HF HO hH ⊢
    generalize wk61.heap.size = gk62 at HF ⊢
    refine any_call (i := 18) (o := { dst := some 62, op := Op.call { callee := Callee.value (Operand.func 17), args := #[Operand.tmp 60, Operand.tmp 61], argTypes := #[24, 24] }, type := 4, pos := "law.go:89", after := #[{ on := 16, ground := Ground.data }, { on := 17, ground := Ground.data }, { on := 11, ground := Ground.chain }, { on := 11, ground := Ground.guard }], guard := some (11, true) }) rfl (by kernel_rfl) (by kernel_rfl) 17 #[s2.v, .slice (some ⟨gk62, 0, none⟩) 1 1] (by kernel_rfl) _ (sameB_any s2 ⟨some ⟨gk62, 0, none⟩, 1, 1⟩ [9] _ HO.out.rd (RdB.one (HF.out.box 8 _ _ _ rfl))) ?_
    rintro e wq ⟨rfl, hwq⟩
    rw [hwq]
    clear hwq wq
    refine ⟨.bool true, rfl, hH, fun hH => ?_⟩
    try simp only [pS]
    refine aT (i := 19) (oi := { dst := some 63, op := Op.pick (Operand.tmp 55) (Operand.tmp 62) (Operand.const (Value.bool false)), type := 4, pos := "law.go:89", after := #[{ on := 11, ground := Ground.data }, { on := 18, ground := Ground.data }], guard := none }) (v := .bool true) (fun _ _ => by kernel_rfl) hH ?_
    try simp only [pS]
    refine aT (i := 20) (oi := { dst := some 64, op := Op.move (Operand.tmp 63), type := 4, pos := "law.go:89", after := #[{ on := 19, ground := Ground.data }, { on := 18, ground := Ground.chain }], guard := none }) (v := .bool true) (fun _ _ => by kernel_rfl) hH ?_
    try simp only [pS]
    refine aT (i := 21) (oi := { dst := some 65, op := Op.move (Operand.tmp 7), type := 4, pos := "law.go:89", after := #[{ on := 20, ground := Ground.guard }], guard := some (20, true) }) (v := .bool false) (fun _ _ => by kernel_rfl) hH ?_
    try simp only [pS]
    refine aT (i := 22) (oi := { dst := some 66, op := Op.unOp UnOp.not 4 (Operand.tmp 65), type := 4, pos := "law.go:89", after := #[{ on := 21, ground := Ground.data }, { on := 20, ground := Ground.guard }], guard := some (20, true) }) (v := .bool true) (fun _ _ => by kernel_rfl) hH ?_
    try simp only [pS]
    refine aT (i := 23) (oi := { dst := some 67, op := Op.pick (Operand.tmp 64) (Operand.tmp 66) (Operand.const (Value.bool false)), type := 4, pos := "law.go:89", after := #[{ on := 20, ground := Ground.data }, { on := 22, ground := Ground.data }], guard := none }) (v := .bool true) (fun _ _ => by kernel_rfl) hH ?_
    try simp only [pS]
    refine aT (i := 24) (oi := { dst := some 68, op := Op.move (Operand.tmp 67), type := 4, pos := "law.go:89", after := #[{ on := 23, ground := Ground.data }, { on := 20, ground := Ground.chain }], guard := none }) (v := .bool true) (fun _ _ => by kernel_rfl) hH ?_
    try simp only [pS]
    refine aT (i := 25) (oi := { dst := some 69, op := Op.move (Operand.tmp 8), type := 56, pos := "law.go:89", after := #[{ on := 24, ground := Ground.guard }], guard := some (24, true) }) (v := .slice (some ⟨gm, 0, none⟩) 1 km) (fun _ _ => by kernel_rfl) hH ?_
    try simp only [pS]
    refine aT (i := 26) (oi := { dst := some 70, op := Op.call { callee := Callee.builtin Builtin.len, args := #[Operand.tmp 69], argTypes := #[56] }, type := 3, pos := "law.go:89", after := #[{ on := 25, ground := Ground.data }, { on := 24, ground := Ground.guard }], guard := some (24, true) }) (v := .int .i64 ((1 : Nat) : Int)) (fun _ _ => by kernel_rfl) hH ?_
    try simp only [pS]
    refine aT (i := 27) (oi := { dst := some 71, op := Op.binOp BinOp.eql 3 (Operand.tmp 70) (Operand.const (Value.int IntKind.i64 1)) 3, type := 4, pos := "law.go:89", after := #[{ on := 26, ground := Ground.data }, { on := 24, ground := Ground.guard }], guard := some (24, true) }) (v := .bool true) (fun w' hw => eB .eql 3 _ _ _ rfl (.int .i64 ((1 : Nat) : Int)) (.int .i64 1) _ (by kernel_rfl)) hH ?_
    try simp only [pS]
    refine aT (i := 28) (oi := { dst := some 72, op := Op.pick (Operand.tmp 68) (Operand.tmp 71) (Operand.const (Value.bool false)), type := 4, pos := "law.go:89", after := #[{ on := 24, ground := Ground.data }, { on := 27, ground := Ground.data }], guard := none }) (v := .bool true) (fun _ _ => by kernel_rfl) hH ?_
    try simp only [pS]
    refine aT (i := 29) (oi := { dst := some 73, op := Op.move (Operand.tmp 72), type := 4, pos := "law.go:89", after := #[{ on := 28, ground := Ground.data }, { on := 24, ground := Ground.chain }], guard := none }) (v := .bool true) (fun _ _ => by kernel_rfl) hH ?_
    try simp only [pS]
    refine aT (i := 30) (oi := { dst := some 74, op := Op.move (Operand.tmp 8), type := 56, pos := "law.go:89", after := #[{ on := 29, ground := Ground.guard }], guard := some (29, true) }) (v := .slice (some ⟨gm, 0, none⟩) 1 km) (fun _ _ => by kernel_rfl) hH ?_
    try simp only [pS]
    refine aT (i := 31) (oi := { dst := some 75, op := Op.indexAddr 56 (Operand.tmp 74) (Operand.const (Value.int IntKind.i64 0)), type := 0, pos := "law.go:89", after := #[{ on := 30, ground := Ground.data }, { on := 29, ground := Ground.guard }], guard := some (29, true) }) (v := .pointer (some ⟨gm, 0 + 0 * 24, none⟩)) (fun w' hw => exec_ixA 56 24 Try.und61e Try.size61e _ _ rfl gm 0 1 km 0 (by kernel_rfl) (by kernel_rfl) (by omega)) hH ?_
    try simp only [pS]
    refine aT (i := 32) (oi := { dst := some 76, op := Op.fieldAddr 67 (Operand.tmp 75) 0, type := 0, pos := "law.go:89", after := #[{ on := 31, ground := Ground.data }, { on := 29, ground := Ground.guard }], guard := some (29, true) }) (v := .pointer (some ⟨gm, 0 + 0 * 24, none⟩)) (fun _ _ => by kernel_rfl) hH ?_
    try simp only [pS]
    refine aT (i := 33) (oi := { dst := some 77, op := Op.load 39 (Operand.tmp 76), type := 39, pos := "law.go:89", after := #[{ on := 32, ground := Ground.data }, { on := 29, ground := Ground.guard }], guard := some (29, true) }) (v := .agg (Ky.cells ⟨3, 0, 1, 0⟩)) (fun w' hw => eL 39 _ rfl ⟨gm, 0 + 0 * 24, none⟩ (run_load_part (cs := Ch.cs ⟨⟨3, 0, 1, 0⟩, blZ, ⟨spZ, spZ, ⟨4, 1, 2, ⟨#[]⟩, 0, 0, 0, 0, 0⟩, true⟩, bvZ⟩ ++ sp) (sub := Ky.cs ⟨3, 0, 1, 0⟩) (hw.2.2.2) (part_of (by kernel_rfl)) Try.und23 rfl Try.size23)) hH ?_
    try simp only [pS]
    refine aT (i := 34) (oi := { dst := some 78, op := Op.build 39 #[(0, Operand.const (Value.int IntKind.i64 3)), (2, Operand.const (Value.int IntKind.i64 1))], type := 39, pos := "law.go:89", after := #[{ on := 29, ground := Ground.guard }], guard := some (29, true) }) (v := .agg (Ky.cells ⟨3, 0, 1, 0⟩)) (fun w' hw => exec_build 39 _ rfl (Ky.cells ⟨3, 0, 1, 0⟩) (by kernel_rfl)) hH ?_
    try simp only [pS]
    refine aT (i := 35) (oi := { dst := some 79, op := Op.binOp BinOp.eql 39 (Operand.tmp 77) (Operand.tmp 78) 39, type := 4, pos := "law.go:89", after := #[{ on := 33, ground := Ground.data }, { on := 34, ground := Ground.data }, { on := 29, ground := Ground.guard }], guard := some (29, true) }) (v := .bool true) (fun w' hw => eB .eql 39 _ _ _ rfl (.agg (Ky.cells ⟨3, 0, 1, 0⟩)) (.agg (Ky.cells ⟨3, 0, 1, 0⟩)) _ (by kernel_rfl)) hH ?_
    try simp only [pS]
    refine aT (i := 36) (oi := { dst := some 80, op := Op.pick (Operand.tmp 73) (Operand.tmp 79) (Operand.const (Value.bool false)), type := 4, pos := "law.go:89", after := #[{ on := 29, ground := Ground.data }, { on := 35, ground := Ground.data }], guard := none }) (v := .bool true) (fun _ _ => by kernel_rfl) hH ?_
    try simp only [pS]
    refine aT (i := 37) (oi := { dst := some 81, op := Op.move (Operand.tmp 80), type := 4, pos := "law.go:89", after := #[{ on := 36, ground := Ground.data }, { on := 29, ground := Ground.chain }], guard := none }) (v := .bool true) (fun _ _ => by kernel_rfl) hH ?_
    try simp only [pS]
    refine aT (i := 38) (oi := { dst := some 82, op := Op.move (Operand.tmp 8), type := 56, pos := "law.go:89", after := #[{ on := 37, ground := Ground.guard }], guard := some (37, true) }) (v := .slice (some ⟨gm, 0, none⟩) 1 km) (fun _ _ => by kernel_rfl) hH ?_
    try simp only [pS]
    refine aT (i := 39) (oi := { dst := some 83, op := Op.indexAddr 56 (Operand.tmp 82) (Operand.const (Value.int IntKind.i64 0)), type := 0, pos := "law.go:89", after := #[{ on := 38, ground := Ground.data }, { on := 37, ground := Ground.guard }], guard := some (37, true) }) (v := .pointer (some ⟨gm, 0 + 0 * 24, none⟩)) (fun w' hw => exec_ixA 56 24 Try.und61e Try.size61e _ _ rfl gm 0 1 km 0 (by kernel_rfl) (by kernel_rfl) (by omega)) hH ?_
    try simp only [pS]
    refine aT (i := 40) (oi := { dst := some 84, op := Op.fieldAddr 67 (Operand.tmp 83) 2, type := 0, pos := "law.go:89", after := #[{ on := 39, ground := Ground.data }, { on := 37, ground := Ground.guard }], guard := some (37, true) }) (v := .pointer (some ⟨gm, 0 + 0 * 24 + 7, none⟩)) (fun _ _ => by kernel_rfl) hH ?_
    try simp only [pS]
    refine aT (i := 41) (oi := { dst := some 85, op := Op.load 65 (Operand.tmp 84), type := 65, pos := "law.go:89", after := #[{ on := 40, ground := Ground.data }, { on := 37, ground := Ground.guard }], guard := some (37, true) }) (v := .agg (In.cells ⟨spZ, spZ, ⟨4, 1, 2, ⟨#[]⟩, 0, 0, 0, 0, 0⟩, true⟩)) (fun w' hw => eL 65 _ rfl ⟨gm, 0 + 0 * 24 + 7, none⟩ (run_load_part (cs := Ch.cs ⟨⟨3, 0, 1, 0⟩, blZ, ⟨spZ, spZ, ⟨4, 1, 2, ⟨#[]⟩, 0, 0, 0, 0, 0⟩, true⟩, bvZ⟩ ++ sp) (sub := In.cs ⟨spZ, spZ, ⟨4, 1, 2, ⟨#[]⟩, 0, 0, 0, 0, 0⟩, true⟩) (hw.2.2.2) (part_of (by kernel_rfl)) Try.und70 rfl Try.size70)) hH ?_
    try simp only [pS]
    refine aT (i := 42) (oi := { dst := some 86, op := Op.load 43 (Operand.tmp 2), type := 43, pos := "law.go:89", after := #[{ on := 37, ground := Ground.guard }], guard := some (37, true) }) (v := .agg (Cm.cells ⟨4, 1, 2, ⟨#[]⟩, 0, 0, 0, 0, 0⟩)) (fun w' hw => eL 43 _ rfl ⟨gk4, 0, none⟩ (run_load_part (cs := Cm.cs ⟨4, 1, 2, ⟨#[]⟩, 0, 0, 0, 0, 0⟩) (sub := Cm.cs ⟨4, 1, 2, ⟨#[]⟩, 0, 0, 0, 0, 0⟩) (hw.2.1) (Part.all _) Try.und47 rfl Try.size47)) hH ?_
    try simp only [pS]
    refine aT (i := 43) (oi := { dst := some 87, op := Op.build 65 #[(2, Operand.tmp 86), (3, Operand.const (Value.bool true))], type := 65, pos := "law.go:89", after := #[{ on := 42, ground := Ground.data }, { on := 37, ground := Ground.guard }], guard := some (37, true) }) (v := .agg (In.cells ⟨spZ, spZ, ⟨4, 1, 2, ⟨#[]⟩, 0, 0, 0, 0, 0⟩, true⟩)) (fun w' hw => exec_build 65 _ rfl (In.cells ⟨spZ, spZ, ⟨4, 1, 2, ⟨#[]⟩, 0, 0, 0, 0, 0⟩, true⟩) (by kernel_rfl)) hH ?_
    try simp only [pS]
    refine aT (i := 44) (oi := { dst := some 88, op := Op.binOp BinOp.eql 65 (Operand.tmp 85) (Operand.tmp 87) 65, type := 4, pos := "law.go:89", after := #[{ on := 41, ground := Ground.data }, { on := 43, ground := Ground.data }, { on := 37, ground := Ground.guard }], guard := some (37, true) }) (v := .bool true) (fun w' hw => eB .eql 65 _ _ _ rfl (.agg (In.cells ⟨spZ, spZ, ⟨4, 1, 2, ⟨#[]⟩, 0, 0, 0, 0, 0⟩, true⟩)) (.agg (In.cells ⟨spZ, spZ, ⟨4, 1, 2, ⟨#[]⟩, 0, 0, 0, 0, 0⟩, true⟩)) _ (by rw [eqI_eql, eqI_refl])) hH ?_
    try simp only [pS]
    refine aT (i := 45) (oi := { dst := some 89, op := Op.pick (Operand.tmp 81) (Operand.tmp 88) (Operand.const (Value.bool false)), type := 4, pos := "law.go:89", after := #[{ on := 37, ground := Ground.data }, { on := 44, ground := Ground.data }], guard := none }) (v := .bool true) (fun _ _ => by kernel_rfl) hH ?_
    try simp only [pS]
    refine aT (i := 46) (oi := { dst := some 90, op := Op.move (Operand.tmp 89), type := 4, pos := "law.go:89", after := #[{ on := 45, ground := Ground.data }, { on := 37, ground := Ground.chain }], guard := none }) (v := .bool true) (fun _ _ => by kernel_rfl) hH ?_
    try simp only [pS]
    refine aT (i := 47) (oi := { dst := some 91, op := Op.move (Operand.tmp 10), type := 4, pos := "law.go:89", after := #[{ on := 46, ground := Ground.guard }], guard := some (46, true) }) (v := .bool false) (fun _ _ => by kernel_rfl) hH ?_
    try simp only [pS]
    refine aT (i := 48) (oi := { dst := some 92, op := Op.unOp UnOp.not 4 (Operand.tmp 91), type := 4, pos := "law.go:89", after := #[{ on := 47, ground := Ground.data }, { on := 46, ground := Ground.guard }], guard := some (46, true) }) (v := .bool true) (fun _ _ => by kernel_rfl) hH ?_
    try simp only [pS]
    refine aT (i := 49) (oi := { dst := some 93, op := Op.pick (Operand.tmp 90) (Operand.tmp 92) (Operand.const (Value.bool false)), type := 4, pos := "law.go:89", after := #[{ on := 46, ground := Ground.data }, { on := 48, ground := Ground.data }], guard := none }) (v := .bool true) (fun _ _ => by kernel_rfl) hH ?_
    try simp only [pS]
    refine aT (i := 50) (oi := { dst := some 0, op := Op.assign (Operand.tmp 93), type := 4, pos := "law.go:89", after := #[{ on := 49, ground := Ground.data }, { on := 46, ground := Ground.chain }, { on := 0, ground := Ground.phase }, { on := 1, ground := Ground.phase }, { on := 2, ground := Ground.phase }, { on := 3, ground := Ground.phase }, { on := 4, ground := Ground.phase }, { on := 5, ground := Ground.phase }, { on := 6, ground := Ground.phase }, { on := 7, ground := Ground.phase }, { on := 8, ground := Ground.phase }, { on := 9, ground := Ground.phase }, { on := 10, ground := Ground.phase }, { on := 11, ground := Ground.phase }, { on := 12, ground := Ground.phase }, { on := 13, ground := Ground.phase }, { on := 14, ground := Ground.phase }, { on := 15, ground := Ground.phase }, { on := 16, ground := Ground.phase }, { on := 17, ground := Ground.phase }, { on := 18, ground := Ground.phase }, { on := 19, ground := Ground.phase }, { on := 20, ground := Ground.phase }, { on := 21, ground := Ground.phase }, { on := 22, ground := Ground.phase }, { on := 23, ground := Ground.phase }, { on := 24, ground := Ground.phase }, { on := 25, ground := Ground.phase }, { on := 26, ground := Ground.phase }, { on := 27, ground := Ground.phase }, { on := 28, ground := Ground.phase }, { on := 29, ground := Ground.phase }, { on := 30, ground := Ground.phase }, { on := 31, ground := Ground.phase }, { on := 32, ground := Ground.phase }, { on := 33, ground := Ground.phase }, { on := 34, ground := Ground.phase }, { on := 35, ground := Ground.phase }, { on := 36, ground := Ground.phase }, { on := 37, ground := Ground.phase }, { on := 38, ground := Ground.phase }, { on := 39, ground := Ground.phase }, { on := 40, ground := Ground.phase }, { on := 41, ground := Ground.phase }, { on := 42, ground := Ground.phase }, { on := 43, ground := Ground.phase }, { on := 44, ground := Ground.phase }, { on := 45, ground := Ground.phase }, { on := 46, ground := Ground.phase }, { on := 47, ground := Ground.phase }, { on := 48, ground := Ground.phase }, { on := 49, ground := Ground.phase }], guard := none }) (v := .bool true) (fun _ _ => by kernel_rfl) hH ?_
    try simp only [pS]
    refine wpAnyH_done (by kernel_rfl) ?_ _
    try simp only [pS]
    clear hH
    go_wp2
    rw [HC.out]
    exact ⟨rfl, HF.out.kept⟩

end Go.Proofs.Ytcgnbpaaalmkoab
