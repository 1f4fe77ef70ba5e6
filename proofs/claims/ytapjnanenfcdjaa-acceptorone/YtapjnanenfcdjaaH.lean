import Derived.Test.YtapjnanenfcdjaaG
namespace Go.Proofs.Ytapjnanenfcdjaa
open Go.RowKit
set_option linter.unusedVariables false
set_option linter.unusedSimpArgs false

theorem load_one {w : World} {ad : Addr} {t : TypeId} {d : TypeDesc} {v : Value} (hc : w.cell? ad = some v) (hu : Try.prog.underlying t = some d) (hd : (match d with | .struct _ | .array _ _ => true | _ => false) = false) : (loadVar t ad).run Try.prog w = .ok v w := by
  have hagg : (isAgg t).run Try.prog w = .ok false w := by
    unfold isAgg
    rw [Sem.run_bind, run_underlying hu w]
    cases d <;> simp_all
  simp [loadVar, Sem.run_bind, hagg, hc]
theorem load_N {w : World} {ad : Addr} {v : Value} (hc : w.cell? ad = some v) : (loadVar 3 ad).run Try.prog w = .ok v w := load_one hc Try.und3 rfl
theorem load_B {w : World} {ad : Addr} {v : Value} (hc : w.cell? ad = some v) : (loadVar 4 ad).run Try.prog w = .ok v w := load_one hc Try.und4 rfl
theorem eqlN (a b : Int) (w : World) : (binOp .eql 3 (.int .i64 a) (.int .i64 b)).run Try.prog w = .ok (.bool (a == b)) w := by
  first | kernel_rfl | simp [binOp, Op.intCmp]
theorem neqN (a b : Int) (w : World) : (binOp .neq 3 (.int .i64 a) (.int .i64 b)).run Try.prog w = .ok (.bool (!(a == b))) w := by
  first | kernel_rfl | simp [binOp, Op.intCmp]
theorem neqB (a b : Bool) (w : World) : (binOp .neq 4 (.bool a) (.bool b)).run Try.prog w = .ok (.bool (!(a == b))) w := by
  cases a <;> cases b <;> kernel_rfl
/-- Two new variables, an instance and a message. -/
def two (w : World) (i : In) (m : Mg) : World := (((w.alloc (.cells iZ.cells 29)).alloc (.cells mZ.cells 52)).setRow w.heap.size i.cells).setRow (w.heap.size + 1) m.cells
theorem two_spec (w : World) (i : In) (m : Mg) : Kept No w (two w i m) ∧ Box (two w i m) w.heap.size 29 i.cells ∧ Box (two w i m) (w.heap.size + 1) 52 m.cells := by
  obtain ⟨hk, h0, h1, -⟩ := al2 w iZ.cells 29 mZ.cells 52
  exact ⟨(hk.newRow (Nat.le_refl _) _).newRow (by omega) _, (h0.setRow _).rowNe (by omega) _, (h1.rowNe (by omega) _).setRow _⟩

set_option maxRecDepth 100000 in
set_option maxHeartbeats 2000000 in
theorem known_any (w : World) : Calls Try.prog 6 #[] w (fun e w' => e = .returned (.bool true) ∧ Kept No w w') := by
  obtain ⟨i1, hi1⟩ : ∃ i1, i1 = prepI iZ ⟨3, 7⟩ := ⟨_, rfl⟩
  obtain ⟨m1, hm1⟩ : ∃ m1, m1 = prepM iZ ⟨3, 7⟩ := ⟨_, rfl⟩
  have HE : Hid (i1.p = ⟨3, 7⟩ ∧ m1.k = 13 ∧ prepB iZ ⟨3, 7⟩ = true ∧ prepI i1 ⟨2, 9⟩ = i1 ∧ (prepM i1 ⟨2, 9⟩).k = 14 ∧ (prepM i1 ⟨2, 9⟩).s = ⟨3, 7⟩ ∧ prepB i1 ⟨2, 9⟩ = false) := by
    subst hi1; subst hm1; exact ⟨rfl, rfl, rfl, rfl, rfl, rfl, rfl⟩
  have HI1 : Hid (i1 = prepI iZ ⟨3, 7⟩) := hi1
  have HM1 : Hid (m1 = prepM iZ ⟨3, 7⟩) := hm1
  clear hi1 hm1
  obtain ⟨m2, hm2⟩ : ∃ m2, m2 = prepM i1 ⟨2, 9⟩ := ⟨_, rfl⟩
  have HM2 : Hid (m2 = prepM i1 ⟨2, 9⟩) := hm2
  clear hm2
  obtain ⟨N, hN⟩ : ∃ N, N = w.heap.size := ⟨_, rfl⟩
  obtain ⟨w1, hw1⟩ : ∃ w1, w1 = w.alloc (.cells #[.int .i64 3, .int .i64 7] 23) := ⟨_, rfl⟩
  have HX : Hid (Box w1 N 23 #[.int .i64 3, .int .i64 7]) := by rw [hw1, hN]; exact Box.new _ _ _
  have HK1 : Hid (Kept No w w1) := by rw [hw1]; exact (Kept.refl No w).alloc _
  go_enter Try.func6, Try.ntmps6
  go_upto_region 2 with fail
  rw [← hw1, ← hN]
  clear hw1 hN
  refine WL.start ?_
  refine wp_takeW (o := { dst := some 10, op := Op.build 29 #[], type := 29, pos := "law.go:20", after := #[], guard := none }) (.agg (iZ.cells)) (exec_build 29 _ rfl (iZ.cells) (by kernel_rfl)) (by kernel_rfl) ?_
  try simp only [Act.put, List.setIfInBounds_toArray, List.set_cons_zero, List.set_cons_succ]
  refine wp_takeW (o := { dst := some 11, op := Op.load 23 (Operand.tmp 1), type := 23, pos := "law.go:20", after := #[], guard := none }) (.agg #[.int .i64 3, .int .i64 7]) (exec_load 23 _ rfl ⟨N, 0, none⟩ (by kernel_rfl) (.agg #[.int .i64 3, .int .i64 7]) (load_S (cs := [.int .i64 3, .int .i64 7]) HX.out (Part.all _))) (by kernel_rfl) ?_
  try simp only [Act.put, List.setIfInBounds_toArray, List.set_cons_zero, List.set_cons_succ]
  refine wp_callW (o := { dst := some 12, op := Op.call { callee := Callee.value (Operand.func 11), args := #[Operand.tmp 10, Operand.tmp 11], argTypes := #[29, 23] }, type := 53, pos := "law.go:20", after := #[{ on := 0, ground := Ground.data }, { on := 1, ground := Ground.data }], guard := none }) 11 #[.agg iZ.cells, .agg #[.int .i64 3, .int .i64 7]] (by kernel_rfl) _ (prep_any iZ ⟨3, 7⟩ w1) (by kernel_rfl) ?_
  rintro e w2 ⟨rfl, hk2⟩
  have HK2 : Hid (Kept No w1 w2) := hk2
  clear hk2
  refine ⟨.tuple #[.agg i1.cells, .agg m1.cells, .bool true], by rw [← HI1.out, ← HM1.out, HE.out.2.2.1], ?_⟩
  try simp only [Act.put, List.setIfInBounds_toArray, List.set_cons_zero, List.set_cons_succ]
  refine wp_takeW (o := { dst := some 9, op := Op.move (Operand.tmp 12), type := 53, pos := "law.go:20", after := #[{ on := 2, ground := Ground.data }], guard := none }) (.tuple #[.agg i1.cells, .agg m1.cells, .bool true]) (by kernel_rfl) (by kernel_rfl) ?_
  try simp only [Act.put, List.setIfInBounds_toArray, List.set_cons_zero, List.set_cons_succ]
  refine wp_takeW (o := { dst := some 13, op := Op.extract (Operand.tmp 9) 0, type := 29, pos := "law.go:20", after := #[{ on := 3, ground := Ground.data }], guard := none }) (.agg i1.cells) (by kernel_rfl) (by kernel_rfl) ?_
  try simp only [Act.put, List.setIfInBounds_toArray, List.set_cons_zero, List.set_cons_succ]
  refine wp_takeW (o := { dst := some 14, op := Op.extract (Operand.tmp 9) 1, type := 52, pos := "law.go:20", after := #[{ on := 3, ground := Ground.data }, { on := 9, ground := Ground.gcOnly Departure.lateStores }], guard := none }) (.agg m1.cells) (by kernel_rfl) (by kernel_rfl) ?_
  try simp only [Act.put, List.setIfInBounds_toArray, List.set_cons_zero, List.set_cons_succ]
  refine wp_takeW (o := { dst := some 15, op := Op.extract (Operand.tmp 9) 2, type := 4, pos := "law.go:20", after := #[{ on := 3, ground := Ground.data }, { on := 10, ground := Ground.gcOnly Departure.lateStores }], guard := none }) (.bool true) (by kernel_rfl) (by kernel_rfl) ?_
  try simp only [Act.put, List.setIfInBounds_toArray, List.set_cons_zero, List.set_cons_succ]
  refine wp_allocW (o := { dst := some 2, op := Op.alloc 29, type := 0, pos := "law.go:20", after := #[], guard := none }) 29 rfl (iZ.cells) zero29 (w2.heap.size) (rfl) (by kernel_rfl) ?_
  try simp only [Act.put, List.setIfInBounds_toArray, List.set_cons_zero, List.set_cons_succ]
  refine wp_allocW (o := { dst := some 3, op := Op.alloc 52, type := 0, pos := "law.go:20", after := #[], guard := none }) 52 rfl (mZ.cells) zero52 (w2.heap.size + 1) (by simp) (by kernel_rfl) ?_
  try simp only [Act.put, List.setIfInBounds_toArray, List.set_cons_zero, List.set_cons_succ]
  refine wp_storeW (o := { dst := none, op := Op.store 29 (Operand.tmp 2) (Operand.tmp 13), type := 0, pos := "law.go:20", after := #[{ on := 7, ground := Ground.data }, { on := 4, ground := Ground.data }, { on := 2, ground := Ground.chain }, { on := 0, ground := Ground.phase }, { on := 1, ground := Ground.phase }, { on := 2, ground := Ground.phase }, { on := 3, ground := Ground.phase }, { on := 4, ground := Ground.phase }, { on := 5, ground := Ground.textOnly Departure.lateStores }, { on := 6, ground := Ground.textOnly Departure.lateStores }, { on := 7, ground := Ground.phase }, { on := 8, ground := Ground.phase }], guard := none }) 29 _ _ rfl ⟨w2.heap.size, 0, none⟩ (.agg i1.cells) (by kernel_rfl) (by kernel_rfl) _ (store_I (al2 w2 iZ.cells 29 mZ.cells 52).2.1 rfl) (by kernel_rfl) ?_
  try simp only [Act.put, List.setIfInBounds_toArray, List.set_cons_zero, List.set_cons_succ]
  refine wp_storeW (o := { dst := none, op := Op.store 52 (Operand.tmp 3) (Operand.tmp 14), type := 0, pos := "law.go:20", after := #[{ on := 8, ground := Ground.data }, { on := 5, ground := Ground.data }, { on := 9, ground := Ground.chain }, { on := 0, ground := Ground.phase }, { on := 1, ground := Ground.phase }, { on := 2, ground := Ground.phase }, { on := 3, ground := Ground.phase }, { on := 4, ground := Ground.phase }, { on := 5, ground := Ground.phase }, { on := 6, ground := Ground.textOnly Departure.lateStores }, { on := 7, ground := Ground.phase }, { on := 8, ground := Ground.phase }, { on := 9, ground := Ground.phase }], guard := none }) 52 _ _ rfl ⟨w2.heap.size + 1, 0, none⟩ (.agg m1.cells) (by kernel_rfl) (by kernel_rfl) _ (store_M ((al2 w2 iZ.cells 29 mZ.cells 52).2.2.1.rowNe (by omega) _) rfl) (by kernel_rfl) ?_
  try simp only [Act.put, List.setIfInBounds_toArray, List.set_cons_zero, List.set_cons_succ]
  refine wp_takeW (o := { dst := some 4, op := Op.assign (Operand.tmp 15), type := 4, pos := "law.go:20", after := #[{ on := 6, ground := Ground.data }, { on := 10, ground := Ground.chain }, { on := 0, ground := Ground.phase }, { on := 1, ground := Ground.phase }, { on := 2, ground := Ground.phase }, { on := 3, ground := Ground.phase }, { on := 4, ground := Ground.phase }, { on := 5, ground := Ground.phase }, { on := 6, ground := Ground.phase }, { on := 7, ground := Ground.phase }, { on := 8, ground := Ground.phase }, { on := 9, ground := Ground.phase }, { on := 10, ground := Ground.phase }], guard := none }) (.bool true) (by kernel_rfl) (by kernel_rfl) ?_
  try simp only [Act.put, List.setIfInBounds_toArray, List.set_cons_zero, List.set_cons_succ]
  refine WL.nil ?_
  try simp only [Act.put, List.setIfInBounds_toArray, List.set_cons_zero, List.set_cons_succ]
  have HT := two_spec w2 i1 m1
  have e2 : (((w2.alloc (.cells iZ.cells 29)).alloc (.cells mZ.cells 52)).setRow w2.heap.size i1.cells).setRow (w2.heap.size + 1) m1.cells = two w2 i1 m1 := rfl
  rw [e2]
  clear e2
  have HS : Hid (N < w2.heap.size) := (HX.out.kept HK2.out (fun e => e)).lt
  have HK3 : Hid (Kept No w (two w2 i1 m1)) := (HK1.out.then HK2.out).then HT.1
  have HX : Hid (Box (two w2 i1 m1) N 23 #[.int .i64 3, .int .i64 7]) := (HX.out.kept HK2.out (fun e => e)).kept HT.1 (fun e => e)
  have HA : Hid (Box (two w2 i1 m1) w2.heap.size 29 i1.cells) := HT.2.1
  have HB : Hid (Box (two w2 i1 m1) (w2.heap.size + 1) 52 m1.cells) := HT.2.2
  clear HT
  generalize two w2 i1 m1 = w3 at HX HA HB HK3 ⊢
  generalize w2.heap.size = A at HA HB HS ⊢
  clear HK2 HK1
  go_upto_region 3 with fail
  refine WL.start ?_
  refine wp_takeW (o := { dst := some 17, op := Op.load 29 (Operand.tmp 2), type := 29, pos := "law.go:21", after := #[], guard := none }) (.agg i1.cells) (exec_load 29 _ rfl ⟨A, 0, none⟩ (by kernel_rfl) (.agg i1.cells) (load_I HA.out)) (by kernel_rfl) ?_
  try simp only [Act.put, List.setIfInBounds_toArray, List.set_cons_zero, List.set_cons_succ]
  refine wp_takeW (o := { dst := some 18, op := Op.build 23 #[(0, Operand.const (Value.int IntKind.i64 2)), (1, Operand.const (Value.int IntKind.i64 9))], type := 23, pos := "law.go:21", after := #[], guard := none }) (.agg (#[.int .i64 2, .int .i64 9])) (exec_build 23 _ rfl (#[.int .i64 2, .int .i64 9]) (by kernel_rfl)) (by kernel_rfl) ?_
  try simp only [Act.put, List.setIfInBounds_toArray, List.set_cons_zero, List.set_cons_succ]
  refine wp_callW (o := { dst := some 19, op := Op.call { callee := Callee.value (Operand.func 11), args := #[Operand.tmp 17, Operand.tmp 18], argTypes := #[29, 23] }, type := 53, pos := "law.go:21", after := #[{ on := 0, ground := Ground.data }, { on := 1, ground := Ground.data }], guard := none }) 11 #[.agg i1.cells, .agg #[.int .i64 2, .int .i64 9]] (by kernel_rfl) _ (prep_any i1 ⟨2, 9⟩ w3) (by kernel_rfl) ?_
  rintro e w4 ⟨rfl, hk4⟩
  have HK4 : Hid (Kept No w3 w4) := hk4
  clear hk4
  refine ⟨.tuple #[.agg i1.cells, .agg m2.cells, .bool false], by rw [HM2.out, HE.out.2.2.2.1, HE.out.2.2.2.2.2.2], ?_⟩
  try simp only [Act.put, List.setIfInBounds_toArray, List.set_cons_zero, List.set_cons_succ]
  refine wp_takeW (o := { dst := some 16, op := Op.move (Operand.tmp 19), type := 53, pos := "law.go:21", after := #[{ on := 2, ground := Ground.data }], guard := none }) (.tuple #[.agg i1.cells, .agg m2.cells, .bool false]) (by kernel_rfl) (by kernel_rfl) ?_
  try simp only [Act.put, List.setIfInBounds_toArray, List.set_cons_zero, List.set_cons_succ]
  refine wp_takeW (o := { dst := some 20, op := Op.extract (Operand.tmp 16) 0, type := 29, pos := "law.go:21", after := #[{ on := 3, ground := Ground.data }], guard := none }) (.agg i1.cells) (by kernel_rfl) (by kernel_rfl) ?_
  try simp only [Act.put, List.setIfInBounds_toArray, List.set_cons_zero, List.set_cons_succ]
  refine wp_takeW (o := { dst := some 21, op := Op.extract (Operand.tmp 16) 1, type := 52, pos := "law.go:21", after := #[{ on := 3, ground := Ground.data }, { on := 9, ground := Ground.gcOnly Departure.lateStores }], guard := none }) (.agg m2.cells) (by kernel_rfl) (by kernel_rfl) ?_
  try simp only [Act.put, List.setIfInBounds_toArray, List.set_cons_zero, List.set_cons_succ]
  refine wp_takeW (o := { dst := some 22, op := Op.extract (Operand.tmp 16) 2, type := 4, pos := "law.go:21", after := #[{ on := 3, ground := Ground.data }, { on := 10, ground := Ground.gcOnly Departure.lateStores }], guard := none }) (.bool false) (by kernel_rfl) (by kernel_rfl) ?_
  try simp only [Act.put, List.setIfInBounds_toArray, List.set_cons_zero, List.set_cons_succ]
  refine wp_allocW (o := { dst := some 5, op := Op.alloc 29, type := 0, pos := "law.go:21", after := #[], guard := none }) 29 rfl (iZ.cells) zero29 (w4.heap.size) (rfl) (by kernel_rfl) ?_
  try simp only [Act.put, List.setIfInBounds_toArray, List.set_cons_zero, List.set_cons_succ]
  refine wp_allocW (o := { dst := some 6, op := Op.alloc 52, type := 0, pos := "law.go:21", after := #[], guard := none }) 52 rfl (mZ.cells) zero52 (w4.heap.size + 1) (by simp) (by kernel_rfl) ?_
  try simp only [Act.put, List.setIfInBounds_toArray, List.set_cons_zero, List.set_cons_succ]
  refine wp_storeW (o := { dst := none, op := Op.store 29 (Operand.tmp 5) (Operand.tmp 20), type := 0, pos := "law.go:21", after := #[{ on := 7, ground := Ground.data }, { on := 4, ground := Ground.data }, { on := 2, ground := Ground.chain }, { on := 0, ground := Ground.phase }, { on := 1, ground := Ground.phase }, { on := 2, ground := Ground.phase }, { on := 3, ground := Ground.phase }, { on := 4, ground := Ground.phase }, { on := 5, ground := Ground.textOnly Departure.lateStores }, { on := 6, ground := Ground.textOnly Departure.lateStores }, { on := 7, ground := Ground.phase }, { on := 8, ground := Ground.phase }], guard := none }) 29 _ _ rfl ⟨w4.heap.size, 0, none⟩ (.agg i1.cells) (by kernel_rfl) (by kernel_rfl) _ (store_I (al2 w4 iZ.cells 29 mZ.cells 52).2.1 rfl) (by kernel_rfl) ?_
  try simp only [Act.put, List.setIfInBounds_toArray, List.set_cons_zero, List.set_cons_succ]
  refine wp_storeW (o := { dst := none, op := Op.store 52 (Operand.tmp 6) (Operand.tmp 21), type := 0, pos := "law.go:21", after := #[{ on := 8, ground := Ground.data }, { on := 5, ground := Ground.data }, { on := 9, ground := Ground.chain }, { on := 0, ground := Ground.phase }, { on := 1, ground := Ground.phase }, { on := 2, ground := Ground.phase }, { on := 3, ground := Ground.phase }, { on := 4, ground := Ground.phase }, { on := 5, ground := Ground.phase }, { on := 6, ground := Ground.textOnly Departure.lateStores }, { on := 7, ground := Ground.phase }, { on := 8, ground := Ground.phase }, { on := 9, ground := Ground.phase }], guard := none }) 52 _ _ rfl ⟨w4.heap.size + 1, 0, none⟩ (.agg m2.cells) (by kernel_rfl) (by kernel_rfl) _ (store_M ((al2 w4 iZ.cells 29 mZ.cells 52).2.2.1.rowNe (by omega) _) rfl) (by kernel_rfl) ?_
  try simp only [Act.put, List.setIfInBounds_toArray, List.set_cons_zero, List.set_cons_succ]
  refine wp_takeW (o := { dst := some 7, op := Op.assign (Operand.tmp 22), type := 4, pos := "law.go:21", after := #[{ on := 6, ground := Ground.data }, { on := 10, ground := Ground.chain }, { on := 0, ground := Ground.phase }, { on := 1, ground := Ground.phase }, { on := 2, ground := Ground.phase }, { on := 3, ground := Ground.phase }, { on := 4, ground := Ground.phase }, { on := 5, ground := Ground.phase }, { on := 6, ground := Ground.phase }, { on := 7, ground := Ground.phase }, { on := 8, ground := Ground.phase }, { on := 9, ground := Ground.phase }, { on := 10, ground := Ground.phase }], guard := none }) (.bool false) (by kernel_rfl) (by kernel_rfl) ?_
  try simp only [Act.put, List.setIfInBounds_toArray, List.set_cons_zero, List.set_cons_succ]
  refine WL.nil ?_
  try simp only [Act.put, List.setIfInBounds_toArray, List.set_cons_zero, List.set_cons_succ]
  have HT := two_spec w4 i1 m2
  have e2 : (((w4.alloc (.cells iZ.cells 29)).alloc (.cells mZ.cells 52)).setRow w4.heap.size i1.cells).setRow (w4.heap.size + 1) m2.cells = two w4 i1 m2 := rfl
  rw [e2]
  clear e2
  have hk := HK4.out.then HT.1
  have HX : Hid (Box (two w4 i1 m2) N 23 #[.int .i64 3, .int .i64 7]) := HX.out.kept hk (fun e => e)
  have HA : Hid (Box (two w4 i1 m2) A 29 i1.cells) := HA.out.kept hk (fun e => e)
  have HB : Hid (Box (two w4 i1 m2) (A + 1) 52 m1.cells) := HB.out.kept hk (fun e => e)
  have HK : Hid (Kept No w (two w4 i1 m2)) := HK3.out.then hk
  have HC : Hid (Box (two w4 i1 m2) w4.heap.size 29 i1.cells) := HT.2.1
  have HD : Hid (Box (two w4 i1 m2) (w4.heap.size + 1) 52 m2.cells) := HT.2.2
  clear HT hk
  generalize two w4 i1 m2 = w5 at HX HA HB HC HD HK ⊢
  generalize w4.heap.size = B at HC HD ⊢
  clear HK4 HK3
  go_upto_region 4 with fail
  refine WL.start ?_
  refine wp_takeW (o := { dst := some 23, op := Op.move (Operand.tmp 4), type := 4, pos := "law.go:22", after := #[], guard := none }) (.bool true) (by kernel_rfl) (by kernel_rfl) ?_
  try simp only [Act.put, List.setIfInBounds_toArray, List.set_cons_zero, List.set_cons_succ]
  refine wp_takeW (o := { dst := some 24, op := Op.move (Operand.tmp 23), type := 4, pos := "law.go:22", after := #[{ on := 0, ground := Ground.data }], guard := none }) (.bool true) (by kernel_rfl) (by kernel_rfl) ?_
  try simp only [Act.put, List.setIfInBounds_toArray, List.set_cons_zero, List.set_cons_succ]
  refine wp_takeW (o := { dst := some 25, op := Op.move (Operand.tmp 7), type := 4, pos := "law.go:22", after := #[{ on := 1, ground := Ground.guard }], guard := some (1, true) }) (.bool false) (by kernel_rfl) (by kernel_rfl) ?_
  try simp only [Act.put, List.setIfInBounds_toArray, List.set_cons_zero, List.set_cons_succ]
  refine wp_takeW (o := { dst := some 26, op := Op.unOp UnOp.not 4 (Operand.tmp 25), type := 4, pos := "law.go:22", after := #[{ on := 2, ground := Ground.data }, { on := 1, ground := Ground.guard }], guard := some (1, true) }) (.bool true) (by kernel_rfl) (by kernel_rfl) ?_
  try simp only [Act.put, List.setIfInBounds_toArray, List.set_cons_zero, List.set_cons_succ]
  refine wp_takeW (o := { dst := some 27, op := Op.pick (Operand.tmp 24) (Operand.tmp 26) (Operand.const (Value.bool false)), type := 4, pos := "law.go:22", after := #[{ on := 1, ground := Ground.data }, { on := 3, ground := Ground.data }], guard := none }) (.bool true) (by kernel_rfl) (by kernel_rfl) ?_
  try simp only [Act.put, List.setIfInBounds_toArray, List.set_cons_zero, List.set_cons_succ]
  refine wp_takeW (o := { dst := some 28, op := Op.move (Operand.tmp 27), type := 4, pos := "law.go:22", after := #[{ on := 4, ground := Ground.data }, { on := 1, ground := Ground.chain }], guard := none }) (.bool true) (by kernel_rfl) (by kernel_rfl) ?_
  try simp only [Act.put, List.setIfInBounds_toArray, List.set_cons_zero, List.set_cons_succ]
  refine wp_takeW (o := { dst := some 29, op := Op.fieldAddr 29 (Operand.tmp 2) 0, type := 0, pos := "law.go:22", after := #[{ on := 5, ground := Ground.guard }], guard := some (5, true) }) (.pointer (some ⟨A, 0, none⟩)) (by kernel_rfl) (by kernel_rfl) ?_
  try simp only [Act.put, List.setIfInBounds_toArray, List.set_cons_zero, List.set_cons_succ]
  refine wp_takeW (o := { dst := some 30, op := Op.load 23 (Operand.tmp 29), type := 23, pos := "law.go:22", after := #[{ on := 6, ground := Ground.data }, { on := 5, ground := Ground.guard }], guard := some (5, true) }) (.agg #[.int .i64 i1.p.n, .int .i64 i1.p.c]) (exec_load 23 _ rfl ⟨A, 0, none⟩ (by kernel_rfl) (.agg #[.int .i64 i1.p.n, .int .i64 i1.p.c]) (load_S HA.out i1.partP)) (by kernel_rfl) ?_
  try simp only [Act.put, List.setIfInBounds_toArray, List.set_cons_zero, List.set_cons_succ]
  refine wp_takeW (o := { dst := some 31, op := Op.load 23 (Operand.tmp 1), type := 23, pos := "law.go:22", after := #[{ on := 5, ground := Ground.guard }], guard := some (5, true) }) (.agg #[.int .i64 3, .int .i64 7]) (exec_load 23 _ rfl ⟨N, 0, none⟩ (by kernel_rfl) (.agg #[.int .i64 3, .int .i64 7]) (load_S (cs := [.int .i64 3, .int .i64 7]) HX.out (Part.all _))) (by kernel_rfl) ?_
  try simp only [Act.put, List.setIfInBounds_toArray, List.set_cons_zero, List.set_cons_succ]
  refine wp_takeW (o := { dst := some 32, op := Op.binOp BinOp.eql 23 (Operand.tmp 30) (Operand.tmp 31) 23, type := 4, pos := "law.go:22", after := #[{ on := 7, ground := Ground.data }, { on := 8, ground := Ground.data }, { on := 5, ground := Ground.guard }], guard := some (5, true) }) (.bool true) (exec_bin .eql 23 _ _ _ rfl (.agg #[.int .i64 i1.p.n, .int .i64 i1.p.c]) (.agg #[.int .i64 3, .int .i64 7]) (.bool true) (by kernel_rfl) (by kernel_rfl) (guard_S _ (.inl rfl) _ _ _ _ _) (by rw [eqlS i1.p ⟨3, 7⟩, HE.out.1]; rfl)) (by kernel_rfl) ?_
  try simp only [Act.put, List.setIfInBounds_toArray, List.set_cons_zero, List.set_cons_succ]
  refine wp_takeW (o := { dst := some 33, op := Op.pick (Operand.tmp 28) (Operand.tmp 32) (Operand.const (Value.bool false)), type := 4, pos := "law.go:22", after := #[{ on := 5, ground := Ground.data }, { on := 9, ground := Ground.data }], guard := none }) (.bool true) (by kernel_rfl) (by kernel_rfl) ?_
  try simp only [Act.put, List.setIfInBounds_toArray, List.set_cons_zero, List.set_cons_succ]
  refine wp_takeW (o := { dst := some 34, op := Op.move (Operand.tmp 33), type := 4, pos := "law.go:22", after := #[{ on := 10, ground := Ground.data }, { on := 5, ground := Ground.chain }], guard := none }) (.bool true) (by kernel_rfl) (by kernel_rfl) ?_
  try simp only [Act.put, List.setIfInBounds_toArray, List.set_cons_zero, List.set_cons_succ]
  refine wp_takeW (o := { dst := some 35, op := Op.load 29 (Operand.tmp 5), type := 29, pos := "law.go:22", after := #[{ on := 11, ground := Ground.guard }], guard := some (11, true) }) (.agg i1.cells) (exec_load 29 _ rfl ⟨B, 0, none⟩ (by kernel_rfl) (.agg i1.cells) (load_I HC.out)) (by kernel_rfl) ?_
  try simp only [Act.put, List.setIfInBounds_toArray, List.set_cons_zero, List.set_cons_succ]
  refine wp_takeW (o := { dst := some 36, op := Op.load 29 (Operand.tmp 2), type := 29, pos := "law.go:22", after := #[{ on := 11, ground := Ground.guard }], guard := some (11, true) }) (.agg i1.cells) (exec_load 29 _ rfl ⟨A, 0, none⟩ (by kernel_rfl) (.agg i1.cells) (load_I HA.out)) (by kernel_rfl) ?_
  try simp only [Act.put, List.setIfInBounds_toArray, List.set_cons_zero, List.set_cons_succ]
  refine wp_takeW (o := { dst := some 37, op := Op.binOp BinOp.eql 29 (Operand.tmp 35) (Operand.tmp 36) 29, type := 4, pos := "law.go:22", after := #[{ on := 12, ground := Ground.data }, { on := 13, ground := Ground.data }, { on := 11, ground := Ground.guard }], guard := some (11, true) }) (.bool true) (exec_bin .eql 29 _ _ _ rfl (.agg i1.cells) (.agg i1.cells) (.bool true) (by kernel_rfl) (by kernel_rfl) (guard_I _ (.inl rfl) _ _ _ _ _) (by rw [eqlI, eqI_refl])) (by kernel_rfl) ?_
  try simp only [Act.put, List.setIfInBounds_toArray, List.set_cons_zero, List.set_cons_succ]
  refine wp_takeW (o := { dst := some 38, op := Op.pick (Operand.tmp 34) (Operand.tmp 37) (Operand.const (Value.bool false)), type := 4, pos := "law.go:22", after := #[{ on := 11, ground := Ground.data }, { on := 14, ground := Ground.data }], guard := none }) (.bool true) (by kernel_rfl) (by kernel_rfl) ?_
  try simp only [Act.put, List.setIfInBounds_toArray, List.set_cons_zero, List.set_cons_succ]
  refine wp_takeW (o := { dst := some 39, op := Op.move (Operand.tmp 38), type := 4, pos := "law.go:22", after := #[{ on := 15, ground := Ground.data }, { on := 11, ground := Ground.chain }], guard := none }) (.bool true) (by kernel_rfl) (by kernel_rfl) ?_
  try simp only [Act.put, List.setIfInBounds_toArray, List.set_cons_zero, List.set_cons_succ]
  refine wp_takeW (o := { dst := some 40, op := Op.fieldAddr 52 (Operand.tmp 3) 0, type := 0, pos := "law.go:22", after := #[{ on := 16, ground := Ground.guard }], guard := some (16, true) }) (.pointer (some ⟨A + 1, 0, none⟩)) (by kernel_rfl) (by kernel_rfl) ?_
  try simp only [Act.put, List.setIfInBounds_toArray, List.set_cons_zero, List.set_cons_succ]
  refine wp_takeW (o := { dst := some 41, op := Op.load 3 (Operand.tmp 40), type := 3, pos := "law.go:22", after := #[{ on := 17, ground := Ground.data }, { on := 16, ground := Ground.guard }], guard := some (16, true) }) (.int .i64 m1.k) (exec_load 3 _ rfl ⟨A + 1, 0, none⟩ (by kernel_rfl) (.int .i64 m1.k) (load_N (Mg.cel HB.out).1)) (by kernel_rfl) ?_
  try simp only [Act.put, List.setIfInBounds_toArray, List.set_cons_zero, List.set_cons_succ]
  refine wp_takeW (o := { dst := some 42, op := Op.binOp BinOp.eql 3 (Operand.tmp 41) (Operand.const (Value.int IntKind.i64 13)) 3, type := 4, pos := "law.go:22", after := #[{ on := 18, ground := Ground.data }, { on := 16, ground := Ground.guard }], guard := some (16, true) }) (.bool true) (exec_bin .eql 3 _ _ _ rfl (.int .i64 m1.k) (.int .i64 13) (.bool true) (by kernel_rfl) (by kernel_rfl) (by kernel_rfl) (by rw [eqlN, HE.out.2.1]; rfl)) (by kernel_rfl) ?_
  try simp only [Act.put, List.setIfInBounds_toArray, List.set_cons_zero, List.set_cons_succ]
  refine wp_takeW (o := { dst := some 43, op := Op.pick (Operand.tmp 39) (Operand.tmp 42) (Operand.const (Value.bool false)), type := 4, pos := "law.go:22", after := #[{ on := 16, ground := Ground.data }, { on := 19, ground := Ground.data }], guard := none }) (.bool true) (by kernel_rfl) (by kernel_rfl) ?_
  try simp only [Act.put, List.setIfInBounds_toArray, List.set_cons_zero, List.set_cons_succ]
  refine wp_takeW (o := { dst := some 44, op := Op.move (Operand.tmp 43), type := 4, pos := "law.go:22", after := #[{ on := 20, ground := Ground.data }, { on := 16, ground := Ground.chain }], guard := none }) (.bool true) (by kernel_rfl) (by kernel_rfl) ?_
  try simp only [Act.put, List.setIfInBounds_toArray, List.set_cons_zero, List.set_cons_succ]
  refine wp_takeW (o := { dst := some 45, op := Op.fieldAddr 52 (Operand.tmp 6) 0, type := 0, pos := "law.go:22", after := #[{ on := 21, ground := Ground.guard }], guard := some (21, true) }) (.pointer (some ⟨B + 1, 0, none⟩)) (by kernel_rfl) (by kernel_rfl) ?_
  try simp only [Act.put, List.setIfInBounds_toArray, List.set_cons_zero, List.set_cons_succ]
  refine wp_takeW (o := { dst := some 46, op := Op.load 3 (Operand.tmp 45), type := 3, pos := "law.go:22", after := #[{ on := 22, ground := Ground.data }, { on := 21, ground := Ground.guard }], guard := some (21, true) }) (.int .i64 m2.k) (exec_load 3 _ rfl ⟨B + 1, 0, none⟩ (by kernel_rfl) (.int .i64 m2.k) (load_N (Mg.cel HD.out).1)) (by kernel_rfl) ?_
  try simp only [Act.put, List.setIfInBounds_toArray, List.set_cons_zero, List.set_cons_succ]
  refine wp_takeW (o := { dst := some 47, op := Op.binOp BinOp.eql 3 (Operand.tmp 46) (Operand.const (Value.int IntKind.i64 14)) 3, type := 4, pos := "law.go:22", after := #[{ on := 23, ground := Ground.data }, { on := 21, ground := Ground.guard }], guard := some (21, true) }) (.bool true) (exec_bin .eql 3 _ _ _ rfl (.int .i64 m2.k) (.int .i64 14) (.bool true) (by kernel_rfl) (by kernel_rfl) (by kernel_rfl) (by rw [eqlN, HM2.out, HE.out.2.2.2.2.1]; rfl)) (by kernel_rfl) ?_
  try simp only [Act.put, List.setIfInBounds_toArray, List.set_cons_zero, List.set_cons_succ]
  refine wp_takeW (o := { dst := some 48, op := Op.pick (Operand.tmp 44) (Operand.tmp 47) (Operand.const (Value.bool false)), type := 4, pos := "law.go:22", after := #[{ on := 21, ground := Ground.data }, { on := 24, ground := Ground.data }], guard := none }) (.bool true) (by kernel_rfl) (by kernel_rfl) ?_
  try simp only [Act.put, List.setIfInBounds_toArray, List.set_cons_zero, List.set_cons_succ]
  refine wp_takeW (o := { dst := some 49, op := Op.move (Operand.tmp 48), type := 4, pos := "law.go:22", after := #[{ on := 25, ground := Ground.data }, { on := 21, ground := Ground.chain }], guard := none }) (.bool true) (by kernel_rfl) (by kernel_rfl) ?_
  try simp only [Act.put, List.setIfInBounds_toArray, List.set_cons_zero, List.set_cons_succ]
  refine wp_takeW (o := { dst := some 50, op := Op.fieldAddr 52 (Operand.tmp 6) 6, type := 0, pos := "law.go:22", after := #[{ on := 26, ground := Ground.guard }], guard := some (26, true) }) (.pointer (some ⟨B + 1, 11, none⟩)) (by kernel_rfl) (by kernel_rfl) ?_
  try simp only [Act.put, List.setIfInBounds_toArray, List.set_cons_zero, List.set_cons_succ]
  refine wp_takeW (o := { dst := some 51, op := Op.load 23 (Operand.tmp 50), type := 23, pos := "law.go:22", after := #[{ on := 27, ground := Ground.data }, { on := 26, ground := Ground.guard }], guard := some (26, true) }) (.agg #[.int .i64 m2.s.n, .int .i64 m2.s.c]) (exec_load 23 _ rfl ⟨B + 1, 11, none⟩ (by kernel_rfl) (.agg #[.int .i64 m2.s.n, .int .i64 m2.s.c]) (load_S HD.out m2.partS)) (by kernel_rfl) ?_
  try simp only [Act.put, List.setIfInBounds_toArray, List.set_cons_zero, List.set_cons_succ]
  refine wp_takeW (o := { dst := some 52, op := Op.load 23 (Operand.tmp 1), type := 23, pos := "law.go:22", after := #[{ on := 26, ground := Ground.guard }], guard := some (26, true) }) (.agg #[.int .i64 3, .int .i64 7]) (exec_load 23 _ rfl ⟨N, 0, none⟩ (by kernel_rfl) (.agg #[.int .i64 3, .int .i64 7]) (load_S (cs := [.int .i64 3, .int .i64 7]) HX.out (Part.all _))) (by kernel_rfl) ?_
  try simp only [Act.put, List.setIfInBounds_toArray, List.set_cons_zero, List.set_cons_succ]
  refine wp_takeW (o := { dst := some 53, op := Op.binOp BinOp.eql 23 (Operand.tmp 51) (Operand.tmp 52) 23, type := 4, pos := "law.go:22", after := #[{ on := 28, ground := Ground.data }, { on := 29, ground := Ground.data }, { on := 26, ground := Ground.guard }], guard := some (26, true) }) (.bool true) (exec_bin .eql 23 _ _ _ rfl (.agg #[.int .i64 m2.s.n, .int .i64 m2.s.c]) (.agg #[.int .i64 3, .int .i64 7]) (.bool true) (by kernel_rfl) (by kernel_rfl) (guard_S _ (.inl rfl) _ _ _ _ _) (by rw [eqlS m2.s ⟨3, 7⟩, HM2.out, HE.out.2.2.2.2.2.1]; rfl)) (by kernel_rfl) ?_
  try simp only [Act.put, List.setIfInBounds_toArray, List.set_cons_zero, List.set_cons_succ]
  refine wp_takeW (o := { dst := some 54, op := Op.pick (Operand.tmp 49) (Operand.tmp 53) (Operand.const (Value.bool false)), type := 4, pos := "law.go:22", after := #[{ on := 26, ground := Ground.data }, { on := 30, ground := Ground.data }], guard := none }) (.bool true) (by kernel_rfl) (by kernel_rfl) ?_
  try simp only [Act.put, List.setIfInBounds_toArray, List.set_cons_zero, List.set_cons_succ]
  refine wp_takeW (o := { dst := some 0, op := Op.assign (Operand.tmp 54), type := 4, pos := "law.go:22", after := #[{ on := 31, ground := Ground.data }, { on := 26, ground := Ground.chain }, { on := 0, ground := Ground.phase }, { on := 1, ground := Ground.phase }, { on := 2, ground := Ground.phase }, { on := 3, ground := Ground.phase }, { on := 4, ground := Ground.phase }, { on := 5, ground := Ground.phase }, { on := 6, ground := Ground.phase }, { on := 7, ground := Ground.phase }, { on := 8, ground := Ground.phase }, { on := 9, ground := Ground.phase }, { on := 10, ground := Ground.phase }, { on := 11, ground := Ground.phase }, { on := 12, ground := Ground.phase }, { on := 13, ground := Ground.phase }, { on := 14, ground := Ground.phase }, { on := 15, ground := Ground.phase }, { on := 16, ground := Ground.phase }, { on := 17, ground := Ground.phase }, { on := 18, ground := Ground.phase }, { on := 19, ground := Ground.phase }, { on := 20, ground := Ground.phase }, { on := 21, ground := Ground.phase }, { on := 22, ground := Ground.phase }, { on := 23, ground := Ground.phase }, { on := 24, ground := Ground.phase }, { on := 25, ground := Ground.phase }, { on := 26, ground := Ground.phase }, { on := 27, ground := Ground.phase }, { on := 28, ground := Ground.phase }, { on := 29, ground := Ground.phase }, { on := 30, ground := Ground.phase }, { on := 31, ground := Ground.phase }], guard := none }) (.bool true) (by kernel_rfl) (by kernel_rfl) ?_
  try simp only [Act.put, List.setIfInBounds_toArray, List.set_cons_zero, List.set_cons_succ]
  refine WL.nil ?_
  try simp only [Act.put, List.setIfInBounds_toArray, List.set_cons_zero, List.set_cons_succ]
  go_wp2
  go_ret
  exact ⟨rfl, HK.out⟩

end Go.Proofs.Ytapjnanenfcdjaa
