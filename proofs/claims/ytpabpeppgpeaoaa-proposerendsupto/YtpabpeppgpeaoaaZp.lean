import Derived.Test.YtpabpeppgpeaoaaZo
namespace Go.Proofs.Ytpabpeppgpeaoaa
open Go.RowKit Gt
set_option linter.unusedVariables false
set_option linter.unusedSimpArgs false

theorem Try.und66e : Try.prog.underlying 66 = some (.slice (Try.prog.elem 66)) := by kernel_rfl
theorem Try.size66e : (Try.prog.info? (Try.prog.elem 66)).map (·.size) = some 30 := by kernel_rfl
theorem cell_lt {w : World} {g i : Nat} {v : Value} (h : w.cell? ⟨g, i, none⟩ = some v) : g < w.heap.size := by
  rcases Nat.lt_or_ge g w.heap.size with h' | h'
  · exact h'
  · rw [World.cell?, Array.getElem?_eq_none h'] at h
    cases h
set_option maxRecDepth 100000 in
set_option maxHeartbeats 4000000 in
theorem known_any (w : World) : Calls Try.prog 8 #[] w (fun e w' => e = .returned (.bool true) ∧ Kept No w w') := by
  refine hideC fun C HC => ?_
  go_enter Try.func8, Try.ntmps8
  go_upto_region 1 with fail
  refine WL.start ?_
  refine wp_takeW (o := { dst := some 9, op := Op.build 23 #[(0, Operand.const (Value.int IntKind.i64 3)), (1, Operand.const (Value.int IntKind.i64 2)), (2, Operand.const (Value.int IntKind.i64 5))], type := 23, pos := "law.go:40", after := #[], guard := none }) (.agg (kK.cells)) (exec_build 23 _ rfl (kK.cells) (by kernel_rfl)) (by kernel_rfl) ?_
  try simp only [pS]
  try simp only [pS]
  refine wp_allocW (o := { dst := some 1, op := Op.alloc 23, type := 0, pos := "law.go:40", after := #[], guard := none }) 23 rfl (kyZ.cells) zero23' (w.heap.size) (rfl) (by kernel_rfl) ?_
  try simp only [pS]
  have H1 : Hid (Box (w.alloc (.cells kyZ.cells 23)) w.heap.size 23 kyZ.cells) := Box.new _ _ _
  have HK : Hid (Kept No w (w.alloc (.cells kyZ.cells 23))) := (Kept.refl No w).alloc _
  have HB1 : Hid (w.heap.size ≤ w.heap.size ∧ w.heap.size < (w.alloc (.cells kyZ.cells 23)).heap.size) := ⟨Nat.le_refl _, by simp⟩
  obtain ⟨B1, hB1⟩ : ∃ B, B = w.heap.size := ⟨_, rfl⟩
  rw [← hB1] at H1 ⊢
  have HB1 : Hid (w.heap.size ≤ B1 ∧ B1 < (w.alloc (.cells kyZ.cells 23)).heap.size) := by rw [hB1]; exact HB1.out
  clear hB1
  generalize w.alloc (.cells kyZ.cells 23) = w1 at H1 HK HB1 ⊢
  refine wp_storeW (o := { dst := none, op := Op.store 23 (Operand.tmp 1) (Operand.tmp 9), type := 0, pos := "law.go:40", after := #[{ on := 1, ground := Ground.data }, { on := 0, ground := Ground.data }, { on := 0, ground := Ground.phase }, { on := 1, ground := Ground.phase }], guard := none }) 23 _ _ rfl ⟨B1, 0, none⟩ (.agg kK.cells) (by kernel_rfl) (by kernel_rfl) _ (store_K H1.out rfl) (by kernel_rfl) ?_
  try simp only [pS]
  have H1 : Hid (Box (w1.setRow B1 kK.cells) B1 23 kK.cells) := H1.out.setRow _
  have HK : Hid (Kept No w (w1.setRow B1 kK.cells)) := HK.out.newRow HB1.out.1 _
  have HB1 : Hid (w.heap.size ≤ B1 ∧ B1 < (w1.setRow B1 kK.cells).heap.size) := ⟨HB1.out.1, by rw [setRow_size]; exact HB1.out.2⟩
  generalize w1.setRow B1 kK.cells = w2 at H1 HK HB1 ⊢
  refine WL.nil ?_
  try simp only [pS]
  go_upto_region 2 with fail
  refine WL.start ?_
  refine wp_takeW (o := { dst := some 10, op := Op.build 28 #[(0, Operand.const (Value.int IntKind.i64 4)), (1, Operand.const (Value.int IntKind.i64 7)), (2, Operand.const (Value.int IntKind.i64 4))], type := 28, pos := "law.go:41", after := #[], guard := none }) (.agg (kX.cells)) (exec_build 28 _ rfl (kX.cells) (by kernel_rfl)) (by kernel_rfl) ?_
  try simp only [pS]
  try simp only [pS]
  refine wp_allocW (o := { dst := some 2, op := Op.alloc 28, type := 0, pos := "law.go:41", after := #[], guard := none }) 28 rfl (cZ.cells) zero28 (w2.heap.size) (rfl) (by kernel_rfl) ?_
  try simp only [pS]
  have H2 : Hid (Box (w2.alloc (.cells cZ.cells 28)) w2.heap.size 28 cZ.cells) := Box.new _ _ _
  have hsz := HK.out.size
  have HK : Hid (Kept No w (w2.alloc (.cells cZ.cells 28))) := HK.out.alloc _
  have H1 : Hid (Box (w2.alloc (.cells cZ.cells 28)) B1 23 kK.cells) := H1.out.alloc _
  obtain ⟨B2, hB2⟩ : ∃ B, B = w2.heap.size := ⟨_, rfl⟩
  rw [← hB2] at H2 ⊢
  have HB2 : Hid (w.heap.size ≤ B1 ∧ B1 < B2 ∧ B2 < (w2.alloc (.cells cZ.cells 28)).heap.size) := by rw [hB2]; exact ⟨HB1.out.1, HB1.out.2, by simp⟩
  clear hB2 HB1 hsz
  generalize w2.alloc (.cells cZ.cells 28) = w3 at H1 H2 HK HB2 ⊢
  refine wp_storeW (o := { dst := none, op := Op.store 28 (Operand.tmp 2) (Operand.tmp 10), type := 0, pos := "law.go:41", after := #[{ on := 1, ground := Ground.data }, { on := 0, ground := Ground.data }, { on := 0, ground := Ground.phase }, { on := 1, ground := Ground.phase }], guard := none }) 28 _ _ rfl ⟨B2, 0, none⟩ (.agg kX.cells) (by kernel_rfl) (by kernel_rfl) _ (store_C H2.out rfl) (by kernel_rfl) ?_
  try simp only [pS]
  have H2 : Hid (Box (w3.setRow B2 kX.cells) B2 28 kX.cells) := H2.out.setRow _
  have H1 : Hid (Box (w3.setRow B2 kX.cells) B1 23 kK.cells) := H1.out.rowNe (by have := HB2.out; omega) _
  have HK : Hid (Kept No w (w3.setRow B2 kX.cells)) := HK.out.newRow (by have := HB2.out; omega) _
  have HB2 : Hid (w.heap.size ≤ B1 ∧ B1 < B2 ∧ B2 < (w3.setRow B2 kX.cells).heap.size) := ⟨HB2.out.1, HB2.out.2.1, by rw [setRow_size]; exact HB2.out.2.2⟩
  generalize w3.setRow B2 kX.cells = w4 at H1 H2 HK HB2 ⊢
  refine WL.nil ?_
  try simp only [pS]
  go_upto_region 3 with fail
  refine WL.start ?_
  refine wp_takeW (o := { dst := some 11, op := Op.load 23 (Operand.tmp 1), type := 23, pos := "law.go:42", after := #[], guard := none }) (.agg kK.cells) (exec_load 23 _ rfl ⟨B1, 0, none⟩ (by kernel_rfl) (.agg kK.cells) (load_Ky H1.out)) (by kernel_rfl) ?_
  try simp only [pS]
  try simp only [pS]
  refine wp_runW (o := { dst := some 12, op := Op.buildSlice 24 1 #[(0, Operand.const (Value.int IntKind.i64 3))], type := 24, pos := "law.go:42", after := #[], guard := none }) (.slice (some ⟨w4.heap.size, 0, none⟩) 1 1) (w4.alloc (.cells #[.int .i64 3] 3)) (exec_slice2 24 3 _ rfl #[.int .i64 3] (.int .i64 3) (by kernel_rfl) (slice1_i 3 w4)) (by kernel_rfl) ?_
  try simp only [pS]
  have HZ : Hid (Nums .i64 (w4.alloc (.cells #[.int .i64 3] 3)) (some ⟨w4.heap.size, 0, none⟩) [3]) := by
    have := Box.nums (zs := [3]) (Box.new w4 3 #[.int .i64 3]) 1
    exact this
  have H1 : Hid (Box (w4.alloc (.cells #[.int .i64 3] 3)) B1 23 kK.cells) := H1.out.alloc _
  have H2 : Hid (Box (w4.alloc (.cells #[.int .i64 3] 3)) B2 28 kX.cells) := H2.out.alloc _
  have HK : Hid (Kept No w (w4.alloc (.cells #[.int .i64 3] 3))) := HK.out.alloc _
  have HB2 : Hid (w.heap.size ≤ B1 ∧ B1 < B2 ∧ B2 < (w4.alloc (.cells #[.int .i64 3] 3)).heap.size) := ⟨HB2.out.1, HB2.out.2.1, by have := HB2.out.2.2; simp; omega⟩
  generalize w4.alloc (.cells #[.int .i64 3] 3) = w5 at H1 H2 HK HB2 HZ ⊢
  generalize w4.heap.size = B3 at HZ ⊢
  refine wp_takeW (o := { dst := some 13, op := Op.load 28 (Operand.tmp 2), type := 28, pos := "law.go:42", after := #[], guard := none }) (.agg kX.cells) (exec_load 28 _ rfl ⟨B2, 0, none⟩ (by kernel_rfl) (.agg kX.cells) (load_C H2.out)) (by kernel_rfl) ?_
  try simp only [pS]
  try simp only [pS]
  refine wp_callW (o := { dst := some 14, op := Op.call { callee := Callee.value (Operand.func 9), args := #[Operand.const (Value.int IntKind.i64 7), Operand.const (Value.int IntKind.i64 4), Operand.tmp 11, Operand.tmp 12, Operand.tmp 13, Operand.const (Value.int IntKind.i64 2), Operand.const (Value.int IntKind.i64 10)], argTypes := #[3, 3, 23, 24, 28, 3, 3] }, type := 31, pos := "law.go:42", after := #[{ on := 0, ground := Ground.data }, { on := 1, ground := Ground.data }, { on := 2, ground := Ground.data }], guard := none }) 9 #[.int .i64 7, .int .i64 4, .agg kK.cells, .slice (some ⟨B3, 0, none⟩) 1 1, .agg kX.cells, .int .i64 2, .int .i64 10] (by kernel_rfl) _ (new_P 7 4 kK (some ⟨B3, 0, none⟩) 1 1 [3] kX 2 10 w5 rfl (by decide) HZ.out) (by kernel_rfl) ?_
  rintro e w6 ⟨p, I0, rfl, hP, hI, hk⟩
  refine ⟨.pointer (some ⟨p, 0, none⟩), rfl, ?_⟩
  try simp only [pS]
  have HP : Hid (Prp w6 I0 p k0) := hP
  have HI : Hid (∀ k, I0 k → B2 < k ∧ NotM w6 k) := show ∀ k, I0 k → B2 < k ∧ NotM w6 k from fun k e => ⟨by have := (hI k e).1; have := HB2.out; omega, (hI k e).2.2⟩
  have H1 : Hid (Box w6 B1 23 kK.cells) := H1.out.kept hk (fun e => e)
  have H2 : Hid (Box w6 B2 28 kX.cells) := H2.out.kept hk (fun e => e)
  have HK : Hid (Kept No w w6) := HK.out.then hk
  have HB2 : Hid (w.heap.size ≤ B1 ∧ B1 < B2) := ⟨HB2.out.1, HB2.out.2.1⟩
  clear hP hI hk HZ
  refine wp_takeW (o := { dst := some 3, op := Op.assign (Operand.tmp 14), type := 31, pos := "law.go:42", after := #[{ on := 3, ground := Ground.data }, { on := 3, ground := Ground.chain }, { on := 0, ground := Ground.phase }, { on := 1, ground := Ground.phase }, { on := 2, ground := Ground.phase }, { on := 3, ground := Ground.phase }], guard := none }) (.pointer (some ⟨p, 0, none⟩)) (by kernel_rfl) (by kernel_rfl) ?_
  try simp only [pS]
  try simp only [pS]
  refine WL.nil ?_
  try simp only [pS]
  go_upto_region 4 with fail
  refine WL.start ?_
  refine wp_takeW (o := { dst := some 15, op := Op.move (Operand.tmp 3), type := 31, pos := "law.go:43", after := #[], guard := none }) (.pointer (some ⟨p, 0, none⟩)) (by kernel_rfl) (by kernel_rfl) ?_
  try simp only [pS]
  try simp only [pS]
  refine wp_takeW (o := { dst := some 16, op := Op.binOp BinOp.eql 31 (Operand.tmp 15) (Operand.const (Value.pointer none)) 31, type := 4, pos := "law.go:43", after := #[{ on := 0, ground := Ground.data }], guard := none }) (.bool false) (by kernel_rfl) (by kernel_rfl) ?_
  try simp only [pS]
  refine WL.nil ?_
  try simp only [pS]
  go_upto_region 6 with fail
  refine WL.start ?_
  refine wp_takeW (o := { dst := some 17, op := Op.move (Operand.tmp 3), type := 31, pos := "law.go:46", after := #[], guard := none }) (.pointer (some ⟨p, 0, none⟩)) (by kernel_rfl) (by kernel_rfl) ?_
  try simp only [pS]
  try simp only [pS]
  refine wp_callW (o := { dst := some 18, op := Op.call { callee := Callee.value (Operand.func 18), args := #[Operand.tmp 17], argTypes := #[31] }, type := 66, pos := "law.go:46", after := #[{ on := 0, ground := Ground.data }], guard := none }) 18 #[.pointer (some ⟨p, 0, none⟩)] (by kernel_rfl) _ (begin_P HP.out) (by kernel_rfl) ?_
  rintro e w7 ⟨la1, lc1, I1, rfl, hO, hP, hI, hk⟩
  refine ⟨.slice la1 (begS k0).2.length lc1, rfl, ?_⟩
  try simp only [pS]
  have HI0 := HI
  have HP : Hid (Prp w7 I1 p k1) := hP
  have HI : Hid (∀ k, I1 k → B2 < k ∧ NotM w7 k) := show ∀ k, I1 k → B2 < k ∧ NotM w7 k from fun k e => ⟨by
    rcases (hI k e).1 with h | h
    · exact (HI.out k h).1
    · have := H2.out.lt; omega, (hI k e).2.2⟩
  have H1' : Hid (Box w7 B1 23 kK.cells) := H1.out.kept hk (fun e => by have := (HI0.out _ e).1; have := HB2.out; omega)
  have H2' : Hid (Box w7 B2 28 kX.cells) := H2.out.kept hk (fun e => by have := (HI0.out _ e).1; omega)
  have HT1 : Hid (Told w7 0 la1 lc1 ((begS k0).2)) := Own.lower hO (Nat.zero_le _)
  have HK : Hid (Kept No w w7) := HK.out.trans hk (fun _ e => e) (fun k l e => by have := (HI0.out k e).1; have := HB2.out; omega)
  clear H1 H2 HI0 hO hP hI hk
  have H1 := H1'
  have H2 := H2'
  clear H1' H2'
  refine wp_takeW (o := { dst := some 4, op := Op.assign (Operand.tmp 18), type := 66, pos := "law.go:46", after := #[{ on := 1, ground := Ground.data }, { on := 1, ground := Ground.chain }, { on := 0, ground := Ground.phase }, { on := 1, ground := Ground.phase }], guard := none }) (.slice la1 (begS k0).2.length lc1) (by kernel_rfl) (by kernel_rfl) ?_
  try simp only [pS]
  try simp only [pS]
  refine WL.nil ?_
  try simp only [pS]
  go_upto_region 7 with fail
  refine WL.start ?_
  refine wp_takeW (o := { dst := some 19, op := Op.move (Operand.tmp 3), type := 31, pos := "law.go:47", after := #[], guard := none }) (.pointer (some ⟨p, 0, none⟩)) (by kernel_rfl) (by kernel_rfl) ?_
  try simp only [pS]
  try simp only [pS]
  refine wp_takeW (o := { dst := some 20, op := Op.build 37 #[(1, Operand.const (Value.int IntKind.i64 3))], type := 37, pos := "law.go:47", after := #[], guard := none }) (.agg (#[.bool false, .int .i64 3])) (exec_build 37 _ rfl (#[.bool false, .int .i64 3]) (by kernel_rfl)) (by kernel_rfl) ?_
  try simp only [pS]
  try simp only [pS]
  refine wp_takeW (o := { dst := some 21, op := Op.build 37 #[(0, Operand.const (Value.bool true)), (1, Operand.const (Value.int IntKind.i64 7))], type := 37, pos := "law.go:47", after := #[], guard := none }) (.agg (#[.bool true, .int .i64 7])) (exec_build 37 _ rfl (#[.bool true, .int .i64 7]) (by kernel_rfl)) (by kernel_rfl) ?_
  try simp only [pS]
  try simp only [pS]
  refine wp_takeW (o := { dst := some 22, op := Op.load 23 (Operand.tmp 1), type := 23, pos := "law.go:47", after := #[], guard := none }) (.agg kK.cells) (exec_load 23 _ rfl ⟨B1, 0, none⟩ (by kernel_rfl) (.agg kK.cells) (load_Ky H1.out)) (by kernel_rfl) ?_
  try simp only [pS]
  try simp only [pS]
  refine wp_takeW (o := { dst := some 23, op := Op.build 39 #[(0, Operand.const (Value.int IntKind.i64 2)), (1, Operand.const (Value.int IntKind.i64 7))], type := 39, pos := "law.go:47", after := #[], guard := none }) (.agg (#[.int .i64 2, .int .i64 7])) (exec_build 39 _ rfl (#[.int .i64 2, .int .i64 7]) (by kernel_rfl)) (by kernel_rfl) ?_
  try simp only [pS]
  try simp only [pS]
  refine wp_takeW (o := { dst := some 24, op := Op.build 47 #[(0, Operand.const (Value.int IntKind.i64 13)), (1, Operand.tmp 20), (2, Operand.tmp 21), (3, Operand.const (Value.int IntKind.i64 4)), (4, Operand.const (Value.int IntKind.i64 10)), (5, Operand.tmp 22), (6, Operand.tmp 23)], type := 47, pos := "law.go:47", after := #[{ on := 1, ground := Ground.data }, { on := 2, ground := Ground.data }, { on := 3, ground := Ground.data }, { on := 4, ground := Ground.data }], guard := none }) (.agg ((nMsg 13 3 7 4 10 kK 2 7).cells)) (exec_build 47 _ rfl ((nMsg 13 3 7 4 10 kK 2 7).cells) (by kernel_rfl)) (by kernel_rfl) ?_
  try simp only [pS]
  try simp only [pS]
  refine wp_callW (o := { dst := some 25, op := Op.call { callee := Callee.value (Operand.func 28), args := #[Operand.tmp 19, Operand.tmp 24], argTypes := #[31, 47] }, type := 66, pos := "law.go:47", after := #[{ on := 0, ground := Ground.data }, { on := 5, ground := Ground.data }], guard := none }) 28 #[.pointer (some ⟨p, 0, none⟩), .agg (nMsg 13 3 7 4 10 kK 2 7).cells] (by kernel_rfl) _ (take_N HP.out 13 3 7 4 10 kK 2 7) (by kernel_rfl) ?_
  rintro e w8 ⟨la2, lc2, I2, rfl, hO, hP, hI, hk⟩
  refine ⟨.slice la2 (taksS k1 (nMsg 13 3 7 4 10 kK 2 7) [] []).2.length lc2, rfl, ?_⟩
  try simp only [pS]
  have HI0 := HI
  have HP : Hid (Prp w8 I2 p k2) := hP
  have HI : Hid (∀ k, I2 k → B2 < k ∧ NotM w8 k) := show ∀ k, I2 k → B2 < k ∧ NotM w8 k from fun k e => ⟨by
    rcases (hI k e).1 with h | h
    · exact (HI.out k h).1
    · have := H2.out.lt; omega, (hI k e).2.2⟩
  have H1' : Hid (Box w8 B1 23 kK.cells) := H1.out.kept hk (fun e => by have := (HI0.out _ e).1; have := HB2.out; omega)
  have H2' : Hid (Box w8 B2 28 kX.cells) := H2.out.kept hk (fun e => by have := (HI0.out _ e).1; omega)
  have HT2 : Hid (Told w8 0 la2 lc2 ((taksS k1 (nMsg 13 3 7 4 10 kK 2 7) [] []).2)) := Own.lower hO (Nat.zero_le _)
  have HT1 : Hid (Told w8 0 la1 lc1 ((begS k0).2)) := HT1.out.keptI hk (fun k e => (HI0.out k e).2)
  have HK : Hid (Kept No w w8) := HK.out.trans hk (fun _ e => e) (fun k l e => by have := (HI0.out k e).1; have := HB2.out; omega)
  clear H1 H2 HI0 hO hP hI hk
  have H1 := H1'
  have H2 := H2'
  clear H1' H2'
  refine wp_takeW (o := { dst := some 5, op := Op.assign (Operand.tmp 25), type := 66, pos := "law.go:47", after := #[{ on := 6, ground := Ground.data }, { on := 6, ground := Ground.chain }, { on := 0, ground := Ground.phase }, { on := 1, ground := Ground.phase }, { on := 2, ground := Ground.phase }, { on := 3, ground := Ground.phase }, { on := 4, ground := Ground.phase }, { on := 5, ground := Ground.phase }, { on := 6, ground := Ground.phase }], guard := none }) (.slice la2 (taksS k1 (nMsg 13 3 7 4 10 kK 2 7) [] []).2.length lc2) (by kernel_rfl) (by kernel_rfl) ?_
  try simp only [pS]
  try simp only [pS]
  refine WL.nil ?_
  try simp only [pS]
  go_upto_region 8 with fail
  refine WL.start ?_
  refine wp_takeW (o := { dst := some 26, op := Op.move (Operand.tmp 3), type := 31, pos := "law.go:48", after := #[], guard := none }) (.pointer (some ⟨p, 0, none⟩)) (by kernel_rfl) (by kernel_rfl) ?_
  try simp only [pS]
  try simp only [pS]
  refine wp_takeW (o := { dst := some 27, op := Op.build 37 #[(1, Operand.const (Value.int IntKind.i64 3))], type := 37, pos := "law.go:48", after := #[], guard := none }) (.agg (#[.bool false, .int .i64 3])) (exec_build 37 _ rfl (#[.bool false, .int .i64 3]) (by kernel_rfl)) (by kernel_rfl) ?_
  try simp only [pS]
  try simp only [pS]
  refine wp_takeW (o := { dst := some 28, op := Op.build 37 #[(0, Operand.const (Value.bool true)), (1, Operand.const (Value.int IntKind.i64 7))], type := 37, pos := "law.go:48", after := #[], guard := none }) (.agg (#[.bool true, .int .i64 7])) (exec_build 37 _ rfl (#[.bool true, .int .i64 7]) (by kernel_rfl)) (by kernel_rfl) ?_
  try simp only [pS]
  try simp only [pS]
  refine wp_takeW (o := { dst := some 29, op := Op.load 23 (Operand.tmp 1), type := 23, pos := "law.go:48", after := #[], guard := none }) (.agg kK.cells) (exec_load 23 _ rfl ⟨B1, 0, none⟩ (by kernel_rfl) (.agg kK.cells) (load_Ky H1.out)) (by kernel_rfl) ?_
  try simp only [pS]
  try simp only [pS]
  refine wp_takeW (o := { dst := some 30, op := Op.build 39 #[(0, Operand.const (Value.int IntKind.i64 2)), (1, Operand.const (Value.int IntKind.i64 7))], type := 39, pos := "law.go:48", after := #[], guard := none }) (.agg (#[.int .i64 2, .int .i64 7])) (exec_build 39 _ rfl (#[.int .i64 2, .int .i64 7]) (by kernel_rfl)) (by kernel_rfl) ?_
  try simp only [pS]
  try simp only [pS]
  refine wp_takeW (o := { dst := some 31, op := Op.build 47 #[(0, Operand.const (Value.int IntKind.i64 15)), (1, Operand.tmp 27), (2, Operand.tmp 28), (3, Operand.const (Value.int IntKind.i64 4)), (4, Operand.const (Value.int IntKind.i64 11)), (5, Operand.tmp 29), (6, Operand.tmp 30)], type := 47, pos := "law.go:48", after := #[{ on := 1, ground := Ground.data }, { on := 2, ground := Ground.data }, { on := 3, ground := Ground.data }, { on := 4, ground := Ground.data }], guard := none }) (.agg ((nMsg 15 3 7 4 11 kK 2 7).cells)) (exec_build 47 _ rfl ((nMsg 15 3 7 4 11 kK 2 7).cells) (by kernel_rfl)) (by kernel_rfl) ?_
  try simp only [pS]
  try simp only [pS]
  refine wp_callW (o := { dst := some 32, op := Op.call { callee := Callee.value (Operand.func 28), args := #[Operand.tmp 26, Operand.tmp 31], argTypes := #[31, 47] }, type := 66, pos := "law.go:48", after := #[{ on := 0, ground := Ground.data }, { on := 5, ground := Ground.data }], guard := none }) 28 #[.pointer (some ⟨p, 0, none⟩), .agg (nMsg 15 3 7 4 11 kK 2 7).cells] (by kernel_rfl) _ (take_N HP.out 15 3 7 4 11 kK 2 7) (by kernel_rfl) ?_
  rintro e w9 ⟨la3, lc3, I3, rfl, hO, hP, hI, hk⟩
  refine ⟨.slice la3 (taksS k2 (nMsg 15 3 7 4 11 kK 2 7) [] []).2.length lc3, rfl, ?_⟩
  try simp only [pS]
  have HI0 := HI
  have HP : Hid (Prp w9 I3 p k3) := hP
  have HI : Hid (∀ k, I3 k → B2 < k ∧ NotM w9 k) := show ∀ k, I3 k → B2 < k ∧ NotM w9 k from fun k e => ⟨by
    rcases (hI k e).1 with h | h
    · exact (HI.out k h).1
    · have := H2.out.lt; omega, (hI k e).2.2⟩
  have H1' : Hid (Box w9 B1 23 kK.cells) := H1.out.kept hk (fun e => by have := (HI0.out _ e).1; have := HB2.out; omega)
  have H2' : Hid (Box w9 B2 28 kX.cells) := H2.out.kept hk (fun e => by have := (HI0.out _ e).1; omega)
  have HT3 : Hid (Told w9 0 la3 lc3 ((taksS k2 (nMsg 15 3 7 4 11 kK 2 7) [] []).2)) := Own.lower hO (Nat.zero_le _)
  have HT1 : Hid (Told w9 0 la1 lc1 ((begS k0).2)) := HT1.out.keptI hk (fun k e => (HI0.out k e).2)
  have HT2 : Hid (Told w9 0 la2 lc2 ((taksS k1 (nMsg 13 3 7 4 10 kK 2 7) [] []).2)) := HT2.out.keptI hk (fun k e => (HI0.out k e).2)
  have HK : Hid (Kept No w w9) := HK.out.trans hk (fun _ e => e) (fun k l e => by have := (HI0.out k e).1; have := HB2.out; omega)
  clear H1 H2 HI0 hO hP hI hk
  have H1 := H1'
  have H2 := H2'
  clear H1' H2'
  refine wp_takeW (o := { dst := some 6, op := Op.assign (Operand.tmp 32), type := 66, pos := "law.go:48", after := #[{ on := 6, ground := Ground.data }, { on := 6, ground := Ground.chain }, { on := 0, ground := Ground.phase }, { on := 1, ground := Ground.phase }, { on := 2, ground := Ground.phase }, { on := 3, ground := Ground.phase }, { on := 4, ground := Ground.phase }, { on := 5, ground := Ground.phase }, { on := 6, ground := Ground.phase }], guard := none }) (.slice la3 (taksS k2 (nMsg 15 3 7 4 11 kK 2 7) [] []).2.length lc3) (by kernel_rfl) (by kernel_rfl) ?_
  try simp only [pS]
  try simp only [pS]
  refine WL.nil ?_
  try simp only [pS]
  go_upto_region 9 with fail
  refine WL.start ?_
  refine wp_takeW (o := { dst := some 34, op := Op.move (Operand.tmp 3), type := 31, pos := "law.go:49", after := #[], guard := none }) (.pointer (some ⟨p, 0, none⟩)) (by kernel_rfl) (by kernel_rfl) ?_
  try simp only [pS]
  try simp only [pS]
  refine wp_callW (o := { dst := some 35, op := Op.call { callee := Callee.value (Operand.func 21), args := #[Operand.tmp 34], argTypes := #[31] }, type := 71, pos := "law.go:49", after := #[{ on := 0, ground := Ground.data }], guard := none }) 21 #[.pointer (some ⟨p, 0, none⟩)] (by kernel_rfl) _ (decided_P HP.out) (by kernel_rfl) ?_
  rintro e w10 ⟨rfl, hk⟩
  refine ⟨.tuple #[.agg kX.cells, .bool true], rfl, ?_⟩
  try simp only [pS]
  have H1 : Hid (Box w10 B1 23 kK.cells) := H1.out.kept hk (fun e => e)
  have H2 : Hid (Box w10 B2 28 kX.cells) := H2.out.kept hk (fun e => e)
  have HT1 := HT1.out.no hk
  have HT2 := HT2.out.no hk
  have HT3 := HT3.out.no hk
  have HK : Hid (Kept No w w10) := HK.out.then hk
  obtain ⟨m1, e1, f1⟩ := kl1
  obtain ⟨m2, e2, f2, f3⟩ := kl2
  obtain ⟨m3, e3, f4⟩ := kl3
  rw [e1] at HT1 ⊢
  rw [e2] at HT2 ⊢
  rw [e3] at HT3 ⊢
  obtain ⟨g1, rfl, _, hr1⟩ := HT1.row (by simp)
  obtain ⟨g2, rfl, _, hr2⟩ := HT2.row (by simp)
  obtain ⟨g3, rfl, _, hr3⟩ := HT3.row (by simp)
  have HB0 : Hid (B2 < w10.heap.size ∧ w.heap.size ≤ w10.heap.size) := ⟨H2.out.lt, HK.out.size⟩
  have HG1 : Hid (Box w10 B1 23 kK.cells ∧ w10.cell? ⟨g1, 0, none⟩ = some (.int .i64 3) ∧ w10.cell? ⟨g2, 0, none⟩ = some (.int .i64 4) ∧ w10.cell? ⟨g3, 0, none⟩ = some (.int .i64 5) ∧ (∀ (j : Nat) u, kX.cs[j]? = some u → w10.cell? ⟨g2, 16 + j, none⟩ = some u)) := by
    refine ⟨H1.out, ?_, ?_, ?_, ?_⟩
    · have := hr1 0 m1 rfl 0 _ rfl; rw [f1] at this; exact this
    · have := hr2 0 m2 rfl 0 _ rfl; rw [f2] at this; exact this
    · have := hr3 0 m3 rfl 0 _ rfl; rw [f4] at this; exact this
    · intro j u hu
      have hp := Ms.partC m2 []
      rw [List.append_nil] at hp
      have := hr2 0 m2 rfl (16 + j) u (hp j u (by rw [f3]; exact hu))
      simpa using this
  clear hk HT1 HT2 HT3 hr1 hr2 hr3 e1 e2 e3 f1 f2 f3 f4 HP HI
  try simp only [pS]
  refine wp_takeW (o := { dst := some 33, op := Op.move (Operand.tmp 35), type := 71, pos := "law.go:49", after := #[{ on := 1, ground := Ground.data }], guard := none }) (.tuple #[.agg kX.cells, .bool true]) (by kernel_rfl) (by kernel_rfl) ?_
  try simp only [pS]
  try simp only [pS]
  refine wp_takeW (o := { dst := some 36, op := Op.extract (Operand.tmp 33) 0, type := 28, pos := "law.go:49", after := #[{ on := 2, ground := Ground.data }], guard := none }) (.agg kX.cells) (by kernel_rfl) (by kernel_rfl) ?_
  try simp only [pS]
  try simp only [pS]
  refine wp_takeW (o := { dst := some 37, op := Op.extract (Operand.tmp 33) 1, type := 4, pos := "law.go:49", after := #[{ on := 2, ground := Ground.data }, { on := 6, ground := Ground.gcOnly Departure.lateStores }], guard := none }) (.bool true) (by kernel_rfl) (by kernel_rfl) ?_
  try simp only [pS]
  try simp only [pS]
  refine wp_allocW (o := { dst := some 7, op := Op.alloc 28, type := 0, pos := "law.go:49", after := #[], guard := none }) 28 rfl (cZ.cells) zero28 (w10.heap.size) (rfl) (by kernel_rfl) ?_
  try simp only [pS]
  have H7 : Hid (Box (w10.alloc (.cells cZ.cells 28)) w10.heap.size 28 cZ.cells) := Box.new _ _ _
  have H2 : Hid (Box (w10.alloc (.cells cZ.cells 28)) B2 28 kX.cells) := H2.out.alloc _
  have hk0 : Kept No w10 (w10.alloc (.cells cZ.cells 28)) := (Kept.refl No w10).alloc _
  have HK : Hid (Kept No w (w10.alloc (.cells cZ.cells 28))) := HK.out.alloc _
  have HG : Hid ((w10.alloc (.cells cZ.cells 28)).cell? ⟨g1, 0, none⟩ = some (.int .i64 3) ∧ (w10.alloc (.cells cZ.cells 28)).cell? ⟨g2, 0, none⟩ = some (.int .i64 4) ∧ (w10.alloc (.cells cZ.cells 28)).cell? ⟨g3, 0, none⟩ = some (.int .i64 5) ∧ (∀ (j : Nat) u, kX.cs[j]? = some u → (w10.alloc (.cells cZ.cells 28)).cell? ⟨g2, 16 + j, none⟩ = some u) ∧ g1 < w10.heap.size ∧ g2 < w10.heap.size ∧ g3 < w10.heap.size) :=
    ⟨hk0.cell HG1.out.2.1 (fun e => e), hk0.cell HG1.out.2.2.1 (fun e => e), hk0.cell HG1.out.2.2.2.1 (fun e => e), fun j u h => hk0.cell (HG1.out.2.2.2.2 j u h) (fun e => e), cell_lt HG1.out.2.1, cell_lt HG1.out.2.2.1, cell_lt HG1.out.2.2.2.1⟩
  have HB : Hid (B2 < w10.heap.size ∧ w.heap.size ≤ w10.heap.size) := HB0.out
  generalize w10.alloc (.cells cZ.cells 28) = w11 at H7 H2 HK HG ⊢
  generalize w10.heap.size = B7 at H7 HG HB ⊢
  clear hk0 HG1
  refine wp_storeW (o := { dst := none, op := Op.store 28 (Operand.tmp 7) (Operand.tmp 36), type := 0, pos := "law.go:49", after := #[{ on := 5, ground := Ground.data }, { on := 3, ground := Ground.data }, { on := 1, ground := Ground.chain }, { on := 0, ground := Ground.phase }, { on := 1, ground := Ground.phase }, { on := 2, ground := Ground.phase }, { on := 3, ground := Ground.phase }, { on := 4, ground := Ground.textOnly Departure.lateStores }, { on := 5, ground := Ground.phase }], guard := none }) 28 _ _ rfl ⟨B7, 0, none⟩ (.agg kX.cells) (by kernel_rfl) (by kernel_rfl) _ (store_C H7.out rfl) (by kernel_rfl) ?_
  try simp only [pS]
  have hks : Kept (Only B7) w11 (w11.setRow B7 kX.cells) := Kept.setRow _ _ _
  have H2 : Hid (Box (w11.setRow B7 kX.cells) B2 28 kX.cells) := H2.out.rowNe (by have := HB.out; omega) _
  have H7 : Hid (Box (w11.setRow B7 kX.cells) B7 28 kX.cells) := H7.out.setRow _
  have HK : Hid (Kept No w (w11.setRow B7 kX.cells)) := HK.out.newRow (by have := HB.out; omega) _
  have HG : Hid ((w11.setRow B7 kX.cells).cell? ⟨g1, 0, none⟩ = some (.int .i64 3) ∧ (w11.setRow B7 kX.cells).cell? ⟨g2, 0, none⟩ = some (.int .i64 4) ∧ (w11.setRow B7 kX.cells).cell? ⟨g3, 0, none⟩ = some (.int .i64 5) ∧ (∀ (j : Nat) u, kX.cs[j]? = some u → (w11.setRow B7 kX.cells).cell? ⟨g2, 16 + j, none⟩ = some u)) := by
    obtain ⟨a, b, c, d, l1, l2, l3⟩ := HG.out
    exact ⟨hks.cell a (fun e => by have : g1 = B7 := e; omega), hks.cell b (fun e => by have : g2 = B7 := e; omega), hks.cell c (fun e => by have : g3 = B7 := e; omega), fun j u h => hks.cell (d j u h) (fun e => by have : g2 = B7 := e; omega)⟩
  generalize w11.setRow B7 kX.cells = w12 at H7 H2 HK HG ⊢
  clear hks
  refine wp_takeW (o := { dst := some 8, op := Op.assign (Operand.tmp 37), type := 4, pos := "law.go:49", after := #[{ on := 4, ground := Ground.data }, { on := 6, ground := Ground.chain }, { on := 0, ground := Ground.phase }, { on := 1, ground := Ground.phase }, { on := 2, ground := Ground.phase }, { on := 3, ground := Ground.phase }, { on := 4, ground := Ground.phase }, { on := 5, ground := Ground.phase }, { on := 6, ground := Ground.phase }], guard := none }) (.bool true) (by kernel_rfl) (by kernel_rfl) ?_
  try simp only [pS]
  try simp only [pS]
  refine WL.nil ?_
  try simp only [pS]
  go_upto_region 10 with fail
  refine wp_region_held_drew (S := fun w' => (w'.cell? ⟨g1, 0, none⟩ = some (.int .i64 3) ∧ w'.cell? ⟨g2, 0, none⟩ = some (.int .i64 4) ∧ w'.cell? ⟨g3, 0, none⟩ = some (.int .i64 5) ∧ (∀ (j : Nat) u, kX.cs[j]? = some u → w'.cell? ⟨g2, 16 + j, none⟩ = some u)) ∧ Box w' B2 28 kX.cells ∧ Box w' B7 28 kX.cells) rfl ⟨HG.out, H2.out, H7.out⟩ (fun hH => ?_)
  refine xV 0 38 (.slice (some ⟨g1, 0, none⟩) 1 lc1) hH <| xV 1 39 (.int .i64 1) hH <| xB 2 40 .eql 3 (.int .i64 1) (.int .i64 1) (.bool true) (fun _ _ => by kernel_rfl) hH <| xV 3 41 (.bool true) hH <| xV 4 42 (.slice (some ⟨g1, 0, none⟩) 1 lc1) hH <| xU 5 43 (pV g1 0) (fun w' hw => exec_ixA 66 30 Try.und66e Try.size66e _ _ rfl g1 0 1 lc1 0 (by kernel_rfl) (by kernel_rfl) (by decide)) hH <| ?_
  try simp only [pS]
  refine xV 6 44 (pV g1 0) hH <| xL 7 45 3 ⟨g1, 0, none⟩ (.int .i64 3) (fun _ hw => load_N hw.1.1) hH <| xB 8 46 .eql 3 (.int .i64 3) (.int .i64 3) (.bool true) (fun _ _ => by kernel_rfl) hH <| xV 9 47 (.bool true) hH <| xV 10 48 (.bool true) hH <| xV 11 49 (.slice (some ⟨g2, 0, none⟩) 1 lc2) hH <| ?_
  try simp only [pS]
  refine xV 12 50 (.int .i64 1) hH <| xB 13 51 .eql 3 (.int .i64 1) (.int .i64 1) (.bool true) (fun _ _ => by kernel_rfl) hH <| xV 14 52 (.bool true) hH <| xV 15 53 (.bool true) hH <| xV 16 54 (.slice (some ⟨g2, 0, none⟩) 1 lc2) hH <| xU 17 55 (pV g2 0) (fun w' hw => exec_ixA 66 30 Try.und66e Try.size66e _ _ rfl g2 0 1 lc2 0 (by kernel_rfl) (by kernel_rfl) (by decide)) hH <| ?_
  try simp only [pS]
  refine xV 18 56 (pV g2 0) hH <| xL 19 57 3 ⟨g2, 0, none⟩ (.int .i64 4) (fun _ hw => load_N hw.1.2.1) hH <| xB 20 58 .eql 3 (.int .i64 4) (.int .i64 4) (.bool true) (fun _ _ => by kernel_rfl) hH <| xV 21 59 (.bool true) hH <| xV 22 60 (.bool true) hH <| xV 23 61 (.slice (some ⟨g2, 0, none⟩) 1 lc2) hH <| ?_
  try simp only [pS]
  refine xU 24 62 (pV g2 0) (fun w' hw => exec_ixA 66 30 Try.und66e Try.size66e _ _ rfl g2 0 1 lc2 0 (by kernel_rfl) (by kernel_rfl) (by decide)) hH <| xV 25 63 (pV g2 16) hH <| xL 26 64 28 ⟨g2, 16, none⟩ (.agg kX.cells) (fun _ hw => load_row hw.1.2.2.2 Try.und28 rfl Try.size28) hH <| xL 27 65 28 ⟨B2, 0, none⟩ (.agg kX.cells) (fun _ hw => load_C hw.2.1) hH <| xB 28 66 .eql 28 (.agg kX.cells) (.agg kX.cells) (.bool true) (fun _ _ => by rw [eqlC, eqC_refl]) hH (hg := fun _ => guard_C .eql (.inl rfl) _ _ _ _ _) <| xV 29 67 (.bool true) hH <| ?_
  try simp only [pS]
  refine xV 30 68 (.bool true) hH <| xV 31 69 (.slice (some ⟨g3, 0, none⟩) 1 lc3) hH <| xV 32 70 (.int .i64 1) hH <| xB 33 71 .eql 3 (.int .i64 1) (.int .i64 1) (.bool true) (fun _ _ => by kernel_rfl) hH <| xV 34 72 (.bool true) hH <| xV 35 73 (.bool true) hH <| ?_
  try simp only [pS]
  refine xV 36 74 (.slice (some ⟨g3, 0, none⟩) 1 lc3) hH <| xU 37 75 (pV g3 0) (fun w' hw => exec_ixA 66 30 Try.und66e Try.size66e _ _ rfl g3 0 1 lc3 0 (by kernel_rfl) (by kernel_rfl) (by decide)) hH <| xV 38 76 (pV g3 0) hH <| xL 39 77 3 ⟨g3, 0, none⟩ (.int .i64 5) (fun _ hw => load_N hw.1.2.2.1) hH <| xB 40 78 .eql 3 (.int .i64 5) (.int .i64 5) (.bool true) (fun _ _ => by kernel_rfl) hH <| xV 41 79 (.bool true) hH <| ?_
  try simp only [pS]
  refine xV 42 80 (.bool true) hH <| xV 43 81 (.bool true) hH <| xV 44 82 (.bool true) hH <| xV 45 83 (.bool true) hH <| xL 46 84 28 ⟨B7, 0, none⟩ (.agg kX.cells) (fun _ hw => load_C hw.2.2) hH <| xL 47 85 28 ⟨B2, 0, none⟩ (.agg kX.cells) (fun _ hw => load_C hw.2.1) hH <| ?_
  try simp only [pS]
  refine xB 48 86 .eql 28 (.agg kX.cells) (.agg kX.cells) (.bool true) (fun _ _ => by rw [eqlC, eqC_refl]) hH (hg := fun _ => guard_C .eql (.inl rfl) _ _ _ _ _) <| xV 49 87 (.bool true) hH <| xV 50 0 (.bool true) hH <| ?_
  try simp only [pS]
  refine wpAnyH_done (by kernel_rfl) ?_ _
  try simp only [pS]
  go_wp2
  rw [HC.out]
  exact ⟨rfl, HK.out.drew⟩

end Go.Proofs.Ytpabpeppgpeaoaa
