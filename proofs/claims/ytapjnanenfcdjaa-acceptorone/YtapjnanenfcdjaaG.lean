import Derived.Test.YtapjnanenfcdjaaF
namespace Go.Proofs.Ytapjnanenfcdjaa
open Go.RowKit
set_option linter.unusedVariables false
set_option linter.unusedSimpArgs false

set_option maxRecDepth 100000 in
set_option maxHeartbeats 2000000 in
theorem racc_any (i : In) (b : Sp) (c : Cm) (w : World) : Calls Try.prog 14 #[.agg i.cells, .agg #[.int .i64 b.n, .int .i64 b.c], .agg c.cells] w (fun e w' => e = .returned (.tuple #[.agg (accI i b c).cells, .agg (accM i b).cells, .bool (accBr i b c)]) ∧ Kept No w w') := by
  obtain ⟨w1, hw1⟩ : ∃ w1, w1 = ((((w.alloc (.cells i.cells 29)).alloc (.cells #[.int .i64 b.n, .int .i64 b.c] 23)).alloc (.cells c.cells 27)).alloc (.cells iZ.cells 29)).alloc (.cells mZ.cells 52) := ⟨_, rfl⟩
  obtain ⟨N, hN⟩ : ∃ N, N = w.heap.size := ⟨_, rfl⟩
  have HNN : Hid (N = w.heap.size) := hN
  have hal := al5 w i.cells 29 #[.int .i64 b.n, .int .i64 b.c] 23 c.cells 27 iZ.cells 29 mZ.cells 52
  rw [← hw1, ← hN] at hal
  obtain ⟨hk1, hb0, hb1, hb4, hb2, hb3, hs1⟩ := hal
  have HK1 : Hid (Kept No w w1) := hk1
  have HX0 : Hid (Box w1 N 29 i.cells) := hb0
  have HX1 : Hid (Box w1 (N + 1) 23 #[.int .i64 b.n, .int .i64 b.c]) := hb1
  have HX4 : Hid (Box w1 (N + 1 + 1) 27 c.cells) := hb4
  have HX2 : Hid (Box w1 (N + 1 + 1 + 1) 29 iZ.cells) := hb2
  have HX3 : Hid (Box w1 (N + 1 + 1 + 1 + 1) 52 mZ.cells) := hb3
  have HS1 : Hid (w1.heap.size = N + 1 + 1 + 1 + 1 + 1) := hs1
  clear hk1 hb0 hb1 hb2 hb3 hb4 hs1
  go_enter Try.func14, Try.ntmps14
  go_upto_region 1 with (first
    | (refine wp_boxV rfl 29 _ rfl i.cells rfl w.heap.size rfl ?_)
    | (refine wp_boxV rfl 27 _ rfl c.cells rfl (w.heap.size + 1 + 1) (by simp) ?_)
    | (refine wp_allocT rfl 29 rfl iZ.cells zero29 (w.heap.size + 1 + 1 + 1) (by simp) ?_)
    | (refine wp_allocT rfl 52 rfl mZ.cells zero52 (w.heap.size + 1 + 1 + 1 + 1) (by simp) ?_))
  rw [← hw1, ← hN]
  clear hw1 hN
  obtain ⟨y0, y1⟩ := Sp.cel HX1.out
  go_upto_region 2 with (first
    | (refine wp_loadV rfl 29 _ rfl ⟨N, 0, none⟩ rfl (.agg i.cells) (load_I HX0.out) ?_)
    | (go_at_call 32
       refine Calls.mono (refused_any i b w1) ?_
       rintro e w2 ⟨rfl, hk2⟩
       have HK2 : Hid (Kept No w1 w2) := hk2
       clear hk2)
    | (refine wp_allocT rfl 52 rfl mZ.cells zero52 w2.heap.size rfl ?_)
    | (refine wp_storeV rfl 52 _ _ rfl ⟨w2.heap.size, 0, none⟩ (.agg (refM i b).cells) rfl rfl _ (store_M (Box.new _ _ _) rfl) ?_))
  have HF : Hid (Kept No w1 ((w2.alloc (.cells mZ.cells 52)).setRow w2.heap.size (refM i b).cells) ∧ Box ((w2.alloc (.cells mZ.cells 52)).setRow w2.heap.size (refM i b).cells) w2.heap.size 52 (refM i b).cells ∧ N + 1 + 1 + 1 + 1 + 1 ≤ w2.heap.size) := ⟨(HK2.out.alloc _).newRow HK2.out.size _, (Box.new _ _ _).setRow _, by have := HK2.out.size; rw [HS1.out] at this; exact this⟩
  generalize (w2.alloc (.cells mZ.cells 52)).setRow w2.heap.size (refM i b).cells = w3 at HF ⊢
  generalize w2.heap.size = M at HF ⊢
  clear y0 y1 HK2 w2
  have HK3 : Hid (Kept No w1 w3) := HF.out.1
  have HM : Hid (Box w3 M 52 (refM i b).cells) := HF.out.2.1
  have HMs : Hid (N + 1 + 1 + 1 + 1 + 1 ≤ M) := HF.out.2.2
  have HY0 : Hid (Box w3 N 29 i.cells) := HX0.out.kept HK3.out (fun e => e)
  have HY1 : Hid (Box w3 (N + 1) 23 #[.int .i64 b.n, .int .i64 b.c]) := HX1.out.kept HK3.out (fun e => e)
  have HY4 : Hid (Box w3 (N + 1 + 1) 27 c.cells) := HX4.out.kept HK3.out (fun e => e)
  have HY2 : Hid (Box w3 (N + 1 + 1 + 1) 29 iZ.cells) := HX2.out.kept HK3.out (fun e => e)
  have HY3 : Hid (Box w3 (N + 1 + 1 + 1 + 1) 52 mZ.cells) := HX3.out.kept HK3.out (fun e => e)
  have HKw : Hid (Kept No w w3) := HK1.out.then HK3.out
  clear HF HX0 HX1 HX2 HX3 HX4 HK1 HK3 HS1
  have HPI : Hid (accI i b c = if refB i b then i else ⟨b, b, c, false⟩) := rfl
  have HPM : Hid (accM i b = if refB i b then refM i b else ⟨15, b, sZ, cZ⟩) := rfl
  have HPB : Hid (accBr i b c = if refB i b then false else (!eqS i.p b || (!eqS i.a b || !eqC i.c c))) := rfl
  cases hr : refB i b
  · have HPI : Hid (accI i b c = ⟨b, b, c, false⟩) := by have := HPI.out; rw [hr] at this; exact this
    have HPM : Hid (accM i b = ⟨15, b, sZ, cZ⟩) := by have := HPM.out; rw [hr] at this; exact this
    have HPB : Hid (accBr i b c = (!eqS i.p b || (!eqS i.a b || !eqC i.c c))) := by have := HPB.out; rw [hr] at this; exact this
    obtain ⟨y0, y1⟩ := Sp.cel HY1.out
    go_upto_region 5 with (first
      | (refine wp_loadV rfl 27 _ rfl ⟨N + 1 + 1, 0, none⟩ rfl (.agg c.cells) (load_C HY4.out) ?_)
      | (refine wp_buildT rfl 29 _ rfl (In.cells ⟨b, b, c, false⟩) (by kernel_rfl) ?_)
      | (refine wp_allocT rfl 29 rfl iZ.cells zero29 w3.heap.size rfl ?_)
      | (refine wp_storeV rfl 29 _ _ rfl ⟨w3.heap.size, 0, none⟩ (.agg (In.cells ⟨b, b, c, false⟩)) rfl rfl _ (store_I (Box.new _ _ _) rfl) ?_))
    have HF : Hid (Kept No w3 ((w3.alloc (.cells iZ.cells 29)).setRow w3.heap.size (In.cells ⟨b, b, c, false⟩)) ∧ Box ((w3.alloc (.cells iZ.cells 29)).setRow w3.heap.size (In.cells ⟨b, b, c, false⟩)) w3.heap.size 29 (In.cells ⟨b, b, c, false⟩) ∧ M < w3.heap.size) := ⟨((Kept.refl No w3).alloc _).newRow (Nat.le_refl _) _, (Box.new _ _ _).setRow _, HM.out.lt⟩
    generalize (w3.alloc (.cells iZ.cells 29)).setRow w3.heap.size (In.cells ⟨b, b, c, false⟩) = w5 at HF ⊢
    generalize w3.heap.size = L at HF ⊢
    clear y0 y1
    have HLs : Hid (M < L) := HF.out.2.2
    have HYL : Hid (Box w5 L 29 (In.cells ⟨b, b, c, false⟩)) := HF.out.2.1
    have HY0 : Hid (Box w5 N 29 i.cells) := HY0.out.kept HF.out.1 (fun e => e)
    have HY1 : Hid (Box w5 (N + 1) 23 #[.int .i64 b.n, .int .i64 b.c]) := HY1.out.kept HF.out.1 (fun e => e)
    have HY2 : Hid (Box w5 (N + 1 + 1 + 1) 29 iZ.cells) := HY2.out.kept HF.out.1 (fun e => e)
    have HY3 : Hid (Box w5 (N + 1 + 1 + 1 + 1) 52 mZ.cells) := HY3.out.kept HF.out.1 (fun e => e)
    have HY4 : Hid (Box w5 (N + 1 + 1) 27 c.cells) := HY4.out.kept HF.out.1 (fun e => e)
    have HKw : Hid (Kept No w w5) := HKw.out.then HF.out.1
    clear HF
    cases h1 : eqS i.p b
    · skip
      have HPB : Hid (accBr i b c = true) := by have h := HPB.out; rw [h1] at h; show accBr i b c = _; simpa using h
      go_upto_region 5 with fail
      refine WL.start ?_
      refine wp_takeW (o := { dst := some 26, op := Op.fieldAddr 29 (Operand.tmp 3) 0, type := 0, pos := "ref.go:46", after := #[], guard := none }) (.pointer (some ⟨N, 0, none⟩)) (by kernel_rfl) (by kernel_rfl) ?_
      try simp only [Act.put, List.setIfInBounds_toArray, List.set_cons_zero, List.set_cons_succ]
      refine wp_takeW (o := { dst := some 27, op := Op.load 23 (Operand.tmp 26), type := 23, pos := "ref.go:46", after := #[{ on := 0, ground := Ground.data }], guard := none }) (.agg #[.int .i64 i.p.n, .int .i64 i.p.c]) (exec_load 23 _ rfl ⟨N, 0, none⟩ (by kernel_rfl) (.agg #[.int .i64 i.p.n, .int .i64 i.p.c]) (load_S HY0.out i.partP)) (by kernel_rfl) ?_
      try simp only [Act.put, List.setIfInBounds_toArray, List.set_cons_zero, List.set_cons_succ]
      refine wp_takeW (o := { dst := some 28, op := Op.load 23 (Operand.tmp 4), type := 23, pos := "ref.go:46", after := #[], guard := none }) (.agg #[.int .i64 b.n, .int .i64 b.c]) (exec_load 23 _ rfl ⟨N + 1, 0, none⟩ (by kernel_rfl) (.agg #[.int .i64 b.n, .int .i64 b.c]) (load_S (cs := [.int .i64 b.n, .int .i64 b.c]) HY1.out (Part.all _))) (by kernel_rfl) ?_
      try simp only [Act.put, List.setIfInBounds_toArray, List.set_cons_zero, List.set_cons_succ]
      refine wp_takeW (o := { dst := some 29, op := Op.binOp BinOp.neq 23 (Operand.tmp 27) (Operand.tmp 28) 23, type := 4, pos := "ref.go:46", after := #[{ on := 1, ground := Ground.data }, { on := 2, ground := Ground.data }], guard := none }) (.bool true) (exec_bin .neq 23 _ _ _ rfl (.agg #[.int .i64 i.p.n, .int .i64 i.p.c]) (.agg #[.int .i64 b.n, .int .i64 b.c]) (.bool true) (by kernel_rfl) (by kernel_rfl) (guard_S _ (.inr rfl) _ _ _ _ _) (by rw [neqS, h1]; rfl)) (by kernel_rfl) ?_
      try simp only [Act.put, List.setIfInBounds_toArray, List.set_cons_zero, List.set_cons_succ]
      refine wp_takeW (o := { dst := some 30, op := Op.move (Operand.tmp 29), type := 4, pos := "ref.go:46", after := #[{ on := 3, ground := Ground.data }], guard := none }) (.bool true) (by kernel_rfl) (by kernel_rfl) ?_
      try simp only [Act.put, List.setIfInBounds_toArray, List.set_cons_zero, List.set_cons_succ]
      refine wp_skip (o := { dst := some 31, op := Op.fieldAddr 29 (Operand.tmp 3) 1, type := 0, pos := "ref.go:46", after := #[{ on := 4, ground := Ground.guard }], guard := some (4, false) }) (by kernel_rfl) ?_
      try simp only [Act.put, List.setIfInBounds_toArray, List.set_cons_zero, List.set_cons_succ]
      refine wp_skip (o := { dst := some 32, op := Op.load 23 (Operand.tmp 31), type := 23, pos := "ref.go:46", after := #[{ on := 5, ground := Ground.data }, { on := 4, ground := Ground.guard }], guard := some (4, false) }) (by kernel_rfl) ?_
      try simp only [Act.put, List.setIfInBounds_toArray, List.set_cons_zero, List.set_cons_succ]
      refine wp_skip (o := { dst := some 33, op := Op.load 23 (Operand.tmp 4), type := 23, pos := "ref.go:46", after := #[{ on := 4, ground := Ground.guard }], guard := some (4, false) }) (by kernel_rfl) ?_
      try simp only [Act.put, List.setIfInBounds_toArray, List.set_cons_zero, List.set_cons_succ]
      refine wp_skip (o := { dst := some 34, op := Op.binOp BinOp.neq 23 (Operand.tmp 32) (Operand.tmp 33) 23, type := 4, pos := "ref.go:46", after := #[{ on := 6, ground := Ground.data }, { on := 7, ground := Ground.data }, { on := 4, ground := Ground.guard }], guard := some (4, false) }) (by kernel_rfl) ?_
      try simp only [Act.put, List.setIfInBounds_toArray, List.set_cons_zero, List.set_cons_succ]
      refine wp_takeW (o := { dst := some 35, op := Op.pick (Operand.tmp 30) (Operand.const (Value.bool true)) (Operand.tmp 34), type := 4, pos := "ref.go:46", after := #[{ on := 4, ground := Ground.data }, { on := 8, ground := Ground.data }], guard := none }) (.bool true) (by kernel_rfl) (by kernel_rfl) ?_
      try simp only [Act.put, List.setIfInBounds_toArray, List.set_cons_zero, List.set_cons_succ]
      refine wp_takeW (o := { dst := some 36, op := Op.move (Operand.tmp 35), type := 4, pos := "ref.go:46", after := #[{ on := 9, ground := Ground.data }, { on := 4, ground := Ground.chain }], guard := none }) (.bool true) (by kernel_rfl) (by kernel_rfl) ?_
      try simp only [Act.put, List.setIfInBounds_toArray, List.set_cons_zero, List.set_cons_succ]
      refine wp_skip (o := { dst := some 37, op := Op.fieldAddr 29 (Operand.tmp 3) 2, type := 0, pos := "ref.go:46", after := #[{ on := 10, ground := Ground.guard }], guard := some (10, false) }) (by kernel_rfl) ?_
      try simp only [Act.put, List.setIfInBounds_toArray, List.set_cons_zero, List.set_cons_succ]
      refine wp_skip (o := { dst := some 38, op := Op.load 27 (Operand.tmp 37), type := 27, pos := "ref.go:46", after := #[{ on := 11, ground := Ground.data }, { on := 10, ground := Ground.guard }], guard := some (10, false) }) (by kernel_rfl) ?_
      try simp only [Act.put, List.setIfInBounds_toArray, List.set_cons_zero, List.set_cons_succ]
      refine wp_skip (o := { dst := some 39, op := Op.load 27 (Operand.tmp 5), type := 27, pos := "ref.go:46", after := #[{ on := 10, ground := Ground.guard }], guard := some (10, false) }) (by kernel_rfl) ?_
      try simp only [Act.put, List.setIfInBounds_toArray, List.set_cons_zero, List.set_cons_succ]
      refine wp_skip (o := { dst := some 40, op := Op.binOp BinOp.neq 27 (Operand.tmp 38) (Operand.tmp 39) 27, type := 4, pos := "ref.go:46", after := #[{ on := 12, ground := Ground.data }, { on := 13, ground := Ground.data }, { on := 10, ground := Ground.guard }], guard := some (10, false) }) (by kernel_rfl) ?_
      try simp only [Act.put, List.setIfInBounds_toArray, List.set_cons_zero, List.set_cons_succ]
      refine wp_takeW (o := { dst := some 41, op := Op.pick (Operand.tmp 36) (Operand.const (Value.bool true)) (Operand.tmp 40), type := 4, pos := "ref.go:46", after := #[{ on := 10, ground := Ground.data }, { on := 14, ground := Ground.data }], guard := none }) (.bool true) (by kernel_rfl) (by kernel_rfl) ?_
      try simp only [Act.put, List.setIfInBounds_toArray, List.set_cons_zero, List.set_cons_succ]
      refine wp_takeW (o := { dst := some 12, op := Op.assign (Operand.tmp 41), type := 4, pos := "ref.go:46", after := #[{ on := 15, ground := Ground.data }, { on := 10, ground := Ground.chain }, { on := 0, ground := Ground.phase }, { on := 1, ground := Ground.phase }, { on := 2, ground := Ground.phase }, { on := 3, ground := Ground.phase }, { on := 4, ground := Ground.phase }, { on := 5, ground := Ground.phase }, { on := 6, ground := Ground.phase }, { on := 7, ground := Ground.phase }, { on := 8, ground := Ground.phase }, { on := 9, ground := Ground.phase }, { on := 10, ground := Ground.phase }, { on := 11, ground := Ground.phase }, { on := 12, ground := Ground.phase }, { on := 13, ground := Ground.phase }, { on := 14, ground := Ground.phase }, { on := 15, ground := Ground.phase }], guard := none }) (.bool true) (by kernel_rfl) (by kernel_rfl) ?_
      try simp only [Act.put, List.setIfInBounds_toArray, List.set_cons_zero, List.set_cons_succ]
      refine WL.nil ?_
      try simp only [Act.put, List.setIfInBounds_toArray, List.set_cons_zero, List.set_cons_succ]
      go_upto_region 6 with fail
      refine wp_region_held_drew (S := fun w' => Box w' N 29 i.cells ∧ Box w' (N + 1) 23 #[.int .i64 b.n, .int .i64 b.c] ∧ Box w' L 29 (In.cells ⟨b, b, c, false⟩)) rfl ⟨HY0.out, HY1.out, HYL.out⟩ (fun hH => ?_)
      refine any_take (i := 0) (oi := { dst := some 42, op := Op.load 29 (Operand.tmp 11), type := 29, pos := "ref.go:47", after := #[], guard := none }) (v := .agg (In.cells ⟨b, b, c, false⟩)) rfl (by kernel_rfl) (by kernel_rfl) (by kernel_rfl) (fun _ _ _ h => h) (by kernel_rfl) (fun w' hw => exec_load 29 _ rfl ⟨L, 0, none⟩ (by kernel_rfl) (.agg (In.cells ⟨b, b, c, false⟩)) (load_I hw.2.2)) hH ?_
      refine any_take (i := 1) (oi := { dst := some 43, op := Op.load 23 (Operand.tmp 4), type := 23, pos := "ref.go:47", after := #[{ on := 4, ground := Ground.gcOnly Departure.lateStores }], guard := none }) (v := .agg #[.int .i64 b.n, .int .i64 b.c]) rfl (by kernel_rfl) (by kernel_rfl) (by kernel_rfl) (fun _ _ _ h => h) (by kernel_rfl) (fun w' hw => exec_load 23 _ rfl ⟨N + 1, 0, none⟩ (by kernel_rfl) (.agg #[.int .i64 b.n, .int .i64 b.c]) (load_S (cs := [.int .i64 b.n, .int .i64 b.c]) hw.2.1 (Part.all _))) hH ?_
      refine any_take (i := 2) (oi := { dst := some 44, op := Op.build 52 #[(0, Operand.const (Value.int IntKind.i64 15)), (6, Operand.tmp 43)], type := 52, pos := "ref.go:47", after := #[{ on := 1, ground := Ground.data }, { on := 4, ground := Ground.gcOnly Departure.lateStores }], guard := none }) (v := .agg (Mg.cells ⟨15, b, sZ, cZ⟩)) rfl (by kernel_rfl) (by kernel_rfl) (by kernel_rfl) (fun _ _ _ h => h) (by kernel_rfl) (fun w' hw => exec_build 52 _ rfl (Mg.cells ⟨15, b, sZ, cZ⟩) (by kernel_rfl)) hH ?_
      refine any_take (i := 3) (oi := { dst := some 45, op := Op.move (Operand.tmp 12), type := 4, pos := "ref.go:47", after := #[{ on := 5, ground := Ground.gcOnly Departure.lateStores }], guard := none }) (v := .bool true) rfl (by kernel_rfl) (by kernel_rfl) (by kernel_rfl) (fun _ _ _ h => h) (by kernel_rfl) (fun _ _ => by kernel_rfl) hH ?_
      refine any_store (i := 4) (o := { dst := none, op := Op.store 29 (Operand.tmp 6) (Operand.tmp 42), type := 0, pos := "ref.go:47", after := #[{ on := 0, ground := Ground.data }, { on := 0, ground := Ground.phase }, { on := 1, ground := Ground.textOnly Departure.lateStores }, { on := 2, ground := Ground.textOnly Departure.lateStores }, { on := 3, ground := Ground.textOnly Departure.lateStores }], guard := none }) rfl (by kernel_rfl) (by kernel_rfl) 29 _ _ rfl ⟨N + 1 + 1 + 1, 0, none⟩ (.agg (In.cells ⟨b, b, c, false⟩)) (by kernel_rfl) (by kernel_rfl) (store_I HY2.out rfl) (⟨hH.1.rowNe (by have := HMs.out; have := HLs.out; omega) _, hH.2.1.rowNe (by have := HMs.out; have := HLs.out; omega) _, hH.2.2.rowNe (by have := HMs.out; have := HLs.out; omega) _⟩) (fun hH => ?_)
      refine any_store (i := 5) (o := { dst := none, op := Op.store 52 (Operand.tmp 7) (Operand.tmp 44), type := 0, pos := "ref.go:47", after := #[{ on := 2, ground := Ground.data }, { on := 4, ground := Ground.chain }, { on := 0, ground := Ground.phase }, { on := 1, ground := Ground.phase }, { on := 2, ground := Ground.phase }, { on := 3, ground := Ground.textOnly Departure.lateStores }, { on := 4, ground := Ground.phase }], guard := none }) rfl (by kernel_rfl) (by kernel_rfl) 52 _ _ rfl ⟨N + 1 + 1 + 1 + 1, 0, none⟩ (.agg (Mg.cells ⟨15, b, sZ, cZ⟩)) (by kernel_rfl) (by kernel_rfl) (store_M (HY3.out.rowNe (by have := HMs.out; have := HLs.out; omega) _) rfl) (⟨hH.1.rowNe (by have := HMs.out; have := HLs.out; omega) _, hH.2.1.rowNe (by have := HMs.out; have := HLs.out; omega) _, hH.2.2.rowNe (by have := HMs.out; have := HLs.out; omega) _⟩) (fun hH => ?_)
      refine any_take (i := 6) (oi := { dst := some 8, op := Op.assign (Operand.tmp 45), type := 4, pos := "ref.go:47", after := #[{ on := 3, ground := Ground.data }, { on := 5, ground := Ground.chain }, { on := 0, ground := Ground.phase }, { on := 1, ground := Ground.phase }, { on := 2, ground := Ground.phase }, { on := 3, ground := Ground.phase }, { on := 4, ground := Ground.phase }, { on := 5, ground := Ground.phase }], guard := none }) (v := .bool true) rfl (by kernel_rfl) (by kernel_rfl) (by kernel_rfl) (fun _ _ _ h => h) (by kernel_rfl) (fun _ _ => by kernel_rfl) hH ?_
      refine wpAnyH_done (by kernel_rfl) ?_ _
      try simp only [Act.put, List.setIfInBounds_toArray, List.set_cons_zero, List.set_cons_succ]
      have HR2 : Hid (Box ((w5.drew.setRow (N + 1 + 1 + 1) (In.cells ⟨b, b, c, false⟩)).setRow (N + 1 + 1 + 1 + 1) (Mg.cells ⟨15, b, sZ, cZ⟩)) (N + 1 + 1 + 1) 29 (In.cells ⟨b, b, c, false⟩)) := (Box.setRow HY2.out _).rowNe (by have := HMs.out; have := HLs.out; omega) _
      have HR3 : Hid (Box ((w5.drew.setRow (N + 1 + 1 + 1) (In.cells ⟨b, b, c, false⟩)).setRow (N + 1 + 1 + 1 + 1) (Mg.cells ⟨15, b, sZ, cZ⟩)) (N + 1 + 1 + 1 + 1) 52 (Mg.cells ⟨15, b, sZ, cZ⟩)) := (Box.rowNe HY3.out (by have := HMs.out; have := HLs.out; omega) _).setRow _
      have HKf : Hid (Kept No w ((w5.drew.setRow (N + 1 + 1 + 1) (In.cells ⟨b, b, c, false⟩)).setRow (N + 1 + 1 + 1 + 1) (Mg.cells ⟨15, b, sZ, cZ⟩))) := (HKw.out.drew.newRow (by have := HNN.out; omega) _).newRow (by have := HNN.out; omega) _
      generalize (w5.drew.setRow (N + 1 + 1 + 1) (In.cells ⟨b, b, c, false⟩)).setRow (N + 1 + 1 + 1 + 1) (Mg.cells ⟨15, b, sZ, cZ⟩) = w6 at HR2 HR3 HKf ⊢
      go_wp2
      refine bodyPost_ret (results_row2_tmp (by rfl) _ _ (N + 1 + 1 + 1) (N + 1 + 1 + 1 + 1) (In.cells ⟨b, b, c, false⟩) (Mg.cells ⟨15, b, sZ, cZ⟩) (by rfl) (by rfl) (load_I HR2.out) (load_M HR3.out)) rfl ?_
      rw [HPI.out, HPM.out, HPB.out]
      exact ⟨rfl, HKf.out⟩
    · cases h2 : eqS i.a b
      · skip
        have HPB : Hid (accBr i b c = true) := by have h := HPB.out; rw [h1, h2] at h; show accBr i b c = _; simpa using h
        go_upto_region 5 with fail
        refine WL.start ?_
        refine wp_takeW (o := { dst := some 26, op := Op.fieldAddr 29 (Operand.tmp 3) 0, type := 0, pos := "ref.go:46", after := #[], guard := none }) (.pointer (some ⟨N, 0, none⟩)) (by kernel_rfl) (by kernel_rfl) ?_
        try simp only [Act.put, List.setIfInBounds_toArray, List.set_cons_zero, List.set_cons_succ]
        refine wp_takeW (o := { dst := some 27, op := Op.load 23 (Operand.tmp 26), type := 23, pos := "ref.go:46", after := #[{ on := 0, ground := Ground.data }], guard := none }) (.agg #[.int .i64 i.p.n, .int .i64 i.p.c]) (exec_load 23 _ rfl ⟨N, 0, none⟩ (by kernel_rfl) (.agg #[.int .i64 i.p.n, .int .i64 i.p.c]) (load_S HY0.out i.partP)) (by kernel_rfl) ?_
        try simp only [Act.put, List.setIfInBounds_toArray, List.set_cons_zero, List.set_cons_succ]
        refine wp_takeW (o := { dst := some 28, op := Op.load 23 (Operand.tmp 4), type := 23, pos := "ref.go:46", after := #[], guard := none }) (.agg #[.int .i64 b.n, .int .i64 b.c]) (exec_load 23 _ rfl ⟨N + 1, 0, none⟩ (by kernel_rfl) (.agg #[.int .i64 b.n, .int .i64 b.c]) (load_S (cs := [.int .i64 b.n, .int .i64 b.c]) HY1.out (Part.all _))) (by kernel_rfl) ?_
        try simp only [Act.put, List.setIfInBounds_toArray, List.set_cons_zero, List.set_cons_succ]
        refine wp_takeW (o := { dst := some 29, op := Op.binOp BinOp.neq 23 (Operand.tmp 27) (Operand.tmp 28) 23, type := 4, pos := "ref.go:46", after := #[{ on := 1, ground := Ground.data }, { on := 2, ground := Ground.data }], guard := none }) (.bool false) (exec_bin .neq 23 _ _ _ rfl (.agg #[.int .i64 i.p.n, .int .i64 i.p.c]) (.agg #[.int .i64 b.n, .int .i64 b.c]) (.bool false) (by kernel_rfl) (by kernel_rfl) (guard_S _ (.inr rfl) _ _ _ _ _) (by rw [neqS, h1]; rfl)) (by kernel_rfl) ?_
        try simp only [Act.put, List.setIfInBounds_toArray, List.set_cons_zero, List.set_cons_succ]
        refine wp_takeW (o := { dst := some 30, op := Op.move (Operand.tmp 29), type := 4, pos := "ref.go:46", after := #[{ on := 3, ground := Ground.data }], guard := none }) (.bool false) (by kernel_rfl) (by kernel_rfl) ?_
        try simp only [Act.put, List.setIfInBounds_toArray, List.set_cons_zero, List.set_cons_succ]
        refine wp_takeW (o := { dst := some 31, op := Op.fieldAddr 29 (Operand.tmp 3) 1, type := 0, pos := "ref.go:46", after := #[{ on := 4, ground := Ground.guard }], guard := some (4, false) }) (.pointer (some ⟨N, 2, none⟩)) (by kernel_rfl) (by kernel_rfl) ?_
        try simp only [Act.put, List.setIfInBounds_toArray, List.set_cons_zero, List.set_cons_succ]
        refine wp_takeW (o := { dst := some 32, op := Op.load 23 (Operand.tmp 31), type := 23, pos := "ref.go:46", after := #[{ on := 5, ground := Ground.data }, { on := 4, ground := Ground.guard }], guard := some (4, false) }) (.agg #[.int .i64 i.a.n, .int .i64 i.a.c]) (exec_load 23 _ rfl ⟨N, 2, none⟩ (by kernel_rfl) (.agg #[.int .i64 i.a.n, .int .i64 i.a.c]) (load_S HY0.out i.partA)) (by kernel_rfl) ?_
        try simp only [Act.put, List.setIfInBounds_toArray, List.set_cons_zero, List.set_cons_succ]
        refine wp_takeW (o := { dst := some 33, op := Op.load 23 (Operand.tmp 4), type := 23, pos := "ref.go:46", after := #[{ on := 4, ground := Ground.guard }], guard := some (4, false) }) (.agg #[.int .i64 b.n, .int .i64 b.c]) (exec_load 23 _ rfl ⟨N + 1, 0, none⟩ (by kernel_rfl) (.agg #[.int .i64 b.n, .int .i64 b.c]) (load_S (cs := [.int .i64 b.n, .int .i64 b.c]) HY1.out (Part.all _))) (by kernel_rfl) ?_
        try simp only [Act.put, List.setIfInBounds_toArray, List.set_cons_zero, List.set_cons_succ]
        refine wp_takeW (o := { dst := some 34, op := Op.binOp BinOp.neq 23 (Operand.tmp 32) (Operand.tmp 33) 23, type := 4, pos := "ref.go:46", after := #[{ on := 6, ground := Ground.data }, { on := 7, ground := Ground.data }, { on := 4, ground := Ground.guard }], guard := some (4, false) }) (.bool true) (exec_bin .neq 23 _ _ _ rfl (.agg #[.int .i64 i.a.n, .int .i64 i.a.c]) (.agg #[.int .i64 b.n, .int .i64 b.c]) (.bool true) (by kernel_rfl) (by kernel_rfl) (guard_S _ (.inr rfl) _ _ _ _ _) (by rw [neqS, h2]; rfl)) (by kernel_rfl) ?_
        try simp only [Act.put, List.setIfInBounds_toArray, List.set_cons_zero, List.set_cons_succ]
        refine wp_takeW (o := { dst := some 35, op := Op.pick (Operand.tmp 30) (Operand.const (Value.bool true)) (Operand.tmp 34), type := 4, pos := "ref.go:46", after := #[{ on := 4, ground := Ground.data }, { on := 8, ground := Ground.data }], guard := none }) (.bool true) (by kernel_rfl) (by kernel_rfl) ?_
        try simp only [Act.put, List.setIfInBounds_toArray, List.set_cons_zero, List.set_cons_succ]
        refine wp_takeW (o := { dst := some 36, op := Op.move (Operand.tmp 35), type := 4, pos := "ref.go:46", after := #[{ on := 9, ground := Ground.data }, { on := 4, ground := Ground.chain }], guard := none }) (.bool true) (by kernel_rfl) (by kernel_rfl) ?_
        try simp only [Act.put, List.setIfInBounds_toArray, List.set_cons_zero, List.set_cons_succ]
        refine wp_skip (o := { dst := some 37, op := Op.fieldAddr 29 (Operand.tmp 3) 2, type := 0, pos := "ref.go:46", after := #[{ on := 10, ground := Ground.guard }], guard := some (10, false) }) (by kernel_rfl) ?_
        try simp only [Act.put, List.setIfInBounds_toArray, List.set_cons_zero, List.set_cons_succ]
        refine wp_skip (o := { dst := some 38, op := Op.load 27 (Operand.tmp 37), type := 27, pos := "ref.go:46", after := #[{ on := 11, ground := Ground.data }, { on := 10, ground := Ground.guard }], guard := some (10, false) }) (by kernel_rfl) ?_
        try simp only [Act.put, List.setIfInBounds_toArray, List.set_cons_zero, List.set_cons_succ]
        refine wp_skip (o := { dst := some 39, op := Op.load 27 (Operand.tmp 5), type := 27, pos := "ref.go:46", after := #[{ on := 10, ground := Ground.guard }], guard := some (10, false) }) (by kernel_rfl) ?_
        try simp only [Act.put, List.setIfInBounds_toArray, List.set_cons_zero, List.set_cons_succ]
        refine wp_skip (o := { dst := some 40, op := Op.binOp BinOp.neq 27 (Operand.tmp 38) (Operand.tmp 39) 27, type := 4, pos := "ref.go:46", after := #[{ on := 12, ground := Ground.data }, { on := 13, ground := Ground.data }, { on := 10, ground := Ground.guard }], guard := some (10, false) }) (by kernel_rfl) ?_
        try simp only [Act.put, List.setIfInBounds_toArray, List.set_cons_zero, List.set_cons_succ]
        refine wp_takeW (o := { dst := some 41, op := Op.pick (Operand.tmp 36) (Operand.const (Value.bool true)) (Operand.tmp 40), type := 4, pos := "ref.go:46", after := #[{ on := 10, ground := Ground.data }, { on := 14, ground := Ground.data }], guard := none }) (.bool true) (by kernel_rfl) (by kernel_rfl) ?_
        try simp only [Act.put, List.setIfInBounds_toArray, List.set_cons_zero, List.set_cons_succ]
        refine wp_takeW (o := { dst := some 12, op := Op.assign (Operand.tmp 41), type := 4, pos := "ref.go:46", after := #[{ on := 15, ground := Ground.data }, { on := 10, ground := Ground.chain }, { on := 0, ground := Ground.phase }, { on := 1, ground := Ground.phase }, { on := 2, ground := Ground.phase }, { on := 3, ground := Ground.phase }, { on := 4, ground := Ground.phase }, { on := 5, ground := Ground.phase }, { on := 6, ground := Ground.phase }, { on := 7, ground := Ground.phase }, { on := 8, ground := Ground.phase }, { on := 9, ground := Ground.phase }, { on := 10, ground := Ground.phase }, { on := 11, ground := Ground.phase }, { on := 12, ground := Ground.phase }, { on := 13, ground := Ground.phase }, { on := 14, ground := Ground.phase }, { on := 15, ground := Ground.phase }], guard := none }) (.bool true) (by kernel_rfl) (by kernel_rfl) ?_
        try simp only [Act.put, List.setIfInBounds_toArray, List.set_cons_zero, List.set_cons_succ]
        refine WL.nil ?_
        try simp only [Act.put, List.setIfInBounds_toArray, List.set_cons_zero, List.set_cons_succ]
        go_upto_region 6 with fail
        refine wp_region_held_drew (S := fun w' => Box w' N 29 i.cells ∧ Box w' (N + 1) 23 #[.int .i64 b.n, .int .i64 b.c] ∧ Box w' L 29 (In.cells ⟨b, b, c, false⟩)) rfl ⟨HY0.out, HY1.out, HYL.out⟩ (fun hH => ?_)
        refine any_take (i := 0) (oi := { dst := some 42, op := Op.load 29 (Operand.tmp 11), type := 29, pos := "ref.go:47", after := #[], guard := none }) (v := .agg (In.cells ⟨b, b, c, false⟩)) rfl (by kernel_rfl) (by kernel_rfl) (by kernel_rfl) (fun _ _ _ h => h) (by kernel_rfl) (fun w' hw => exec_load 29 _ rfl ⟨L, 0, none⟩ (by kernel_rfl) (.agg (In.cells ⟨b, b, c, false⟩)) (load_I hw.2.2)) hH ?_
        refine any_take (i := 1) (oi := { dst := some 43, op := Op.load 23 (Operand.tmp 4), type := 23, pos := "ref.go:47", after := #[{ on := 4, ground := Ground.gcOnly Departure.lateStores }], guard := none }) (v := .agg #[.int .i64 b.n, .int .i64 b.c]) rfl (by kernel_rfl) (by kernel_rfl) (by kernel_rfl) (fun _ _ _ h => h) (by kernel_rfl) (fun w' hw => exec_load 23 _ rfl ⟨N + 1, 0, none⟩ (by kernel_rfl) (.agg #[.int .i64 b.n, .int .i64 b.c]) (load_S (cs := [.int .i64 b.n, .int .i64 b.c]) hw.2.1 (Part.all _))) hH ?_
        refine any_take (i := 2) (oi := { dst := some 44, op := Op.build 52 #[(0, Operand.const (Value.int IntKind.i64 15)), (6, Operand.tmp 43)], type := 52, pos := "ref.go:47", after := #[{ on := 1, ground := Ground.data }, { on := 4, ground := Ground.gcOnly Departure.lateStores }], guard := none }) (v := .agg (Mg.cells ⟨15, b, sZ, cZ⟩)) rfl (by kernel_rfl) (by kernel_rfl) (by kernel_rfl) (fun _ _ _ h => h) (by kernel_rfl) (fun w' hw => exec_build 52 _ rfl (Mg.cells ⟨15, b, sZ, cZ⟩) (by kernel_rfl)) hH ?_
        refine any_take (i := 3) (oi := { dst := some 45, op := Op.move (Operand.tmp 12), type := 4, pos := "ref.go:47", after := #[{ on := 5, ground := Ground.gcOnly Departure.lateStores }], guard := none }) (v := .bool true) rfl (by kernel_rfl) (by kernel_rfl) (by kernel_rfl) (fun _ _ _ h => h) (by kernel_rfl) (fun _ _ => by kernel_rfl) hH ?_
        refine any_store (i := 4) (o := { dst := none, op := Op.store 29 (Operand.tmp 6) (Operand.tmp 42), type := 0, pos := "ref.go:47", after := #[{ on := 0, ground := Ground.data }, { on := 0, ground := Ground.phase }, { on := 1, ground := Ground.textOnly Departure.lateStores }, { on := 2, ground := Ground.textOnly Departure.lateStores }, { on := 3, ground := Ground.textOnly Departure.lateStores }], guard := none }) rfl (by kernel_rfl) (by kernel_rfl) 29 _ _ rfl ⟨N + 1 + 1 + 1, 0, none⟩ (.agg (In.cells ⟨b, b, c, false⟩)) (by kernel_rfl) (by kernel_rfl) (store_I HY2.out rfl) (⟨hH.1.rowNe (by have := HMs.out; have := HLs.out; omega) _, hH.2.1.rowNe (by have := HMs.out; have := HLs.out; omega) _, hH.2.2.rowNe (by have := HMs.out; have := HLs.out; omega) _⟩) (fun hH => ?_)
        refine any_store (i := 5) (o := { dst := none, op := Op.store 52 (Operand.tmp 7) (Operand.tmp 44), type := 0, pos := "ref.go:47", after := #[{ on := 2, ground := Ground.data }, { on := 4, ground := Ground.chain }, { on := 0, ground := Ground.phase }, { on := 1, ground := Ground.phase }, { on := 2, ground := Ground.phase }, { on := 3, ground := Ground.textOnly Departure.lateStores }, { on := 4, ground := Ground.phase }], guard := none }) rfl (by kernel_rfl) (by kernel_rfl) 52 _ _ rfl ⟨N + 1 + 1 + 1 + 1, 0, none⟩ (.agg (Mg.cells ⟨15, b, sZ, cZ⟩)) (by kernel_rfl) (by kernel_rfl) (store_M (HY3.out.rowNe (by have := HMs.out; have := HLs.out; omega) _) rfl) (⟨hH.1.rowNe (by have := HMs.out; have := HLs.out; omega) _, hH.2.1.rowNe (by have := HMs.out; have := HLs.out; omega) _, hH.2.2.rowNe (by have := HMs.out; have := HLs.out; omega) _⟩) (fun hH => ?_)
        refine any_take (i := 6) (oi := { dst := some 8, op := Op.assign (Operand.tmp 45), type := 4, pos := "ref.go:47", after := #[{ on := 3, ground := Ground.data }, { on := 5, ground := Ground.chain }, { on := 0, ground := Ground.phase }, { on := 1, ground := Ground.phase }, { on := 2, ground := Ground.phase }, { on := 3, ground := Ground.phase }, { on := 4, ground := Ground.phase }, { on := 5, ground := Ground.phase }], guard := none }) (v := .bool true) rfl (by kernel_rfl) (by kernel_rfl) (by kernel_rfl) (fun _ _ _ h => h) (by kernel_rfl) (fun _ _ => by kernel_rfl) hH ?_
        refine wpAnyH_done (by kernel_rfl) ?_ _
        try simp only [Act.put, List.setIfInBounds_toArray, List.set_cons_zero, List.set_cons_succ]
        have HR2 : Hid (Box ((w5.drew.setRow (N + 1 + 1 + 1) (In.cells ⟨b, b, c, false⟩)).setRow (N + 1 + 1 + 1 + 1) (Mg.cells ⟨15, b, sZ, cZ⟩)) (N + 1 + 1 + 1) 29 (In.cells ⟨b, b, c, false⟩)) := (Box.setRow HY2.out _).rowNe (by have := HMs.out; have := HLs.out; omega) _
        have HR3 : Hid (Box ((w5.drew.setRow (N + 1 + 1 + 1) (In.cells ⟨b, b, c, false⟩)).setRow (N + 1 + 1 + 1 + 1) (Mg.cells ⟨15, b, sZ, cZ⟩)) (N + 1 + 1 + 1 + 1) 52 (Mg.cells ⟨15, b, sZ, cZ⟩)) := (Box.rowNe HY3.out (by have := HMs.out; have := HLs.out; omega) _).setRow _
        have HKf : Hid (Kept No w ((w5.drew.setRow (N + 1 + 1 + 1) (In.cells ⟨b, b, c, false⟩)).setRow (N + 1 + 1 + 1 + 1) (Mg.cells ⟨15, b, sZ, cZ⟩))) := (HKw.out.drew.newRow (by have := HNN.out; omega) _).newRow (by have := HNN.out; omega) _
        generalize (w5.drew.setRow (N + 1 + 1 + 1) (In.cells ⟨b, b, c, false⟩)).setRow (N + 1 + 1 + 1 + 1) (Mg.cells ⟨15, b, sZ, cZ⟩) = w6 at HR2 HR3 HKf ⊢
        go_wp2
        refine bodyPost_ret (results_row2_tmp (by rfl) _ _ (N + 1 + 1 + 1) (N + 1 + 1 + 1 + 1) (In.cells ⟨b, b, c, false⟩) (Mg.cells ⟨15, b, sZ, cZ⟩) (by rfl) (by rfl) (load_I HR2.out) (load_M HR3.out)) rfl ?_
        rw [HPI.out, HPM.out, HPB.out]
        exact ⟨rfl, HKf.out⟩
      · skip
        have HPB : Hid (accBr i b c = !eqC i.c c) := by have h := HPB.out; rw [h1, h2, Bool.not_true] at h; show accBr i b c = _; simpa using h
        go_upto_region 5 with fail
        refine WL.start ?_
        refine wp_takeW (o := { dst := some 26, op := Op.fieldAddr 29 (Operand.tmp 3) 0, type := 0, pos := "ref.go:46", after := #[], guard := none }) (.pointer (some ⟨N, 0, none⟩)) (by kernel_rfl) (by kernel_rfl) ?_
        try simp only [Act.put, List.setIfInBounds_toArray, List.set_cons_zero, List.set_cons_succ]
        refine wp_takeW (o := { dst := some 27, op := Op.load 23 (Operand.tmp 26), type := 23, pos := "ref.go:46", after := #[{ on := 0, ground := Ground.data }], guard := none }) (.agg #[.int .i64 i.p.n, .int .i64 i.p.c]) (exec_load 23 _ rfl ⟨N, 0, none⟩ (by kernel_rfl) (.agg #[.int .i64 i.p.n, .int .i64 i.p.c]) (load_S HY0.out i.partP)) (by kernel_rfl) ?_
        try simp only [Act.put, List.setIfInBounds_toArray, List.set_cons_zero, List.set_cons_succ]
        refine wp_takeW (o := { dst := some 28, op := Op.load 23 (Operand.tmp 4), type := 23, pos := "ref.go:46", after := #[], guard := none }) (.agg #[.int .i64 b.n, .int .i64 b.c]) (exec_load 23 _ rfl ⟨N + 1, 0, none⟩ (by kernel_rfl) (.agg #[.int .i64 b.n, .int .i64 b.c]) (load_S (cs := [.int .i64 b.n, .int .i64 b.c]) HY1.out (Part.all _))) (by kernel_rfl) ?_
        try simp only [Act.put, List.setIfInBounds_toArray, List.set_cons_zero, List.set_cons_succ]
        refine wp_takeW (o := { dst := some 29, op := Op.binOp BinOp.neq 23 (Operand.tmp 27) (Operand.tmp 28) 23, type := 4, pos := "ref.go:46", after := #[{ on := 1, ground := Ground.data }, { on := 2, ground := Ground.data }], guard := none }) (.bool false) (exec_bin .neq 23 _ _ _ rfl (.agg #[.int .i64 i.p.n, .int .i64 i.p.c]) (.agg #[.int .i64 b.n, .int .i64 b.c]) (.bool false) (by kernel_rfl) (by kernel_rfl) (guard_S _ (.inr rfl) _ _ _ _ _) (by rw [neqS, h1]; rfl)) (by kernel_rfl) ?_
        try simp only [Act.put, List.setIfInBounds_toArray, List.set_cons_zero, List.set_cons_succ]
        refine wp_takeW (o := { dst := some 30, op := Op.move (Operand.tmp 29), type := 4, pos := "ref.go:46", after := #[{ on := 3, ground := Ground.data }], guard := none }) (.bool false) (by kernel_rfl) (by kernel_rfl) ?_
        try simp only [Act.put, List.setIfInBounds_toArray, List.set_cons_zero, List.set_cons_succ]
        refine wp_takeW (o := { dst := some 31, op := Op.fieldAddr 29 (Operand.tmp 3) 1, type := 0, pos := "ref.go:46", after := #[{ on := 4, ground := Ground.guard }], guard := some (4, false) }) (.pointer (some ⟨N, 2, none⟩)) (by kernel_rfl) (by kernel_rfl) ?_
        try simp only [Act.put, List.setIfInBounds_toArray, List.set_cons_zero, List.set_cons_succ]
        refine wp_takeW (o := { dst := some 32, op := Op.load 23 (Operand.tmp 31), type := 23, pos := "ref.go:46", after := #[{ on := 5, ground := Ground.data }, { on := 4, ground := Ground.guard }], guard := some (4, false) }) (.agg #[.int .i64 i.a.n, .int .i64 i.a.c]) (exec_load 23 _ rfl ⟨N, 2, none⟩ (by kernel_rfl) (.agg #[.int .i64 i.a.n, .int .i64 i.a.c]) (load_S HY0.out i.partA)) (by kernel_rfl) ?_
        try simp only [Act.put, List.setIfInBounds_toArray, List.set_cons_zero, List.set_cons_succ]
        refine wp_takeW (o := { dst := some 33, op := Op.load 23 (Operand.tmp 4), type := 23, pos := "ref.go:46", after := #[{ on := 4, ground := Ground.guard }], guard := some (4, false) }) (.agg #[.int .i64 b.n, .int .i64 b.c]) (exec_load 23 _ rfl ⟨N + 1, 0, none⟩ (by kernel_rfl) (.agg #[.int .i64 b.n, .int .i64 b.c]) (load_S (cs := [.int .i64 b.n, .int .i64 b.c]) HY1.out (Part.all _))) (by kernel_rfl) ?_
        try simp only [Act.put, List.setIfInBounds_toArray, List.set_cons_zero, List.set_cons_succ]
        refine wp_takeW (o := { dst := some 34, op := Op.binOp BinOp.neq 23 (Operand.tmp 32) (Operand.tmp 33) 23, type := 4, pos := "ref.go:46", after := #[{ on := 6, ground := Ground.data }, { on := 7, ground := Ground.data }, { on := 4, ground := Ground.guard }], guard := some (4, false) }) (.bool false) (exec_bin .neq 23 _ _ _ rfl (.agg #[.int .i64 i.a.n, .int .i64 i.a.c]) (.agg #[.int .i64 b.n, .int .i64 b.c]) (.bool false) (by kernel_rfl) (by kernel_rfl) (guard_S _ (.inr rfl) _ _ _ _ _) (by rw [neqS, h2]; rfl)) (by kernel_rfl) ?_
        try simp only [Act.put, List.setIfInBounds_toArray, List.set_cons_zero, List.set_cons_succ]
        refine wp_takeW (o := { dst := some 35, op := Op.pick (Operand.tmp 30) (Operand.const (Value.bool true)) (Operand.tmp 34), type := 4, pos := "ref.go:46", after := #[{ on := 4, ground := Ground.data }, { on := 8, ground := Ground.data }], guard := none }) (.bool false) (by kernel_rfl) (by kernel_rfl) ?_
        try simp only [Act.put, List.setIfInBounds_toArray, List.set_cons_zero, List.set_cons_succ]
        refine wp_takeW (o := { dst := some 36, op := Op.move (Operand.tmp 35), type := 4, pos := "ref.go:46", after := #[{ on := 9, ground := Ground.data }, { on := 4, ground := Ground.chain }], guard := none }) (.bool false) (by kernel_rfl) (by kernel_rfl) ?_
        try simp only [Act.put, List.setIfInBounds_toArray, List.set_cons_zero, List.set_cons_succ]
        refine wp_takeW (o := { dst := some 37, op := Op.fieldAddr 29 (Operand.tmp 3) 2, type := 0, pos := "ref.go:46", after := #[{ on := 10, ground := Ground.guard }], guard := some (10, false) }) (.pointer (some ⟨N, 4, none⟩)) (by kernel_rfl) (by kernel_rfl) ?_
        try simp only [Act.put, List.setIfInBounds_toArray, List.set_cons_zero, List.set_cons_succ]
        refine wp_takeW (o := { dst := some 38, op := Op.load 27 (Operand.tmp 37), type := 27, pos := "ref.go:46", after := #[{ on := 11, ground := Ground.data }, { on := 10, ground := Ground.guard }], guard := some (10, false) }) (.agg i.c.cells) (exec_load 27 _ rfl ⟨N, 4, none⟩ (by kernel_rfl) (.agg i.c.cells) (load_IC HY0.out)) (by kernel_rfl) ?_
        try simp only [Act.put, List.setIfInBounds_toArray, List.set_cons_zero, List.set_cons_succ]
        refine wp_takeW (o := { dst := some 39, op := Op.load 27 (Operand.tmp 5), type := 27, pos := "ref.go:46", after := #[{ on := 10, ground := Ground.guard }], guard := some (10, false) }) (.agg c.cells) (exec_load 27 _ rfl ⟨N + 1 + 1, 0, none⟩ (by kernel_rfl) (.agg c.cells) (load_C HY4.out)) (by kernel_rfl) ?_
        try simp only [Act.put, List.setIfInBounds_toArray, List.set_cons_zero, List.set_cons_succ]
        refine wp_takeW (o := { dst := some 40, op := Op.binOp BinOp.neq 27 (Operand.tmp 38) (Operand.tmp 39) 27, type := 4, pos := "ref.go:46", after := #[{ on := 12, ground := Ground.data }, { on := 13, ground := Ground.data }, { on := 10, ground := Ground.guard }], guard := some (10, false) }) (.bool (!eqC i.c c)) (exec_bin .neq 27 _ _ _ rfl (.agg i.c.cells) (.agg c.cells) (.bool (!eqC i.c c)) (by kernel_rfl) (by kernel_rfl) (guard_C _ (.inr rfl) _ _ _ _ _) (neqC _ _ _)) (by kernel_rfl) ?_
        try simp only [Act.put, List.setIfInBounds_toArray, List.set_cons_zero, List.set_cons_succ]
        refine wp_takeW (o := { dst := some 41, op := Op.pick (Operand.tmp 36) (Operand.const (Value.bool true)) (Operand.tmp 40), type := 4, pos := "ref.go:46", after := #[{ on := 10, ground := Ground.data }, { on := 14, ground := Ground.data }], guard := none }) (.bool (!eqC i.c c)) (by kernel_rfl) (by kernel_rfl) ?_
        try simp only [Act.put, List.setIfInBounds_toArray, List.set_cons_zero, List.set_cons_succ]
        refine wp_takeW (o := { dst := some 12, op := Op.assign (Operand.tmp 41), type := 4, pos := "ref.go:46", after := #[{ on := 15, ground := Ground.data }, { on := 10, ground := Ground.chain }, { on := 0, ground := Ground.phase }, { on := 1, ground := Ground.phase }, { on := 2, ground := Ground.phase }, { on := 3, ground := Ground.phase }, { on := 4, ground := Ground.phase }, { on := 5, ground := Ground.phase }, { on := 6, ground := Ground.phase }, { on := 7, ground := Ground.phase }, { on := 8, ground := Ground.phase }, { on := 9, ground := Ground.phase }, { on := 10, ground := Ground.phase }, { on := 11, ground := Ground.phase }, { on := 12, ground := Ground.phase }, { on := 13, ground := Ground.phase }, { on := 14, ground := Ground.phase }, { on := 15, ground := Ground.phase }], guard := none }) (.bool (!eqC i.c c)) (by kernel_rfl) (by kernel_rfl) ?_
        try simp only [Act.put, List.setIfInBounds_toArray, List.set_cons_zero, List.set_cons_succ]
        refine WL.nil ?_
        try simp only [Act.put, List.setIfInBounds_toArray, List.set_cons_zero, List.set_cons_succ]
        go_upto_region 6 with fail
        refine wp_region_held_drew (S := fun w' => Box w' N 29 i.cells ∧ Box w' (N + 1) 23 #[.int .i64 b.n, .int .i64 b.c] ∧ Box w' L 29 (In.cells ⟨b, b, c, false⟩)) rfl ⟨HY0.out, HY1.out, HYL.out⟩ (fun hH => ?_)
        refine any_take (i := 0) (oi := { dst := some 42, op := Op.load 29 (Operand.tmp 11), type := 29, pos := "ref.go:47", after := #[], guard := none }) (v := .agg (In.cells ⟨b, b, c, false⟩)) rfl (by kernel_rfl) (by kernel_rfl) (by kernel_rfl) (fun _ _ _ h => h) (by kernel_rfl) (fun w' hw => exec_load 29 _ rfl ⟨L, 0, none⟩ (by kernel_rfl) (.agg (In.cells ⟨b, b, c, false⟩)) (load_I hw.2.2)) hH ?_
        refine any_take (i := 1) (oi := { dst := some 43, op := Op.load 23 (Operand.tmp 4), type := 23, pos := "ref.go:47", after := #[{ on := 4, ground := Ground.gcOnly Departure.lateStores }], guard := none }) (v := .agg #[.int .i64 b.n, .int .i64 b.c]) rfl (by kernel_rfl) (by kernel_rfl) (by kernel_rfl) (fun _ _ _ h => h) (by kernel_rfl) (fun w' hw => exec_load 23 _ rfl ⟨N + 1, 0, none⟩ (by kernel_rfl) (.agg #[.int .i64 b.n, .int .i64 b.c]) (load_S (cs := [.int .i64 b.n, .int .i64 b.c]) hw.2.1 (Part.all _))) hH ?_
        refine any_take (i := 2) (oi := { dst := some 44, op := Op.build 52 #[(0, Operand.const (Value.int IntKind.i64 15)), (6, Operand.tmp 43)], type := 52, pos := "ref.go:47", after := #[{ on := 1, ground := Ground.data }, { on := 4, ground := Ground.gcOnly Departure.lateStores }], guard := none }) (v := .agg (Mg.cells ⟨15, b, sZ, cZ⟩)) rfl (by kernel_rfl) (by kernel_rfl) (by kernel_rfl) (fun _ _ _ h => h) (by kernel_rfl) (fun w' hw => exec_build 52 _ rfl (Mg.cells ⟨15, b, sZ, cZ⟩) (by kernel_rfl)) hH ?_
        refine any_take (i := 3) (oi := { dst := some 45, op := Op.move (Operand.tmp 12), type := 4, pos := "ref.go:47", after := #[{ on := 5, ground := Ground.gcOnly Departure.lateStores }], guard := none }) (v := .bool (!eqC i.c c)) rfl (by kernel_rfl) (by kernel_rfl) (by kernel_rfl) (fun _ _ _ h => h) (by kernel_rfl) (fun _ _ => by kernel_rfl) hH ?_
        refine any_store (i := 4) (o := { dst := none, op := Op.store 29 (Operand.tmp 6) (Operand.tmp 42), type := 0, pos := "ref.go:47", after := #[{ on := 0, ground := Ground.data }, { on := 0, ground := Ground.phase }, { on := 1, ground := Ground.textOnly Departure.lateStores }, { on := 2, ground := Ground.textOnly Departure.lateStores }, { on := 3, ground := Ground.textOnly Departure.lateStores }], guard := none }) rfl (by kernel_rfl) (by kernel_rfl) 29 _ _ rfl ⟨N + 1 + 1 + 1, 0, none⟩ (.agg (In.cells ⟨b, b, c, false⟩)) (by kernel_rfl) (by kernel_rfl) (store_I HY2.out rfl) (⟨hH.1.rowNe (by have := HMs.out; have := HLs.out; omega) _, hH.2.1.rowNe (by have := HMs.out; have := HLs.out; omega) _, hH.2.2.rowNe (by have := HMs.out; have := HLs.out; omega) _⟩) (fun hH => ?_)
        refine any_store (i := 5) (o := { dst := none, op := Op.store 52 (Operand.tmp 7) (Operand.tmp 44), type := 0, pos := "ref.go:47", after := #[{ on := 2, ground := Ground.data }, { on := 4, ground := Ground.chain }, { on := 0, ground := Ground.phase }, { on := 1, ground := Ground.phase }, { on := 2, ground := Ground.phase }, { on := 3, ground := Ground.textOnly Departure.lateStores }, { on := 4, ground := Ground.phase }], guard := none }) rfl (by kernel_rfl) (by kernel_rfl) 52 _ _ rfl ⟨N + 1 + 1 + 1 + 1, 0, none⟩ (.agg (Mg.cells ⟨15, b, sZ, cZ⟩)) (by kernel_rfl) (by kernel_rfl) (store_M (HY3.out.rowNe (by have := HMs.out; have := HLs.out; omega) _) rfl) (⟨hH.1.rowNe (by have := HMs.out; have := HLs.out; omega) _, hH.2.1.rowNe (by have := HMs.out; have := HLs.out; omega) _, hH.2.2.rowNe (by have := HMs.out; have := HLs.out; omega) _⟩) (fun hH => ?_)
        refine any_take (i := 6) (oi := { dst := some 8, op := Op.assign (Operand.tmp 45), type := 4, pos := "ref.go:47", after := #[{ on := 3, ground := Ground.data }, { on := 5, ground := Ground.chain }, { on := 0, ground := Ground.phase }, { on := 1, ground := Ground.phase }, { on := 2, ground := Ground.phase }, { on := 3, ground := Ground.phase }, { on := 4, ground := Ground.phase }, { on := 5, ground := Ground.phase }], guard := none }) (v := .bool (!eqC i.c c)) rfl (by kernel_rfl) (by kernel_rfl) (by kernel_rfl) (fun _ _ _ h => h) (by kernel_rfl) (fun _ _ => by kernel_rfl) hH ?_
        refine wpAnyH_done (by kernel_rfl) ?_ _
        try simp only [Act.put, List.setIfInBounds_toArray, List.set_cons_zero, List.set_cons_succ]
        have HR2 : Hid (Box ((w5.drew.setRow (N + 1 + 1 + 1) (In.cells ⟨b, b, c, false⟩)).setRow (N + 1 + 1 + 1 + 1) (Mg.cells ⟨15, b, sZ, cZ⟩)) (N + 1 + 1 + 1) 29 (In.cells ⟨b, b, c, false⟩)) := (Box.setRow HY2.out _).rowNe (by have := HMs.out; have := HLs.out; omega) _
        have HR3 : Hid (Box ((w5.drew.setRow (N + 1 + 1 + 1) (In.cells ⟨b, b, c, false⟩)).setRow (N + 1 + 1 + 1 + 1) (Mg.cells ⟨15, b, sZ, cZ⟩)) (N + 1 + 1 + 1 + 1) 52 (Mg.cells ⟨15, b, sZ, cZ⟩)) := (Box.rowNe HY3.out (by have := HMs.out; have := HLs.out; omega) _).setRow _
        have HKf : Hid (Kept No w ((w5.drew.setRow (N + 1 + 1 + 1) (In.cells ⟨b, b, c, false⟩)).setRow (N + 1 + 1 + 1 + 1) (Mg.cells ⟨15, b, sZ, cZ⟩))) := (HKw.out.drew.newRow (by have := HNN.out; omega) _).newRow (by have := HNN.out; omega) _
        generalize (w5.drew.setRow (N + 1 + 1 + 1) (In.cells ⟨b, b, c, false⟩)).setRow (N + 1 + 1 + 1 + 1) (Mg.cells ⟨15, b, sZ, cZ⟩) = w6 at HR2 HR3 HKf ⊢
        go_wp2
        refine bodyPost_ret (results_row2_tmp (by rfl) _ _ (N + 1 + 1 + 1) (N + 1 + 1 + 1 + 1) (In.cells ⟨b, b, c, false⟩) (Mg.cells ⟨15, b, sZ, cZ⟩) (by rfl) (by rfl) (load_I HR2.out) (load_M HR3.out)) rfl ?_
        rw [HPI.out, HPM.out, HPB.out]
        exact ⟨rfl, HKf.out⟩
  · have HPI : Hid (accI i b c = i) := by have := HPI.out; rw [hr] at this; exact this
    have HPM : Hid (accM i b = refM i b) := by have := HPM.out; rw [hr] at this; exact this
    have HPB : Hid (accBr i b c = false) := by have := HPB.out; rw [hr] at this; exact this
    go_upto_region 3 with fail
    refine wp_region_held_drew (S := fun w' => Box w' N 29 i.cells ∧ Box w' M 52 (refM i b).cells) rfl ⟨HY0.out, HM.out⟩ (fun hH => ?_)
    refine any_take (i := 0) (oi := { dst := some 20, op := Op.load 29 (Operand.tmp 3), type := 29, pos := "ref.go:43", after := #[], guard := none }) (v := .agg i.cells) rfl (by kernel_rfl) (by kernel_rfl) (by kernel_rfl) (fun _ _ _ h => h) (by kernel_rfl) (fun w' hw => exec_load 29 _ rfl ⟨N, 0, none⟩ (by kernel_rfl) (.agg i.cells) (load_I hw.1)) hH ?_
    refine any_take (i := 1) (oi := { dst := some 21, op := Op.load 52 (Operand.tmp 9), type := 52, pos := "ref.go:43", after := #[{ on := 2, ground := Ground.gcOnly Departure.lateStores }], guard := none }) (v := .agg (refM i b).cells) rfl (by kernel_rfl) (by kernel_rfl) (by kernel_rfl) (fun _ _ _ h => h) (by kernel_rfl) (fun w' hw => exec_load 52 _ rfl ⟨M, 0, none⟩ (by kernel_rfl) (.agg (refM i b).cells) (load_M hw.2)) hH ?_
    refine any_store (i := 2) (o := { dst := none, op := Op.store 29 (Operand.tmp 6) (Operand.tmp 20), type := 0, pos := "ref.go:43", after := #[{ on := 0, ground := Ground.data }, { on := 0, ground := Ground.phase }, { on := 1, ground := Ground.textOnly Departure.lateStores }], guard := none }) rfl (by kernel_rfl) (by kernel_rfl) 29 _ _ rfl ⟨N + 1 + 1 + 1, 0, none⟩ (.agg i.cells) (by kernel_rfl) (by kernel_rfl) (store_I HY2.out rfl) (⟨hH.1.rowNe (by have := HMs.out; omega) _, hH.2.rowNe (by have := HMs.out; omega) _⟩) (fun hH => ?_)
    refine any_store (i := 3) (o := { dst := none, op := Op.store 52 (Operand.tmp 7) (Operand.tmp 21), type := 0, pos := "ref.go:43", after := #[{ on := 1, ground := Ground.data }, { on := 2, ground := Ground.chain }, { on := 0, ground := Ground.phase }, { on := 1, ground := Ground.phase }, { on := 2, ground := Ground.phase }], guard := none }) rfl (by kernel_rfl) (by kernel_rfl) 52 _ _ rfl ⟨N + 1 + 1 + 1 + 1, 0, none⟩ (.agg (refM i b).cells) (by kernel_rfl) (by kernel_rfl) (store_M (HY3.out.rowNe (by have := HMs.out; omega) _) rfl) (⟨hH.1.rowNe (by have := HMs.out; omega) _, hH.2.rowNe (by have := HMs.out; omega) _⟩) (fun hH => ?_)
    refine any_take (i := 4) (oi := { dst := some 8, op := Op.assign (Operand.const (Value.bool false)), type := 4, pos := "ref.go:43", after := #[{ on := 3, ground := Ground.chain }, { on := 0, ground := Ground.phase }, { on := 1, ground := Ground.phase }, { on := 2, ground := Ground.phase }, { on := 3, ground := Ground.phase }], guard := none }) (v := .bool false) rfl (by kernel_rfl) (by kernel_rfl) (by kernel_rfl) (fun _ _ _ h => h) (by kernel_rfl) (fun _ _ => by kernel_rfl) hH ?_
    refine wpAnyH_done (by kernel_rfl) ?_ _
    try simp only [Act.put, List.setIfInBounds_toArray, List.set_cons_zero, List.set_cons_succ]
    have HR2 : Hid (Box ((w3.drew.setRow (N + 1 + 1 + 1) i.cells).setRow (N + 1 + 1 + 1 + 1) (refM i b).cells) (N + 1 + 1 + 1) 29 i.cells) := (Box.setRow HY2.out _).rowNe (by have := HMs.out; omega) _
    have HR3 : Hid (Box ((w3.drew.setRow (N + 1 + 1 + 1) i.cells).setRow (N + 1 + 1 + 1 + 1) (refM i b).cells) (N + 1 + 1 + 1 + 1) 52 (refM i b).cells) := (Box.rowNe HY3.out (by have := HMs.out; omega) _).setRow _
    have HKf : Hid (Kept No w ((w3.drew.setRow (N + 1 + 1 + 1) i.cells).setRow (N + 1 + 1 + 1 + 1) (refM i b).cells)) := (HKw.out.drew.newRow (by have := HNN.out; omega) _).newRow (by have := HNN.out; omega) _
    generalize (w3.drew.setRow (N + 1 + 1 + 1) i.cells).setRow (N + 1 + 1 + 1 + 1) (refM i b).cells = w6 at HR2 HR3 HKf ⊢
    go_wp2
    refine bodyPost_ret (results_row2_tmp (by rfl) _ _ (N + 1 + 1 + 1) (N + 1 + 1 + 1 + 1) i.cells (refM i b).cells (by rfl) (by rfl) (load_I HR2.out) (load_M HR3.out)) rfl ?_
    rw [HPI.out, HPM.out, HPB.out]
    exact ⟨rfl, HKf.out⟩

end Go.Proofs.Ytapjnanenfcdjaa
