import Derived.Test.YtapjnanenfcdjaaE
namespace Go.Proofs.Ytapjnanenfcdjaa
open Go.RowKit
set_option linter.unusedVariables false
set_option linter.unusedSimpArgs false

def accBr (i : In) (b : Sp) (c : Cm) : Bool := if refB i b then false else (!eqS i.p b || (!eqS i.a b || !eqC i.c c))
set_option maxRecDepth 100000 in
set_option maxHeartbeats 2000000 in
theorem acc_any (i : In) (b : Sp) (c : Cm) (w : World) : Calls Try.prog 13 #[.agg i.cells, .agg #[.int .i64 b.n, .int .i64 b.c], .agg c.cells] w (fun e w' => e = .returned (.tuple #[.agg (accI i b c).cells, .agg (accM i b).cells, .bool (accB i b c)]) ∧ Kept No w w') := by
  obtain ⟨w1, hw1⟩ : ∃ w1, w1 = ((((w.alloc (.cells i.cells 29)).alloc (.cells #[.int .i64 b.n, .int .i64 b.c] 23)).alloc (.cells c.cells 27)).alloc (.cells iZ.cells 29)).alloc (.cells mZ.cells 52) := ⟨_, rfl⟩
  obtain ⟨N, hN⟩ : ∃ N, N = w.heap.size := ⟨_, rfl⟩
  have HNN : Hid (N = w.heap.size) := hN
  have hal := al5 w i.cells 29 #[.int .i64 b.n, .int .i64 b.c] 23 c.cells 27 iZ.cells 29 mZ.cells 52
  rw [← hw1, ← hN] at hal
  obtain ⟨hk1, hb0, hb1, hb4, hb2, hb3, hs1⟩ := hal
  have HK1 : Hid (Kept No w w1) := hk1
  have HX0 : Hid (Box w1 N 29 i.cells) := hb0
  have HX1 : Hid (Box w1 (N + 1) 23 #[.int .i64 b.n, .int .i64 b.c]) := hb1
  have HX4 : Hid (Box w1 (N + 1 + 1) 27 c.cells) := hb4
  have HX2 : Hid (Box w1 (N + 1 + 1 + 1) 29 iZ.cells) := hb2
  have HX3 : Hid (Box w1 (N + 1 + 1 + 1 + 1) 52 mZ.cells) := hb3
  have HS1 : Hid (w1.heap.size = N + 1 + 1 + 1 + 1 + 1) := hs1
  clear hk1 hb0 hb1 hb2 hb3 hb4 hs1
  go_enter Try.func13, Try.ntmps13
  go_upto_region 1 with (first
    | (refine wp_boxV rfl 29 _ rfl i.cells rfl w.heap.size rfl ?_)
    | (refine wp_boxV rfl 27 _ rfl c.cells rfl (w.heap.size + 1 + 1) (by simp) ?_)
    | (refine wp_allocT rfl 29 rfl iZ.cells zero29 (w.heap.size + 1 + 1 + 1) (by simp) ?_)
    | (refine wp_allocT rfl 52 rfl mZ.cells zero52 (w.heap.size + 1 + 1 + 1 + 1) (by simp) ?_))
  rw [← hw1, ← hN]
  clear hw1 hN
  obtain ⟨y0, y1⟩ := Sp.cel HX1.out
  go_upto_region 2 with (first
    | (refine wp_loadV rfl 29 _ rfl ⟨N, 0, none⟩ rfl (.agg i.cells) (load_I HX0.out) ?_)
    | (go_at_call 31
       refine Calls.mono (refusal_any i b w1) ?_
       rintro e w2 ⟨rfl, hk2⟩
       have HK2 : Hid (Kept No w1 w2) := hk2
       clear hk2)
    | (refine wp_allocT rfl 52 rfl mZ.cells zero52 w2.heap.size rfl ?_)
    | (refine wp_storeV rfl 52 _ _ rfl ⟨w2.heap.size, 0, none⟩ (.agg (refM i b).cells) rfl rfl _ (store_M (Box.new _ _ _) rfl) ?_))
  have HF : Hid (Kept No w1 ((w2.alloc (.cells mZ.cells 52)).setRow w2.heap.size (refM i b).cells) ∧ Box ((w2.alloc (.cells mZ.cells 52)).setRow w2.heap.size (refM i b).cells) w2.heap.size 52 (refM i b).cells ∧ N + 1 + 1 + 1 + 1 + 1 ≤ w2.heap.size) := ⟨(HK2.out.alloc _).newRow HK2.out.size _, (Box.new _ _ _).setRow _, by have := HK2.out.size; rw [HS1.out] at this; exact this⟩
  generalize (w2.alloc (.cells mZ.cells 52)).setRow w2.heap.size (refM i b).cells = w3 at HF ⊢
  generalize w2.heap.size = M at HF ⊢
  clear y0 y1 HK2 w2
  have HK3 : Hid (Kept No w1 w3) := HF.out.1
  have HM : Hid (Box w3 M 52 (refM i b).cells) := HF.out.2.1
  have HMs : Hid (N + 1 + 1 + 1 + 1 + 1 ≤ M) := HF.out.2.2
  have HY0 : Hid (Box w3 N 29 i.cells) := HX0.out.kept HK3.out (fun e => e)
  have HY1 : Hid (Box w3 (N + 1) 23 #[.int .i64 b.n, .int .i64 b.c]) := HX1.out.kept HK3.out (fun e => e)
  have HY4 : Hid (Box w3 (N + 1 + 1) 27 c.cells) := HX4.out.kept HK3.out (fun e => e)
  have HY2 : Hid (Box w3 (N + 1 + 1 + 1) 29 iZ.cells) := HX2.out.kept HK3.out (fun e => e)
  have HY3 : Hid (Box w3 (N + 1 + 1 + 1 + 1) 52 mZ.cells) := HX3.out.kept HK3.out (fun e => e)
  have HKw : Hid (Kept No w w3) := HK1.out.then HK3.out
  clear HF HX0 HX1 HX2 HX3 HX4 HK1 HK3 HS1
  have HPI : Hid (accI i b c = if refB i b then i else ⟨b, b, c, false⟩) := rfl
  have HPM : Hid (accM i b = if refB i b then refM i b else ⟨15, b, sZ, cZ⟩) := rfl
  have HPB : Hid (accB i b c = if refB i b then false else (!eqI ⟨b, b, c, false⟩ i)) := rfl
  cases hr : refB i b
  · have HPI : Hid (accI i b c = ⟨b, b, c, false⟩) := by have := HPI.out; rw [hr] at this; exact this
    have HPM : Hid (accM i b = ⟨15, b, sZ, cZ⟩) := by have := HPM.out; rw [hr] at this; exact this
    have HPB : Hid (accB i b c = (!eqI ⟨b, b, c, false⟩ i)) := by have := HPB.out; rw [hr] at this; exact this
    obtain ⟨y0, y1⟩ := Sp.cel HY1.out
    go_upto_region 5 with (first
      | (refine wp_loadV rfl 27 _ rfl ⟨N + 1 + 1, 0, none⟩ rfl (.agg c.cells) (load_C HY4.out) ?_)
      | (refine wp_buildT rfl 29 _ rfl (In.cells ⟨b, b, c, false⟩) (by kernel_rfl) ?_)
      | (refine wp_allocT rfl 29 rfl iZ.cells zero29 w3.heap.size rfl ?_)
      | (refine wp_storeV rfl 29 _ _ rfl ⟨w3.heap.size, 0, none⟩ (.agg (In.cells ⟨b, b, c, false⟩)) rfl rfl _ (store_I (Box.new _ _ _) rfl) ?_))
    have HF : Hid (Kept No w3 ((w3.alloc (.cells iZ.cells 29)).setRow w3.heap.size (In.cells ⟨b, b, c, false⟩)) ∧ Box ((w3.alloc (.cells iZ.cells 29)).setRow w3.heap.size (In.cells ⟨b, b, c, false⟩)) w3.heap.size 29 (In.cells ⟨b, b, c, false⟩) ∧ M < w3.heap.size) := ⟨((Kept.refl No w3).alloc _).newRow (Nat.le_refl _) _, (Box.new _ _ _).setRow _, HM.out.lt⟩
    generalize (w3.alloc (.cells iZ.cells 29)).setRow w3.heap.size (In.cells ⟨b, b, c, false⟩) = w5 at HF ⊢
    generalize w3.heap.size = L at HF ⊢
    clear y0 y1
    have HLs : Hid (M < L) := HF.out.2.2
    have HYL : Hid (Box w5 L 29 (In.cells ⟨b, b, c, false⟩)) := HF.out.2.1
    have HY0 : Hid (Box w5 N 29 i.cells) := HY0.out.kept HF.out.1 (fun e => e)
    have HY1 : Hid (Box w5 (N + 1) 23 #[.int .i64 b.n, .int .i64 b.c]) := HY1.out.kept HF.out.1 (fun e => e)
    have HY2 : Hid (Box w5 (N + 1 + 1 + 1) 29 iZ.cells) := HY2.out.kept HF.out.1 (fun e => e)
    have HY3 : Hid (Box w5 (N + 1 + 1 + 1 + 1) 52 mZ.cells) := HY3.out.kept HF.out.1 (fun e => e)
    have HY4 : Hid (Box w5 (N + 1 + 1) 27 c.cells) := HY4.out.kept HF.out.1 (fun e => e)
    have HKw : Hid (Kept No w w5) := HKw.out.then HF.out.1
    clear HF
    refine wp_region_held_drew (S := fun w' => Box w' N 29 i.cells ∧ Box w' (N + 1) 23 #[.int .i64 b.n, .int .i64 b.c] ∧ Box w' L 29 (In.cells ⟨b, b, c, false⟩)) rfl ⟨HY0.out, HY1.out, HYL.out⟩ (fun hH => ?_)
    refine any_take (i := 0) (oi := { dst := some 25, op := Op.load 29 (Operand.tmp 11), type := 29, pos := "acceptor.go:24", after := #[], guard := none }) (v := .agg (In.cells ⟨b, b, c, false⟩)) rfl (by kernel_rfl) (by kernel_rfl) (by kernel_rfl) (fun _ _ _ h => h) (by kernel_rfl) (fun w' hw => exec_load 29 _ rfl ⟨L, 0, none⟩ (by kernel_rfl) (.agg (In.cells ⟨b, b, c, false⟩)) (load_I hw.2.2)) hH ?_
    refine any_take (i := 1) (oi := { dst := some 26, op := Op.load 23 (Operand.tmp 4), type := 23, pos := "acceptor.go:24", after := #[{ on := 6, ground := Ground.gcOnly Departure.lateStores }], guard := none }) (v := .agg #[.int .i64 b.n, .int .i64 b.c]) rfl (by kernel_rfl) (by kernel_rfl) (by kernel_rfl) (fun _ _ _ h => h) (by kernel_rfl) (fun w' hw => exec_load 23 _ rfl ⟨N + 1, 0, none⟩ (by kernel_rfl) (.agg #[.int .i64 b.n, .int .i64 b.c]) (load_S (cs := [.int .i64 b.n, .int .i64 b.c]) hw.2.1 (Part.all _))) hH ?_
    refine any_take (i := 2) (oi := { dst := some 27, op := Op.build 52 #[(0, Operand.const (Value.int IntKind.i64 15)), (6, Operand.tmp 26)], type := 52, pos := "acceptor.go:24", after := #[{ on := 1, ground := Ground.data }, { on := 6, ground := Ground.gcOnly Departure.lateStores }], guard := none }) (v := .agg (Mg.cells ⟨15, b, sZ, cZ⟩)) rfl (by kernel_rfl) (by kernel_rfl) (by kernel_rfl) (fun _ _ _ h => h) (by kernel_rfl) (fun w' hw => exec_build 52 _ rfl (Mg.cells ⟨15, b, sZ, cZ⟩) (by kernel_rfl)) hH ?_
    refine any_take (i := 3) (oi := { dst := some 28, op := Op.load 29 (Operand.tmp 11), type := 29, pos := "acceptor.go:24", after := #[{ on := 7, ground := Ground.gcOnly Departure.lateStores }], guard := none }) (v := .agg (In.cells ⟨b, b, c, false⟩)) rfl (by kernel_rfl) (by kernel_rfl) (by kernel_rfl) (fun _ _ _ h => h) (by kernel_rfl) (fun w' hw => exec_load 29 _ rfl ⟨L, 0, none⟩ (by kernel_rfl) (.agg (In.cells ⟨b, b, c, false⟩)) (load_I hw.2.2)) hH ?_
    refine any_take (i := 4) (oi := { dst := some 29, op := Op.load 29 (Operand.tmp 3), type := 29, pos := "acceptor.go:24", after := #[{ on := 7, ground := Ground.gcOnly Departure.lateStores }], guard := none }) (v := .agg i.cells) rfl (by kernel_rfl) (by kernel_rfl) (by kernel_rfl) (fun _ _ _ h => h) (by kernel_rfl) (fun w' hw => exec_load 29 _ rfl ⟨N, 0, none⟩ (by kernel_rfl) (.agg i.cells) (load_I hw.1)) hH ?_
    refine any_take (i := 5) (oi := { dst := some 30, op := Op.binOp BinOp.neq 29 (Operand.tmp 28) (Operand.tmp 29) 29, type := 4, pos := "acceptor.go:24", after := #[{ on := 3, ground := Ground.data }, { on := 4, ground := Ground.data }, { on := 7, ground := Ground.gcOnly Departure.lateStores }], guard := none }) (v := .bool (!eqI ⟨b, b, c, false⟩ i)) rfl (by kernel_rfl) (by kernel_rfl) (by kernel_rfl) (fun _ _ _ h => h) (by kernel_rfl) (fun w' hw => exec_bin .neq 29 _ _ _ rfl (.agg (In.cells ⟨b, b, c, false⟩)) (.agg i.cells) (.bool (!eqI ⟨b, b, c, false⟩ i)) (by kernel_rfl) (by kernel_rfl) (guard_I _ (.inr rfl) _ _ _ _ _) (neqI _ _ _)) hH ?_
    refine any_store (i := 6) (o := { dst := none, op := Op.store 29 (Operand.tmp 6) (Operand.tmp 25), type := 0, pos := "acceptor.go:24", after := #[{ on := 0, ground := Ground.data }, { on := 0, ground := Ground.phase }, { on := 1, ground := Ground.textOnly Departure.lateStores }, { on := 2, ground := Ground.textOnly Departure.lateStores }, { on := 3, ground := Ground.textOnly Departure.lateStores }, { on := 4, ground := Ground.textOnly Departure.lateStores }, { on := 5, ground := Ground.textOnly Departure.lateStores }], guard := none }) rfl (by kernel_rfl) (by kernel_rfl) 29 _ _ rfl ⟨N + 1 + 1 + 1, 0, none⟩ (.agg (In.cells ⟨b, b, c, false⟩)) (by kernel_rfl) (by kernel_rfl) (store_I HY2.out rfl) (⟨hH.1.rowNe (by have := HMs.out; have := HLs.out; omega) _, hH.2.1.rowNe (by have := HMs.out; have := HLs.out; omega) _, hH.2.2.rowNe (by have := HMs.out; have := HLs.out; omega) _⟩) (fun hH => ?_)
    refine any_store (i := 7) (o := { dst := none, op := Op.store 52 (Operand.tmp 7) (Operand.tmp 27), type := 0, pos := "acceptor.go:24", after := #[{ on := 2, ground := Ground.data }, { on := 6, ground := Ground.chain }, { on := 0, ground := Ground.phase }, { on := 1, ground := Ground.phase }, { on := 2, ground := Ground.phase }, { on := 3, ground := Ground.textOnly Departure.lateStores }, { on := 4, ground := Ground.textOnly Departure.lateStores }, { on := 5, ground := Ground.textOnly Departure.lateStores }, { on := 6, ground := Ground.phase }], guard := none }) rfl (by kernel_rfl) (by kernel_rfl) 52 _ _ rfl ⟨N + 1 + 1 + 1 + 1, 0, none⟩ (.agg (Mg.cells ⟨15, b, sZ, cZ⟩)) (by kernel_rfl) (by kernel_rfl) (store_M (HY3.out.rowNe (by have := HMs.out; have := HLs.out; omega) _) rfl) (⟨hH.1.rowNe (by have := HMs.out; have := HLs.out; omega) _, hH.2.1.rowNe (by have := HMs.out; have := HLs.out; omega) _, hH.2.2.rowNe (by have := HMs.out; have := HLs.out; omega) _⟩) (fun hH => ?_)
    refine any_take (i := 8) (oi := { dst := some 8, op := Op.assign (Operand.tmp 30), type := 4, pos := "acceptor.go:24", after := #[{ on := 5, ground := Ground.data }, { on := 7, ground := Ground.chain }, { on := 0, ground := Ground.phase }, { on := 1, ground := Ground.phase }, { on := 2, ground := Ground.phase }, { on := 3, ground := Ground.phase }, { on := 4, ground := Ground.phase }, { on := 5, ground := Ground.phase }, { on := 6, ground := Ground.phase }, { on := 7, ground := Ground.phase }], guard := none }) (v := .bool (!eqI ⟨b, b, c, false⟩ i)) rfl (by kernel_rfl) (by kernel_rfl) (by kernel_rfl) (fun _ _ _ h => h) (by kernel_rfl) (fun _ _ => by kernel_rfl) hH ?_
    refine wpAnyH_done (by kernel_rfl) ?_ _
    try simp only [Act.put, List.setIfInBounds_toArray, List.set_cons_zero, List.set_cons_succ]
    have HR2 : Hid (Box ((w5.drew.setRow (N + 1 + 1 + 1) (In.cells ⟨b, b, c, false⟩)).setRow (N + 1 + 1 + 1 + 1) (Mg.cells ⟨15, b, sZ, cZ⟩)) (N + 1 + 1 + 1) 29 (In.cells ⟨b, b, c, false⟩)) := (Box.setRow HY2.out _).rowNe (by have := HMs.out; have := HLs.out; omega) _
    have HR3 : Hid (Box ((w5.drew.setRow (N + 1 + 1 + 1) (In.cells ⟨b, b, c, false⟩)).setRow (N + 1 + 1 + 1 + 1) (Mg.cells ⟨15, b, sZ, cZ⟩)) (N + 1 + 1 + 1 + 1) 52 (Mg.cells ⟨15, b, sZ, cZ⟩)) := (Box.rowNe HY3.out (by have := HMs.out; have := HLs.out; omega) _).setRow _
    have HKf : Hid (Kept No w ((w5.drew.setRow (N + 1 + 1 + 1) (In.cells ⟨b, b, c, false⟩)).setRow (N + 1 + 1 + 1 + 1) (Mg.cells ⟨15, b, sZ, cZ⟩))) := (HKw.out.drew.newRow (by have := HNN.out; omega) _).newRow (by have := HNN.out; omega) _
    generalize (w5.drew.setRow (N + 1 + 1 + 1) (In.cells ⟨b, b, c, false⟩)).setRow (N + 1 + 1 + 1 + 1) (Mg.cells ⟨15, b, sZ, cZ⟩) = w6 at HR2 HR3 HKf ⊢
    go_wp2
    refine bodyPost_ret (results_row2_tmp (by rfl) _ _ (N + 1 + 1 + 1) (N + 1 + 1 + 1 + 1) (In.cells ⟨b, b, c, false⟩) (Mg.cells ⟨15, b, sZ, cZ⟩) (by rfl) (by rfl) (load_I HR2.out) (load_M HR3.out)) rfl ?_
    rw [HPI.out, HPM.out, HPB.out]
    exact ⟨rfl, HKf.out⟩
  · have HPI : Hid (accI i b c = i) := by have := HPI.out; rw [hr] at this; exact this
    have HPM : Hid (accM i b = refM i b) := by have := HPM.out; rw [hr] at this; exact this
    have HPB : Hid (accB i b c = false) := by have := HPB.out; rw [hr] at this; exact this
    go_upto_region 3 with fail
    refine wp_region_held_drew (S := fun w' => Box w' N 29 i.cells ∧ Box w' M 52 (refM i b).cells) rfl ⟨HY0.out, HM.out⟩ (fun hH => ?_)
    refine any_take (i := 0) (oi := { dst := some 19, op := Op.load 29 (Operand.tmp 3), type := 29, pos := "acceptor.go:21", after := #[], guard := none }) (v := .agg i.cells) rfl (by kernel_rfl) (by kernel_rfl) (by kernel_rfl) (fun _ _ _ h => h) (by kernel_rfl) (fun w' hw => exec_load 29 _ rfl ⟨N, 0, none⟩ (by kernel_rfl) (.agg i.cells) (load_I hw.1)) hH ?_
    refine any_take (i := 1) (oi := { dst := some 20, op := Op.load 52 (Operand.tmp 9), type := 52, pos := "acceptor.go:21", after := #[{ on := 2, ground := Ground.gcOnly Departure.lateStores }], guard := none }) (v := .agg (refM i b).cells) rfl (by kernel_rfl) (by kernel_rfl) (by kernel_rfl) (fun _ _ _ h => h) (by kernel_rfl) (fun w' hw => exec_load 52 _ rfl ⟨M, 0, none⟩ (by kernel_rfl) (.agg (refM i b).cells) (load_M hw.2)) hH ?_
    refine any_store (i := 2) (o := { dst := none, op := Op.store 29 (Operand.tmp 6) (Operand.tmp 19), type := 0, pos := "acceptor.go:21", after := #[{ on := 0, ground := Ground.data }, { on := 0, ground := Ground.phase }, { on := 1, ground := Ground.textOnly Departure.lateStores }], guard := none }) rfl (by kernel_rfl) (by kernel_rfl) 29 _ _ rfl ⟨N + 1 + 1 + 1, 0, none⟩ (.agg i.cells) (by kernel_rfl) (by kernel_rfl) (store_I HY2.out rfl) (⟨hH.1.rowNe (by have := HMs.out; omega) _, hH.2.rowNe (by have := HMs.out; omega) _⟩) (fun hH => ?_)
    refine any_store (i := 3) (o := { dst := none, op := Op.store 52 (Operand.tmp 7) (Operand.tmp 20), type := 0, pos := "acceptor.go:21", after := #[{ on := 1, ground := Ground.data }, { on := 2, ground := Ground.chain }, { on := 0, ground := Ground.phase }, { on := 1, ground := Ground.phase }, { on := 2, ground := Ground.phase }], guard := none }) rfl (by kernel_rfl) (by kernel_rfl) 52 _ _ rfl ⟨N + 1 + 1 + 1 + 1, 0, none⟩ (.agg (refM i b).cells) (by kernel_rfl) (by kernel_rfl) (store_M (HY3.out.rowNe (by have := HMs.out; omega) _) rfl) (⟨hH.1.rowNe (by have := HMs.out; omega) _, hH.2.rowNe (by have := HMs.out; omega) _⟩) (fun hH => ?_)
    refine any_take (i := 4) (oi := { dst := some 8, op := Op.assign (Operand.const (Value.bool false)), type := 4, pos := "acceptor.go:21", after := #[{ on := 3, ground := Ground.chain }, { on := 0, ground := Ground.phase }, { on := 1, ground := Ground.phase }, { on := 2, ground := Ground.phase }, { on := 3, ground := Ground.phase }], guard := none }) (v := .bool false) rfl (by kernel_rfl) (by kernel_rfl) (by kernel_rfl) (fun _ _ _ h => h) (by kernel_rfl) (fun _ _ => by kernel_rfl) hH ?_
    refine wpAnyH_done (by kernel_rfl) ?_ _
    try simp only [Act.put, List.setIfInBounds_toArray, List.set_cons_zero, List.set_cons_succ]
    have HR2 : Hid (Box ((w3.drew.setRow (N + 1 + 1 + 1) i.cells).setRow (N + 1 + 1 + 1 + 1) (refM i b).cells) (N + 1 + 1 + 1) 29 i.cells) := (Box.setRow HY2.out _).rowNe (by have := HMs.out; omega) _
    have HR3 : Hid (Box ((w3.drew.setRow (N + 1 + 1 + 1) i.cells).setRow (N + 1 + 1 + 1 + 1) (refM i b).cells) (N + 1 + 1 + 1 + 1) 52 (refM i b).cells) := (Box.rowNe HY3.out (by have := HMs.out; omega) _).setRow _
    have HKf : Hid (Kept No w ((w3.drew.setRow (N + 1 + 1 + 1) i.cells).setRow (N + 1 + 1 + 1 + 1) (refM i b).cells)) := (HKw.out.drew.newRow (by have := HNN.out; omega) _).newRow (by have := HNN.out; omega) _
    generalize (w3.drew.setRow (N + 1 + 1 + 1) i.cells).setRow (N + 1 + 1 + 1 + 1) (refM i b).cells = w6 at HR2 HR3 HKf ⊢
    go_wp2
    refine bodyPost_ret (results_row2_tmp (by rfl) _ _ (N + 1 + 1 + 1) (N + 1 + 1 + 1 + 1) i.cells (refM i b).cells (by rfl) (by rfl) (load_I HR2.out) (load_M HR3.out)) rfl ?_
    rw [HPI.out, HPM.out, HPB.out]
    exact ⟨rfl, HKf.out⟩

set_option maxRecDepth 100000 in
set_option maxHeartbeats 2000000 in
theorem lrn_any (i : In) (c : Cm) (w : World) : Calls Try.prog 15 #[.agg i.cells, .agg c.cells] w (fun e w' => e = .returned (.tuple #[.agg (lrnI i c).cells, .bool (lrnB i c)]) ∧ Kept No w w') := by
  obtain ⟨w1, hw1⟩ : ∃ w1, w1 = ((w.alloc (.cells i.cells 29)).alloc (.cells c.cells 27)).alloc (.cells iZ.cells 29) := ⟨_, rfl⟩
  obtain ⟨N, hN⟩ : ∃ N, N = w.heap.size := ⟨_, rfl⟩
  have HNN : Hid (N = w.heap.size) := hN
  have hal := al3 w i.cells 29 c.cells 27 iZ.cells 29
  rw [← hw1, ← hN] at hal
  obtain ⟨hk1, hb0, hb1, hb2, hs1⟩ := hal
  have HKw : Hid (Kept No w w1) := hk1
  have HY0 : Hid (Box w1 N 29 i.cells) := hb0
  have HY1 : Hid (Box w1 (N + 1) 27 c.cells) := hb1
  have HY2 : Hid (Box w1 (N + 1 + 1) 29 iZ.cells) := hb2
  have HS1 : Hid (w1.heap.size = N + 1 + 1 + 1) := hs1
  clear hk1 hb0 hb1 hb2 hs1
  go_enter Try.func15, Try.ntmps15
  go_upto_region 1 with (first
    | (refine wp_boxV rfl 29 _ rfl i.cells rfl w.heap.size rfl ?_)
    | (refine wp_boxV rfl 27 _ rfl c.cells rfl (w.heap.size + 1) (by simp) ?_)
    | (refine wp_allocT rfl 29 rfl iZ.cells zero29 (w.heap.size + 1 + 1) (by simp) ?_))
  rw [← hw1, ← hN]
  clear hw1 hN
  obtain ⟨-, -, -, -, x13⟩ := In.cel HY0.out
  have HPI : Hid (lrnI i c = if i.d then i else ⟨sZ, sZ, c, true⟩) := rfl
  have HPB : Hid (lrnB i c = if i.d then false else !eqI ⟨sZ, sZ, c, true⟩ i) := rfl
  cases hd : i.d
  · rw [hd] at x13
    have HPI : Hid (lrnI i c = ⟨sZ, sZ, c, true⟩) := by have := HPI.out; rw [hd] at this; exact this
    have HPB : Hid (lrnB i c = !eqI ⟨sZ, sZ, c, true⟩ i) := by have := HPB.out; rw [hd] at this; exact this
    go_upto_region 4 with (first
      | (refine wp_loadV rfl 27 _ rfl ⟨N + 1, 0, none⟩ rfl (.agg c.cells) (load_C HY1.out) ?_)
      | (refine wp_buildT rfl 29 _ rfl (In.cells ⟨sZ, sZ, c, true⟩) (by kernel_rfl) ?_)
      | (refine wp_allocT rfl 29 rfl iZ.cells zero29 w1.heap.size rfl ?_)
      | (refine wp_storeV rfl 29 _ _ rfl ⟨w1.heap.size, 0, none⟩ (.agg (In.cells ⟨sZ, sZ, c, true⟩)) rfl rfl _ (store_I (Box.new _ _ _) rfl) ?_))
    have HF : Hid (Kept No w1 ((w1.alloc (.cells iZ.cells 29)).setRow w1.heap.size (In.cells ⟨sZ, sZ, c, true⟩)) ∧ Box ((w1.alloc (.cells iZ.cells 29)).setRow w1.heap.size (In.cells ⟨sZ, sZ, c, true⟩)) w1.heap.size 29 (In.cells ⟨sZ, sZ, c, true⟩)) := ⟨((Kept.refl No w1).alloc _).newRow (Nat.le_refl _) _, (Box.new _ _ _).setRow _⟩
    generalize (w1.alloc (.cells iZ.cells 29)).setRow w1.heap.size (In.cells ⟨sZ, sZ, c, true⟩) = w5 at HF ⊢
    have HLs : Hid (N + 1 + 1 < w1.heap.size) := HY2.out.lt
    generalize w1.heap.size = L at HF HLs ⊢
    clear x13
    have HYL : Hid (Box w5 L 29 (In.cells ⟨sZ, sZ, c, true⟩)) := HF.out.2
    have HY0 : Hid (Box w5 N 29 i.cells) := HY0.out.kept HF.out.1 (fun e => e)
    have HY2 : Hid (Box w5 (N + 1 + 1) 29 iZ.cells) := HY2.out.kept HF.out.1 (fun e => e)
    have HKw : Hid (Kept No w w5) := HKw.out.then HF.out.1
    clear HF
    refine wp_region_held_drew (S := fun w' => Box w' N 29 i.cells ∧ Box w' L 29 (In.cells ⟨sZ, sZ, c, true⟩)) rfl ⟨HY0.out, HYL.out⟩ (fun hH => ?_)
    refine any_take (i := 0) (oi := { dst := some 12, op := Op.load 29 (Operand.tmp 6), type := 29, pos := "acceptor.go:33", after := #[], guard := none }) (v := .agg (In.cells ⟨sZ, sZ, c, true⟩)) rfl (by kernel_rfl) (by kernel_rfl) (by kernel_rfl) (fun _ _ _ h => h) (by kernel_rfl) (fun w' hw => exec_load 29 _ rfl ⟨L, 0, none⟩ (by kernel_rfl) (.agg (In.cells ⟨sZ, sZ, c, true⟩)) (load_I hw.2)) hH ?_
    refine any_take (i := 1) (oi := { dst := some 13, op := Op.load 29 (Operand.tmp 6), type := 29, pos := "acceptor.go:33", after := #[{ on := 4, ground := Ground.gcOnly Departure.lateStores }], guard := none }) (v := .agg (In.cells ⟨sZ, sZ, c, true⟩)) rfl (by kernel_rfl) (by kernel_rfl) (by kernel_rfl) (fun _ _ _ h => h) (by kernel_rfl) (fun w' hw => exec_load 29 _ rfl ⟨L, 0, none⟩ (by kernel_rfl) (.agg (In.cells ⟨sZ, sZ, c, true⟩)) (load_I hw.2)) hH ?_
    refine any_take (i := 2) (oi := { dst := some 14, op := Op.load 29 (Operand.tmp 2), type := 29, pos := "acceptor.go:33", after := #[{ on := 4, ground := Ground.gcOnly Departure.lateStores }], guard := none }) (v := .agg i.cells) rfl (by kernel_rfl) (by kernel_rfl) (by kernel_rfl) (fun _ _ _ h => h) (by kernel_rfl) (fun w' hw => exec_load 29 _ rfl ⟨N, 0, none⟩ (by kernel_rfl) (.agg i.cells) (load_I hw.1)) hH ?_
    refine any_take (i := 3) (oi := { dst := some 15, op := Op.binOp BinOp.neq 29 (Operand.tmp 13) (Operand.tmp 14) 29, type := 4, pos := "acceptor.go:33", after := #[{ on := 1, ground := Ground.data }, { on := 2, ground := Ground.data }, { on := 4, ground := Ground.gcOnly Departure.lateStores }], guard := none }) (v := .bool (!eqI ⟨sZ, sZ, c, true⟩ i)) rfl (by kernel_rfl) (by kernel_rfl) (by kernel_rfl) (fun _ _ _ h => h) (by kernel_rfl) (fun w' hw => exec_bin .neq 29 _ _ _ rfl (.agg (In.cells ⟨sZ, sZ, c, true⟩)) (.agg i.cells) (.bool (!eqI ⟨sZ, sZ, c, true⟩ i)) (by kernel_rfl) (by kernel_rfl) (guard_I _ (.inr rfl) _ _ _ _ _) (neqI _ _ _)) hH ?_
    refine any_store (i := 4) (o := { dst := none, op := Op.store 29 (Operand.tmp 4) (Operand.tmp 12), type := 0, pos := "acceptor.go:33", after := #[{ on := 0, ground := Ground.data }, { on := 0, ground := Ground.phase }, { on := 1, ground := Ground.textOnly Departure.lateStores }, { on := 2, ground := Ground.textOnly Departure.lateStores }, { on := 3, ground := Ground.textOnly Departure.lateStores }], guard := none }) rfl (by kernel_rfl) (by kernel_rfl) 29 _ _ rfl ⟨N + 1 + 1, 0, none⟩ (.agg (In.cells ⟨sZ, sZ, c, true⟩)) (by kernel_rfl) (by kernel_rfl) (store_I HY2.out rfl) (⟨hH.1.rowNe (by have := HLs.out; omega) _, hH.2.rowNe (by have := HLs.out; omega) _⟩) (fun hH => ?_)
    refine any_take (i := 5) (oi := { dst := some 5, op := Op.assign (Operand.tmp 15), type := 4, pos := "acceptor.go:33", after := #[{ on := 3, ground := Ground.data }, { on := 4, ground := Ground.chain }, { on := 0, ground := Ground.phase }, { on := 1, ground := Ground.phase }, { on := 2, ground := Ground.phase }, { on := 3, ground := Ground.phase }, { on := 4, ground := Ground.phase }], guard := none }) (v := .bool (!eqI ⟨sZ, sZ, c, true⟩ i)) rfl (by kernel_rfl) (by kernel_rfl) (by kernel_rfl) (fun _ _ _ h => h) (by kernel_rfl) (fun _ _ => by kernel_rfl) hH ?_
    refine wpAnyH_done (by kernel_rfl) ?_ _
    try simp only [Act.put, List.setIfInBounds_toArray, List.set_cons_zero, List.set_cons_succ]
    have HR2 : Hid (Box (w5.drew.setRow (N + 1 + 1) (In.cells ⟨sZ, sZ, c, true⟩)) (N + 1 + 1) 29 (In.cells ⟨sZ, sZ, c, true⟩)) := Box.setRow HY2.out _
    have HKf : Hid (Kept No w (w5.drew.setRow (N + 1 + 1) (In.cells ⟨sZ, sZ, c, true⟩))) := HKw.out.drew.newRow (by have := HNN.out; omega) _
    generalize w5.drew.setRow (N + 1 + 1) (In.cells ⟨sZ, sZ, c, true⟩) = w6 at HR2 HKf ⊢
    go_wp2
    refine bodyPost_ret (results_row_tmp (by rfl) _ _ (N + 1 + 1) (In.cells ⟨sZ, sZ, c, true⟩) (by rfl) (load_I HR2.out)) rfl ?_
    rw [HPI.out, HPB.out]
    exact ⟨rfl, HKf.out⟩
  · rw [hd] at x13
    have HPI : Hid (lrnI i c = i) := by have := HPI.out; rw [hd] at this; exact this
    have HPB : Hid (lrnB i c = false) := by have := HPB.out; rw [hd] at this; exact this
    go_wp2_with (first
      | (refine wp_loadV rfl 29 _ rfl ⟨N, 0, none⟩ rfl (.agg i.cells) (load_I HY0.out) ?_)
      | (refine wp_storeV rfl 29 _ _ rfl ⟨N + 1 + 1, 0, none⟩ (.agg i.cells) rfl rfl _ (store_I HY2.out rfl) ?_))
    refine bodyPost_ret (results_row_tmp (by rfl) _ _ (N + 1 + 1) i.cells (by rfl) (load_I (Box.setRow HY2.out _))) rfl ?_
    rw [HPI.out, HPB.out]
    exact ⟨rfl, HKw.out.newRow (by have := HNN.out; omega) _⟩

set_option maxRecDepth 100000 in
set_option maxHeartbeats 2000000 in
theorem rlrn_any (i : In) (c : Cm) (w : World) : Calls Try.prog 16 #[.agg i.cells, .agg c.cells] w (fun e w' => e = .returned (.tuple #[.agg (lrnI i c).cells, .bool (!i.d)]) ∧ Kept No w w') := by
  obtain ⟨w1, hw1⟩ : ∃ w1, w1 = ((w.alloc (.cells i.cells 29)).alloc (.cells c.cells 27)).alloc (.cells iZ.cells 29) := ⟨_, rfl⟩
  obtain ⟨N, hN⟩ : ∃ N, N = w.heap.size := ⟨_, rfl⟩
  have HNN : Hid (N = w.heap.size) := hN
  have hal := al3 w i.cells 29 c.cells 27 iZ.cells 29
  rw [← hw1, ← hN] at hal
  obtain ⟨hk1, hb0, hb1, hb2, hs1⟩ := hal
  have HKw : Hid (Kept No w w1) := hk1
  have HY0 : Hid (Box w1 N 29 i.cells) := hb0
  have HY1 : Hid (Box w1 (N + 1) 27 c.cells) := hb1
  have HY2 : Hid (Box w1 (N + 1 + 1) 29 iZ.cells) := hb2
  have HS1 : Hid (w1.heap.size = N + 1 + 1 + 1) := hs1
  clear hk1 hb0 hb1 hb2 hs1
  go_enter Try.func16, Try.ntmps16
  go_upto_region 1 with (first
    | (refine wp_boxV rfl 29 _ rfl i.cells rfl w.heap.size rfl ?_)
    | (refine wp_boxV rfl 27 _ rfl c.cells rfl (w.heap.size + 1) (by simp) ?_)
    | (refine wp_allocT rfl 29 rfl iZ.cells zero29 (w.heap.size + 1 + 1) (by simp) ?_))
  rw [← hw1, ← hN]
  clear hw1 hN
  obtain ⟨-, -, -, -, x13⟩ := In.cel HY0.out
  have HPI : Hid (lrnI i c = if i.d then i else ⟨sZ, sZ, c, true⟩) := rfl
  have HPB : Hid (lrnB i c = if i.d then false else !eqI ⟨sZ, sZ, c, true⟩ i) := rfl
  cases hd : i.d
  · rw [hd] at x13
    have HPI : Hid (lrnI i c = ⟨sZ, sZ, c, true⟩) := by have := HPI.out; rw [hd] at this; exact this
    have HPB : Hid (lrnB i c = !eqI ⟨sZ, sZ, c, true⟩ i) := by have := HPB.out; rw [hd] at this; exact this
    go_wp2_with (first
      | (refine wp_loadV rfl 27 _ rfl ⟨N + 1, 0, none⟩ rfl (.agg c.cells) (load_C HY1.out) ?_)
      | (refine wp_buildT rfl 29 _ rfl (In.cells ⟨sZ, sZ, c, true⟩) (by kernel_rfl) ?_)
      | (refine wp_storeV rfl 29 _ _ rfl ⟨N + 1 + 1, 0, none⟩ (.agg (In.cells ⟨sZ, sZ, c, true⟩)) rfl rfl _ (store_I HY2.out rfl) ?_))
    refine bodyPost_ret (results_row_tmp (by rfl) _ _ (N + 1 + 1) (In.cells ⟨sZ, sZ, c, true⟩) (by rfl) (load_I (Box.setRow HY2.out _))) rfl ?_
    rw [HPI.out, hd]
    exact ⟨rfl, HKw.out.newRow (by have := HNN.out; omega) _⟩
  · rw [hd] at x13
    have HPI : Hid (lrnI i c = i) := by have := HPI.out; rw [hd] at this; exact this
    have HPB : Hid (lrnB i c = false) := by have := HPB.out; rw [hd] at this; exact this
    go_wp2_with (first
      | (refine wp_loadV rfl 29 _ rfl ⟨N, 0, none⟩ rfl (.agg i.cells) (load_I HY0.out) ?_)
      | (refine wp_storeV rfl 29 _ _ rfl ⟨N + 1 + 1, 0, none⟩ (.agg i.cells) rfl rfl _ (store_I HY2.out rfl) ?_))
    refine bodyPost_ret (results_row_tmp (by rfl) _ _ (N + 1 + 1) i.cells (by rfl) (load_I (Box.setRow HY2.out _))) rfl ?_
    rw [HPI.out, hd]
    exact ⟨rfl, HKw.out.newRow (by have := HNN.out; omega) _⟩

end Go.Proofs.Ytapjnanenfcdjaa
