import Derived.Test.YtcgnbpaaalmkoabDa
namespace Go.Proofs.Ytcgnbpaaalmkoab
open Go.RowKit
set_option linter.unusedVariables false
set_option linter.unusedSimpArgs false
@[reducible] def oqDb0 : Oper := { dst := some 169, op := Op.move (Operand.tmp 7), type := 59, pos := "ref.go:145", after := #[], guard := none }
@[reducible] def oqDb1 : Oper := { dst := some 170, op := Op.fieldAddr 46 (Operand.tmp 2) 2, type := 0, pos := "ref.go:145", after := #[{ on := 10, ground := Ground.gcOnly Departure.lateStores }], guard := none }
@[reducible] def oqDb2 : Oper := { dst := some 171, op := Op.load 37 (Operand.tmp 170), type := 37, pos := "ref.go:145", after := #[{ on := 1, ground := Ground.data }, { on := 10, ground := Ground.gcOnly Departure.lateStores }], guard := none }
@[reducible] def oqDb3 : Oper := { dst := some 172, op := Op.fieldAddr 46 (Operand.tmp 2) 1, type := 0, pos := "ref.go:145", after := #[{ on := 10, ground := Ground.gcOnly Departure.lateStores }], guard := none }
@[reducible] def oqDb4 : Oper := { dst := some 173, op := Op.load 37 (Operand.tmp 172), type := 37, pos := "ref.go:145", after := #[{ on := 3, ground := Ground.data }, { on := 10, ground := Ground.gcOnly Departure.lateStores }], guard := none }
@[reducible] def oqDb5 : Oper := { dst := some 174, op := Op.fieldAddr 46 (Operand.tmp 2) 5, type := 0, pos := "ref.go:145", after := #[{ on := 10, ground := Ground.gcOnly Departure.lateStores }], guard := none }
@[reducible] def oqDb6 : Oper := { dst := some 175, op := Op.load 39 (Operand.tmp 174), type := 39, pos := "ref.go:145", after := #[{ on := 5, ground := Ground.data }, { on := 10, ground := Ground.gcOnly Departure.lateStores }], guard := none }
@[reducible] def oqDb7 : Oper := { dst := some 176, op := Op.move (Operand.tmp 9), type := 3, pos := "ref.go:145", after := #[{ on := 10, ground := Ground.gcOnly Departure.lateStores }], guard := none }
@[reducible] def oqDb8 : Oper := { dst := some 177, op := Op.build 23 #[(0, Operand.tmp 176)], type := 23, pos := "ref.go:145", after := #[{ on := 7, ground := Ground.data }, { on := 10, ground := Ground.gcOnly Departure.lateStores }], guard := none }
@[reducible] def oqDb9 : Oper := { dst := some 178, op := Op.build 46 #[(0, Operand.const (Value.int IntKind.i64 21)), (1, Operand.tmp 171), (2, Operand.tmp 173), (5, Operand.tmp 175), (6, Operand.tmp 177)], type := 46, pos := "ref.go:145", after := #[{ on := 2, ground := Ground.data }, { on := 4, ground := Ground.data }, { on := 6, ground := Ground.data }, { on := 8, ground := Ground.data }, { on := 10, ground := Ground.gcOnly Departure.lateStores }], guard := none }
@[reducible] def oqDb10 : Oper := { dst := some 4, op := Op.assign (Operand.tmp 169), type := 59, pos := "ref.go:145", after := #[{ on := 0, ground := Ground.data }, { on := 0, ground := Ground.phase }, { on := 1, ground := Ground.textOnly Departure.lateStores }, { on := 2, ground := Ground.textOnly Departure.lateStores }, { on := 3, ground := Ground.textOnly Departure.lateStores }, { on := 4, ground := Ground.textOnly Departure.lateStores }, { on := 5, ground := Ground.textOnly Departure.lateStores }, { on := 6, ground := Ground.textOnly Departure.lateStores }, { on := 7, ground := Ground.textOnly Departure.lateStores }, { on := 8, ground := Ground.textOnly Departure.lateStores }, { on := 9, ground := Ground.textOnly Departure.lateStores }], guard := none }
@[reducible] def oqDb11 : Oper := { dst := none, op := Op.store 46 (Operand.tmp 5) (Operand.tmp 178), type := 0, pos := "ref.go:145", after := #[{ on := 9, ground := Ground.data }, { on := 10, ground := Ground.chain }, { on := 0, ground := Ground.phase }, { on := 1, ground := Ground.phase }, { on := 2, ground := Ground.phase }, { on := 3, ground := Ground.phase }, { on := 4, ground := Ground.phase }, { on := 5, ground := Ground.phase }, { on := 6, ground := Ground.phase }, { on := 7, ground := Ground.phase }, { on := 8, ground := Ground.phase }, { on := 9, ground := Ground.phase }, { on := 10, ground := Ground.phase }], guard := none }
@[reducible] def oqDb12 : Oper := { dst := some 6, op := Op.assign (Operand.const (Value.bool true)), type := 4, pos := "ref.go:145", after := #[{ on := 11, ground := Ground.chain }, { on := 0, ground := Ground.phase }, { on := 1, ground := Ground.phase }, { on := 2, ground := Ground.phase }, { on := 3, ground := Ground.phase }, { on := 4, ground := Ground.phase }, { on := 5, ground := Ground.phase }, { on := 6, ground := Ground.phase }, { on := 7, ground := Ground.phase }, { on := 8, ground := Ground.phase }, { on := 9, ground := Ground.phase }, { on := 10, ground := Ground.phase }, { on := 11, ground := Ground.phase }], guard := none }
@[reducible] def oqDb13 : Oper := { dst := some 120, op := Op.binOp BinOp.neq 43 (Operand.tmp 118) (Operand.tmp 119) 43, type := 4, pos := "ref.go:137", after := #[{ on := 4, ground := Ground.data }, { on := 5, ground := Ground.data }], guard := none }
@[reducible] def oqDb14 : Oper := { dst := some 121, op := Op.move (Operand.tmp 120), type := 4, pos := "ref.go:137", after := #[{ on := 6, ground := Ground.data }], guard := none }
@[reducible] def oqDb15 : Oper := { dst := some 122, op := Op.move (Operand.tmp 11), type := 3, pos := "ref.go:137", after := #[{ on := 7, ground := Ground.guard }], guard := some (7, true) }
@[reducible] def oqDb16 : Oper := { dst := some 123, op := Op.fieldAddr 33 (Operand.tmp 3) 1, type := 0, pos := "ref.go:137", after := #[{ on := 7, ground := Ground.guard }], guard := some (7, true) }
@[reducible] def oqDb17 : Oper := { dst := some 124, op := Op.fieldAddr 30 (Operand.tmp 123) 0, type := 0, pos := "ref.go:137", after := #[{ on := 9, ground := Ground.data }, { on := 7, ground := Ground.guard }], guard := some (7, true) }
@[reducible] def oqDb18 : Oper := { dst := some 125, op := Op.load 3 (Operand.tmp 124), type := 3, pos := "ref.go:137", after := #[{ on := 10, ground := Ground.data }, { on := 7, ground := Ground.guard }], guard := some (7, true) }
@[reducible] def oqDb19 : Oper := { dst := some 126, op := Op.binOp BinOp.gtr 3 (Operand.tmp 122) (Operand.tmp 125) 3, type := 4, pos := "ref.go:137", after := #[{ on := 8, ground := Ground.data }, { on := 11, ground := Ground.data }, { on := 7, ground := Ground.guard }], guard := some (7, true) }
@[reducible] def oqDb20 : Oper := { dst := some 127, op := Op.pick (Operand.tmp 121) (Operand.tmp 126) (Operand.const (Value.bool false)), type := 4, pos := "ref.go:137", after := #[{ on := 7, ground := Ground.data }, { on := 12, ground := Ground.data }], guard := none }
@[reducible] def oqDb21 : Oper := { dst := some 128, op := Op.move (Operand.tmp 127), type := 4, pos := "ref.go:137", after := #[{ on := 13, ground := Ground.data }, { on := 7, ground := Ground.chain }], guard := none }
@[reducible] def oqDb22 : Oper := { dst := some 129, op := Op.move (Operand.tmp 11), type := 3, pos := "ref.go:137", after := #[{ on := 14, ground := Ground.guard }], guard := some (14, true) }
@[reducible] def oqDb23 : Oper := { dst := some 130, op := Op.binOp BinOp.leq 3 (Operand.tmp 129) (Operand.const (Value.int IntKind.i64 1048576)) 3, type := 4, pos := "ref.go:137", after := #[{ on := 15, ground := Ground.data }, { on := 14, ground := Ground.guard }], guard := some (14, true) }
@[reducible] def oqDb24 : Oper := { dst := some 131, op := Op.pick (Operand.tmp 128) (Operand.tmp 130) (Operand.const (Value.bool false)), type := 4, pos := "ref.go:137", after := #[{ on := 14, ground := Ground.data }, { on := 16, ground := Ground.data }], guard := none }
@[reducible] def oqDb25 : Oper := { dst := some 132, op := Op.move (Operand.tmp 131), type := 4, pos := "ref.go:137", after := #[{ on := 17, ground := Ground.data }, { on := 14, ground := Ground.chain }], guard := none }
@[reducible] def oqDb26 : Oper := { dst := some 133, op := Op.load 33 (Operand.tmp 3), type := 33, pos := "ref.go:137", after := #[{ on := 18, ground := Ground.guard }], guard := some (18, true) }
@[reducible] def oqDb27 : Oper := { dst := some 134, op := Op.move (Operand.tmp 11), type := 3, pos := "ref.go:137", after := #[{ on := 18, ground := Ground.guard }], guard := some (18, true) }
@[reducible] def oqDb28 : Oper := { dst := some 135, op := Op.call { callee := Callee.value (Operand.func 25), args := #[Operand.tmp 133, Operand.tmp 134], argTypes := #[33, 3] }, type := 65, pos := "ref.go:137", after := #[{ on := 19, ground := Ground.data }, { on := 20, ground := Ground.data }, { on := 18, ground := Ground.chain }, { on := 18, ground := Ground.guard }], guard := some (18, true) }
@[reducible] def oqDb29 : Oper := { dst := some 136, op := Op.field 65 (Operand.tmp 135) 3, type := 4, pos := "ref.go:137", after := #[{ on := 21, ground := Ground.data }, { on := 18, ground := Ground.guard }], guard := some (18, true) }
@[reducible] def oqDb30 : Oper := { dst := some 137, op := Op.unOp UnOp.not 4 (Operand.tmp 136), type := 4, pos := "ref.go:137", after := #[{ on := 22, ground := Ground.data }, { on := 18, ground := Ground.guard }], guard := some (18, true) }
@[reducible] def oqDb31 : Oper := { dst := some 138, op := Op.pick (Operand.tmp 132) (Operand.tmp 137) (Operand.const (Value.bool false)), type := 4, pos := "ref.go:137", after := #[{ on := 18, ground := Ground.data }, { on := 23, ground := Ground.data }], guard := none }

structure OwG (w : World) (base : Nat) (s : Sl) (cs : List Ch) : Prop where
  own : Own 89 24 w base s.a s.k s.l (chL cs)
  len : cs.length = s.l
theorem OwG.kept {S : Nat → Prop} {w w' : World} {base : Nat} {s : Sl} {es : List Ch} (h : OwG w base s es) (hk : Kept S w w') (hS : ∀ k, At s.a k → ¬ S k) : OwG w' base s es := ⟨h.own.kept hk hS, h.len⟩
theorem OwG.no {w w' : World} {base : Nat} {s : Sl} {es : List Ch} (h : OwG w base s es) (hk : Kept No w w') : OwG w' base s es := h.kept hk (fun _ _ e => e)
theorem cell_ch (e : Ch) (j : Nat) (u : Value) (h : e.cs[j]? = some u) : e.cells[j]? = some u := by unfold Ch.cells; rw [List.getElem?_toArray]; exact h
theorem ks_d {h : Hd} {ps : List Pl} (H : MayP h ps) (f : Int) (c i : Nat) (hi : i < c) : eqC (cAt (decF f c (decd ps)) i) cZ = !(atF (f + i) ps).d := by
  rw [decF_tab f c ps h.k.up H.rise]
  unfold cAt
  rw [tab_get hi]
  show eqC (cmdAt ps (f + i)) cZ = _
  unfold cmdAt
  cases hd : (atF (f + i) ps).d with
  | false => rw [if_neg (by simp)]; exact eqC_refl _
  | true =>
    rw [if_pos rfl]
    have hk : 1 ≤ (atF (f + i) ps).c.k := by
      by_cases hex : ∀ j, j < ps.length → (pAt ps j).n ≠ f + i
      · rw [at_none ps _ hex] at hd; simp [inZ] at hd
      · have hex2 : ∃ j, j < ps.length ∧ (pAt ps j).n = f + i := by
          apply Classical.byContradiction
          intro hno
          exact hex (fun j hj e => hno ⟨j, hj, e⟩)
        obtain ⟨j, hj, hn, hmin⟩ : ∃ j, j < ps.length ∧ (pAt ps j).n = f + i ∧ ∀ k, k < j → (pAt ps k).n ≠ f + i := by
          obtain ⟨j, hj, hn⟩ := hex2
          induction j using Nat.strongRecOn with
          | ind j ih =>
            by_cases hs : ∃ k, k < j ∧ (pAt ps k).n = f + i
            · obtain ⟨k, hk, hk2⟩ := hs
              exact ih k hk (by omega) hk2
            · exact ⟨j, hj, hn, fun k hk e => hs ⟨k, hk, e⟩⟩
        rw [at_found ps _ j hmin hj hn] at hd ⊢
        exact ((H.2.2 j hj).2.2 hd).2.2
    cases he : eqC (atF (f + i) ps).c cZ with
    | false => rfl
    | true =>
      have := eqC_iff.1 he
      rw [this] at hk
      exact absurd hk (by decide)
set_option maxRecDepth 100000 in
set_option maxHeartbeats 4000000 in
theorem refTake_zero (m : Mg) (h : Hd) (w : World) (hz : (m.k == 22 && (m.ky.k == 1 || (m.ky.k == 2 && ((decide (1 ≤ m.bk.up) && decide (m.bk.up ≤ 1048576)) || (m.bk.up == 0 && askB m.st.n))))) = false) : Calls Try.prog 13 #[.agg (Mg.cells m), .agg (Hd.cells h)] w (fun e w' => e = .returned (.tuple #[.slice none 0 0, .agg (Mg.cells mgZ), .bool false]) ∧ Kept No w w') := by
  obtain ⟨C, hC⟩ : ∃ C : Ending → World → Prop, C = (fun e w' => e = .returned (.tuple #[.slice none 0 0, .agg (Mg.cells mgZ), .bool false]) ∧ Kept No w w') := ⟨_, rfl⟩
  have HC : Hid (C = (fun e w' => e = .returned (.tuple #[.slice none 0 0, .agg (Mg.cells mgZ), .bool false]) ∧ Kept No w w')) := hC
  rw [← hC]
  clear hC
  have HF : Hid (Fr No w w []) := Fr.start _ _
  go_enter Try.func13, Try.ntmps13
  go_upto_region 0 with fail
  refine WL.start ?_
  refine wp_runW (.pointer (some ⟨w.heap.size, 0, none⟩)) (w.alloc (.cells (Mg.cells m) 46)) (exec_box 46 _ rfl (Mg.cells m) (by kernel_rfl)) (by kernel_rfl) ?_
  try simp only [pS]
  have HF : Hid (Fr No w _ [(w.heap.size, 46, Mg.cells m)]) := HF.out.alloc _ _
  generalize w.alloc (.cells (Mg.cells m) 46) = wk2 at HF ⊢
  generalize w.heap.size = gk1 at HF ⊢
  refine wp_runW (.pointer (some ⟨wk2.heap.size, 0, none⟩)) (wk2.alloc (.cells (Hd.cells h) 33)) (exec_box 33 _ rfl (Hd.cells h) (by kernel_rfl)) (by kernel_rfl) ?_
  try simp only [pS]
  have HF : Hid (Fr No w _ [(gk1, 46, Mg.cells m), (wk2.heap.size, 33, Hd.cells h)]) := HF.out.alloc _ _
  generalize wk2.alloc (.cells (Hd.cells h) 33) = wk4 at HF ⊢
  generalize wk2.heap.size = gk3 at HF ⊢
  refine tK (.slice none 0 0) ?_
  try simp only [pS]
  refine wp_runW (.pointer (some ⟨wk4.heap.size, 0, none⟩)) (wk4.alloc (.cells (Mg.cells mgZ) 46)) (exec_alloc 46 rfl (Mg.cells mgZ) zero50) (by kernel_rfl) ?_
  try simp only [pS]
  have HF : Hid (Fr No w _ [(gk1, 46, Mg.cells m), (gk3, 33, Hd.cells h), (wk4.heap.size, 46, Mg.cells mgZ)]) := HF.out.alloc _ _
  generalize wk4.alloc (.cells (Mg.cells mgZ) 46) = wk6 at HF ⊢
  generalize wk4.heap.size = gk5 at HF ⊢
  refine tK (.bool false) ?_
  try simp only [pS]
  refine WL.nil ?_
  try simp only [pS]
  go_upto_region 1 with fail
  refine WL.start ?_
  refine tK (.slice none 0 0) ?_
  try simp only [pS]
  refine WL.nil ?_
  try simp only [pS]
  go_upto_region 2 with fail
  refine WL.start ?_
  refine tK (.pointer (some ⟨gk1, 0, none⟩)) ?_
  refine tW (.int .i64 m.k) (eL 3 _ rfl ⟨gk1, 0, none⟩ (load_one ((HF.out.box 0 _ _ _ rfl).cell 0 |>.trans (by kernel_rfl)) Try.und3 rfl)) ?_
  try simp only [pS]
  cases q1 : (m.k == 22)
  ·skip
   refine tW (.bool false) (eB .eql 3 _ _ _ rfl (.int .i64 m.k) (.int .i64 22) _ (by rw [b_eql, q1]; try rfl)) ?_
   refine tK (.bool false) ?_
   refine sK ?_
   refine sK ?_
   refine sK ?_
   refine sK ?_
   refine tK (.bool false) ?_
   try simp only [pS]
   refine WL.nil ?_
   try simp only [pS]
   go_upto_region 6 with fail
   refine WL.start ?_
   refine tK (.pointer (some ⟨gk1, 25, none⟩)) ?_
   refine tK (.pointer (some ⟨gk1, 25, none⟩)) ?_
   refine tW (.int .i64 m.bk.up) (eL 3 _ rfl ⟨gk1, 25, none⟩ (load_one ((HF.out.box 0 _ _ _ rfl).cell 25 |>.trans (by kernel_rfl)) Try.und3 rfl)) ?_
   refine tK (.int .i64 m.bk.up) ?_
   try simp only [pS]
   refine WL.nil ?_
   try simp only [pS]
   go_upto_region 7 with fail
   refine WL.start ?_
   refine tK (.pointer (some ⟨gk1, 0, none⟩)) ?_
   refine tW (.int .i64 m.k) (eL 3 _ rfl ⟨gk1, 0, none⟩ (load_one ((HF.out.box 0 _ _ _ rfl).cell 0 |>.trans (by kernel_rfl)) Try.und3 rfl)) ?_
   refine tW (.bool true) (eB .neq 3 _ _ _ rfl (.int .i64 m.k) (.int .i64 22) _ (by rw [b_neq, q1]; try rfl)) ?_
   refine tK (.bool true) ?_
   refine sK ?_
   refine sK ?_
   refine sK ?_
   refine sK ?_
   refine tK (.bool true) ?_
   refine tK (.bool true) ?_
   refine sK ?_
   refine sK ?_
   refine tK (.bool true) ?_
   refine tK (.bool true) ?_
   refine sK ?_
   refine sK ?_
   refine tK (.bool true) ?_
   refine tK (.bool true) ?_
   refine sK ?_
   refine sK ?_
   refine sK ?_
   refine sK ?_
   refine sK ?_
   refine sK ?_
   refine sK ?_
   refine sK ?_
   refine sK ?_
   refine sK ?_
   refine sK ?_
   refine sK ?_
   refine sK ?_
   refine sK ?_
   refine tK (.bool true) ?_
   try simp only [pS]
   refine WL.nil ?_
   try simp only [pS]
   go_upto_region 8 with fail
   refine WL.start ?_
   refine tW (.agg (Mg.cells mgZ)) (exec_build 46 _ rfl (Mg.cells mgZ) (by kernel_rfl)) ?_
   refine tK (.slice none 0 0) ?_
   try simp only [pS]
   refine wp_storeW 46 _ _ rfl ⟨gk5, 0, none⟩ (.agg (Mg.cells mgZ)) (by kernel_rfl) (by kernel_rfl) (wk6.setRow gk5 (Mg.cells mgZ)) (run_store_to (cur := Mg.cs mgZ) (vs := Mg.cs mgZ) (new := Mg.cs mgZ) (HF.out.box 2 _ _ _ rfl) (by kernel_rfl) Try.size50 (Nat.le_of_ble_eq_true (by kernel_rfl)) (Mg.oneL _) (by kernel_rfl)) (by kernel_rfl) ?_
   try simp only [pS]
   have HF : Hid (Fr No w _ [(gk1, 46, Mg.cells m), (gk3, 33, Hd.cells h), (gk5, 46, Mg.cells mgZ)]) := HF.out.set 2 rfl _
   generalize wk6.setRow gk5 (Mg.cells mgZ) = wk7 at HF ⊢
   refine tK (.bool false) ?_
   try simp only [pS]
   refine WL.nil ?_
   try simp only [pS]
   go_wp2
   rw [HC.out]
   refine bodyPost_ret (results_tct (by rfl) _ _ gk5 (Mg.cells mgZ) (by rfl) (run_load_part (cs := Mg.cs mgZ) (sub := Mg.cs mgZ) (HF.out.box 2 _ _ _ rfl) (Part.all _) Try.und50 rfl Try.size50)) rfl ?_
   exact ⟨rfl, HF.out.kept⟩
  ·skip
   refine tW (.bool true) (eB .eql 3 _ _ _ rfl (.int .i64 m.k) (.int .i64 22) _ (by rw [b_eql, q1]; try rfl)) ?_
   refine tK (.bool true) ?_
   refine tK (.pointer (some ⟨gk1, 7, none⟩)) ?_
   refine tK (.pointer (some ⟨gk1, 7, none⟩)) ?_
   refine tW (.int .i64 m.ky.k) (eL 3 _ rfl ⟨gk1, 7, none⟩ (load_one ((HF.out.box 0 _ _ _ rfl).cell 7 |>.trans (by kernel_rfl)) Try.und3 rfl)) ?_
   try simp only [pS]
   cases q2 : (m.ky.k == 1)
   ·skip
    refine tW (.bool false) (eB .eql 3 _ _ _ rfl (.int .i64 m.ky.k) (.int .i64 1) _ (by rw [b_eql, q2]; try rfl)) ?_
    refine tK (.bool false) ?_
    try simp only [pS]
    refine WL.nil ?_
    try simp only [pS]
    go_upto_region 6 with fail
    refine WL.start ?_
    refine tK (.pointer (some ⟨gk1, 25, none⟩)) ?_
    refine tK (.pointer (some ⟨gk1, 25, none⟩)) ?_
    refine tW (.int .i64 m.bk.up) (eL 3 _ rfl ⟨gk1, 25, none⟩ (load_one ((HF.out.box 0 _ _ _ rfl).cell 25 |>.trans (by kernel_rfl)) Try.und3 rfl)) ?_
    refine tK (.int .i64 m.bk.up) ?_
    try simp only [pS]
    refine WL.nil ?_
    try simp only [pS]
    go_upto_region 7 with fail
    refine WL.start ?_
    refine tK (.pointer (some ⟨gk1, 0, none⟩)) ?_
    refine tW (.int .i64 m.k) (eL 3 _ rfl ⟨gk1, 0, none⟩ (load_one ((HF.out.box 0 _ _ _ rfl).cell 0 |>.trans (by kernel_rfl)) Try.und3 rfl)) ?_
    refine tW (.bool false) (eB .neq 3 _ _ _ rfl (.int .i64 m.k) (.int .i64 22) _ (by rw [b_neq, q1]; try rfl)) ?_
    refine tK (.bool false) ?_
    refine tK (.pointer (some ⟨gk1, 7, none⟩)) ?_
    refine tK (.pointer (some ⟨gk1, 7, none⟩)) ?_
    refine tW (.int .i64 m.ky.k) (eL 3 _ rfl ⟨gk1, 7, none⟩ (load_one ((HF.out.box 0 _ _ _ rfl).cell 7 |>.trans (by kernel_rfl)) Try.und3 rfl)) ?_
    try simp only [pS]
    cases q3 : (m.ky.k == 2)
    ·skip
     refine tW (.bool true) (eB .neq 3 _ _ _ rfl (.int .i64 m.ky.k) (.int .i64 2) _ (by rw [b_neq, q3]; try rfl)) ?_
     refine tK (.bool true) ?_
     refine tK (.bool true) ?_
     refine sK ?_
     refine sK ?_
     refine tK (.bool true) ?_
     refine tK (.bool true) ?_
     refine sK ?_
     refine sK ?_
     refine tK (.bool true) ?_
     refine tK (.bool true) ?_
     refine sK ?_
     refine sK ?_
     refine sK ?_
     refine sK ?_
     refine sK ?_
     refine sK ?_
     refine sK ?_
     refine sK ?_
     refine sK ?_
     refine sK ?_
     refine sK ?_
     refine sK ?_
     refine sK ?_
     refine sK ?_
     refine tK (.bool true) ?_
     try simp only [pS]
     refine WL.nil ?_
     try simp only [pS]
     go_upto_region 8 with fail
     refine WL.start ?_
     refine tW (.agg (Mg.cells mgZ)) (exec_build 46 _ rfl (Mg.cells mgZ) (by kernel_rfl)) ?_
     refine tK (.slice none 0 0) ?_
     try simp only [pS]
     refine wp_storeW 46 _ _ rfl ⟨gk5, 0, none⟩ (.agg (Mg.cells mgZ)) (by kernel_rfl) (by kernel_rfl) (wk6.setRow gk5 (Mg.cells mgZ)) (run_store_to (cur := Mg.cs mgZ) (vs := Mg.cs mgZ) (new := Mg.cs mgZ) (HF.out.box 2 _ _ _ rfl) (by kernel_rfl) Try.size50 (Nat.le_of_ble_eq_true (by kernel_rfl)) (Mg.oneL _) (by kernel_rfl)) (by kernel_rfl) ?_
     try simp only [pS]
     have HF : Hid (Fr No w _ [(gk1, 46, Mg.cells m), (gk3, 33, Hd.cells h), (gk5, 46, Mg.cells mgZ)]) := HF.out.set 2 rfl _
     generalize wk6.setRow gk5 (Mg.cells mgZ) = wk8 at HF ⊢
     refine tK (.bool false) ?_
     try simp only [pS]
     refine WL.nil ?_
     try simp only [pS]
     go_wp2
     rw [HC.out]
     refine bodyPost_ret (results_tct (by rfl) _ _ gk5 (Mg.cells mgZ) (by rfl) (run_load_part (cs := Mg.cs mgZ) (sub := Mg.cs mgZ) (HF.out.box 2 _ _ _ rfl) (Part.all _) Try.und50 rfl Try.size50)) rfl ?_
     exact ⟨rfl, HF.out.kept⟩
    ·skip
     refine tW (.bool false) (eB .neq 3 _ _ _ rfl (.int .i64 m.ky.k) (.int .i64 2) _ (by rw [b_neq, q3]; try rfl)) ?_
     refine tK (.bool false) ?_
     refine tK (.bool false) ?_
     refine tK (.int .i64 m.bk.up) ?_
     try simp only [pS]
     cases q4 : (decide (m.bk.up < 0))
     ·skip
      refine tW (.bool false) (eB .lss 3 _ _ _ rfl (.int .i64 m.bk.up) (.int .i64 0) _ (by rw [b_lss, q4]; try rfl)) ?_
      refine tK (.bool false) ?_
      refine tK (.bool false) ?_
      refine tK (.int .i64 m.bk.up) ?_
      try simp only [pS]
      cases q5 : (decide (1048576 < m.bk.up))
      ·skip
       refine tW (.bool false) (eB .gtr 3 _ _ _ rfl (.int .i64 m.bk.up) (.int .i64 1048576) _ (by rw [b_gtr, q5]; try rfl)) ?_
       refine tK (.bool false) ?_
       refine tK (.bool false) ?_
       refine tK (.int .i64 m.bk.up) ?_
       try simp only [pS]
       cases q6 : (m.bk.up == 0)
       · exact absurd hz (by have u1 := of_decide_eq_false q4; have u2 := of_decide_eq_false q5; have u3 : ¬ m.bk.up = 0 := (by simpa using q6); simp [q1, q2, q3]; omega)
       ·skip
        refine tW (.bool true) (eB .eql 3 _ _ _ rfl (.int .i64 m.bk.up) (.int .i64 0) _ (by rw [b_eql, q6]; try rfl)) ?_
        refine tK (.bool true) ?_
        refine tK (.pointer (some ⟨gk1, 11, none⟩)) ?_
        refine tK (.pointer (some ⟨gk1, 11, none⟩)) ?_
        refine tW (.int .i64 m.st.n) (eL 3 _ rfl ⟨gk1, 11, none⟩ (load_one ((HF.out.box 0 _ _ _ rfl).cell 11 |>.trans (by kernel_rfl)) Try.und3 rfl)) ?_
        try simp only [pS]
        cases q7 : (decide (m.st.n < 1))
        ·skip
         refine tW (.bool false) (eB .lss 3 _ _ _ rfl (.int .i64 m.st.n) (.int .i64 1) _ (by rw [b_lss, q7]; try rfl)) ?_
         refine tK (.bool false) ?_
         refine tK (.pointer (some ⟨gk1, 11, none⟩)) ?_
         refine tK (.pointer (some ⟨gk1, 11, none⟩)) ?_
         refine tW (.int .i64 m.st.n) (eL 3 _ rfl ⟨gk1, 11, none⟩ (load_one ((HF.out.box 0 _ _ _ rfl).cell 11 |>.trans (by kernel_rfl)) Try.und3 rfl)) ?_
         try simp only [pS]
         cases q8 : (decide (1048577 < m.st.n))
         · exact absurd hz (by have u1 := of_decide_eq_false q7; have u2 := of_decide_eq_false q8; simp [askB, q1, q2, q3, q6]; omega)
         ·skip
          refine tW (.bool true) (eB .gtr 3 _ _ _ rfl (.int .i64 m.st.n) (.int .i64 1048577) _ (by rw [b_gtr, q8]; try rfl)) ?_
          refine tK (.bool true) ?_
          refine tK (.bool true) ?_
          refine tK (.bool true) ?_
          try simp only [pS]
          refine WL.nil ?_
          try simp only [pS]
          go_upto_region 8 with fail
          refine WL.start ?_
          refine tW (.agg (Mg.cells mgZ)) (exec_build 46 _ rfl (Mg.cells mgZ) (by kernel_rfl)) ?_
          refine tK (.slice none 0 0) ?_
          try simp only [pS]
          refine wp_storeW 46 _ _ rfl ⟨gk5, 0, none⟩ (.agg (Mg.cells mgZ)) (by kernel_rfl) (by kernel_rfl) (wk6.setRow gk5 (Mg.cells mgZ)) (run_store_to (cur := Mg.cs mgZ) (vs := Mg.cs mgZ) (new := Mg.cs mgZ) (HF.out.box 2 _ _ _ rfl) (by kernel_rfl) Try.size50 (Nat.le_of_ble_eq_true (by kernel_rfl)) (Mg.oneL _) (by kernel_rfl)) (by kernel_rfl) ?_
          try simp only [pS]
          have HF : Hid (Fr No w _ [(gk1, 46, Mg.cells m), (gk3, 33, Hd.cells h), (gk5, 46, Mg.cells mgZ)]) := HF.out.set 2 rfl _
          generalize wk6.setRow gk5 (Mg.cells mgZ) = wk9 at HF ⊢
          refine tK (.bool false) ?_
          try simp only [pS]
          refine WL.nil ?_
          try simp only [pS]
          go_wp2
          rw [HC.out]
          refine bodyPost_ret (results_tct (by rfl) _ _ gk5 (Mg.cells mgZ) (by rfl) (run_load_part (cs := Mg.cs mgZ) (sub := Mg.cs mgZ) (HF.out.box 2 _ _ _ rfl) (Part.all _) Try.und50 rfl Try.size50)) rfl ?_
          exact ⟨rfl, HF.out.kept⟩
        ·skip
         refine tW (.bool true) (eB .lss 3 _ _ _ rfl (.int .i64 m.st.n) (.int .i64 1) _ (by rw [b_lss, q7]; try rfl)) ?_
         refine tK (.bool true) ?_
         refine sK ?_
         refine sK ?_
         refine sK ?_
         refine sK ?_
         refine tK (.bool true) ?_
         refine tK (.bool true) ?_
         refine tK (.bool true) ?_
         try simp only [pS]
         refine WL.nil ?_
         try simp only [pS]
         go_upto_region 8 with fail
         refine WL.start ?_
         refine tW (.agg (Mg.cells mgZ)) (exec_build 46 _ rfl (Mg.cells mgZ) (by kernel_rfl)) ?_
         refine tK (.slice none 0 0) ?_
         try simp only [pS]
         refine wp_storeW 46 _ _ rfl ⟨gk5, 0, none⟩ (.agg (Mg.cells mgZ)) (by kernel_rfl) (by kernel_rfl) (wk6.setRow gk5 (Mg.cells mgZ)) (run_store_to (cur := Mg.cs mgZ) (vs := Mg.cs mgZ) (new := Mg.cs mgZ) (HF.out.box 2 _ _ _ rfl) (by kernel_rfl) Try.size50 (Nat.le_of_ble_eq_true (by kernel_rfl)) (Mg.oneL _) (by kernel_rfl)) (by kernel_rfl) ?_
         try simp only [pS]
         have HF : Hid (Fr No w _ [(gk1, 46, Mg.cells m), (gk3, 33, Hd.cells h), (gk5, 46, Mg.cells mgZ)]) := HF.out.set 2 rfl _
         generalize wk6.setRow gk5 (Mg.cells mgZ) = wk10 at HF ⊢
         refine tK (.bool false) ?_
         try simp only [pS]
         refine WL.nil ?_
         try simp only [pS]
         go_wp2
         rw [HC.out]
         refine bodyPost_ret (results_tct (by rfl) _ _ gk5 (Mg.cells mgZ) (by rfl) (run_load_part (cs := Mg.cs mgZ) (sub := Mg.cs mgZ) (HF.out.box 2 _ _ _ rfl) (Part.all _) Try.und50 rfl Try.size50)) rfl ?_
         exact ⟨rfl, HF.out.kept⟩
      ·skip
       refine tW (.bool true) (eB .gtr 3 _ _ _ rfl (.int .i64 m.bk.up) (.int .i64 1048576) _ (by rw [b_gtr, q5]; try rfl)) ?_
       refine tK (.bool true) ?_
       refine tK (.bool true) ?_
       refine sK ?_
       refine sK ?_
       refine sK ?_
       refine sK ?_
       refine sK ?_
       refine sK ?_
       refine sK ?_
       refine sK ?_
       refine sK ?_
       refine sK ?_
       refine sK ?_
       refine sK ?_
       refine sK ?_
       refine sK ?_
       refine tK (.bool true) ?_
       try simp only [pS]
       refine WL.nil ?_
       try simp only [pS]
       go_upto_region 8 with fail
       refine WL.start ?_
       refine tW (.agg (Mg.cells mgZ)) (exec_build 46 _ rfl (Mg.cells mgZ) (by kernel_rfl)) ?_
       refine tK (.slice none 0 0) ?_
       try simp only [pS]
       refine wp_storeW 46 _ _ rfl ⟨gk5, 0, none⟩ (.agg (Mg.cells mgZ)) (by kernel_rfl) (by kernel_rfl) (wk6.setRow gk5 (Mg.cells mgZ)) (run_store_to (cur := Mg.cs mgZ) (vs := Mg.cs mgZ) (new := Mg.cs mgZ) (HF.out.box 2 _ _ _ rfl) (by kernel_rfl) Try.size50 (Nat.le_of_ble_eq_true (by kernel_rfl)) (Mg.oneL _) (by kernel_rfl)) (by kernel_rfl) ?_
       try simp only [pS]
       have HF : Hid (Fr No w _ [(gk1, 46, Mg.cells m), (gk3, 33, Hd.cells h), (gk5, 46, Mg.cells mgZ)]) := HF.out.set 2 rfl _
       generalize wk6.setRow gk5 (Mg.cells mgZ) = wk11 at HF ⊢
       refine tK (.bool false) ?_
       try simp only [pS]
       refine WL.nil ?_
       try simp only [pS]
       go_wp2
       rw [HC.out]
       refine bodyPost_ret (results_tct (by rfl) _ _ gk5 (Mg.cells mgZ) (by rfl) (run_load_part (cs := Mg.cs mgZ) (sub := Mg.cs mgZ) (HF.out.box 2 _ _ _ rfl) (Part.all _) Try.und50 rfl Try.size50)) rfl ?_
       exact ⟨rfl, HF.out.kept⟩
     ·skip
      refine tW (.bool true) (eB .lss 3 _ _ _ rfl (.int .i64 m.bk.up) (.int .i64 0) _ (by rw [b_lss, q4]; try rfl)) ?_
      refine tK (.bool true) ?_
      refine tK (.bool true) ?_
      refine sK ?_
      refine sK ?_
      refine tK (.bool true) ?_
      refine tK (.bool true) ?_
      refine sK ?_
      refine sK ?_
      refine sK ?_
      refine sK ?_
      refine sK ?_
      refine sK ?_
      refine sK ?_
      refine sK ?_
      refine sK ?_
      refine sK ?_
      refine sK ?_
      refine sK ?_
      refine sK ?_
      refine sK ?_
      refine tK (.bool true) ?_
      try simp only [pS]
      refine WL.nil ?_
      try simp only [pS]
      go_upto_region 8 with fail
      refine WL.start ?_
      refine tW (.agg (Mg.cells mgZ)) (exec_build 46 _ rfl (Mg.cells mgZ) (by kernel_rfl)) ?_
      refine tK (.slice none 0 0) ?_
      try simp only [pS]
      refine wp_storeW 46 _ _ rfl ⟨gk5, 0, none⟩ (.agg (Mg.cells mgZ)) (by kernel_rfl) (by kernel_rfl) (wk6.setRow gk5 (Mg.cells mgZ)) (run_store_to (cur := Mg.cs mgZ) (vs := Mg.cs mgZ) (new := Mg.cs mgZ) (HF.out.box 2 _ _ _ rfl) (by kernel_rfl) Try.size50 (Nat.le_of_ble_eq_true (by kernel_rfl)) (Mg.oneL _) (by kernel_rfl)) (by kernel_rfl) ?_
      try simp only [pS]
      have HF : Hid (Fr No w _ [(gk1, 46, Mg.cells m), (gk3, 33, Hd.cells h), (gk5, 46, Mg.cells mgZ)]) := HF.out.set 2 rfl _
      generalize wk6.setRow gk5 (Mg.cells mgZ) = wk12 at HF ⊢
      refine tK (.bool false) ?_
      try simp only [pS]
      refine WL.nil ?_
      try simp only [pS]
      go_wp2
      rw [HC.out]
      refine bodyPost_ret (results_tct (by rfl) _ _ gk5 (Mg.cells mgZ) (by rfl) (run_load_part (cs := Mg.cs mgZ) (sub := Mg.cs mgZ) (HF.out.box 2 _ _ _ rfl) (Part.all _) Try.und50 rfl Try.size50)) rfl ?_
      exact ⟨rfl, HF.out.kept⟩
   · exact absurd hz (by simp [q1, q2])
set_option maxRecDepth 100000 in
set_option maxHeartbeats 4000000 in
theorem refTake_bucket_no (m : Mg) (h : Hd) (ps : List Pl) (w : World) (hk22 : (m.k == 22) = true) (hk1 : (m.ky.k == 1) = false) (hk2 : (m.ky.k == 2) = true) (hu1 : 1 ≤ m.bk.up) (hu2 : m.bk.up ≤ 1048576) (hE : decide (edgeF h.k.up (decd ps) < m.bk.up) = false) (hr : RdP w h.r ps) (hm : ps.length ≤ 10000000000000) (hh : MayP h ps) : Calls Try.prog 13 #[.agg (Mg.cells m), .agg (Hd.cells h)] w (fun e w' => e = .returned (.tuple #[.slice none 0 0, .agg (Mg.cells (if moreB m then askM m.to m.fr m.ky (m.bk.up + 1) else mgZ)), .bool (moreB m)]) ∧ Kept No w w') := by
  obtain ⟨C, hC⟩ : ∃ C : Ending → World → Prop, C = (fun e w' => e = .returned (.tuple #[.slice none 0 0, .agg (Mg.cells (if moreB m then askM m.to m.fr m.ky (m.bk.up + 1) else mgZ)), .bool (moreB m)]) ∧ Kept No w w') := ⟨_, rfl⟩
  have HC : Hid (C = (fun e w' => e = .returned (.tuple #[.slice none 0 0, .agg (Mg.cells (if moreB m then askM m.to m.fr m.ky (m.bk.up + 1) else mgZ)), .bool (moreB m)]) ∧ Kept No w w')) := hC
  rw [← hC]
  clear hC
  have HR : Hid (RdP w h.r ps) := hr
  have HM : Hid (MayP h ps) := hh
  have hu := hh.1
  have g1 : decide (m.bk.up < 0) = false := decide_eq_false (by omega)
  have g2 : decide (1048576 < m.bk.up) = false := decide_eq_false (by omega)
  have g3 : (m.bk.up == 0) = false := by simp; omega
  have g4 : decide (0 < m.bk.up) = true := decide_eq_true (by omega)
  clear hr hh
  have HF : Hid (Fr No w w []) := Fr.start _ _
  go_enter Try.func13, Try.ntmps13
  go_upto_region 0 with fail
  refine WL.start ?_
  refine wp_runW (.pointer (some ⟨w.heap.size, 0, none⟩)) (w.alloc (.cells (Mg.cells m) 46)) (exec_box 46 _ rfl (Mg.cells m) (by kernel_rfl)) (by kernel_rfl) ?_
  try simp only [pS]
  have HF : Hid (Fr No w _ [(w.heap.size, 46, Mg.cells m)]) := HF.out.alloc _ _
  generalize w.alloc (.cells (Mg.cells m) 46) = wk2 at HF ⊢
  generalize w.heap.size = gk1 at HF ⊢
  refine wp_runW (.pointer (some ⟨wk2.heap.size, 0, none⟩)) (wk2.alloc (.cells (Hd.cells h) 33)) (exec_box 33 _ rfl (Hd.cells h) (by kernel_rfl)) (by kernel_rfl) ?_
  try simp only [pS]
  have HF : Hid (Fr No w _ [(gk1, 46, Mg.cells m), (wk2.heap.size, 33, Hd.cells h)]) := HF.out.alloc _ _
  generalize wk2.alloc (.cells (Hd.cells h) 33) = wk4 at HF ⊢
  generalize wk2.heap.size = gk3 at HF ⊢
  refine tK (.slice none 0 0) ?_
  try simp only [pS]
  refine wp_runW (.pointer (some ⟨wk4.heap.size, 0, none⟩)) (wk4.alloc (.cells (Mg.cells mgZ) 46)) (exec_alloc 46 rfl (Mg.cells mgZ) zero50) (by kernel_rfl) ?_
  try simp only [pS]
  have HF : Hid (Fr No w _ [(gk1, 46, Mg.cells m), (gk3, 33, Hd.cells h), (wk4.heap.size, 46, Mg.cells mgZ)]) := HF.out.alloc _ _
  generalize wk4.alloc (.cells (Mg.cells mgZ) 46) = wk6 at HF ⊢
  generalize wk4.heap.size = gk5 at HF ⊢
  refine tK (.bool false) ?_
  try simp only [pS]
  refine WL.nil ?_
  try simp only [pS]
  go_upto_region 1 with fail
  refine WL.start ?_
  refine tK (.slice none 0 0) ?_
  try simp only [pS]
  refine WL.nil ?_
  try simp only [pS]
  go_upto_region 2 with fail
  refine WL.start ?_
  refine tK (.pointer (some ⟨gk1, 0, none⟩)) ?_
  refine tW (.int .i64 m.k) (eL 3 _ rfl ⟨gk1, 0, none⟩ (load_one ((HF.out.box 0 _ _ _ rfl).cell 0 |>.trans (by kernel_rfl)) Try.und3 rfl)) ?_
  refine tW (.bool true) (eB .eql 3 _ _ _ rfl (.int .i64 m.k) (.int .i64 22) _ (by rw [b_eql, hk22]; try rfl)) ?_
  refine tK (.bool true) ?_
  refine tK (.pointer (some ⟨gk1, 7, none⟩)) ?_
  refine tK (.pointer (some ⟨gk1, 7, none⟩)) ?_
  refine tW (.int .i64 m.ky.k) (eL 3 _ rfl ⟨gk1, 7, none⟩ (load_one ((HF.out.box 0 _ _ _ rfl).cell 7 |>.trans (by kernel_rfl)) Try.und3 rfl)) ?_
  refine tW (.bool false) (eB .eql 3 _ _ _ rfl (.int .i64 m.ky.k) (.int .i64 1) _ (by rw [b_eql, hk1]; try rfl)) ?_
  refine tK (.bool false) ?_
  try simp only [pS]
  refine WL.nil ?_
  try simp only [pS]
  go_upto_region 6 with fail
  refine WL.start ?_
  refine tK (.pointer (some ⟨gk1, 25, none⟩)) ?_
  refine tK (.pointer (some ⟨gk1, 25, none⟩)) ?_
  refine tW (.int .i64 m.bk.up) (eL 3 _ rfl ⟨gk1, 25, none⟩ (load_one ((HF.out.box 0 _ _ _ rfl).cell 25 |>.trans (by kernel_rfl)) Try.und3 rfl)) ?_
  refine tK (.int .i64 m.bk.up) ?_
  try simp only [pS]
  refine WL.nil ?_
  try simp only [pS]
  go_upto_region 7 with fail
  refine WL.start ?_
  refine tK (.pointer (some ⟨gk1, 0, none⟩)) ?_
  refine tW (.int .i64 m.k) (eL 3 _ rfl ⟨gk1, 0, none⟩ (load_one ((HF.out.box 0 _ _ _ rfl).cell 0 |>.trans (by kernel_rfl)) Try.und3 rfl)) ?_
  refine tW (.bool false) (eB .neq 3 _ _ _ rfl (.int .i64 m.k) (.int .i64 22) _ (by rw [b_neq, hk22]; try rfl)) ?_
  refine tK (.bool false) ?_
  refine tK (.pointer (some ⟨gk1, 7, none⟩)) ?_
  refine tK (.pointer (some ⟨gk1, 7, none⟩)) ?_
  refine tW (.int .i64 m.ky.k) (eL 3 _ rfl ⟨gk1, 7, none⟩ (load_one ((HF.out.box 0 _ _ _ rfl).cell 7 |>.trans (by kernel_rfl)) Try.und3 rfl)) ?_
  refine tW (.bool false) (eB .neq 3 _ _ _ rfl (.int .i64 m.ky.k) (.int .i64 2) _ (by rw [b_neq, hk2]; try rfl)) ?_
  refine tK (.bool false) ?_
  refine tK (.bool false) ?_
  refine tK (.int .i64 m.bk.up) ?_
  refine tW (.bool false) (eB .lss 3 _ _ _ rfl (.int .i64 m.bk.up) (.int .i64 0) _ (by rw [b_lss, g1]; try rfl)) ?_
  refine tK (.bool false) ?_
  refine tK (.bool false) ?_
  refine tK (.int .i64 m.bk.up) ?_
  refine tW (.bool false) (eB .gtr 3 _ _ _ rfl (.int .i64 m.bk.up) (.int .i64 1048576) _ (by rw [b_gtr, g2]; try rfl)) ?_
  refine tK (.bool false) ?_
  refine tK (.bool false) ?_
  refine tK (.int .i64 m.bk.up) ?_
  refine tW (.bool false) (eB .eql 3 _ _ _ rfl (.int .i64 m.bk.up) (.int .i64 0) _ (by rw [b_eql, g3]; try rfl)) ?_
  refine tK (.bool false) ?_
  refine sK ?_
  refine sK ?_
  refine sK ?_
  refine sK ?_
  refine sK ?_
  refine sK ?_
  refine sK ?_
  refine sK ?_
  refine sK ?_
  refine sK ?_
  refine tK (.bool false) ?_
  refine tK (.bool false) ?_
  try simp only [pS]
  refine WL.nil ?_
  try simp only [pS]
  go_upto_region 9 with fail
  refine WL.start ?_
  refine tK (.pointer (some ⟨gk1, 11, none⟩)) ?_
  refine tK (.pointer (some ⟨gk1, 11, none⟩)) ?_
  refine tW (.int .i64 m.st.n) (eL 3 _ rfl ⟨gk1, 11, none⟩ (load_one ((HF.out.box 0 _ _ _ rfl).cell 11 |>.trans (by kernel_rfl)) Try.und3 rfl)) ?_
  refine tK (.pointer (some ⟨gk1, 28, none⟩)) ?_
  refine tW (m.cm.v) (eL 44 _ rfl ⟨gk1, 28, none⟩ (load_one ((HF.out.box 0 _ _ _ rfl).cell 28 |>.trans (by kernel_rfl)) Try.und48 rfl)) ?_
  refine tK (.int .i64 ((m.cm.l : Nat) : Int)) ?_
  refine tW (.int .i64 (IntKind.i64.wrap (m.st.n + ((m.cm.l : Nat) : Int)))) (eB .add 3 _ _ _ rfl (.int .i64 m.st.n) (.int .i64 ((m.cm.l : Nat) : Int)) _ (b_addw _ _ _ rfl _)) ?_
  refine tK (.int .i64 (IntKind.i64.wrap (m.st.n + ((m.cm.l : Nat) : Int)))) ?_
  try simp only [pS]
  refine WL.nil ?_
  try simp only [pS]
  go_upto_region 10 with fail
  refine WL.start ?_
  refine tK (.int .i64 m.bk.up) ?_
  refine tW (.bool true) (eB .gtr 3 _ _ _ rfl (.int .i64 m.bk.up) (.int .i64 0) _ (by rw [b_gtr, g4]; try rfl)) ?_
  try simp only [pS]
  refine WL.nil ?_
  try simp only [pS]
  go_upto_region 11 with fail
  refine WL.start ?_
  refine tK (.int .i64 m.bk.up) ?_
  refine tW (.int .i64 (m.bk.up + 1)) (eB .add 3 _ _ _ rfl (.int .i64 m.bk.up) (.int .i64 1) _ (b_addw _ _ _ (by rw [IntKind.wrap_i64]; omega) _)) ?_
  refine tK (.int .i64 (m.bk.up + 1)) ?_
  try simp only [pS]
  refine WL.nil ?_
  try simp only [pS]
  go_upto_region 12 with fail
  refine WL.start ?_
  refine tK (.int .i64 m.bk.up) ?_
  refine tW (.agg (Hd.cells h)) (eL 33 _ rfl ⟨gk3, 0, none⟩ (run_load_part (cs := Hd.cs h) (sub := Hd.cs h) (HF.out.box 1 _ _ _ rfl) (Part.all _) Try.und35 rfl Try.size35)) ?_
  try simp only [pS]
  refine wp_callW 34 #[.agg (Hd.cells h)] (by kernel_rfl) _ (refEdge_any h ps _ (HR.out.no HF.out.kept) hm (by omega)) (by kernel_rfl) ?_
  rintro e wk7 ⟨kk, rfl, hN, hS, hk⟩
  rw [HM.out.edge hN hS]
  have HF : Hid (Fr No w (wk7) [(gk1, 46, Mg.cells m), (gk3, 33, Hd.cells h), (gk5, 46, Mg.cells mgZ)]) := HF.out.no hk
  clear hk hN hS
  refine ⟨.int .i64 (edgeF h.k.up (decd ps)), rfl, ?_⟩
  try simp only [pS]
  refine tW (.bool false) (eB .gtr 3 _ _ _ rfl (.int .i64 m.bk.up) (.int .i64 (edgeF h.k.up (decd ps))) _ (by rw [b_gtr, hE]; try rfl)) ?_
  try simp only [pS]
  refine WL.nil ?_
  try simp only [pS]
  go_upto_region 21 with fail
  refine WL.start ?_
  refine tK (.pointer (some ⟨gk1, 29, none⟩)) ?_
  refine tW (.bool m.mo) (eL 4 _ rfl ⟨gk1, 29, none⟩ (load_one ((HF.out.box 0 _ _ _ rfl).cell 29 |>.trans (by kernel_rfl)) Try.und4 rfl)) ?_
  try simp only [pS]
  cases q1 : (m.mo)
  ·skip
   try simp only [q1]
   refine tK (.bool true) ?_
   refine tK (.bool true) ?_
   refine sK ?_
   refine sK ?_
   refine sK ?_
   refine sK ?_
   refine sK ?_
   refine sK ?_
   refine sK ?_
   refine sK ?_
   refine tK (.bool true) ?_
   try simp only [pS]
   refine WL.nil ?_
   try simp only [pS]
   have hmo : moreB m = false := by simp [moreB, g3, q1]
   go_upto_region 22 with fail
   refine WL.start ?_
   refine tK (.slice none 0 0) ?_
   refine tW (.agg (Mg.cells mgZ)) (exec_build 46 _ rfl (Mg.cells mgZ) (by kernel_rfl)) ?_
   refine tK (.slice none 0 0) ?_
   try simp only [pS]
   refine wp_storeW 46 _ _ rfl ⟨gk5, 0, none⟩ (.agg (Mg.cells mgZ)) (by kernel_rfl) (by kernel_rfl) (wk7.setRow gk5 (Mg.cells mgZ)) (run_store_to (cur := Mg.cs mgZ) (vs := Mg.cs mgZ) (new := Mg.cs mgZ) (HF.out.box 2 _ _ _ rfl) (by kernel_rfl) Try.size50 (Nat.le_of_ble_eq_true (by kernel_rfl)) (Mg.oneL _) (by kernel_rfl)) (by kernel_rfl) ?_
   try simp only [pS]
   have HF : Hid (Fr No w _ [(gk1, 46, Mg.cells m), (gk3, 33, Hd.cells h), (gk5, 46, Mg.cells mgZ)]) := HF.out.set 2 rfl _
   generalize wk7.setRow gk5 (Mg.cells mgZ) = wk8 at HF ⊢
   refine tK (.bool false) ?_
   try simp only [pS]
   refine WL.nil ?_
   try simp only [pS]
   go_wp2
   rw [HC.out]
   refine bodyPost_ret (results_tct (by rfl) _ _ gk5 (Mg.cells mgZ) (by rfl) (run_load_part (cs := Mg.cs mgZ) (sub := Mg.cs mgZ) (HF.out.box 2 _ _ _ rfl) (Part.all _) Try.und50 rfl Try.size50)) rfl ?_
   rw [hmo]
   exact ⟨rfl, HF.out.kept⟩
  ·skip
   try simp only [q1]
   refine tK (.bool false) ?_
   refine tK (.bool false) ?_
   refine tK (.int .i64 m.bk.up) ?_
   refine tW (.bool false) (eB .eql 3 _ _ _ rfl (.int .i64 m.bk.up) (.int .i64 0) _ (by rw [b_eql, g3]; try rfl)) ?_
   refine tK (.bool false) ?_
   refine sK ?_
   refine sK ?_
   refine sK ?_
   refine sK ?_
   refine tK (.bool false) ?_
   refine tK (.bool false) ?_
   try simp only [pS]
   refine WL.nil ?_
   try simp only [pS]
   have hmo : moreB m = true := by simp [moreB, g3, q1]
   go_upto_region 23 with fail
   refine wp_region_held_drew (S := fun w' => Fr No w w' [(gk1, 46, Mg.cells m), (gk3, 33, Hd.cells h)]) rfl (Fr.front (l := [(gk1, 46, Mg.cells m), (gk3, 33, Hd.cells h)]) (m := [(gk5, 46, Mg.cells mgZ)]) (HF.out.drew)) (fun hH => ?_)
   have HF : Hid (Fr No w (wk7.drew) [(gk1, 46, Mg.cells m), (gk3, 33, Hd.cells h), (gk5, 46, Mg.cells mgZ)]) := HF.out.drew
   generalize wk7.drew = wk9 at HF hH ⊢
   refine aT (i := 0) (oi := oqDb0) (v := .slice none 0 0) (fun _ _ => by kernel_rfl) hH ?_
   try simp only [pS]
   refine aT (i := 1) (oi := oqDb1) (v := .pointer (some ⟨gk1, 3, none⟩)) (fun _ _ => by kernel_rfl) hH ?_
   try simp only [pS]
   refine aT (i := 2) (oi := oqDb2) (v := .agg (Ad.cells m.to)) (fun w' hw => eL 37 _ rfl ⟨gk1, 3, none⟩ (run_load_part (cs := Mg.cs m) (sub := Ad.cs m.to) (hw.box 0 _ _ _ rfl) (part_of (by kernel_rfl)) Try.und43 rfl Try.size43)) hH ?_
   try simp only [pS]
   refine aT (i := 3) (oi := oqDb3) (v := .pointer (some ⟨gk1, 1, none⟩)) (fun _ _ => by kernel_rfl) hH ?_
   try simp only [pS]
   refine aT (i := 4) (oi := oqDb4) (v := .agg (Ad.cells m.fr)) (fun w' hw => eL 37 _ rfl ⟨gk1, 1, none⟩ (run_load_part (cs := Mg.cs m) (sub := Ad.cs m.fr) (hw.box 0 _ _ _ rfl) (part_of (by kernel_rfl)) Try.und43 rfl Try.size43)) hH ?_
   try simp only [pS]
   refine aT (i := 5) (oi := oqDb5) (v := .pointer (some ⟨gk1, 7, none⟩)) (fun _ _ => by kernel_rfl) hH ?_
   try simp only [pS]
   refine aT (i := 6) (oi := oqDb6) (v := .agg (Ky.cells m.ky)) (fun w' hw => eL 39 _ rfl ⟨gk1, 7, none⟩ (run_load_part (cs := Mg.cs m) (sub := Ky.cs m.ky) (hw.box 0 _ _ _ rfl) (part_of (by kernel_rfl)) Try.und23 rfl Try.size23)) hH ?_
   try simp only [pS]
   refine aT (i := 7) (oi := oqDb7) (v := .int .i64 (m.bk.up + 1)) (fun _ _ => by kernel_rfl) hH ?_
   try simp only [pS]
   refine aT (i := 8) (oi := oqDb8) (v := .agg (Sp.cells ⟨(m.bk.up + 1), 0⟩)) (fun w' hw => exec_build 23 _ rfl (Sp.cells ⟨(m.bk.up + 1), 0⟩) (by kernel_rfl)) hH ?_
   try simp only [pS]
   refine aT (i := 9) (oi := oqDb9) (v := .agg (Mg.cells ⟨21, m.to, m.fr, 0, 0, m.ky, ⟨(m.bk.up + 1), 0⟩, spZ, slZ, cZ, bvZ, slZ, false⟩)) (fun w' hw => exec_build 46 _ rfl (Mg.cells ⟨21, m.to, m.fr, 0, 0, m.ky, ⟨(m.bk.up + 1), 0⟩, spZ, slZ, cZ, bvZ, slZ, false⟩) (by kernel_rfl)) hH ?_
   try simp only [pS]
   refine aT (i := 10) (oi := oqDb10) (v := .slice none 0 0) (fun _ _ => by kernel_rfl) hH ?_
   try simp only [pS]
   refine any_store (i := 11) (o := oqDb11) (w' := wk9.setRow gk5 (Mg.cells ⟨21, m.to, m.fr, 0, 0, m.ky, ⟨(m.bk.up + 1), 0⟩, spZ, slZ, cZ, bvZ, slZ, false⟩)) rfl (by kernel_rfl) (by kernel_rfl) 46 _ _ rfl ⟨gk5, 0, none⟩ (.agg (Mg.cells ⟨21, m.to, m.fr, 0, 0, m.ky, ⟨(m.bk.up + 1), 0⟩, spZ, slZ, cZ, bvZ, slZ, false⟩)) (by kernel_rfl) (by kernel_rfl) (run_store_to (cur := Mg.cs mgZ) (vs := Mg.cs ⟨21, m.to, m.fr, 0, 0, m.ky, ⟨(m.bk.up + 1), 0⟩, spZ, slZ, cZ, bvZ, slZ, false⟩) (new := Mg.cs ⟨21, m.to, m.fr, 0, 0, m.ky, ⟨(m.bk.up + 1), 0⟩, spZ, slZ, cZ, bvZ, slZ, false⟩) (HF.out.box 2 _ _ _ rfl) (by kernel_rfl) Try.size50 (Nat.le_of_ble_eq_true (by kernel_rfl)) (Mg.oneL _) (by kernel_rfl)) (Fr.front (l := [(gk1, 46, Mg.cells m), (gk3, 33, Hd.cells h)]) (m := [(gk5, 46, Mg.cells ⟨21, m.to, m.fr, 0, 0, m.ky, ⟨(m.bk.up + 1), 0⟩, spZ, slZ, cZ, bvZ, slZ, false⟩)]) (HF.out.set 2 rfl _)) (fun hH => ?_)
   try simp only [pS]
   have HF : Hid (Fr No w _ [(gk1, 46, Mg.cells m), (gk3, 33, Hd.cells h), (gk5, 46, Mg.cells ⟨21, m.to, m.fr, 0, 0, m.ky, ⟨(m.bk.up + 1), 0⟩, spZ, slZ, cZ, bvZ, slZ, false⟩)]) := HF.out.set 2 rfl _
   generalize wk9.setRow gk5 (Mg.cells ⟨21, m.to, m.fr, 0, 0, m.ky, ⟨(m.bk.up + 1), 0⟩, spZ, slZ, cZ, bvZ, slZ, false⟩) = wk10 at HF hH ⊢
   refine aT (i := 12) (oi := oqDb12) (v := .bool true) (fun _ _ => by kernel_rfl) hH ?_
   try simp only [pS]
   refine wpAnyH_done (by kernel_rfl) ?_ _
   try simp only [pS]
   clear hH
   go_wp2
   rw [HC.out]
   refine bodyPost_ret (results_tct (by rfl) _ _ gk5 (Mg.cells ⟨21, m.to, m.fr, 0, 0, m.ky, ⟨(m.bk.up + 1), 0⟩, spZ, slZ, cZ, bvZ, slZ, false⟩) (by rfl) (run_load_part (cs := Mg.cs ⟨21, m.to, m.fr, 0, 0, m.ky, ⟨(m.bk.up + 1), 0⟩, spZ, slZ, cZ, bvZ, slZ, false⟩) (sub := Mg.cs ⟨21, m.to, m.fr, 0, 0, m.ky, ⟨(m.bk.up + 1), 0⟩, spZ, slZ, cZ, bvZ, slZ, false⟩) (HF.out.box 2 _ _ _ rfl) (Part.all _) Try.und50 rfl Try.size50)) rfl ?_
   rw [hmo]
   exact ⟨rfl, HF.out.kept⟩
set_option maxRecDepth 100000 in
set_option maxHeartbeats 4000000 in
theorem refTake_bucket_yes (m : Mg) (h : Hd) (ps : List Pl) (w : World) (hk22 : (m.k == 22) = true) (hk1 : (m.ky.k == 1) = false) (hk2 : (m.ky.k == 2) = true) (hu1 : 1 ≤ m.bk.up) (hu2 : m.bk.up ≤ 1048576) (hE : decide (edgeF h.k.up (decd ps) < m.bk.up) = true) (hr : RdP w h.r ps) (hm : ps.length ≤ 10000000000000) (hh : MayP h ps) : Calls Try.prog 13 #[.agg (Mg.cells m), .agg (Hd.cells h)] w (fun e w' => ∃ (sa : Option Addr) (cap : Nat), e = .returned (.tuple #[.slice sa 1 cap, .agg (Mg.cells (if moreB m then askM m.to m.fr m.ky (m.bk.up + 1) else mgZ)), .bool (moreB m)]) ∧ OwG w' w.heap.size ⟨sa, 1, cap⟩ [⟨m.ky, blZ, inZ, m.bk⟩] ∧ Kept No w w') := by
  obtain ⟨C, hC⟩ : ∃ C : Ending → World → Prop, C = (fun e w' => ∃ (sa : Option Addr) (cap : Nat), e = .returned (.tuple #[.slice sa 1 cap, .agg (Mg.cells (if moreB m then askM m.to m.fr m.ky (m.bk.up + 1) else mgZ)), .bool (moreB m)]) ∧ OwG w' w.heap.size ⟨sa, 1, cap⟩ [⟨m.ky, blZ, inZ, m.bk⟩] ∧ Kept No w w') := ⟨_, rfl⟩
  have HC : Hid (C = (fun e w' => ∃ (sa : Option Addr) (cap : Nat), e = .returned (.tuple #[.slice sa 1 cap, .agg (Mg.cells (if moreB m then askM m.to m.fr m.ky (m.bk.up + 1) else mgZ)), .bool (moreB m)]) ∧ OwG w' w.heap.size ⟨sa, 1, cap⟩ [⟨m.ky, blZ, inZ, m.bk⟩] ∧ Kept No w w')) := hC
  rw [← hC]
  clear hC
  have HR : Hid (RdP w h.r ps) := hr
  have HM : Hid (MayP h ps) := hh
  have hu := hh.1
  have g1 : decide (m.bk.up < 0) = false := decide_eq_false (by omega)
  have g2 : decide (1048576 < m.bk.up) = false := decide_eq_false (by omega)
  have g3 : (m.bk.up == 0) = false := by simp; omega
  have g4 : decide (0 < m.bk.up) = true := decide_eq_true (by omega)
  clear hr hh
  have HF : Hid (Fr No w w []) := Fr.start _ _
  go_enter Try.func13, Try.ntmps13
  go_upto_region 0 with fail
  refine WL.start ?_
  refine wp_runW (.pointer (some ⟨w.heap.size, 0, none⟩)) (w.alloc (.cells (Mg.cells m) 46)) (exec_box 46 _ rfl (Mg.cells m) (by kernel_rfl)) (by kernel_rfl) ?_
  try simp only [pS]
  have HF : Hid (Fr No w _ [(w.heap.size, 46, Mg.cells m)]) := HF.out.alloc _ _
  generalize w.alloc (.cells (Mg.cells m) 46) = wk2 at HF ⊢
  generalize w.heap.size = gk1 at HF ⊢
  refine wp_runW (.pointer (some ⟨wk2.heap.size, 0, none⟩)) (wk2.alloc (.cells (Hd.cells h) 33)) (exec_box 33 _ rfl (Hd.cells h) (by kernel_rfl)) (by kernel_rfl) ?_
  try simp only [pS]
  have HF : Hid (Fr No w _ [(gk1, 46, Mg.cells m), (wk2.heap.size, 33, Hd.cells h)]) := HF.out.alloc _ _
  generalize wk2.alloc (.cells (Hd.cells h) 33) = wk4 at HF ⊢
  generalize wk2.heap.size = gk3 at HF ⊢
  refine tK (.slice none 0 0) ?_
  try simp only [pS]
  refine wp_runW (.pointer (some ⟨wk4.heap.size, 0, none⟩)) (wk4.alloc (.cells (Mg.cells mgZ) 46)) (exec_alloc 46 rfl (Mg.cells mgZ) zero50) (by kernel_rfl) ?_
  try simp only [pS]
  have HF : Hid (Fr No w _ [(gk1, 46, Mg.cells m), (gk3, 33, Hd.cells h), (wk4.heap.size, 46, Mg.cells mgZ)]) := HF.out.alloc _ _
  generalize wk4.alloc (.cells (Mg.cells mgZ) 46) = wk6 at HF ⊢
  generalize wk4.heap.size = gk5 at HF ⊢
  refine tK (.bool false) ?_
  try simp only [pS]
  refine WL.nil ?_
  try simp only [pS]
  go_upto_region 1 with fail
  refine WL.start ?_
  refine tK (.slice none 0 0) ?_
  try simp only [pS]
  refine WL.nil ?_
  try simp only [pS]
  go_upto_region 2 with fail
  refine WL.start ?_
  refine tK (.pointer (some ⟨gk1, 0, none⟩)) ?_
  refine tW (.int .i64 m.k) (eL 3 _ rfl ⟨gk1, 0, none⟩ (load_one ((HF.out.box 0 _ _ _ rfl).cell 0 |>.trans (by kernel_rfl)) Try.und3 rfl)) ?_
  refine tW (.bool true) (eB .eql 3 _ _ _ rfl (.int .i64 m.k) (.int .i64 22) _ (by rw [b_eql, hk22]; try rfl)) ?_
  refine tK (.bool true) ?_
  refine tK (.pointer (some ⟨gk1, 7, none⟩)) ?_
  refine tK (.pointer (some ⟨gk1, 7, none⟩)) ?_
  refine tW (.int .i64 m.ky.k) (eL 3 _ rfl ⟨gk1, 7, none⟩ (load_one ((HF.out.box 0 _ _ _ rfl).cell 7 |>.trans (by kernel_rfl)) Try.und3 rfl)) ?_
  refine tW (.bool false) (eB .eql 3 _ _ _ rfl (.int .i64 m.ky.k) (.int .i64 1) _ (by rw [b_eql, hk1]; try rfl)) ?_
  refine tK (.bool false) ?_
  try simp only [pS]
  refine WL.nil ?_
  try simp only [pS]
  go_upto_region 6 with fail
  refine WL.start ?_
  refine tK (.pointer (some ⟨gk1, 25, none⟩)) ?_
  refine tK (.pointer (some ⟨gk1, 25, none⟩)) ?_
  refine tW (.int .i64 m.bk.up) (eL 3 _ rfl ⟨gk1, 25, none⟩ (load_one ((HF.out.box 0 _ _ _ rfl).cell 25 |>.trans (by kernel_rfl)) Try.und3 rfl)) ?_
  refine tK (.int .i64 m.bk.up) ?_
  try simp only [pS]
  refine WL.nil ?_
  try simp only [pS]
  go_upto_region 7 with fail
  refine WL.start ?_
  refine tK (.pointer (some ⟨gk1, 0, none⟩)) ?_
  refine tW (.int .i64 m.k) (eL 3 _ rfl ⟨gk1, 0, none⟩ (load_one ((HF.out.box 0 _ _ _ rfl).cell 0 |>.trans (by kernel_rfl)) Try.und3 rfl)) ?_
  refine tW (.bool false) (eB .neq 3 _ _ _ rfl (.int .i64 m.k) (.int .i64 22) _ (by rw [b_neq, hk22]; try rfl)) ?_
  refine tK (.bool false) ?_
  refine tK (.pointer (some ⟨gk1, 7, none⟩)) ?_
  refine tK (.pointer (some ⟨gk1, 7, none⟩)) ?_
  refine tW (.int .i64 m.ky.k) (eL 3 _ rfl ⟨gk1, 7, none⟩ (load_one ((HF.out.box 0 _ _ _ rfl).cell 7 |>.trans (by kernel_rfl)) Try.und3 rfl)) ?_
  refine tW (.bool false) (eB .neq 3 _ _ _ rfl (.int .i64 m.ky.k) (.int .i64 2) _ (by rw [b_neq, hk2]; try rfl)) ?_
  refine tK (.bool false) ?_
  refine tK (.bool false) ?_
  refine tK (.int .i64 m.bk.up) ?_
  refine tW (.bool false) (eB .lss 3 _ _ _ rfl (.int .i64 m.bk.up) (.int .i64 0) _ (by rw [b_lss, g1]; try rfl)) ?_
  refine tK (.bool false) ?_
  refine tK (.bool false) ?_
  refine tK (.int .i64 m.bk.up) ?_
  refine tW (.bool false) (eB .gtr 3 _ _ _ rfl (.int .i64 m.bk.up) (.int .i64 1048576) _ (by rw [b_gtr, g2]; try rfl)) ?_
  refine tK (.bool false) ?_
  refine tK (.bool false) ?_
  refine tK (.int .i64 m.bk.up) ?_
  refine tW (.bool false) (eB .eql 3 _ _ _ rfl (.int .i64 m.bk.up) (.int .i64 0) _ (by rw [b_eql, g3]; try rfl)) ?_
  refine tK (.bool false) ?_
  refine sK ?_
  refine sK ?_
  refine sK ?_
  refine sK ?_
  refine sK ?_
  refine sK ?_
  refine sK ?_
  refine sK ?_
  refine sK ?_
  refine sK ?_
  refine tK (.bool false) ?_
  refine tK (.bool false) ?_
  try simp only [pS]
  refine WL.nil ?_
  try simp only [pS]
  go_upto_region 9 with fail
  refine WL.start ?_
  refine tK (.pointer (some ⟨gk1, 11, none⟩)) ?_
  refine tK (.pointer (some ⟨gk1, 11, none⟩)) ?_
  refine tW (.int .i64 m.st.n) (eL 3 _ rfl ⟨gk1, 11, none⟩ (load_one ((HF.out.box 0 _ _ _ rfl).cell 11 |>.trans (by kernel_rfl)) Try.und3 rfl)) ?_
  refine tK (.pointer (some ⟨gk1, 28, none⟩)) ?_
  refine tW (m.cm.v) (eL 44 _ rfl ⟨gk1, 28, none⟩ (load_one ((HF.out.box 0 _ _ _ rfl).cell 28 |>.trans (by kernel_rfl)) Try.und48 rfl)) ?_
  refine tK (.int .i64 ((m.cm.l : Nat) : Int)) ?_
  refine tW (.int .i64 (IntKind.i64.wrap (m.st.n + ((m.cm.l : Nat) : Int)))) (eB .add 3 _ _ _ rfl (.int .i64 m.st.n) (.int .i64 ((m.cm.l : Nat) : Int)) _ (b_addw _ _ _ rfl _)) ?_
  refine tK (.int .i64 (IntKind.i64.wrap (m.st.n + ((m.cm.l : Nat) : Int)))) ?_
  try simp only [pS]
  refine WL.nil ?_
  try simp only [pS]
  go_upto_region 10 with fail
  refine WL.start ?_
  refine tK (.int .i64 m.bk.up) ?_
  refine tW (.bool true) (eB .gtr 3 _ _ _ rfl (.int .i64 m.bk.up) (.int .i64 0) _ (by rw [b_gtr, g4]; try rfl)) ?_
  try simp only [pS]
  refine WL.nil ?_
  try simp only [pS]
  go_upto_region 11 with fail
  refine WL.start ?_
  refine tK (.int .i64 m.bk.up) ?_
  refine tW (.int .i64 (m.bk.up + 1)) (eB .add 3 _ _ _ rfl (.int .i64 m.bk.up) (.int .i64 1) _ (b_addw _ _ _ (by rw [IntKind.wrap_i64]; omega) _)) ?_
  refine tK (.int .i64 (m.bk.up + 1)) ?_
  try simp only [pS]
  refine WL.nil ?_
  try simp only [pS]
  go_upto_region 12 with fail
  refine WL.start ?_
  refine tK (.int .i64 m.bk.up) ?_
  refine tW (.agg (Hd.cells h)) (eL 33 _ rfl ⟨gk3, 0, none⟩ (run_load_part (cs := Hd.cs h) (sub := Hd.cs h) (HF.out.box 1 _ _ _ rfl) (Part.all _) Try.und35 rfl Try.size35)) ?_
  try simp only [pS]
  refine wp_callW 34 #[.agg (Hd.cells h)] (by kernel_rfl) _ (refEdge_any h ps _ (HR.out.no HF.out.kept) hm (by omega)) (by kernel_rfl) ?_
  rintro e wk7 ⟨kk, rfl, hN, hS, hk⟩
  rw [HM.out.edge hN hS]
  have HF : Hid (Fr No w (wk7) [(gk1, 46, Mg.cells m), (gk3, 33, Hd.cells h), (gk5, 46, Mg.cells mgZ)]) := HF.out.no hk
  clear hk hN hS
  refine ⟨.int .i64 (edgeF h.k.up (decd ps)), rfl, ?_⟩
  try simp only [pS]
  refine tW (.bool true) (eB .gtr 3 _ _ _ rfl (.int .i64 m.bk.up) (.int .i64 (edgeF h.k.up (decd ps))) _ (by rw [b_gtr, hE]; try rfl)) ?_
  try simp only [pS]
  refine WL.nil ?_
  try simp only [pS]
  go_upto_region 13 with fail
  refine WL.start ?_
  refine tK (.slice none 0 0) ?_
  refine tK (.pointer (some ⟨gk1, 7, none⟩)) ?_
  refine tW (.agg (Ky.cells m.ky)) (eL 39 _ rfl ⟨gk1, 7, none⟩ (run_load_part (cs := Mg.cs m) (sub := Ky.cs m.ky) (HF.out.box 0 _ _ _ rfl) (part_of (by kernel_rfl)) Try.und23 rfl Try.size23)) ?_
  refine tK (.pointer (some ⟨gk1, 25, none⟩)) ?_
  refine tW (.agg (Bv.cells m.bk)) (eL 30 _ rfl ⟨gk1, 25, none⟩ (run_load_part (cs := Mg.cs m) (sub := Bv.cs m.bk) (HF.out.box 0 _ _ _ rfl) (part_of (by kernel_rfl)) Try.und32 rfl Try.size32)) ?_
  refine tW (.agg (Ch.cells ⟨m.ky, blZ, inZ, m.bk⟩)) (exec_build 89 _ rfl (Ch.cells ⟨m.ky, blZ, inZ, m.bk⟩) (by kernel_rfl)) ?_
  try simp only [pS]
  refine wp_runW (.slice (some ⟨wk7.heap.size, 0, none⟩) 1 1) (wk7.alloc (.cells (Ch.cells ⟨m.ky, blZ, inZ, m.bk⟩) 89)) (exec_slice2 59 89 _ rfl (Ch.cells ⟨m.ky, blZ, inZ, m.bk⟩) (.agg (Ch.cells ⟨m.ky, blZ, inZ, m.bk⟩)) (by kernel_rfl) (by kernel_rfl)) (by kernel_rfl) ?_
  try simp only [pS]
  have HF : Hid (Fr No w _ [(gk1, 46, Mg.cells m), (gk3, 33, Hd.cells h), (gk5, 46, Mg.cells mgZ), (wk7.heap.size, 89, Ch.cells ⟨m.ky, blZ, inZ, m.bk⟩)]) := HF.out.alloc _ _
  generalize wk7.alloc (.cells (Ch.cells ⟨m.ky, blZ, inZ, m.bk⟩) 89) = wk9 at HF ⊢
  generalize wk7.heap.size = gk8 at HF ⊢
  obtain ⟨sa2, cap2, w2, hrun, hown, hk2, hat2⟩ := run_appN (w := wk9) 59 59 89 24 248 (.agg chZ.cells) Try.und64 Try.info72 rfl (by omega) w.heap.size 0 0 none ([]) (Own.nil _ _ _ _) (some ⟨gk8, 0, none⟩) 1 1 (Ch.cs ⟨m.ky, blZ, inZ, m.bk⟩) rfl (fun e => by cases e) (fun j u hj => ⟨_, rfl, by rw [addr_add, Nat.zero_add, (HF.out.box 3 _ _ _ rfl).cell]; exact cell_ch _ _ _ hj⟩) (Ch.oneL _) (by omega) (by omega) (by have := HF.out.kept.size; omega)
  have hO0 := (show Own 89 24 wk9 w.heap.size none 0 0 ([]) from (Own.nil _ _ _ _))
  refine wp_runW (.slice sa2 (0 + 1) cap2) w2 (exec_appN _ _ 59 59 rfl _ _ (by kernel_rfl) (by kernel_rfl) hrun) (by kernel_rfl) ?_
  try simp only [pS]
  have HO : Hid (OwG w2 w.heap.size ⟨sa2, 0 + 1, cap2⟩ ([⟨m.ky, blZ, inZ, m.bk⟩])) := ⟨by rw [chL_1]; exact hown, rfl⟩
  have HF : Hid (Fr No w w2 [(gk1, 46, Mg.cells m), (gk3, 33, Hd.cells h), (gk5, 46, Mg.cells mgZ)]) := (show Fr No w wk9 ([(gk1, 46, Mg.cells m), (gk3, 33, Hd.cells h), (gk5, 46, Mg.cells mgZ)] ++ [(gk8, 89, Ch.cells ⟨m.ky, blZ, inZ, m.bk⟩)]) from HF.out).front.app hO0 hk2 (by simp)
  clear hown hk2 hat2 hrun hO0
  refine tK (.slice sa2 (0 + 1) cap2) ?_
  try simp only [pS]
  refine WL.nil ?_
  try simp only [pS]
  go_upto_region 21 with fail
  refine WL.start ?_
  refine tK (.pointer (some ⟨gk1, 29, none⟩)) ?_
  refine tW (.bool m.mo) (eL 4 _ rfl ⟨gk1, 29, none⟩ (load_one ((HF.out.box 0 _ _ _ rfl).cell 29 |>.trans (by kernel_rfl)) Try.und4 rfl)) ?_
  try simp only [pS]
  cases q1 : (m.mo)
  ·skip
   try simp only [q1]
   refine tK (.bool true) ?_
   refine tK (.bool true) ?_
   refine sK ?_
   refine sK ?_
   refine sK ?_
   refine sK ?_
   refine sK ?_
   refine sK ?_
   refine sK ?_
   refine sK ?_
   refine tK (.bool true) ?_
   try simp only [pS]
   refine WL.nil ?_
   try simp only [pS]
   have hmo : moreB m = false := by simp [moreB, g3, q1]
   go_upto_region 22 with fail
   refine WL.start ?_
   refine tK (.slice sa2 (0 + 1) cap2) ?_
   refine tW (.agg (Mg.cells mgZ)) (exec_build 46 _ rfl (Mg.cells mgZ) (by kernel_rfl)) ?_
   refine tK (.slice sa2 (0 + 1) cap2) ?_
   try simp only [pS]
   refine wp_storeW 46 _ _ rfl ⟨gk5, 0, none⟩ (.agg (Mg.cells mgZ)) (by kernel_rfl) (by kernel_rfl) (w2.setRow gk5 (Mg.cells mgZ)) (run_store_to (cur := Mg.cs mgZ) (vs := Mg.cs mgZ) (new := Mg.cs mgZ) (HF.out.box 2 _ _ _ rfl) (by kernel_rfl) Try.size50 (Nat.le_of_ble_eq_true (by kernel_rfl)) (Mg.oneL _) (by kernel_rfl)) (by kernel_rfl) ?_
   try simp only [pS]
   have HO : Hid (OwG (w2.setRow gk5 (Mg.cells mgZ)) w.heap.size ⟨sa2, 0 + 1, cap2⟩ ([⟨m.ky, blZ, inZ, m.bk⟩])) := HO.out.kept (Kept.setRow _ _ _) (fun k h e => (HO.out.own.notBox (HF.out.box 2 _ _ _ rfl) (by decide)) ((show k = gk5 from e) ▸ h))
   have HF : Hid (Fr No w _ [(gk1, 46, Mg.cells m), (gk3, 33, Hd.cells h), (gk5, 46, Mg.cells mgZ)]) := HF.out.set 2 rfl _
   generalize w2.setRow gk5 (Mg.cells mgZ) = wk10 at HF HO ⊢
   refine tK (.bool false) ?_
   try simp only [pS]
   refine WL.nil ?_
   try simp only [pS]
   go_wp2
   rw [HC.out]
   refine bodyPost_ret (results_tct (by rfl) _ _ gk5 (Mg.cells mgZ) (by rfl) (run_load_part (cs := Mg.cs mgZ) (sub := Mg.cs mgZ) (HF.out.box 2 _ _ _ rfl) (Part.all _) Try.und50 rfl Try.size50)) rfl ?_
   rw [hmo]
   exact ⟨sa2, cap2, rfl, HO.out, HF.out.kept⟩
  ·skip
   try simp only [q1]
   refine tK (.bool false) ?_
   refine tK (.bool false) ?_
   refine tK (.int .i64 m.bk.up) ?_
   refine tW (.bool false) (eB .eql 3 _ _ _ rfl (.int .i64 m.bk.up) (.int .i64 0) _ (by rw [b_eql, g3]; try rfl)) ?_
   refine tK (.bool false) ?_
   refine sK ?_
   refine sK ?_
   refine sK ?_
   refine sK ?_
   refine tK (.bool false) ?_
   refine tK (.bool false) ?_
   try simp only [pS]
   refine WL.nil ?_
   try simp only [pS]
   have hmo : moreB m = true := by simp [moreB, g3, q1]
   go_upto_region 23 with fail
   refine wp_region_held_drew (S := fun w' => Fr No w w' [(gk1, 46, Mg.cells m), (gk3, 33, Hd.cells h)]) rfl (Fr.front (l := [(gk1, 46, Mg.cells m), (gk3, 33, Hd.cells h)]) (m := [(gk5, 46, Mg.cells mgZ)]) (HF.out.drew)) (fun hH => ?_)
   have HO : Hid (OwG (w2.drew) w.heap.size ⟨sa2, 0 + 1, cap2⟩ ([⟨m.ky, blZ, inZ, m.bk⟩])) := HO.out.no (Kept.refl No _).drew
   have HF : Hid (Fr No w (w2.drew) [(gk1, 46, Mg.cells m), (gk3, 33, Hd.cells h), (gk5, 46, Mg.cells mgZ)]) := HF.out.drew
   generalize w2.drew = wk11 at HF HO hH ⊢
   refine aT (i := 0) (oi := oqDb0) (v := .slice sa2 (0 + 1) cap2) (fun _ _ => by kernel_rfl) hH ?_
   try simp only [pS]
   refine aT (i := 1) (oi := oqDb1) (v := .pointer (some ⟨gk1, 3, none⟩)) (fun _ _ => by kernel_rfl) hH ?_
   try simp only [pS]
   refine aT (i := 2) (oi := oqDb2) (v := .agg (Ad.cells m.to)) (fun w' hw => eL 37 _ rfl ⟨gk1, 3, none⟩ (run_load_part (cs := Mg.cs m) (sub := Ad.cs m.to) (hw.box 0 _ _ _ rfl) (part_of (by kernel_rfl)) Try.und43 rfl Try.size43)) hH ?_
   try simp only [pS]
   refine aT (i := 3) (oi := oqDb3) (v := .pointer (some ⟨gk1, 1, none⟩)) (fun _ _ => by kernel_rfl) hH ?_
   try simp only [pS]
   refine aT (i := 4) (oi := oqDb4) (v := .agg (Ad.cells m.fr)) (fun w' hw => eL 37 _ rfl ⟨gk1, 1, none⟩ (run_load_part (cs := Mg.cs m) (sub := Ad.cs m.fr) (hw.box 0 _ _ _ rfl) (part_of (by kernel_rfl)) Try.und43 rfl Try.size43)) hH ?_
   try simp only [pS]
   refine aT (i := 5) (oi := oqDb5) (v := .pointer (some ⟨gk1, 7, none⟩)) (fun _ _ => by kernel_rfl) hH ?_
   try simp only [pS]
   refine aT (i := 6) (oi := oqDb6) (v := .agg (Ky.cells m.ky)) (fun w' hw => eL 39 _ rfl ⟨gk1, 7, none⟩ (run_load_part (cs := Mg.cs m) (sub := Ky.cs m.ky) (hw.box 0 _ _ _ rfl) (part_of (by kernel_rfl)) Try.und23 rfl Try.size23)) hH ?_
   try simp only [pS]
   refine aT (i := 7) (oi := oqDb7) (v := .int .i64 (m.bk.up + 1)) (fun _ _ => by kernel_rfl) hH ?_
   try simp only [pS]
   refine aT (i := 8) (oi := oqDb8) (v := .agg (Sp.cells ⟨(m.bk.up + 1), 0⟩)) (fun w' hw => exec_build 23 _ rfl (Sp.cells ⟨(m.bk.up + 1), 0⟩) (by kernel_rfl)) hH ?_
   try simp only [pS]
   refine aT (i := 9) (oi := oqDb9) (v := .agg (Mg.cells ⟨21, m.to, m.fr, 0, 0, m.ky, ⟨(m.bk.up + 1), 0⟩, spZ, slZ, cZ, bvZ, slZ, false⟩)) (fun w' hw => exec_build 46 _ rfl (Mg.cells ⟨21, m.to, m.fr, 0, 0, m.ky, ⟨(m.bk.up + 1), 0⟩, spZ, slZ, cZ, bvZ, slZ, false⟩) (by kernel_rfl)) hH ?_
   try simp only [pS]
   refine aT (i := 10) (oi := oqDb10) (v := .slice sa2 (0 + 1) cap2) (fun _ _ => by kernel_rfl) hH ?_
   try simp only [pS]
   refine any_store (i := 11) (o := oqDb11) (w' := wk11.setRow gk5 (Mg.cells ⟨21, m.to, m.fr, 0, 0, m.ky, ⟨(m.bk.up + 1), 0⟩, spZ, slZ, cZ, bvZ, slZ, false⟩)) rfl (by kernel_rfl) (by kernel_rfl) 46 _ _ rfl ⟨gk5, 0, none⟩ (.agg (Mg.cells ⟨21, m.to, m.fr, 0, 0, m.ky, ⟨(m.bk.up + 1), 0⟩, spZ, slZ, cZ, bvZ, slZ, false⟩)) (by kernel_rfl) (by kernel_rfl) (run_store_to (cur := Mg.cs mgZ) (vs := Mg.cs ⟨21, m.to, m.fr, 0, 0, m.ky, ⟨(m.bk.up + 1), 0⟩, spZ, slZ, cZ, bvZ, slZ, false⟩) (new := Mg.cs ⟨21, m.to, m.fr, 0, 0, m.ky, ⟨(m.bk.up + 1), 0⟩, spZ, slZ, cZ, bvZ, slZ, false⟩) (HF.out.box 2 _ _ _ rfl) (by kernel_rfl) Try.size50 (Nat.le_of_ble_eq_true (by kernel_rfl)) (Mg.oneL _) (by kernel_rfl)) (Fr.front (l := [(gk1, 46, Mg.cells m), (gk3, 33, Hd.cells h)]) (m := [(gk5, 46, Mg.cells ⟨21, m.to, m.fr, 0, 0, m.ky, ⟨(m.bk.up + 1), 0⟩, spZ, slZ, cZ, bvZ, slZ, false⟩)]) (HF.out.set 2 rfl _)) (fun hH => ?_)
   try simp only [pS]
   have HO : Hid (OwG (wk11.setRow gk5 (Mg.cells ⟨21, m.to, m.fr, 0, 0, m.ky, ⟨(m.bk.up + 1), 0⟩, spZ, slZ, cZ, bvZ, slZ, false⟩)) w.heap.size ⟨sa2, 0 + 1, cap2⟩ ([⟨m.ky, blZ, inZ, m.bk⟩])) := HO.out.kept (Kept.setRow _ _ _) (fun k h e => (HO.out.own.notBox (HF.out.box 2 _ _ _ rfl) (by decide)) ((show k = gk5 from e) ▸ h))
   have HF : Hid (Fr No w _ [(gk1, 46, Mg.cells m), (gk3, 33, Hd.cells h), (gk5, 46, Mg.cells ⟨21, m.to, m.fr, 0, 0, m.ky, ⟨(m.bk.up + 1), 0⟩, spZ, slZ, cZ, bvZ, slZ, false⟩)]) := HF.out.set 2 rfl _
   generalize wk11.setRow gk5 (Mg.cells ⟨21, m.to, m.fr, 0, 0, m.ky, ⟨(m.bk.up + 1), 0⟩, spZ, slZ, cZ, bvZ, slZ, false⟩) = wk12 at HF HO hH ⊢
   refine aT (i := 12) (oi := oqDb12) (v := .bool true) (fun _ _ => by kernel_rfl) hH ?_
   try simp only [pS]
   refine wpAnyH_done (by kernel_rfl) ?_ _
   try simp only [pS]
   clear hH
   go_wp2
   rw [HC.out]
   refine bodyPost_ret (results_tct (by rfl) _ _ gk5 (Mg.cells ⟨21, m.to, m.fr, 0, 0, m.ky, ⟨(m.bk.up + 1), 0⟩, spZ, slZ, cZ, bvZ, slZ, false⟩) (by rfl) (run_load_part (cs := Mg.cs ⟨21, m.to, m.fr, 0, 0, m.ky, ⟨(m.bk.up + 1), 0⟩, spZ, slZ, cZ, bvZ, slZ, false⟩) (sub := Mg.cs ⟨21, m.to, m.fr, 0, 0, m.ky, ⟨(m.bk.up + 1), 0⟩, spZ, slZ, cZ, bvZ, slZ, false⟩) (HF.out.box 2 _ _ _ rfl) (Part.all _) Try.und50 rfl Try.size50)) rfl ?_
   rw [hmo]
   exact ⟨sa2, cap2, rfl, HO.out, HF.out.kept⟩
set_option maxRecDepth 100000 in
set_option maxHeartbeats 4000000 in
theorem refTake_cmds (m : Mg) (h : Hd) (ps : List Pl) (cs : List Cm) (w : World) (hk22 : (m.k == 22) = true) (hk1 : (m.ky.k == 1) = false) (hk2 : (m.ky.k == 2) = true) (hup : (m.bk.up == 0) = true) (hab : askB m.st.n = true) (hcs : RdC w m.cm cs) (hl : m.cm.l ≤ 3518437208883) (hr : RdP w h.r ps) (hm : ps.length ≤ 10000000000000) (hh : MayP h ps) : Calls Try.prog 13 #[.agg (Mg.cells m), .agg (Hd.cells h)] w (fun e w' => ∃ s' : Sl, e = .returned (.tuple #[s'.v, .agg (Mg.cells (if moreB m then askM m.to m.fr m.ky (m.st.n + ((m.cm.l : Nat) : Int)) else mgZ)), .bool (moreB m)]) ∧ OwG w' w.heap.size s' (newF m.ky.a m.st.n h.k.up cs (decF m.st.n m.cm.l (decd ps)) m.cm.l) ∧ Kept No w w') := by
  obtain ⟨C, hC⟩ : ∃ C : Ending → World → Prop, C = (fun e w' => ∃ s' : Sl, e = .returned (.tuple #[s'.v, .agg (Mg.cells (if moreB m then askM m.to m.fr m.ky (m.st.n + ((m.cm.l : Nat) : Int)) else mgZ)), .bool (moreB m)]) ∧ OwG w' w.heap.size s' (newF m.ky.a m.st.n h.k.up cs (decF m.st.n m.cm.l (decd ps)) m.cm.l) ∧ Kept No w w') := ⟨_, rfl⟩
  have HC : Hid (C = (fun e w' => ∃ s' : Sl, e = .returned (.tuple #[s'.v, .agg (Mg.cells (if moreB m then askM m.to m.fr m.ky (m.st.n + ((m.cm.l : Nat) : Int)) else mgZ)), .bool (moreB m)]) ∧ OwG w' w.heap.size s' (newF m.ky.a m.st.n h.k.up cs (decF m.st.n m.cm.l (decd ps)) m.cm.l) ∧ Kept No w w')) := hC
  rw [← hC]
  clear hC
  have HR : Hid (RdP w h.r ps) := hr
  have HCS : Hid (RdC w m.cm cs) := hcs
  have HKD : Hid (∀ i, i < m.cm.l → eqC (cAt (decF m.st.n m.cm.l (decd ps)) i) cZ = !(atF (m.st.n + i) ps).d) := show ∀ i, i < m.cm.l → _ from fun i hi => ks_d hh m.st.n m.cm.l i hi
  have hu0 : m.bk.up = 0 := by simpa using hup
  have hn : 1 ≤ m.st.n ∧ m.st.n ≤ 1048577 := by simp [askB] at hab; omega
  have g1 : decide (m.bk.up < 0) = false := decide_eq_false (by omega)
  have g2 : decide (1048576 < m.bk.up) = false := decide_eq_false (by omega)
  have g4 : decide (0 < m.bk.up) = false := decide_eq_false (by omega)
  have g5 : decide (m.st.n < 1) = false := decide_eq_false (by omega)
  have g6 : decide (1048577 < m.st.n) = false := decide_eq_false (by omega)
  obtain ⟨ks, hks⟩ : ∃ ks, ks = (decF m.st.n m.cm.l (decd ps)) := ⟨_, rfl⟩
  rw [← hks] at HC HKD
  clear hr hh hcs hab hks hu0
  have HF : Hid (Fr No w w []) := Fr.start _ _
  go_enter Try.func13, Try.ntmps13
  go_upto_region 0 with fail
  refine WL.start ?_
  refine wp_runW (.pointer (some ⟨w.heap.size, 0, none⟩)) (w.alloc (.cells (Mg.cells m) 46)) (exec_box 46 _ rfl (Mg.cells m) (by kernel_rfl)) (by kernel_rfl) ?_
  try simp only [pS]
  have HF : Hid (Fr No w _ [(w.heap.size, 46, Mg.cells m)]) := HF.out.alloc _ _
  generalize w.alloc (.cells (Mg.cells m) 46) = wk2 at HF ⊢
  generalize w.heap.size = gk1 at HF ⊢
  refine wp_runW (.pointer (some ⟨wk2.heap.size, 0, none⟩)) (wk2.alloc (.cells (Hd.cells h) 33)) (exec_box 33 _ rfl (Hd.cells h) (by kernel_rfl)) (by kernel_rfl) ?_
  try simp only [pS]
  have HF : Hid (Fr No w _ [(gk1, 46, Mg.cells m), (wk2.heap.size, 33, Hd.cells h)]) := HF.out.alloc _ _
  generalize wk2.alloc (.cells (Hd.cells h) 33) = wk4 at HF ⊢
  generalize wk2.heap.size = gk3 at HF ⊢
  refine tK (.slice none 0 0) ?_
  try simp only [pS]
  refine wp_runW (.pointer (some ⟨wk4.heap.size, 0, none⟩)) (wk4.alloc (.cells (Mg.cells mgZ) 46)) (exec_alloc 46 rfl (Mg.cells mgZ) zero50) (by kernel_rfl) ?_
  try simp only [pS]
  have HF : Hid (Fr No w _ [(gk1, 46, Mg.cells m), (gk3, 33, Hd.cells h), (wk4.heap.size, 46, Mg.cells mgZ)]) := HF.out.alloc _ _
  generalize wk4.alloc (.cells (Mg.cells mgZ) 46) = wk6 at HF ⊢
  generalize wk4.heap.size = gk5 at HF ⊢
  refine tK (.bool false) ?_
  try simp only [pS]
  refine WL.nil ?_
  try simp only [pS]
  go_upto_region 1 with fail
  refine WL.start ?_
  refine tK (.slice none 0 0) ?_
  try simp only [pS]
  refine WL.nil ?_
  try simp only [pS]
  go_upto_region 2 with fail
  refine WL.start ?_
  refine tK (.pointer (some ⟨gk1, 0, none⟩)) ?_
  refine tW (.int .i64 m.k) (eL 3 _ rfl ⟨gk1, 0, none⟩ (load_one ((HF.out.box 0 _ _ _ rfl).cell 0 |>.trans (by kernel_rfl)) Try.und3 rfl)) ?_
  refine tW (.bool true) (eB .eql 3 _ _ _ rfl (.int .i64 m.k) (.int .i64 22) _ (by rw [b_eql, hk22]; try rfl)) ?_
  refine tK (.bool true) ?_
  refine tK (.pointer (some ⟨gk1, 7, none⟩)) ?_
  refine tK (.pointer (some ⟨gk1, 7, none⟩)) ?_
  refine tW (.int .i64 m.ky.k) (eL 3 _ rfl ⟨gk1, 7, none⟩ (load_one ((HF.out.box 0 _ _ _ rfl).cell 7 |>.trans (by kernel_rfl)) Try.und3 rfl)) ?_
  refine tW (.bool false) (eB .eql 3 _ _ _ rfl (.int .i64 m.ky.k) (.int .i64 1) _ (by rw [b_eql, hk1]; try rfl)) ?_
  refine tK (.bool false) ?_
  try simp only [pS]
  refine WL.nil ?_
  try simp only [pS]
  go_upto_region 6 with fail
  refine WL.start ?_
  refine tK (.pointer (some ⟨gk1, 25, none⟩)) ?_
  refine tK (.pointer (some ⟨gk1, 25, none⟩)) ?_
  refine tW (.int .i64 m.bk.up) (eL 3 _ rfl ⟨gk1, 25, none⟩ (load_one ((HF.out.box 0 _ _ _ rfl).cell 25 |>.trans (by kernel_rfl)) Try.und3 rfl)) ?_
  refine tK (.int .i64 m.bk.up) ?_
  try simp only [pS]
  refine WL.nil ?_
  try simp only [pS]
  go_upto_region 7 with fail
  refine WL.start ?_
  refine tK (.pointer (some ⟨gk1, 0, none⟩)) ?_
  refine tW (.int .i64 m.k) (eL 3 _ rfl ⟨gk1, 0, none⟩ (load_one ((HF.out.box 0 _ _ _ rfl).cell 0 |>.trans (by kernel_rfl)) Try.und3 rfl)) ?_
  refine tW (.bool false) (eB .neq 3 _ _ _ rfl (.int .i64 m.k) (.int .i64 22) _ (by rw [b_neq, hk22]; try rfl)) ?_
  refine tK (.bool false) ?_
  refine tK (.pointer (some ⟨gk1, 7, none⟩)) ?_
  refine tK (.pointer (some ⟨gk1, 7, none⟩)) ?_
  refine tW (.int .i64 m.ky.k) (eL 3 _ rfl ⟨gk1, 7, none⟩ (load_one ((HF.out.box 0 _ _ _ rfl).cell 7 |>.trans (by kernel_rfl)) Try.und3 rfl)) ?_
  refine tW (.bool false) (eB .neq 3 _ _ _ rfl (.int .i64 m.ky.k) (.int .i64 2) _ (by rw [b_neq, hk2]; try rfl)) ?_
  refine tK (.bool false) ?_
  refine tK (.bool false) ?_
  refine tK (.int .i64 m.bk.up) ?_
  refine tW (.bool false) (eB .lss 3 _ _ _ rfl (.int .i64 m.bk.up) (.int .i64 0) _ (by rw [b_lss, g1]; try rfl)) ?_
  refine tK (.bool false) ?_
  refine tK (.bool false) ?_
  refine tK (.int .i64 m.bk.up) ?_
  refine tW (.bool false) (eB .gtr 3 _ _ _ rfl (.int .i64 m.bk.up) (.int .i64 1048576) _ (by rw [b_gtr, g2]; try rfl)) ?_
  refine tK (.bool false) ?_
  refine tK (.bool false) ?_
  refine tK (.int .i64 m.bk.up) ?_
  refine tW (.bool true) (eB .eql 3 _ _ _ rfl (.int .i64 m.bk.up) (.int .i64 0) _ (by rw [b_eql, hup]; try rfl)) ?_
  refine tK (.bool true) ?_
  refine tK (.pointer (some ⟨gk1, 11, none⟩)) ?_
  refine tK (.pointer (some ⟨gk1, 11, none⟩)) ?_
  refine tW (.int .i64 m.st.n) (eL 3 _ rfl ⟨gk1, 11, none⟩ (load_one ((HF.out.box 0 _ _ _ rfl).cell 11 |>.trans (by kernel_rfl)) Try.und3 rfl)) ?_
  refine tW (.bool false) (eB .lss 3 _ _ _ rfl (.int .i64 m.st.n) (.int .i64 1) _ (by rw [b_lss, g5]; try rfl)) ?_
  refine tK (.bool false) ?_
  refine tK (.pointer (some ⟨gk1, 11, none⟩)) ?_
  refine tK (.pointer (some ⟨gk1, 11, none⟩)) ?_
  refine tW (.int .i64 m.st.n) (eL 3 _ rfl ⟨gk1, 11, none⟩ (load_one ((HF.out.box 0 _ _ _ rfl).cell 11 |>.trans (by kernel_rfl)) Try.und3 rfl)) ?_
  refine tW (.bool false) (eB .gtr 3 _ _ _ rfl (.int .i64 m.st.n) (.int .i64 1048577) _ (by rw [b_gtr, g6]; try rfl)) ?_
  refine tK (.bool false) ?_
  refine tK (.bool false) ?_
  refine tK (.bool false) ?_
  try simp only [pS]
  refine WL.nil ?_
  try simp only [pS]
  go_upto_region 9 with fail
  refine WL.start ?_
  refine tK (.pointer (some ⟨gk1, 11, none⟩)) ?_
  refine tK (.pointer (some ⟨gk1, 11, none⟩)) ?_
  refine tW (.int .i64 m.st.n) (eL 3 _ rfl ⟨gk1, 11, none⟩ (load_one ((HF.out.box 0 _ _ _ rfl).cell 11 |>.trans (by kernel_rfl)) Try.und3 rfl)) ?_
  refine tK (.pointer (some ⟨gk1, 28, none⟩)) ?_
  refine tW (m.cm.v) (eL 44 _ rfl ⟨gk1, 28, none⟩ (load_one ((HF.out.box 0 _ _ _ rfl).cell 28 |>.trans (by kernel_rfl)) Try.und48 rfl)) ?_
  refine tK (.int .i64 ((m.cm.l : Nat) : Int)) ?_
  refine tW (.int .i64 (m.st.n +  ((m.cm.l : Nat) : Int))) (eB .add 3 _ _ _ rfl (.int .i64 m.st.n) (.int .i64 ((m.cm.l : Nat) : Int)) _ (b_addw _ _ _ (by rw [IntKind.wrap_i64]; omega) _)) ?_
  refine tK (.int .i64 (m.st.n +  ((m.cm.l : Nat) : Int))) ?_
  try simp only [pS]
  refine WL.nil ?_
  try simp only [pS]
  go_upto_region 10 with fail
  refine WL.start ?_
  refine tK (.int .i64 m.bk.up) ?_
  refine tW (.bool false) (eB .gtr 3 _ _ _ rfl (.int .i64 m.bk.up) (.int .i64 0) _ (by rw [b_gtr, g4]; try rfl)) ?_
  try simp only [pS]
  refine WL.nil ?_
  try simp only [pS]
  go_upto_region 14 with fail
  refine WL.start ?_
  refine tK (.int .i64 0) ?_
  try simp only [pS]
  refine WL.nil ?_
  try simp only [pS]
  go_wp2
  go_loopw [7, 10, 11, 12] (fun v7 v10 v11 v12 wr => ∃ (i : Nat) (sa : Option Addr) (sn sc : Nat), v7 = .slice sa sn sc ∧ v10 = .int .i64 ((i : Nat) : Int) ∧ i ≤ m.cm.l ∧ sn ≤ i ∧ Hid (OwG wr w.heap.size ⟨sa, sn, sc⟩ (newF m.ky.a m.st.n h.k.up cs ks i)) ∧ Hid (Fr No w wr [(gk1, 46, Mg.cells m), (gk3, 33, Hd.cells h), (gk5, 46, Mg.cells mgZ)])) (fun _ i _ _ _ => m.cm.l - (intOf i).toNat)
  case atStart => exact ⟨0, none, 0, 0, rfl, by go_num, by omega, by omega, ⟨Own.nil _ _ _ _, rfl⟩, HF⟩
  case round =>
    clear HF
    obtain ⟨i, sa, sn, sc, rfl, rfl, hi, hsn, HO, HF⟩ := hrel
    by_cases hlt : i < m.cm.l
    · skip
      obtain ⟨pb, po, hcx⟩ := HCS.out.row.at (i := i) (by rw [HCS.out.len]; exact hlt)
      have hca := hcx.1
      have HCC : Hid (∀ (j : Nat) v, (Cm.cs (cAt cs i))[j]? = some v → w.cell? ⟨pb, po + i * 9 + j, none⟩ = some v) := hcx.2
      have hsl : Hid (m.cm.v = .slice (some ⟨pb, po, none⟩) m.cm.l m.cm.k) := by show m.cm.v = _; unfold Sl.v; rw [hca]
      clear hcx hca
      have hkd := HKD.out i hlt
      obtain ⟨x, hx⟩ : ∃ x, x = atF (m.st.n + ((i : Nat) : Int)) ps := ⟨_, rfl⟩
      rw [← hx] at hkd
      have HX : Hid (atF (m.st.n + ((i : Nat) : Int)) ps = x) := hx.symm
      have HK : Hid (eqC (cAt ks i) cZ = !x.d) := hkd
      have hl0 := HO.out.len
      clear hx hkd
      go_upto_region 15 with fail
      refine WL.start ?_
      refine tK (.int .i64 ((i : Nat) : Int)) ?_
      refine tK (.pointer (some ⟨gk1, 28, none⟩)) ?_
      refine tW (m.cm.v) (eL 44 _ rfl ⟨gk1, 28, none⟩ (load_one ((HF.out.box 0 _ _ _ rfl).cell 28 |>.trans (by kernel_rfl)) Try.und48 rfl)) ?_
      refine tK (.int .i64 ((m.cm.l : Nat) : Int)) ?_
      refine tW (.bool true) (eB .lss 3 _ _ _ rfl (.int .i64 ((i : Nat) : Int)) (.int .i64 ((m.cm.l : Nat) : Int)) _ (by rw [b_lss, decide_eq_true (by omega)])) ?_
      try simp only [pS]
      refine WL.nil ?_
      try simp only [pS]
      go_upto_region 17 with fail
      refine WL.start ?_
      refine tK (.pointer (some ⟨gk1, 11, none⟩)) ?_
      refine tK (.pointer (some ⟨gk1, 11, none⟩)) ?_
      refine tW (.int .i64 m.st.n) (eL 3 _ rfl ⟨gk1, 11, none⟩ (load_one ((HF.out.box 0 _ _ _ rfl).cell 11 |>.trans (by kernel_rfl)) Try.und3 rfl)) ?_
      refine tK (.int .i64 ((i : Nat) : Int)) ?_
      refine tW (.int .i64 (m.st.n +  ((i : Nat) : Int))) (eB .add 3 _ _ _ rfl (.int .i64 m.st.n) (.int .i64 ((i : Nat) : Int)) _ (b_addw _ _ _ (by rw [IntKind.wrap_i64]; omega) _)) ?_
      refine tK (.int .i64 (m.st.n +  ((i : Nat) : Int))) ?_
      try simp only [pS]
      refine WL.nil ?_
      try simp only [pS]
      go_upto_region 18 with fail
      refine WL.start ?_
      refine tW (.agg (Cm.cells cZ)) (exec_build 43 _ rfl (Cm.cells cZ) (by kernel_rfl)) ?_
      try simp only [pS]
      refine wp_runW (.pointer (some ⟨wr.heap.size, 0, none⟩)) (wr.alloc (.cells (Cm.cells cZ) 43)) (exec_alloc 43 rfl (Cm.cells cZ) zero47) (by kernel_rfl) ?_
      try simp only [pS]
      have HO : Hid (OwG (wr.alloc (.cells (Cm.cells cZ) 43)) w.heap.size ⟨sa, sn, sc⟩ (newF m.ky.a m.st.n h.k.up cs ks i)) := HO.out.no ((Kept.refl No _).alloc _)
      have HF : Hid (Fr No w _ [(gk1, 46, Mg.cells m), (gk3, 33, Hd.cells h), (gk5, 46, Mg.cells mgZ), (wr.heap.size, 43, Cm.cells cZ)]) := HF.out.alloc _ _
      generalize wr.alloc (.cells (Cm.cells cZ) 43) = wk8 at HF HO ⊢
      generalize wr.heap.size = gk7 at HF ⊢
      refine wp_storeW 43 _ _ rfl ⟨gk7, 0, none⟩ (.agg (Cm.cells cZ)) (by kernel_rfl) (by kernel_rfl) (wk8.setRow gk7 (Cm.cells cZ)) (run_store_to (cur := Cm.cs cZ) (vs := Cm.cs cZ) (new := Cm.cs cZ) (HF.out.box 3 _ _ _ rfl) (by kernel_rfl) Try.size47 (Nat.le_of_ble_eq_true (by kernel_rfl)) (Cm.oneL _) (by kernel_rfl)) (by kernel_rfl) ?_
      try simp only [pS]
      have HO : Hid (OwG (wk8.setRow gk7 (Cm.cells cZ)) w.heap.size ⟨sa, sn, sc⟩ (newF m.ky.a m.st.n h.k.up cs ks i)) := HO.out.kept (Kept.setRow _ _ _) (fun k h e => (HO.out.own.notBox (HF.out.box 3 _ _ _ rfl) (by decide)) ((show k = gk7 from e) ▸ h))
      have HF : Hid (Fr No w _ [(gk1, 46, Mg.cells m), (gk3, 33, Hd.cells h), (gk5, 46, Mg.cells mgZ), (gk7, 43, Cm.cells cZ)]) := HF.out.set 3 rfl _
      generalize wk8.setRow gk7 (Cm.cells cZ) = wk9 at HF HO ⊢
      refine WL.nil ?_
      try simp only [pS]
      go_upto_region 19 with fail
      refine wp_region_held_drew (S := fun w' => Fr No w w' [(gk1, 46, Mg.cells m), (gk3, 33, Hd.cells h), (gk5, 46, Mg.cells mgZ), (gk7, 43, Cm.cells cZ)]) rfl (HF.out.drew) (fun hH => ?_)
      have HO : Hid (OwG (wk9.drew) w.heap.size ⟨sa, sn, sc⟩ (newF m.ky.a m.st.n h.k.up cs ks i)) := HO.out.no (Kept.refl No _).drew
      have HF : Hid (Fr No w (wk9.drew) [(gk1, 46, Mg.cells m), (gk3, 33, Hd.cells h), (gk5, 46, Mg.cells mgZ), (gk7, 43, Cm.cells cZ)]) := HF.out.drew
      generalize wk9.drew = wk10 at HF HO hH ⊢
      refine aT (i := 0) (oi := { dst := some 114, op := Op.fieldAddr 46 (Operand.tmp 2) 11, type := 0, pos := "ref.go:137", after := #[], guard := none }) (v := .pointer (some ⟨gk1, 28, none⟩)) (fun _ _ => by kernel_rfl) hH ?_
      try simp only [pS]
      refine aT (i := 1) (oi := { dst := some 115, op := Op.load 44 (Operand.tmp 114), type := 44, pos := "ref.go:137", after := #[{ on := 0, ground := Ground.data }], guard := none }) (v := m.cm.v) (fun w' hw => eL 44 _ rfl ⟨gk1, 28, none⟩ (load_one ((hw.box 0 _ _ _ rfl).cell 28 |>.trans (by kernel_rfl)) Try.und48 rfl)) hH ?_
      try simp only [pS]
      refine aT (i := 2) (oi := { dst := some 116, op := Op.move (Operand.tmp 10), type := 3, pos := "ref.go:137", after := #[], guard := none }) (v := .int .i64 ((i : Nat) : Int)) (fun _ _ => by kernel_rfl) hH ?_
      try simp only [pS]
      refine aT (i := 3) (oi := { dst := some 117, op := Op.indexAddr 44 (Operand.tmp 115) (Operand.tmp 116), type := 0, pos := "ref.go:137", after := #[{ on := 1, ground := Ground.data }, { on := 2, ground := Ground.data }], guard := none }) (v := .pointer (some ⟨pb, po + i * 9, none⟩)) (fun w' hw => exec_ixA 44 9 Try.und48e Try.size48e _ _ rfl pb po m.cm.l m.cm.k i (Eq.trans (b := m.cm.v) (by kernel_rfl) hsl.out) (by kernel_rfl) hlt) hH ?_
      try simp only [pS]
      refine aT (i := 4) (oi := { dst := some 118, op := Op.load 43 (Operand.tmp 117), type := 43, pos := "ref.go:137", after := #[{ on := 3, ground := Ground.data }], guard := none }) (v := .agg (Cm.cells (cAt cs i))) (fun w' hw => eL 43 _ rfl ⟨pb, po + i * 9, none⟩ (load_Ca (fun j v hv => hw.kept.cell (HCC.out j v hv) (fun e => e)))) hH ?_
      try simp only [pS]
      refine aT (i := 5) (oi := { dst := some 119, op := Op.load 43 (Operand.tmp 12), type := 43, pos := "ref.go:137", after := #[], guard := none }) (v := .agg (Cm.cells cZ)) (fun w' hw => eL 43 _ rfl ⟨gk7, 0, none⟩ (run_load_part (cs := Cm.cs cZ) (sub := Cm.cs cZ) (hw.box 3 _ _ _ rfl) (Part.all _) Try.und47 rfl Try.size47)) hH ?_
      try simp only [pS]
      cases q1 : (eqC (cAt cs i) cZ)
      ·skip
       refine aT (i := 6) (oi := oqDb13) (v := .bool true) (fun w' hw => eB .neq 43 _ _ _ rfl (.agg (Cm.cells (cAt cs i))) (.agg (Cm.cells cZ)) _ (by rw [eqC_neq, q1]; try rfl)) hH ?_
       try simp only [pS]
       refine aT (i := 7) (oi := oqDb14) (v := .bool true) (fun _ _ => by kernel_rfl) hH ?_
       try simp only [pS]
       refine aT (i := 8) (oi := oqDb15) (v := .int .i64 (m.st.n +  ((i : Nat) : Int))) (fun _ _ => by kernel_rfl) hH ?_
       try simp only [pS]
       refine aT (i := 9) (oi := oqDb16) (v := .pointer (some ⟨gk3, 3, none⟩)) (fun _ _ => by kernel_rfl) hH ?_
       try simp only [pS]
       refine aT (i := 10) (oi := oqDb17) (v := .pointer (some ⟨gk3, 3, none⟩)) (fun _ _ => by kernel_rfl) hH ?_
       try simp only [pS]
       refine aT (i := 11) (oi := oqDb18) (v := .int .i64 h.k.up) (fun w' hw => eL 3 _ rfl ⟨gk3, 3, none⟩ (load_one ((hw.box 1 _ _ _ rfl).cell 3 |>.trans (by kernel_rfl)) Try.und3 rfl)) hH ?_
       try simp only [pS]
       cases q2 : (decide (h.k.up < (m.st.n +  ((i : Nat) : Int))))
       ·skip
        refine aT (i := 12) (oi := oqDb19) (v := .bool false) (fun w' hw => eB .gtr 3 _ _ _ rfl (.int .i64 (m.st.n +  ((i : Nat) : Int))) (.int .i64 h.k.up) _ (by rw [b_gtr, q2]; try rfl)) hH ?_
        try simp only [pS]
        refine aT (i := 13) (oi := oqDb20) (v := .bool false) (fun _ _ => by kernel_rfl) hH ?_
        try simp only [pS]
        refine aT (i := 14) (oi := oqDb21) (v := .bool false) (fun _ _ => by kernel_rfl) hH ?_
        try simp only [pS]
        refine aS (i := 15) (oi := oqDb22) hH ?_
        try simp only [pS]
        refine aS (i := 16) (oi := oqDb23) hH ?_
        try simp only [pS]
        refine aT (i := 17) (oi := oqDb24) (v := .bool false) (fun _ _ => by kernel_rfl) hH ?_
        try simp only [pS]
        refine aT (i := 18) (oi := oqDb25) (v := .bool false) (fun _ _ => by kernel_rfl) hH ?_
        try simp only [pS]
        refine aS (i := 19) (oi := oqDb26) hH ?_
        try simp only [pS]
        refine aS (i := 20) (oi := oqDb27) hH ?_
        try simp only [pS]
        refine aS (i := 21) (oi := oqDb28) hH ?_
        try simp only [pS]
        refine aS (i := 22) (oi := oqDb29) hH ?_
        try simp only [pS]
        refine aS (i := 23) (oi := oqDb30) hH ?_
        try simp only [pS]
        refine aT (i := 24) (oi := oqDb31) (v := .bool false) (fun _ _ => by kernel_rfl) hH ?_
        try simp only [pS]
        refine wpAnyH_done (by kernel_rfl) ?_ _
        try simp only [pS]
        clear hH
        have hp : passB m.st.n h.k.up cs ks i = true := by unfold passB; simp only [HK.out, q1, show decide (m.st.n + ((i : Nat) : Int) ≤ h.k.up) = true from by have u := of_decide_eq_false q2; simp; omega]; simp
        go_upto_region 16 with fail
        refine WL.start ?_
        refine tK (.int .i64 ((i : Nat) : Int)) ?_
        refine tW (.int .i64 (((i + 1) : Nat) : Int)) (eB .add 3 _ _ _ rfl (.int .i64 ((i : Nat) : Int)) (.int .i64 1) _ (b_addw _ _ _ (by rw [IntKind.wrap_i64]; omega) _)) ?_
        refine tK (.int .i64 (((i + 1) : Nat) : Int)) ?_
        try simp only [pS]
        refine WL.nil ?_
        try simp only [pS]
        have HO : Hid (OwG wk10 w.heap.size ⟨sa, sn, sc⟩ (newF m.ky.a m.st.n h.k.up cs ks (i + 1))) := by unfold newF; rw [if_pos hp]; exact HO
        have HF : Hid (Fr No w wk10 [(gk1, 46, Mg.cells m), (gk3, 33, Hd.cells h), (gk5, 46, Mg.cells mgZ)]) := (show Fr No w wk10 ([(gk1, 46, Mg.cells m), (gk3, 33, Hd.cells h), (gk5, 46, Mg.cells mgZ)] ++ [(gk7, 43, Cm.cells cZ)]) from HF.out).front
        go_wp2
        go_roundw
        case rel => exact ⟨i + 1, sa, sn, sc, rfl, by go_num, by omega, by omega, HO, HF⟩
        case measure => simp [intOf]; omega
       ·skip
        refine aT (i := 12) (oi := oqDb19) (v := .bool true) (fun w' hw => eB .gtr 3 _ _ _ rfl (.int .i64 (m.st.n +  ((i : Nat) : Int))) (.int .i64 h.k.up) _ (by rw [b_gtr, q2]; try rfl)) hH ?_
        try simp only [pS]
        refine aT (i := 13) (oi := oqDb20) (v := .bool true) (fun _ _ => by kernel_rfl) hH ?_
        try simp only [pS]
        refine aT (i := 14) (oi := oqDb21) (v := .bool true) (fun _ _ => by kernel_rfl) hH ?_
        try simp only [pS]
        refine aT (i := 15) (oi := oqDb22) (v := .int .i64 (m.st.n +  ((i : Nat) : Int))) (fun _ _ => by kernel_rfl) hH ?_
        try simp only [pS]
        cases q3 : (decide ((m.st.n +  ((i : Nat) : Int)) ≤ 1048576))
        ·skip
         refine aT (i := 16) (oi := oqDb23) (v := .bool false) (fun w' hw => eB .leq 3 _ _ _ rfl (.int .i64 (m.st.n +  ((i : Nat) : Int))) (.int .i64 1048576) _ (by rw [b_leq, q3]; try rfl)) hH ?_
         try simp only [pS]
         refine aT (i := 17) (oi := oqDb24) (v := .bool false) (fun _ _ => by kernel_rfl) hH ?_
         try simp only [pS]
         refine aT (i := 18) (oi := oqDb25) (v := .bool false) (fun _ _ => by kernel_rfl) hH ?_
         try simp only [pS]
         refine aS (i := 19) (oi := oqDb26) hH ?_
         try simp only [pS]
         refine aS (i := 20) (oi := oqDb27) hH ?_
         try simp only [pS]
         refine aS (i := 21) (oi := oqDb28) hH ?_
         try simp only [pS]
         refine aS (i := 22) (oi := oqDb29) hH ?_
         try simp only [pS]
         refine aS (i := 23) (oi := oqDb30) hH ?_
         try simp only [pS]
         refine aT (i := 24) (oi := oqDb31) (v := .bool false) (fun _ _ => by kernel_rfl) hH ?_
         try simp only [pS]
         refine wpAnyH_done (by kernel_rfl) ?_ _
         try simp only [pS]
         clear hH
         have hp : passB m.st.n h.k.up cs ks i = true := by unfold passB; simp only [HK.out, q1, show decide (m.st.n + ((i : Nat) : Int) ≤ h.k.up) = false from by have u := of_decide_eq_true q2; simp; omega, show decide (1048576 < m.st.n + ((i : Nat) : Int)) = true from by have u := of_decide_eq_false q3; simp; omega]; simp
         go_upto_region 16 with fail
         refine WL.start ?_
         refine tK (.int .i64 ((i : Nat) : Int)) ?_
         refine tW (.int .i64 (((i + 1) : Nat) : Int)) (eB .add 3 _ _ _ rfl (.int .i64 ((i : Nat) : Int)) (.int .i64 1) _ (b_addw _ _ _ (by rw [IntKind.wrap_i64]; omega) _)) ?_
         refine tK (.int .i64 (((i + 1) : Nat) : Int)) ?_
         try simp only [pS]
         refine WL.nil ?_
         try simp only [pS]
         have HO : Hid (OwG wk10 w.heap.size ⟨sa, sn, sc⟩ (newF m.ky.a m.st.n h.k.up cs ks (i + 1))) := by unfold newF; rw [if_pos hp]; exact HO
         have HF : Hid (Fr No w wk10 [(gk1, 46, Mg.cells m), (gk3, 33, Hd.cells h), (gk5, 46, Mg.cells mgZ)]) := (show Fr No w wk10 ([(gk1, 46, Mg.cells m), (gk3, 33, Hd.cells h), (gk5, 46, Mg.cells mgZ)] ++ [(gk7, 43, Cm.cells cZ)]) from HF.out).front
         go_wp2
         go_roundw
         case rel => exact ⟨i + 1, sa, sn, sc, rfl, by go_num, by omega, by omega, HO, HF⟩
         case measure => simp [intOf]; omega
        ·skip
         refine aT (i := 16) (oi := oqDb23) (v := .bool true) (fun w' hw => eB .leq 3 _ _ _ rfl (.int .i64 (m.st.n +  ((i : Nat) : Int))) (.int .i64 1048576) _ (by rw [b_leq, q3]; try rfl)) hH ?_
         try simp only [pS]
         refine aT (i := 17) (oi := oqDb24) (v := .bool true) (fun _ _ => by kernel_rfl) hH ?_
         try simp only [pS]
         refine aT (i := 18) (oi := oqDb25) (v := .bool true) (fun _ _ => by kernel_rfl) hH ?_
         try simp only [pS]
         refine aT (i := 19) (oi := oqDb26) (v := .agg (Hd.cells h)) (fun w' hw => eL 33 _ rfl ⟨gk3, 0, none⟩ (run_load_part (cs := Hd.cs h) (sub := Hd.cs h) (hw.box 1 _ _ _ rfl) (Part.all _) Try.und35 rfl Try.size35)) hH ?_
         try simp only [pS]
         refine aT (i := 20) (oi := oqDb27) (v := .int .i64 (m.st.n +  ((i : Nat) : Int))) (fun _ _ => by kernel_rfl) hH ?_
         try simp only [pS]
         refine any_call (i := 21) (o := oqDb28) rfl (by kernel_rfl) (by kernel_rfl) 25 #[.agg (Hd.cells h), .int .i64 (m.st.n +  ((i : Nat) : Int))] (by kernel_rfl) _ (refAt_any h ps (m.st.n + ((i : Nat) : Int)) _ (HR.out.no HF.out.kept) hm) ?_
         rintro e wk11 ⟨rfl, hk⟩
         rw [HX.out]
         have hH2 : Fr No w wk11 [(gk1, 46, Mg.cells m), (gk3, 33, Hd.cells h), (gk5, 46, Mg.cells mgZ), (gk7, 43, Cm.cells cZ)] := hH.no hk
         have HO : Hid (OwG (wk11) w.heap.size ⟨sa, sn, sc⟩ (newF m.ky.a m.st.n h.k.up cs ks i)) := HO.out.no hk
         have HF : Hid (Fr No w (wk11) [(gk1, 46, Mg.cells m), (gk3, 33, Hd.cells h), (gk5, 46, Mg.cells mgZ), (gk7, 43, Cm.cells cZ)]) := HF.out.no hk
         clear hk
         refine ⟨.agg (In.cells x), rfl, hH2, fun hH => ?_⟩
         clear hH2
         try simp only [pS]
         refine aT (i := 22) (oi := oqDb29) (v := .bool x.d) (fun _ _ => by kernel_rfl) hH ?_
         try simp only [pS]
         cases q4 : (x.d)
         ·skip
          try simp only [q4]
          refine aT (i := 23) (oi := oqDb30) (v := .bool true) (fun _ _ => by kernel_rfl) hH ?_
          try simp only [pS]
          refine aT (i := 24) (oi := oqDb31) (v := .bool true) (fun _ _ => by kernel_rfl) hH ?_
          try simp only [pS]
          refine wpAnyH_done (by kernel_rfl) ?_ _
          try simp only [pS]
          clear hH
          have hp : passB m.st.n h.k.up cs ks i = false := by unfold passB; simp only [HK.out, q1, show decide (m.st.n + ((i : Nat) : Int) ≤ h.k.up) = false from by have u := of_decide_eq_true q2; simp; omega, show decide (1048576 < m.st.n + ((i : Nat) : Int)) = false from by have u := of_decide_eq_true q3; simp; omega, q4]; simp
          have HNf : Hid (newF m.ky.a m.st.n h.k.up cs ks (i + 1) = newF m.ky.a m.st.n h.k.up cs ks i ++ [chM m.ky.a (m.st.n + i) (cAt cs i)]) := newF_no _ _ _ _ _ _ hp
          have hi20 : m.st.n + ((i : Nat) : Int) ≤ 1048576 := of_decide_eq_true q3
          go_upto_region 20 with fail
          refine wp_region_held_drew (S := fun w' => Fr No w w' [(gk1, 46, Mg.cells m), (gk3, 33, Hd.cells h), (gk5, 46, Mg.cells mgZ), (gk7, 43, Cm.cells cZ)]) rfl (HF.out.drew) (fun hH => ?_)
          have HO : Hid (OwG (wk11.drew) w.heap.size ⟨sa, sn, sc⟩ (newF m.ky.a m.st.n h.k.up cs ks i)) := HO.out.no (Kept.refl No _).drew
          have HF : Hid (Fr No w (wk11.drew) [(gk1, 46, Mg.cells m), (gk3, 33, Hd.cells h), (gk5, 46, Mg.cells mgZ), (gk7, 43, Cm.cells cZ)]) := HF.out.drew
          generalize wk11.drew = wk12 at HF HO hH ⊢
          refine aT (i := 0) (oi := { dst := some 139, op := Op.move (Operand.tmp 7), type := 59, pos := "ref.go:138", after := #[], guard := none }) (v := .slice sa sn sc) (fun _ _ => by kernel_rfl) hH ?_
          try simp only [pS]
          refine aT (i := 1) (oi := { dst := some 140, op := Op.fieldAddr 46 (Operand.tmp 2) 5, type := 0, pos := "ref.go:138", after := #[], guard := none }) (v := .pointer (some ⟨gk1, 7, none⟩)) (fun _ _ => by kernel_rfl) hH ?_
          try simp only [pS]
          refine aT (i := 2) (oi := { dst := some 141, op := Op.fieldAddr 39 (Operand.tmp 140) 1, type := 0, pos := "ref.go:138", after := #[{ on := 1, ground := Ground.data }], guard := none }) (v := .pointer (some ⟨gk1, 8, none⟩)) (fun _ _ => by kernel_rfl) hH ?_
          try simp only [pS]
          refine aT (i := 3) (oi := { dst := some 142, op := Op.load 3 (Operand.tmp 141), type := 3, pos := "ref.go:138", after := #[{ on := 2, ground := Ground.data }], guard := none }) (v := .int .i64 m.ky.a) (fun w' hw => eL 3 _ rfl ⟨gk1, 8, none⟩ (load_one ((hw.box 0 _ _ _ rfl).cell 8 |>.trans (by kernel_rfl)) Try.und3 rfl)) hH ?_
          try simp only [pS]
          refine aT (i := 4) (oi := { dst := some 143, op := Op.move (Operand.tmp 11), type := 3, pos := "ref.go:138", after := #[], guard := none }) (v := .int .i64 (m.st.n +  ((i : Nat) : Int))) (fun _ _ => by kernel_rfl) hH ?_
          try simp only [pS]
          refine aT (i := 5) (oi := { dst := some 144, op := Op.build 39 #[(0, Operand.const (Value.int IntKind.i64 3)), (1, Operand.tmp 142), (2, Operand.tmp 143)], type := 39, pos := "ref.go:138", after := #[{ on := 3, ground := Ground.data }, { on := 4, ground := Ground.data }], guard := none }) (v := .agg (Ky.cells ⟨3, m.ky.a, (m.st.n +  ((i : Nat) : Int)), 0⟩)) (fun w' hw => exec_build 39 _ rfl (Ky.cells ⟨3, m.ky.a, (m.st.n +  ((i : Nat) : Int)), 0⟩) (by kernel_rfl)) hH ?_
          try simp only [pS]
          refine aT (i := 6) (oi := { dst := some 145, op := Op.fieldAddr 46 (Operand.tmp 2) 11, type := 0, pos := "ref.go:138", after := #[], guard := none }) (v := .pointer (some ⟨gk1, 28, none⟩)) (fun _ _ => by kernel_rfl) hH ?_
          try simp only [pS]
          refine aT (i := 7) (oi := { dst := some 146, op := Op.load 44 (Operand.tmp 145), type := 44, pos := "ref.go:138", after := #[{ on := 6, ground := Ground.data }], guard := none }) (v := m.cm.v) (fun w' hw => eL 44 _ rfl ⟨gk1, 28, none⟩ (load_one ((hw.box 0 _ _ _ rfl).cell 28 |>.trans (by kernel_rfl)) Try.und48 rfl)) hH ?_
          try simp only [pS]
          refine aT (i := 8) (oi := { dst := some 147, op := Op.move (Operand.tmp 10), type := 3, pos := "ref.go:138", after := #[], guard := none }) (v := .int .i64 ((i : Nat) : Int)) (fun _ _ => by kernel_rfl) hH ?_
          try simp only [pS]
          refine aT (i := 9) (oi := { dst := some 148, op := Op.indexAddr 44 (Operand.tmp 146) (Operand.tmp 147), type := 0, pos := "ref.go:138", after := #[{ on := 7, ground := Ground.data }, { on := 8, ground := Ground.data }], guard := none }) (v := .pointer (some ⟨pb, po + i * 9, none⟩)) (fun w' hw => exec_ixA 44 9 Try.und48e Try.size48e _ _ rfl pb po m.cm.l m.cm.k i (Eq.trans (b := m.cm.v) (by kernel_rfl) hsl.out) (by kernel_rfl) hlt) hH ?_
          try simp only [pS]
          refine aT (i := 10) (oi := { dst := some 149, op := Op.load 43 (Operand.tmp 148), type := 43, pos := "ref.go:138", after := #[{ on := 9, ground := Ground.data }], guard := none }) (v := .agg (Cm.cells (cAt cs i))) (fun w' hw => eL 43 _ rfl ⟨pb, po + i * 9, none⟩ (load_Ca (fun j v hv => hw.kept.cell (HCC.out j v hv) (fun e => e)))) hH ?_
          try simp only [pS]
          refine aT (i := 11) (oi := { dst := some 150, op := Op.build 65 #[(2, Operand.tmp 149), (3, Operand.const (Value.bool true))], type := 65, pos := "ref.go:138", after := #[{ on := 10, ground := Ground.data }], guard := none }) (v := .agg (In.cells ⟨spZ, spZ, (cAt cs i), true⟩)) (fun w' hw => exec_build 65 _ rfl (In.cells ⟨spZ, spZ, (cAt cs i), true⟩) (by kernel_rfl)) hH ?_
          try simp only [pS]
          refine aT (i := 12) (oi := { dst := some 151, op := Op.build 89 #[(0, Operand.tmp 144), (2, Operand.tmp 150)], type := 89, pos := "ref.go:138", after := #[{ on := 5, ground := Ground.data }, { on := 11, ground := Ground.data }], guard := none }) (v := .agg (Ch.cells ⟨⟨3, m.ky.a, (m.st.n +  ((i : Nat) : Int)), 0⟩, blZ, ⟨spZ, spZ, (cAt cs i), true⟩, bvZ⟩)) (fun w' hw => exec_build 89 _ rfl (Ch.cells ⟨⟨3, m.ky.a, (m.st.n +  ((i : Nat) : Int)), 0⟩, blZ, ⟨spZ, spZ, (cAt cs i), true⟩, bvZ⟩) (by kernel_rfl)) hH ?_
          try simp only [pS]
          refine any_step (i := 13) (o := { dst := some 152, op := Op.buildSlice 59 1 #[(0, Operand.tmp 151)], type := 59, pos := "ref.go:138", after := #[{ on := 12, ground := Ground.data }], guard := none }) rfl (by kernel_rfl) (by kernel_rfl) (exec_slice2 59 89 _ rfl (Ch.cells ⟨⟨3, m.ky.a, (m.st.n +  ((i : Nat) : Int)), 0⟩, blZ, ⟨spZ, spZ, (cAt cs i), true⟩, bvZ⟩) (.agg (Ch.cells ⟨⟨3, m.ky.a, (m.st.n +  ((i : Nat) : Int)), 0⟩, blZ, ⟨spZ, spZ, (cAt cs i), true⟩, bvZ⟩)) (by kernel_rfl) (by kernel_rfl)) (Fr.front (l := [(gk1, 46, Mg.cells m), (gk3, 33, Hd.cells h), (gk5, 46, Mg.cells mgZ), (gk7, 43, Cm.cells cZ)]) (m := [_]) (hH.alloc _ _)) (fun hH => ?_)
          try simp only [pS]
          have HO : Hid (OwG (wk12.alloc (.cells (Ch.cells ⟨⟨3, m.ky.a, (m.st.n +  ((i : Nat) : Int)), 0⟩, blZ, ⟨spZ, spZ, (cAt cs i), true⟩, bvZ⟩) 89)) w.heap.size ⟨sa, sn, sc⟩ (newF m.ky.a m.st.n h.k.up cs ks i)) := HO.out.no ((Kept.refl No _).alloc _)
          have HF : Hid (Fr No w _ [(gk1, 46, Mg.cells m), (gk3, 33, Hd.cells h), (gk5, 46, Mg.cells mgZ), (gk7, 43, Cm.cells cZ), (wk12.heap.size, 89, Ch.cells ⟨⟨3, m.ky.a, (m.st.n +  ((i : Nat) : Int)), 0⟩, blZ, ⟨spZ, spZ, (cAt cs i), true⟩, bvZ⟩)]) := HF.out.alloc _ _
          generalize wk12.alloc (.cells (Ch.cells ⟨⟨3, m.ky.a, (m.st.n +  ((i : Nat) : Int)), 0⟩, blZ, ⟨spZ, spZ, (cAt cs i), true⟩, bvZ⟩) 89) = wk14 at HF HO hH ⊢
          generalize wk12.heap.size = gk13 at HF ⊢
          obtain ⟨sa2, cap2, w2, hrun, hown, hk2, hat2⟩ := run_appN (w := wk14) 59 59 89 24 248 (.agg chZ.cells) Try.und64 Try.info72 rfl (by omega) w.heap.size sn sc sa (chL (newF m.ky.a m.st.n h.k.up cs ks i)) HO.out.own (some ⟨gk13, 0, none⟩) 1 1 (Ch.cs ⟨⟨3, m.ky.a, (m.st.n +  ((i : Nat) : Int)), 0⟩, blZ, ⟨spZ, spZ, (cAt cs i), true⟩, bvZ⟩) rfl (fun e => by cases e) (fun j u hj => ⟨_, rfl, by rw [addr_add, Nat.zero_add, (HF.out.box 4 _ _ _ rfl).cell]; exact cell_ch _ _ _ hj⟩) (Ch.oneL _) (by omega) (by omega) (by have := HF.out.kept.size; omega)
          have hO0 := (show Own 89 24 wk14 w.heap.size sa sc sn (chL (newF m.ky.a m.st.n h.k.up cs ks i)) from HO.out.own)
          refine any_step (i := 14) (o := { dst := some 153, op := Op.call { callee := Callee.builtin Builtin.append, args := #[Operand.tmp 139, Operand.tmp 152], argTypes := #[59, 59] }, type := 59, pos := "ref.go:138", after := #[{ on := 0, ground := Ground.data }, { on := 13, ground := Ground.data }], guard := none }) rfl (by kernel_rfl) (by kernel_rfl) (exec_appN _ _ 59 59 rfl _ _ (by kernel_rfl) (by kernel_rfl) hrun) (hH.app hO0 hk2 (by simp)) (fun hH => ?_)
          try simp only [pS]
          have HO : Hid (OwG w2 w.heap.size ⟨sa2, sn + 1, cap2⟩ (newF m.ky.a m.st.n h.k.up cs ks (i + 1))) := ⟨by rw [HNf.out, chL_app, chL_1]; exact hown, by rw [HNf.out]; simpa using hl0⟩
          have HF : Hid (Fr No w w2 [(gk1, 46, Mg.cells m), (gk3, 33, Hd.cells h), (gk5, 46, Mg.cells mgZ), (gk7, 43, Cm.cells cZ)]) := (show Fr No w wk14 ([(gk1, 46, Mg.cells m), (gk3, 33, Hd.cells h), (gk5, 46, Mg.cells mgZ), (gk7, 43, Cm.cells cZ)] ++ [(gk13, 89, Ch.cells ⟨⟨3, m.ky.a, (m.st.n +  ((i : Nat) : Int)), 0⟩, blZ, ⟨spZ, spZ, (cAt cs i), true⟩, bvZ⟩)]) from HF.out).front.app hO0 hk2 (by simp)
          clear hown hk2 hat2 hrun hO0
          refine aT (i := 15) (oi := { dst := some 7, op := Op.assign (Operand.tmp 153), type := 59, pos := "ref.go:138", after := #[{ on := 14, ground := Ground.data }, { on := 14, ground := Ground.chain }, { on := 0, ground := Ground.phase }, { on := 1, ground := Ground.phase }, { on := 2, ground := Ground.phase }, { on := 3, ground := Ground.phase }, { on := 4, ground := Ground.phase }, { on := 5, ground := Ground.phase }, { on := 6, ground := Ground.phase }, { on := 7, ground := Ground.phase }, { on := 8, ground := Ground.phase }, { on := 9, ground := Ground.phase }, { on := 10, ground := Ground.phase }, { on := 11, ground := Ground.phase }, { on := 12, ground := Ground.phase }, { on := 13, ground := Ground.phase }, { on := 14, ground := Ground.phase }], guard := none }) (v := .slice sa2 (sn + 1) cap2) (fun _ _ => by kernel_rfl) hH ?_
          try simp only [pS]
          refine wpAnyH_done (by kernel_rfl) ?_ _
          try simp only [pS]
          clear hH
          go_upto_region 16 with fail
          refine WL.start ?_
          refine tK (.int .i64 ((i : Nat) : Int)) ?_
          refine tW (.int .i64 (((i + 1) : Nat) : Int)) (eB .add 3 _ _ _ rfl (.int .i64 ((i : Nat) : Int)) (.int .i64 1) _ (b_addw _ _ _ (by rw [IntKind.wrap_i64]; omega) _)) ?_
          refine tK (.int .i64 (((i + 1) : Nat) : Int)) ?_
          try simp only [pS]
          refine WL.nil ?_
          try simp only [pS]
          have HF : Hid (Fr No w w2 [(gk1, 46, Mg.cells m), (gk3, 33, Hd.cells h), (gk5, 46, Mg.cells mgZ)]) := (show Fr No w w2 ([(gk1, 46, Mg.cells m), (gk3, 33, Hd.cells h), (gk5, 46, Mg.cells mgZ)] ++ [(gk7, 43, Cm.cells cZ)]) from HF.out).front
          go_wp2
          go_roundw
          case rel => exact ⟨i + 1, sa2, sn + 1, cap2, rfl, by go_num, by omega, by omega, HO, HF⟩
          case measure => simp [intOf]; omega
         ·skip
          try simp only [q4]
          refine aT (i := 23) (oi := oqDb30) (v := .bool false) (fun _ _ => by kernel_rfl) hH ?_
          try simp only [pS]
          refine aT (i := 24) (oi := oqDb31) (v := .bool false) (fun _ _ => by kernel_rfl) hH ?_
          try simp only [pS]
          refine wpAnyH_done (by kernel_rfl) ?_ _
          try simp only [pS]
          clear hH
          have hp : passB m.st.n h.k.up cs ks i = true := by unfold passB; simp only [HK.out, q1, show decide (m.st.n + ((i : Nat) : Int) ≤ h.k.up) = false from by have u := of_decide_eq_true q2; simp; omega, show decide (1048576 < m.st.n + ((i : Nat) : Int)) = false from by have u := of_decide_eq_true q3; simp; omega, q4]; simp
          go_upto_region 16 with fail
          refine WL.start ?_
          refine tK (.int .i64 ((i : Nat) : Int)) ?_
          refine tW (.int .i64 (((i + 1) : Nat) : Int)) (eB .add 3 _ _ _ rfl (.int .i64 ((i : Nat) : Int)) (.int .i64 1) _ (b_addw _ _ _ (by rw [IntKind.wrap_i64]; omega) _)) ?_
          refine tK (.int .i64 (((i + 1) : Nat) : Int)) ?_
          try simp only [pS]
          refine WL.nil ?_
          try simp only [pS]
          have HO : Hid (OwG wk11 w.heap.size ⟨sa, sn, sc⟩ (newF m.ky.a m.st.n h.k.up cs ks (i + 1))) := by unfold newF; rw [if_pos hp]; exact HO
          have HF : Hid (Fr No w wk11 [(gk1, 46, Mg.cells m), (gk3, 33, Hd.cells h), (gk5, 46, Mg.cells mgZ)]) := (show Fr No w wk11 ([(gk1, 46, Mg.cells m), (gk3, 33, Hd.cells h), (gk5, 46, Mg.cells mgZ)] ++ [(gk7, 43, Cm.cells cZ)]) from HF.out).front
          go_wp2
          go_roundw
          case rel => exact ⟨i + 1, sa, sn, sc, rfl, by go_num, by omega, by omega, HO, HF⟩
          case measure => simp [intOf]; omega
      ·skip
       refine aT (i := 6) (oi := oqDb13) (v := .bool false) (fun w' hw => eB .neq 43 _ _ _ rfl (.agg (Cm.cells (cAt cs i))) (.agg (Cm.cells cZ)) _ (by rw [eqC_neq, q1]; try rfl)) hH ?_
       try simp only [pS]
       refine aT (i := 7) (oi := oqDb14) (v := .bool false) (fun _ _ => by kernel_rfl) hH ?_
       try simp only [pS]
       refine aS (i := 8) (oi := oqDb15) hH ?_
       try simp only [pS]
       refine aS (i := 9) (oi := oqDb16) hH ?_
       try simp only [pS]
       refine aS (i := 10) (oi := oqDb17) hH ?_
       try simp only [pS]
       refine aS (i := 11) (oi := oqDb18) hH ?_
       try simp only [pS]
       refine aS (i := 12) (oi := oqDb19) hH ?_
       try simp only [pS]
       refine aT (i := 13) (oi := oqDb20) (v := .bool false) (fun _ _ => by kernel_rfl) hH ?_
       try simp only [pS]
       refine aT (i := 14) (oi := oqDb21) (v := .bool false) (fun _ _ => by kernel_rfl) hH ?_
       try simp only [pS]
       refine aS (i := 15) (oi := oqDb22) hH ?_
       try simp only [pS]
       refine aS (i := 16) (oi := oqDb23) hH ?_
       try simp only [pS]
       refine aT (i := 17) (oi := oqDb24) (v := .bool false) (fun _ _ => by kernel_rfl) hH ?_
       try simp only [pS]
       refine aT (i := 18) (oi := oqDb25) (v := .bool false) (fun _ _ => by kernel_rfl) hH ?_
       try simp only [pS]
       refine aS (i := 19) (oi := oqDb26) hH ?_
       try simp only [pS]
       refine aS (i := 20) (oi := oqDb27) hH ?_
       try simp only [pS]
       refine aS (i := 21) (oi := oqDb28) hH ?_
       try simp only [pS]
       refine aS (i := 22) (oi := oqDb29) hH ?_
       try simp only [pS]
       refine aS (i := 23) (oi := oqDb30) hH ?_
       try simp only [pS]
       refine aT (i := 24) (oi := oqDb31) (v := .bool false) (fun _ _ => by kernel_rfl) hH ?_
       try simp only [pS]
       refine wpAnyH_done (by kernel_rfl) ?_ _
       try simp only [pS]
       clear hH
       have hp : passB m.st.n h.k.up cs ks i = true := by unfold passB; simp only [HK.out, q1]; simp
       go_upto_region 16 with fail
       refine WL.start ?_
       refine tK (.int .i64 ((i : Nat) : Int)) ?_
       refine tW (.int .i64 (((i + 1) : Nat) : Int)) (eB .add 3 _ _ _ rfl (.int .i64 ((i : Nat) : Int)) (.int .i64 1) _ (b_addw _ _ _ (by rw [IntKind.wrap_i64]; omega) _)) ?_
       refine tK (.int .i64 (((i + 1) : Nat) : Int)) ?_
       try simp only [pS]
       refine WL.nil ?_
       try simp only [pS]
       have HO : Hid (OwG wk10 w.heap.size ⟨sa, sn, sc⟩ (newF m.ky.a m.st.n h.k.up cs ks (i + 1))) := by unfold newF; rw [if_pos hp]; exact HO
       have HF : Hid (Fr No w wk10 [(gk1, 46, Mg.cells m), (gk3, 33, Hd.cells h), (gk5, 46, Mg.cells mgZ)]) := (show Fr No w wk10 ([(gk1, 46, Mg.cells m), (gk3, 33, Hd.cells h), (gk5, 46, Mg.cells mgZ)] ++ [(gk7, 43, Cm.cells cZ)]) from HF.out).front
       go_wp2
       go_roundw
       case rel => exact ⟨i + 1, sa, sn, sc, rfl, by go_num, by omega, by omega, HO, HF⟩
       case measure => simp [intOf]; omega
    · skip
      go_upto_region 15 with fail
      refine WL.start ?_
      refine tK (.int .i64 ((i : Nat) : Int)) ?_
      refine tK (.pointer (some ⟨gk1, 28, none⟩)) ?_
      refine tW (m.cm.v) (eL 44 _ rfl ⟨gk1, 28, none⟩ (load_one ((HF.out.box 0 _ _ _ rfl).cell 28 |>.trans (by kernel_rfl)) Try.und48 rfl)) ?_
      refine tK (.int .i64 ((m.cm.l : Nat) : Int)) ?_
      refine tW (.bool false) (eB .lss 3 _ _ _ rfl (.int .i64 ((i : Nat) : Int)) (.int .i64 ((m.cm.l : Nat) : Int)) _ (by rw [b_lss, decide_eq_false (by omega)])) ?_
      try simp only [pS]
      refine WL.nil ?_
      try simp only [pS]
      go_upto_region 21 with fail
      refine WL.start ?_
      refine tK (.pointer (some ⟨gk1, 29, none⟩)) ?_
      refine tW (.bool m.mo) (eL 4 _ rfl ⟨gk1, 29, none⟩ (load_one ((HF.out.box 0 _ _ _ rfl).cell 29 |>.trans (by kernel_rfl)) Try.und4 rfl)) ?_
      try simp only [pS]
      cases q5 : (m.mo)
      ·skip
       try simp only [q5]
       refine tK (.bool true) ?_
       refine tK (.bool true) ?_
       refine sK ?_
       refine sK ?_
       refine sK ?_
       refine sK ?_
       refine sK ?_
       refine sK ?_
       refine sK ?_
       refine sK ?_
       refine tK (.bool true) ?_
       try simp only [pS]
       refine WL.nil ?_
       try simp only [pS]
       have hmo : moreB m = false := by simp [moreB, hup, q5]
       go_upto_region 22 with fail
       refine WL.start ?_
       refine tK (.slice sa sn sc) ?_
       refine tW (.agg (Mg.cells mgZ)) (exec_build 46 _ rfl (Mg.cells mgZ) (by kernel_rfl)) ?_
       refine tK (.slice sa sn sc) ?_
       try simp only [pS]
       refine wp_storeW 46 _ _ rfl ⟨gk5, 0, none⟩ (.agg (Mg.cells mgZ)) (by kernel_rfl) (by kernel_rfl) (wr.setRow gk5 (Mg.cells mgZ)) (run_store_to (cur := Mg.cs mgZ) (vs := Mg.cs mgZ) (new := Mg.cs mgZ) (HF.out.box 2 _ _ _ rfl) (by kernel_rfl) Try.size50 (Nat.le_of_ble_eq_true (by kernel_rfl)) (Mg.oneL _) (by kernel_rfl)) (by kernel_rfl) ?_
       try simp only [pS]
       have HO : Hid (OwG (wr.setRow gk5 (Mg.cells mgZ)) w.heap.size ⟨sa, sn, sc⟩ (newF m.ky.a m.st.n h.k.up cs ks i)) := HO.out.kept (Kept.setRow _ _ _) (fun k h e => (HO.out.own.notBox (HF.out.box 2 _ _ _ rfl) (by decide)) ((show k = gk5 from e) ▸ h))
       have HF : Hid (Fr No w _ [(gk1, 46, Mg.cells m), (gk3, 33, Hd.cells h), (gk5, 46, Mg.cells mgZ)]) := HF.out.set 2 rfl _
       generalize wr.setRow gk5 (Mg.cells mgZ) = wk15 at HF HO ⊢
       refine tK (.bool false) ?_
       try simp only [pS]
       refine WL.nil ?_
       try simp only [pS]
       go_wp2
       rw [HC.out]
       refine bodyPost_ret (results_tct (by rfl) _ _ gk5 (Mg.cells mgZ) (by rfl) (run_load_part (cs := Mg.cs mgZ) (sub := Mg.cs mgZ) (HF.out.box 2 _ _ _ rfl) (Part.all _) Try.und50 rfl Try.size50)) rfl ?_
       rw [hmo]
       exact ⟨⟨sa, sn, sc⟩, rfl, (by have e : m.cm.l = i := (by omega); rw [e]; exact HO.out), HF.out.kept⟩
      ·skip
       try simp only [q5]
       refine tK (.bool false) ?_
       refine tK (.bool false) ?_
       refine tK (.int .i64 m.bk.up) ?_
       refine tW (.bool true) (eB .eql 3 _ _ _ rfl (.int .i64 m.bk.up) (.int .i64 0) _ (by rw [b_eql, hup]; try rfl)) ?_
       refine tK (.bool true) ?_
       refine tK (.pointer (some ⟨gk1, 28, none⟩)) ?_
       refine tW (m.cm.v) (eL 44 _ rfl ⟨gk1, 28, none⟩ (load_one ((HF.out.box 0 _ _ _ rfl).cell 28 |>.trans (by kernel_rfl)) Try.und48 rfl)) ?_
       refine tK (.int .i64 ((m.cm.l : Nat) : Int)) ?_
       try simp only [pS]
       cases q6 : (((m.cm.l : Nat) : Int) == 0)
       ·skip
        refine tW (.bool false) (eB .eql 3 _ _ _ rfl (.int .i64 ((m.cm.l : Nat) : Int)) (.int .i64 0) _ (by rw [b_eql, q6]; try rfl)) ?_
        refine tK (.bool false) ?_
        refine tK (.bool false) ?_
        try simp only [pS]
        refine WL.nil ?_
        try simp only [pS]
        have hmo : moreB m = true := by simp [moreB, hup, q5, q6]
        go_upto_region 23 with fail
        refine wp_region_held_drew (S := fun w' => Fr No w w' [(gk1, 46, Mg.cells m), (gk3, 33, Hd.cells h)]) rfl (Fr.front (l := [(gk1, 46, Mg.cells m), (gk3, 33, Hd.cells h)]) (m := [(gk5, 46, Mg.cells mgZ)]) (HF.out.drew)) (fun hH => ?_)
        have HO : Hid (OwG (wr.drew) w.heap.size ⟨sa, sn, sc⟩ (newF m.ky.a m.st.n h.k.up cs ks i)) := HO.out.no (Kept.refl No _).drew
        have HF : Hid (Fr No w (wr.drew) [(gk1, 46, Mg.cells m), (gk3, 33, Hd.cells h), (gk5, 46, Mg.cells mgZ)]) := HF.out.drew
        generalize wr.drew = wk16 at HF HO hH ⊢
        refine aT (i := 0) (oi := oqDb0) (v := .slice sa sn sc) (fun _ _ => by kernel_rfl) hH ?_
        try simp only [pS]
        refine aT (i := 1) (oi := oqDb1) (v := .pointer (some ⟨gk1, 3, none⟩)) (fun _ _ => by kernel_rfl) hH ?_
        try simp only [pS]
        refine aT (i := 2) (oi := oqDb2) (v := .agg (Ad.cells m.to)) (fun w' hw => eL 37 _ rfl ⟨gk1, 3, none⟩ (run_load_part (cs := Mg.cs m) (sub := Ad.cs m.to) (hw.box 0 _ _ _ rfl) (part_of (by kernel_rfl)) Try.und43 rfl Try.size43)) hH ?_
        try simp only [pS]
        refine aT (i := 3) (oi := oqDb3) (v := .pointer (some ⟨gk1, 1, none⟩)) (fun _ _ => by kernel_rfl) hH ?_
        try simp only [pS]
        refine aT (i := 4) (oi := oqDb4) (v := .agg (Ad.cells m.fr)) (fun w' hw => eL 37 _ rfl ⟨gk1, 1, none⟩ (run_load_part (cs := Mg.cs m) (sub := Ad.cs m.fr) (hw.box 0 _ _ _ rfl) (part_of (by kernel_rfl)) Try.und43 rfl Try.size43)) hH ?_
        try simp only [pS]
        refine aT (i := 5) (oi := oqDb5) (v := .pointer (some ⟨gk1, 7, none⟩)) (fun _ _ => by kernel_rfl) hH ?_
        try simp only [pS]
        refine aT (i := 6) (oi := oqDb6) (v := .agg (Ky.cells m.ky)) (fun w' hw => eL 39 _ rfl ⟨gk1, 7, none⟩ (run_load_part (cs := Mg.cs m) (sub := Ky.cs m.ky) (hw.box 0 _ _ _ rfl) (part_of (by kernel_rfl)) Try.und23 rfl Try.size23)) hH ?_
        try simp only [pS]
        refine aT (i := 7) (oi := oqDb7) (v := .int .i64 (m.st.n +  ((m.cm.l : Nat) : Int))) (fun _ _ => by kernel_rfl) hH ?_
        try simp only [pS]
        refine aT (i := 8) (oi := oqDb8) (v := .agg (Sp.cells ⟨(m.st.n +  ((m.cm.l : Nat) : Int)), 0⟩)) (fun w' hw => exec_build 23 _ rfl (Sp.cells ⟨(m.st.n +  ((m.cm.l : Nat) : Int)), 0⟩) (by kernel_rfl)) hH ?_
        try simp only [pS]
        refine aT (i := 9) (oi := oqDb9) (v := .agg (Mg.cells ⟨21, m.to, m.fr, 0, 0, m.ky, ⟨(m.st.n +  ((m.cm.l : Nat) : Int)), 0⟩, spZ, slZ, cZ, bvZ, slZ, false⟩)) (fun w' hw => exec_build 46 _ rfl (Mg.cells ⟨21, m.to, m.fr, 0, 0, m.ky, ⟨(m.st.n +  ((m.cm.l : Nat) : Int)), 0⟩, spZ, slZ, cZ, bvZ, slZ, false⟩) (by kernel_rfl)) hH ?_
        try simp only [pS]
        refine aT (i := 10) (oi := oqDb10) (v := .slice sa sn sc) (fun _ _ => by kernel_rfl) hH ?_
        try simp only [pS]
        refine any_store (i := 11) (o := oqDb11) (w' := wk16.setRow gk5 (Mg.cells ⟨21, m.to, m.fr, 0, 0, m.ky, ⟨(m.st.n +  ((m.cm.l : Nat) : Int)), 0⟩, spZ, slZ, cZ, bvZ, slZ, false⟩)) rfl (by kernel_rfl) (by kernel_rfl) 46 _ _ rfl ⟨gk5, 0, none⟩ (.agg (Mg.cells ⟨21, m.to, m.fr, 0, 0, m.ky, ⟨(m.st.n +  ((m.cm.l : Nat) : Int)), 0⟩, spZ, slZ, cZ, bvZ, slZ, false⟩)) (by kernel_rfl) (by kernel_rfl) (run_store_to (cur := Mg.cs mgZ) (vs := Mg.cs ⟨21, m.to, m.fr, 0, 0, m.ky, ⟨(m.st.n +  ((m.cm.l : Nat) : Int)), 0⟩, spZ, slZ, cZ, bvZ, slZ, false⟩) (new := Mg.cs ⟨21, m.to, m.fr, 0, 0, m.ky, ⟨(m.st.n +  ((m.cm.l : Nat) : Int)), 0⟩, spZ, slZ, cZ, bvZ, slZ, false⟩) (HF.out.box 2 _ _ _ rfl) (by kernel_rfl) Try.size50 (Nat.le_of_ble_eq_true (by kernel_rfl)) (Mg.oneL _) (by kernel_rfl)) (Fr.front (l := [(gk1, 46, Mg.cells m), (gk3, 33, Hd.cells h)]) (m := [(gk5, 46, Mg.cells ⟨21, m.to, m.fr, 0, 0, m.ky, ⟨(m.st.n +  ((m.cm.l : Nat) : Int)), 0⟩, spZ, slZ, cZ, bvZ, slZ, false⟩)]) (HF.out.set 2 rfl _)) (fun hH => ?_)
        try simp only [pS]
        have HO : Hid (OwG (wk16.setRow gk5 (Mg.cells ⟨21, m.to, m.fr, 0, 0, m.ky, ⟨(m.st.n +  ((m.cm.l : Nat) : Int)), 0⟩, spZ, slZ, cZ, bvZ, slZ, false⟩)) w.heap.size ⟨sa, sn, sc⟩ (newF m.ky.a m.st.n h.k.up cs ks i)) := HO.out.kept (Kept.setRow _ _ _) (fun k h e => (HO.out.own.notBox (HF.out.box 2 _ _ _ rfl) (by decide)) ((show k = gk5 from e) ▸ h))
        have HF : Hid (Fr No w _ [(gk1, 46, Mg.cells m), (gk3, 33, Hd.cells h), (gk5, 46, Mg.cells ⟨21, m.to, m.fr, 0, 0, m.ky, ⟨(m.st.n +  ((m.cm.l : Nat) : Int)), 0⟩, spZ, slZ, cZ, bvZ, slZ, false⟩)]) := HF.out.set 2 rfl _
        generalize wk16.setRow gk5 (Mg.cells ⟨21, m.to, m.fr, 0, 0, m.ky, ⟨(m.st.n +  ((m.cm.l : Nat) : Int)), 0⟩, spZ, slZ, cZ, bvZ, slZ, false⟩) = wk17 at HF HO hH ⊢
        refine aT (i := 12) (oi := oqDb12) (v := .bool true) (fun _ _ => by kernel_rfl) hH ?_
        try simp only [pS]
        refine wpAnyH_done (by kernel_rfl) ?_ _
        try simp only [pS]
        clear hH
        go_wp2
        rw [HC.out]
        refine bodyPost_ret (results_tct (by rfl) _ _ gk5 (Mg.cells ⟨21, m.to, m.fr, 0, 0, m.ky, ⟨(m.st.n +  ((m.cm.l : Nat) : Int)), 0⟩, spZ, slZ, cZ, bvZ, slZ, false⟩) (by rfl) (run_load_part (cs := Mg.cs ⟨21, m.to, m.fr, 0, 0, m.ky, ⟨(m.st.n +  ((m.cm.l : Nat) : Int)), 0⟩, spZ, slZ, cZ, bvZ, slZ, false⟩) (sub := Mg.cs ⟨21, m.to, m.fr, 0, 0, m.ky, ⟨(m.st.n +  ((m.cm.l : Nat) : Int)), 0⟩, spZ, slZ, cZ, bvZ, slZ, false⟩) (HF.out.box 2 _ _ _ rfl) (Part.all _) Try.und50 rfl Try.size50)) rfl ?_
        rw [hmo]
        exact ⟨⟨sa, sn, sc⟩, rfl, (by have e : m.cm.l = i := (by omega); rw [e]; exact HO.out), HF.out.kept⟩
       ·skip
        refine tW (.bool true) (eB .eql 3 _ _ _ rfl (.int .i64 ((m.cm.l : Nat) : Int)) (.int .i64 0) _ (by rw [b_eql, q6]; try rfl)) ?_
        refine tK (.bool true) ?_
        refine tK (.bool true) ?_
        try simp only [pS]
        refine WL.nil ?_
        try simp only [pS]
        have hmo : moreB m = false := by simp [moreB, hup, q5, q6]
        go_upto_region 22 with fail
        refine WL.start ?_
        refine tK (.slice sa sn sc) ?_
        refine tW (.agg (Mg.cells mgZ)) (exec_build 46 _ rfl (Mg.cells mgZ) (by kernel_rfl)) ?_
        refine tK (.slice sa sn sc) ?_
        try simp only [pS]
        refine wp_storeW 46 _ _ rfl ⟨gk5, 0, none⟩ (.agg (Mg.cells mgZ)) (by kernel_rfl) (by kernel_rfl) (wr.setRow gk5 (Mg.cells mgZ)) (run_store_to (cur := Mg.cs mgZ) (vs := Mg.cs mgZ) (new := Mg.cs mgZ) (HF.out.box 2 _ _ _ rfl) (by kernel_rfl) Try.size50 (Nat.le_of_ble_eq_true (by kernel_rfl)) (Mg.oneL _) (by kernel_rfl)) (by kernel_rfl) ?_
        try simp only [pS]
        have HO : Hid (OwG (wr.setRow gk5 (Mg.cells mgZ)) w.heap.size ⟨sa, sn, sc⟩ (newF m.ky.a m.st.n h.k.up cs ks i)) := HO.out.kept (Kept.setRow _ _ _) (fun k h e => (HO.out.own.notBox (HF.out.box 2 _ _ _ rfl) (by decide)) ((show k = gk5 from e) ▸ h))
        have HF : Hid (Fr No w _ [(gk1, 46, Mg.cells m), (gk3, 33, Hd.cells h), (gk5, 46, Mg.cells mgZ)]) := HF.out.set 2 rfl _
        generalize wr.setRow gk5 (Mg.cells mgZ) = wk18 at HF HO ⊢
        refine tK (.bool false) ?_
        try simp only [pS]
        refine WL.nil ?_
        try simp only [pS]
        go_wp2
        rw [HC.out]
        refine bodyPost_ret (results_tct (by rfl) _ _ gk5 (Mg.cells mgZ) (by rfl) (run_load_part (cs := Mg.cs mgZ) (sub := Mg.cs mgZ) (HF.out.box 2 _ _ _ rfl) (Part.all _) Try.und50 rfl Try.size50)) rfl ?_
        rw [hmo]
        exact ⟨⟨sa, sn, sc⟩, rfl, (by have e : m.cm.l = i := (by omega); rw [e]; exact HO.out), HF.out.kept⟩

end Go.Proofs.Ytcgnbpaaalmkoab
