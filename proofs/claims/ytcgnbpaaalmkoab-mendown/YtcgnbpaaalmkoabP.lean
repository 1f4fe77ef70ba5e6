import Derived.Test.YtcgnbpaaalmkoabO
namespace Go.Proofs.Ytcgnbpaaalmkoab
open Go.RowKit
set_option linter.unusedVariables false
set_option linter.unusedSimpArgs false

theorem exec_minN {o : Oper} {a : Act} {w : World} (x y : Operand) (T T' : TypeId) (ho : o.op = .call { callee := Callee.builtin Builtin.min, args := #[x, y], argTypes := #[T, T'] }) (u v : Int) (hx : a.eval x = .int .i64 u) (hy : a.eval y = .int .i64 v) : (execOp a.eval o).run Try.prog w = .ok (.value (.int .i64 (min u v))) w := by
  have e : (if v < u then v else u) = min u v := by split <;> omega
  simp [execOp, ho, resolve, invoke, builtin, hx, hy, run_min_int2, Result.andThen]
  exact e
def askS (fm to : Int) (k : Ky) (h : Hd) (ps : List Pl) : Mg := if k.k == 1 then askM ⟨false, fm⟩ ⟨false, to⟩ k 0 else if k.k == 2 then askM ⟨false, fm⟩ ⟨false, to⟩ k (edgeF h.k.up (decd ps) + 1) else mgZ
set_option maxRecDepth 100000 in
set_option maxHeartbeats 4000000 in
theorem ask_any (fm to : Int) (k : Ky) (h : Hd) (ps : List Pl) (w : World) (hr : RdP w h.r ps) (hlt : ∀ k, At h.r.a k → k < w.heap.size) (hm : ps.length ≤ 10000000000000) (hg : Rng h.k.up ps) (he : edgeF h.k.up (decd ps) ≤ 4611686018427387904 ∧ -4611686018427387904 ≤ edgeF h.k.up (decd ps)) : Calls Try.prog 16 #[.int .i64 fm, .int .i64 to, .agg (Ky.cells k), .agg (Hd.cells h)] w (fun e w' => e = .returned (.agg (Mg.cells (askS fm to k h ps))) ∧ Kept No w w') := by
  obtain ⟨C, hC⟩ : ∃ C : Ending → World → Prop, C = (fun e w' => e = .returned (.agg (Mg.cells (askS fm to k h ps))) ∧ Kept No w w') := ⟨_, rfl⟩
  have HC : Hid (C = (fun e w' => e = .returned (.agg (Mg.cells (askS fm to k h ps))) ∧ Kept No w w')) := hC
  rw [← hC]
  clear hC
  have HE : Hid (∀ W, Kept No w W → Calls Try.prog 36 #[.agg (Hd.cells h)] W (fun e w' => e = .returned (.int .i64 (edgeF h.k.up (decd ps))) ∧ Kept No W w')) := fun W hk => edge_any h ps W (hr.no hk) (fun k e => Nat.lt_of_lt_of_le (hlt k e) hk.size) hm hg
  have hw1 : IntKind.i64.wrap (edgeF h.k.up (decd ps) + 1) = edgeF h.k.up (decd ps) + 1 := by rw [IntKind.wrap_i64]; omega
  clear hr hlt hm hg he
  have HF : Hid (Fr No w w []) := Fr.start _ _
  go_enter Try.func16, Try.ntmps16
  go_upto_region 0 with fail
  refine WL.start ?_
  refine wp_runW (.pointer (some ⟨w.heap.size, 0, none⟩)) (w.alloc (.cells (Ky.cells k) 39)) (exec_box 39 _ rfl (Ky.cells k) (by kernel_rfl)) (by kernel_rfl) ?_
  try simp only [pS]
  have HF : Hid (Fr No w _ [(w.heap.size, 39, Ky.cells k)]) := HF.out.alloc _ _
  generalize w.alloc (.cells (Ky.cells k) 39) = wk2 at HF ⊢
  generalize w.heap.size = gk1 at HF ⊢
  refine wp_runW (.pointer (some ⟨wk2.heap.size, 0, none⟩)) (wk2.alloc (.cells (Hd.cells h) 49)) (exec_box 49 _ rfl (Hd.cells h) (by kernel_rfl)) (by kernel_rfl) ?_
  try simp only [pS]
  have HF : Hid (Fr No w _ [(gk1, 39, Ky.cells k), (wk2.heap.size, 49, Hd.cells h)]) := HF.out.alloc _ _
  generalize wk2.alloc (.cells (Hd.cells h) 49) = wk4 at HF ⊢
  generalize wk2.heap.size = gk3 at HF ⊢
  refine wp_runW (.pointer (some ⟨wk4.heap.size, 0, none⟩)) (wk4.alloc (.cells (Mg.cells mgZ) 46)) (exec_alloc 46 rfl (Mg.cells mgZ) zero50) (by kernel_rfl) ?_
  try simp only [pS]
  have HF : Hid (Fr No w _ [(gk1, 39, Ky.cells k), (gk3, 49, Hd.cells h), (wk4.heap.size, 46, Mg.cells mgZ)]) := HF.out.alloc _ _
  generalize wk4.alloc (.cells (Mg.cells mgZ) 46) = wk6 at HF ⊢
  generalize wk4.heap.size = gk5 at HF ⊢
  refine WL.nil ?_
  try simp only [pS]
  go_upto_region 1 with fail
  refine WL.start ?_
  refine tK (.int .i64 fm) ?_
  refine tW (.agg (Ad.cells ⟨false, fm⟩)) (exec_build 37 _ rfl (Ad.cells ⟨false, fm⟩) (by kernel_rfl)) ?_
  refine tK (.int .i64 to) ?_
  refine tW (.agg (Ad.cells ⟨false, to⟩)) (exec_build 37 _ rfl (Ad.cells ⟨false, to⟩) (by kernel_rfl)) ?_
  try simp only [pS]
  refine wp_runW (.pointer (some ⟨wk6.heap.size, 0, none⟩)) (wk6.alloc (.cells (Ad.cells adZ) 37)) (exec_alloc 37 rfl (Ad.cells adZ) zero43) (by kernel_rfl) ?_
  try simp only [pS]
  have HF : Hid (Fr No w _ [(gk1, 39, Ky.cells k), (gk3, 49, Hd.cells h), (gk5, 46, Mg.cells mgZ), (wk6.heap.size, 37, Ad.cells adZ)]) := HF.out.alloc _ _
  generalize wk6.alloc (.cells (Ad.cells adZ) 37) = wk8 at HF ⊢
  generalize wk6.heap.size = gk7 at HF ⊢
  refine wp_runW (.pointer (some ⟨wk8.heap.size, 0, none⟩)) (wk8.alloc (.cells (Ad.cells adZ) 37)) (exec_alloc 37 rfl (Ad.cells adZ) zero43) (by kernel_rfl) ?_
  try simp only [pS]
  have HF : Hid (Fr No w _ [(gk1, 39, Ky.cells k), (gk3, 49, Hd.cells h), (gk5, 46, Mg.cells mgZ), (gk7, 37, Ad.cells adZ), (wk8.heap.size, 37, Ad.cells adZ)]) := HF.out.alloc _ _
  generalize wk8.alloc (.cells (Ad.cells adZ) 37) = wk10 at HF ⊢
  generalize wk8.heap.size = gk9 at HF ⊢
  refine wp_storeW 37 _ _ rfl ⟨gk7, 0, none⟩ (.agg (Ad.cells ⟨false, fm⟩)) (by kernel_rfl) (by kernel_rfl) (wk10.setRow gk7 (Ad.cells ⟨false, fm⟩)) (run_store_to (cur := Ad.cs adZ) (vs := Ad.cs ⟨false, fm⟩) (new := Ad.cs ⟨false, fm⟩) (HF.out.box 3 _ _ _ rfl) (by kernel_rfl) Try.size43 (Nat.le_of_ble_eq_true (by kernel_rfl)) (Ad.oneL _) (by kernel_rfl)) (by kernel_rfl) ?_
  try simp only [pS]
  have HF : Hid (Fr No w _ [(gk1, 39, Ky.cells k), (gk3, 49, Hd.cells h), (gk5, 46, Mg.cells mgZ), (gk7, 37, Ad.cells ⟨false, fm⟩), (gk9, 37, Ad.cells adZ)]) := HF.out.set 3 rfl _
  generalize wk10.setRow gk7 (Ad.cells ⟨false, fm⟩) = wk11 at HF ⊢
  refine wp_storeW 37 _ _ rfl ⟨gk9, 0, none⟩ (.agg (Ad.cells ⟨false, to⟩)) (by kernel_rfl) (by kernel_rfl) (wk11.setRow gk9 (Ad.cells ⟨false, to⟩)) (run_store_to (cur := Ad.cs adZ) (vs := Ad.cs ⟨false, to⟩) (new := Ad.cs ⟨false, to⟩) (HF.out.box 4 _ _ _ rfl) (by kernel_rfl) Try.size43 (Nat.le_of_ble_eq_true (by kernel_rfl)) (Ad.oneL _) (by kernel_rfl)) (by kernel_rfl) ?_
  try simp only [pS]
  have HF : Hid (Fr No w _ [(gk1, 39, Ky.cells k), (gk3, 49, Hd.cells h), (gk5, 46, Mg.cells mgZ), (gk7, 37, Ad.cells ⟨false, fm⟩), (gk9, 37, Ad.cells ⟨false, to⟩)]) := HF.out.set 4 rfl _
  generalize wk11.setRow gk9 (Ad.cells ⟨false, to⟩) = wk12 at HF ⊢
  refine WL.nil ?_
  try simp only [pS]
  go_upto_region 2 with fail
  refine WL.start ?_
  refine tK (.pointer (some ⟨gk1, 0, none⟩)) ?_
  refine tW (.int .i64 k.k) (eL 3 _ rfl ⟨gk1, 0, none⟩ (load_one ((HF.out.box 0 _ _ _ rfl).cell 0 |>.trans (by kernel_rfl)) Try.und3 rfl)) ?_
  try simp only [pS]
  refine WL.nil ?_
  try simp only [pS]
  go_upto_region 3 with fail
  refine WL.start ?_
  cases q1 : (k.k == 1)
  ·skip
   refine tW (.bool false) (eB .eql 3 _ _ _ rfl (.int .i64 k.k) (.int .i64 1) _ (by rw [b_eql, q1]; try rfl)) ?_
   refine tK (.bool false) ?_
   try simp only [pS]
   refine WL.nil ?_
   try simp only [pS]
   go_upto_region 5 with fail
   refine WL.start ?_
   cases q2 : (k.k == 2)
   ·skip
    refine tW (.bool false) (eB .eql 3 _ _ _ rfl (.int .i64 k.k) (.int .i64 2) _ (by rw [b_eql, q2]; try rfl)) ?_
    refine tK (.bool false) ?_
    try simp only [pS]
    refine WL.nil ?_
    try simp only [pS]
    go_upto_region 7 with fail
    refine WL.start ?_
    refine tW (.agg (Mg.cells mgZ)) (exec_build 46 _ rfl (Mg.cells mgZ) (by kernel_rfl)) ?_
    try simp only [pS]
    refine wp_storeW 46 _ _ rfl ⟨gk5, 0, none⟩ (.agg (Mg.cells mgZ)) (by kernel_rfl) (by kernel_rfl) (wk12.setRow gk5 (Mg.cells mgZ)) (run_store_to (cur := Mg.cs mgZ) (vs := Mg.cs mgZ) (new := Mg.cs mgZ) (HF.out.box 2 _ _ _ rfl) (by kernel_rfl) Try.size50 (Nat.le_of_ble_eq_true (by kernel_rfl)) (Mg.oneL _) (by kernel_rfl)) (by kernel_rfl) ?_
    try simp only [pS]
    have HF : Hid (Fr No w _ [(gk1, 39, Ky.cells k), (gk3, 49, Hd.cells h), (gk5, 46, Mg.cells mgZ), (gk7, 37, Ad.cells ⟨false, fm⟩), (gk9, 37, Ad.cells ⟨false, to⟩)]) := HF.out.set 2 rfl _
    generalize wk12.setRow gk5 (Mg.cells mgZ) = wk13 at HF ⊢
    refine WL.nil ?_
    try simp only [pS]
    go_wp2
    rw [HC.out]
    refine bodyPost_ret (results_row1 (by rfl) _ _ gk5 (Mg.cells mgZ) (by rfl) (run_load_part (cs := Mg.cs mgZ) (sub := Mg.cs mgZ) (HF.out.box 2 _ _ _ rfl) (Part.all _) Try.und50 rfl Try.size50)) rfl ?_
    exact ⟨by simp [askS, askM, q1, q2, adZ, spZ], HF.out.kept⟩
   ·skip
    refine tW (.bool true) (eB .eql 3 _ _ _ rfl (.int .i64 k.k) (.int .i64 2) _ (by rw [b_eql, q2]; try rfl)) ?_
    refine tK (.bool true) ?_
    try simp only [pS]
    refine WL.nil ?_
    try simp only [pS]
    go_upto_region 6 with fail
    refine wp_region_held_drew (S := fun w' => Box w' gk1 39 (Ky.cells k) ∧ Box w' gk3 49 (Hd.cells h) ∧ Box w' gk7 37 (Ad.cells ⟨false, fm⟩) ∧ Box w' gk9 37 (Ad.cells ⟨false, to⟩)) rfl ⟨HF.out.box 0 _ _ _ rfl, HF.out.box 1 _ _ _ rfl, HF.out.box 3 _ _ _ rfl, HF.out.box 4 _ _ _ rfl⟩ (fun hH => ?_)
    have HF : Hid (Fr No w (wk12.drew) [(gk1, 39, Ky.cells k), (gk3, 49, Hd.cells h), (gk5, 46, Mg.cells mgZ), (gk7, 37, Ad.cells ⟨false, fm⟩), (gk9, 37, Ad.cells ⟨false, to⟩)]) := HF.out.drew
    generalize wk12.drew = wk14 at HF hH ⊢
    refine aT (i := 0) (oi := { dst := some 25, op := Op.load 37 (Operand.tmp 9), type := 37, pos := "mend.go:26", after := #[], guard := none }) (v := .agg (Ad.cells ⟨false, fm⟩)) (fun w' hw => eL 37 _ rfl ⟨gk7, 0, none⟩ (run_load_part (cs := Ad.cs ⟨false, fm⟩) (sub := Ad.cs ⟨false, fm⟩) (hw.2.2.1) (Part.all _) Try.und43 rfl Try.size43)) hH ?_
    try simp only [pS]
    refine aT (i := 1) (oi := { dst := some 26, op := Op.load 37 (Operand.tmp 10), type := 37, pos := "mend.go:26", after := #[], guard := none }) (v := .agg (Ad.cells ⟨false, to⟩)) (fun w' hw => eL 37 _ rfl ⟨gk9, 0, none⟩ (run_load_part (cs := Ad.cs ⟨false, to⟩) (sub := Ad.cs ⟨false, to⟩) (hw.2.2.2) (Part.all _) Try.und43 rfl Try.size43)) hH ?_
    try simp only [pS]
    refine aT (i := 2) (oi := { dst := some 27, op := Op.load 39 (Operand.tmp 6), type := 39, pos := "mend.go:26", after := #[], guard := none }) (v := .agg (Ky.cells k)) (fun w' hw => eL 39 _ rfl ⟨gk1, 0, none⟩ (run_load_part (cs := Ky.cs k) (sub := Ky.cs k) (hw.1) (Part.all _) Try.und23 rfl Try.size23)) hH ?_
    try simp only [pS]
    refine aT (i := 3) (oi := { dst := some 28, op := Op.load 49 (Operand.tmp 7), type := 49, pos := "mend.go:26", after := #[], guard := none }) (v := .agg (Hd.cells h)) (fun w' hw => eL 49 _ rfl ⟨gk3, 0, none⟩ (run_load_part (cs := Hd.cs h) (sub := Hd.cs h) (hw.2.1) (Part.all _) Try.und40 rfl Try.size40)) hH ?_
    try simp only [pS]
    refine any_call (i := 4) (o := { dst := some 29, op := Op.call { callee := Callee.value (Operand.func 36), args := #[Operand.tmp 28], argTypes := #[49] }, type := 3, pos := "mend.go:26", after := #[{ on := 3, ground := Ground.data }], guard := none }) rfl (by kernel_rfl) (by kernel_rfl) 36 #[.agg (Hd.cells h)] (by kernel_rfl) _ (HE.out _ HF.out.kept) ?_
    rintro e wk15 ⟨rfl, hk⟩
    have hH2 : Box wk15 gk1 39 (Ky.cells k) ∧ Box wk15 gk3 49 (Hd.cells h) ∧ Box wk15 gk7 37 (Ad.cells ⟨false, fm⟩) ∧ Box wk15 gk9 37 (Ad.cells ⟨false, to⟩) := ⟨hH.1.kept hk (fun e => e), hH.2.1.kept hk (fun e => e), hH.2.2.1.kept hk (fun e => e), hH.2.2.2.kept hk (fun e => e)⟩
    have HF : Hid (Fr No w (wk15) [(gk1, 39, Ky.cells k), (gk3, 49, Hd.cells h), (gk5, 46, Mg.cells mgZ), (gk7, 37, Ad.cells ⟨false, fm⟩), (gk9, 37, Ad.cells ⟨false, to⟩)]) := HF.out.no hk
    clear hk
    refine ⟨.int .i64 (edgeF h.k.up (decd ps)), rfl, hH2, fun hH => ?_⟩
    clear hH2
    try simp only [pS]
    refine aT (i := 5) (oi := { dst := some 30, op := Op.binOp BinOp.add 3 (Operand.tmp 29) (Operand.const (Value.int IntKind.i64 1)) 3, type := 3, pos := "mend.go:26", after := #[{ on := 4, ground := Ground.data }], guard := none }) (v := .int .i64 (edgeF h.k.up (decd ps) + 1)) (fun w' hw => eB .add 3 _ _ _ rfl (.int .i64 (edgeF h.k.up (decd ps))) (.int .i64 1) _ (b_addw _ _ _ hw1 _)) hH ?_
    try simp only [pS]
    refine any_call (i := 6) (o := { dst := some 31, op := Op.call { callee := Callee.value (Operand.func 35), args := #[Operand.tmp 25, Operand.tmp 26, Operand.tmp 27, Operand.tmp 30], argTypes := #[37, 37, 39, 3] }, type := 46, pos := "mend.go:26", after := #[{ on := 0, ground := Ground.data }, { on := 1, ground := Ground.data }, { on := 2, ground := Ground.data }, { on := 5, ground := Ground.data }, { on := 4, ground := Ground.chain }], guard := none }) rfl (by kernel_rfl) (by kernel_rfl) 35 #[.agg (Ad.cells ⟨false, fm⟩), .agg (Ad.cells ⟨false, to⟩), .agg (Ky.cells k), .int .i64 (edgeF h.k.up (decd ps) + 1)] (by kernel_rfl) _ (asking_any ⟨false, fm⟩ ⟨false, to⟩ k (edgeF h.k.up (decd ps) + 1) _) ?_
    rintro e wk16 ⟨rfl, hk⟩
    have hH2 : Box wk16 gk1 39 (Ky.cells k) ∧ Box wk16 gk3 49 (Hd.cells h) ∧ Box wk16 gk7 37 (Ad.cells ⟨false, fm⟩) ∧ Box wk16 gk9 37 (Ad.cells ⟨false, to⟩) := ⟨hH.1.kept hk (fun e => e), hH.2.1.kept hk (fun e => e), hH.2.2.1.kept hk (fun e => e), hH.2.2.2.kept hk (fun e => e)⟩
    have HF : Hid (Fr No w (wk16) [(gk1, 39, Ky.cells k), (gk3, 49, Hd.cells h), (gk5, 46, Mg.cells mgZ), (gk7, 37, Ad.cells ⟨false, fm⟩), (gk9, 37, Ad.cells ⟨false, to⟩)]) := HF.out.no hk
    clear hk
    refine ⟨.agg (Mg.cells ⟨21, ⟨false, fm⟩, ⟨false, to⟩, 0, 0, k, ⟨(edgeF h.k.up (decd ps) + 1), 0⟩, spZ, slZ, cZ, bvZ, slZ, false⟩), rfl, hH2, fun hH => ?_⟩
    clear hH2
    try simp only [pS]
    refine any_store (i := 7) (o := { dst := none, op := Op.store 46 (Operand.tmp 8) (Operand.tmp 31), type := 0, pos := "mend.go:26", after := #[{ on := 6, ground := Ground.data }, { on := 6, ground := Ground.chain }, { on := 0, ground := Ground.phase }, { on := 1, ground := Ground.phase }, { on := 2, ground := Ground.phase }, { on := 3, ground := Ground.phase }, { on := 4, ground := Ground.phase }, { on := 5, ground := Ground.phase }, { on := 6, ground := Ground.phase }], guard := none }) (w' := wk16.setRow gk5 (Mg.cells ⟨21, ⟨false, fm⟩, ⟨false, to⟩, 0, 0, k, ⟨(edgeF h.k.up (decd ps) + 1), 0⟩, spZ, slZ, cZ, bvZ, slZ, false⟩)) rfl (by kernel_rfl) (by kernel_rfl) 46 _ _ rfl ⟨gk5, 0, none⟩ (.agg (Mg.cells ⟨21, ⟨false, fm⟩, ⟨false, to⟩, 0, 0, k, ⟨(edgeF h.k.up (decd ps) + 1), 0⟩, spZ, slZ, cZ, bvZ, slZ, false⟩)) (by kernel_rfl) (by kernel_rfl) (run_store_to (cur := Mg.cs mgZ) (vs := Mg.cs ⟨21, ⟨false, fm⟩, ⟨false, to⟩, 0, 0, k, ⟨(edgeF h.k.up (decd ps) + 1), 0⟩, spZ, slZ, cZ, bvZ, slZ, false⟩) (new := Mg.cs ⟨21, ⟨false, fm⟩, ⟨false, to⟩, 0, 0, k, ⟨(edgeF h.k.up (decd ps) + 1), 0⟩, spZ, slZ, cZ, bvZ, slZ, false⟩) (HF.out.box 2 _ _ _ rfl) (by kernel_rfl) Try.size50 (Nat.le_of_ble_eq_true (by kernel_rfl)) (Mg.oneL _) (by kernel_rfl)) (⟨hH.1.rowNe (HF.out.ne 0 2 rfl rfl (by simp)) _, hH.2.1.rowNe (HF.out.ne 1 2 rfl rfl (by simp)) _, hH.2.2.1.rowNe (HF.out.ne 3 2 rfl rfl (by simp)) _, hH.2.2.2.rowNe (HF.out.ne 4 2 rfl rfl (by simp)) _⟩) (fun hH => ?_)
    try simp only [pS]
    have HF : Hid (Fr No w _ [(gk1, 39, Ky.cells k), (gk3, 49, Hd.cells h), (gk5, 46, Mg.cells ⟨21, ⟨false, fm⟩, ⟨false, to⟩, 0, 0, k, ⟨(edgeF h.k.up (decd ps) + 1), 0⟩, spZ, slZ, cZ, bvZ, slZ, false⟩), (gk7, 37, Ad.cells ⟨false, fm⟩), (gk9, 37, Ad.cells ⟨false, to⟩)]) := HF.out.set 2 rfl _
    generalize wk16.setRow gk5 (Mg.cells ⟨21, ⟨false, fm⟩, ⟨false, to⟩, 0, 0, k, ⟨(edgeF h.k.up (decd ps) + 1), 0⟩, spZ, slZ, cZ, bvZ, slZ, false⟩) = wk17 at HF hH ⊢
    refine wpAnyH_done (by kernel_rfl) ?_ _
    try simp only [pS]
    clear hH
    go_wp2
    rw [HC.out]
    refine bodyPost_ret (results_row1 (by rfl) _ _ gk5 (Mg.cells ⟨21, ⟨false, fm⟩, ⟨false, to⟩, 0, 0, k, ⟨(edgeF h.k.up (decd ps) + 1), 0⟩, spZ, slZ, cZ, bvZ, slZ, false⟩) (by rfl) (run_load_part (cs := Mg.cs ⟨21, ⟨false, fm⟩, ⟨false, to⟩, 0, 0, k, ⟨(edgeF h.k.up (decd ps) + 1), 0⟩, spZ, slZ, cZ, bvZ, slZ, false⟩) (sub := Mg.cs ⟨21, ⟨false, fm⟩, ⟨false, to⟩, 0, 0, k, ⟨(edgeF h.k.up (decd ps) + 1), 0⟩, spZ, slZ, cZ, bvZ, slZ, false⟩) (HF.out.box 2 _ _ _ rfl) (Part.all _) Try.und50 rfl Try.size50)) rfl ?_
    exact ⟨by simp [askS, askM, q1, q2, adZ, spZ], HF.out.kept⟩
  ·skip
   refine tW (.bool true) (eB .eql 3 _ _ _ rfl (.int .i64 k.k) (.int .i64 1) _ (by rw [b_eql, q1]; try rfl)) ?_
   refine tK (.bool true) ?_
   try simp only [pS]
   refine WL.nil ?_
   try simp only [pS]
   go_upto_region 4 with fail
   refine WL.start ?_
   refine tW (.agg (Ad.cells ⟨false, fm⟩)) (eL 37 _ rfl ⟨gk7, 0, none⟩ (run_load_part (cs := Ad.cs ⟨false, fm⟩) (sub := Ad.cs ⟨false, fm⟩) (HF.out.box 3 _ _ _ rfl) (Part.all _) Try.und43 rfl Try.size43)) ?_
   refine tW (.agg (Ad.cells ⟨false, to⟩)) (eL 37 _ rfl ⟨gk9, 0, none⟩ (run_load_part (cs := Ad.cs ⟨false, to⟩) (sub := Ad.cs ⟨false, to⟩) (HF.out.box 4 _ _ _ rfl) (Part.all _) Try.und43 rfl Try.size43)) ?_
   refine tW (.agg (Ky.cells k)) (eL 39 _ rfl ⟨gk1, 0, none⟩ (run_load_part (cs := Ky.cs k) (sub := Ky.cs k) (HF.out.box 0 _ _ _ rfl) (Part.all _) Try.und23 rfl Try.size23)) ?_
   try simp only [pS]
   refine wp_callW 35 #[.agg (Ad.cells ⟨false, fm⟩), .agg (Ad.cells ⟨false, to⟩), .agg (Ky.cells k), .int .i64 0] (by kernel_rfl) _ (asking_any ⟨false, fm⟩ ⟨false, to⟩ k 0 _) (by kernel_rfl) ?_
   rintro e wk18 ⟨rfl, hk⟩
   have HF : Hid (Fr No w (wk18) [(gk1, 39, Ky.cells k), (gk3, 49, Hd.cells h), (gk5, 46, Mg.cells mgZ), (gk7, 37, Ad.cells ⟨false, fm⟩), (gk9, 37, Ad.cells ⟨false, to⟩)]) := HF.out.no hk
   clear hk
   refine ⟨.agg (Mg.cells ⟨21, ⟨false, fm⟩, ⟨false, to⟩, 0, 0, k, ⟨0, 0⟩, spZ, slZ, cZ, bvZ, slZ, false⟩), rfl, ?_⟩
   try simp only [pS]
   refine wp_storeW 46 _ _ rfl ⟨gk5, 0, none⟩ (.agg (Mg.cells ⟨21, ⟨false, fm⟩, ⟨false, to⟩, 0, 0, k, ⟨0, 0⟩, spZ, slZ, cZ, bvZ, slZ, false⟩)) (by kernel_rfl) (by kernel_rfl) (wk18.setRow gk5 (Mg.cells ⟨21, ⟨false, fm⟩, ⟨false, to⟩, 0, 0, k, ⟨0, 0⟩, spZ, slZ, cZ, bvZ, slZ, false⟩)) (run_store_to (cur := Mg.cs mgZ) (vs := Mg.cs ⟨21, ⟨false, fm⟩, ⟨false, to⟩, 0, 0, k, ⟨0, 0⟩, spZ, slZ, cZ, bvZ, slZ, false⟩) (new := Mg.cs ⟨21, ⟨false, fm⟩, ⟨false, to⟩, 0, 0, k, ⟨0, 0⟩, spZ, slZ, cZ, bvZ, slZ, false⟩) (HF.out.box 2 _ _ _ rfl) (by kernel_rfl) Try.size50 (Nat.le_of_ble_eq_true (by kernel_rfl)) (Mg.oneL _) (by kernel_rfl)) (by kernel_rfl) ?_
   try simp only [pS]
   have HF : Hid (Fr No w _ [(gk1, 39, Ky.cells k), (gk3, 49, Hd.cells h), (gk5, 46, Mg.cells ⟨21, ⟨false, fm⟩, ⟨false, to⟩, 0, 0, k, ⟨0, 0⟩, spZ, slZ, cZ, bvZ, slZ, false⟩), (gk7, 37, Ad.cells ⟨false, fm⟩), (gk9, 37, Ad.cells ⟨false, to⟩)]) := HF.out.set 2 rfl _
   generalize wk18.setRow gk5 (Mg.cells ⟨21, ⟨false, fm⟩, ⟨false, to⟩, 0, 0, k, ⟨0, 0⟩, spZ, slZ, cZ, bvZ, slZ, false⟩) = wk19 at HF ⊢
   refine WL.nil ?_
   try simp only [pS]
   go_wp2
   rw [HC.out]
   refine bodyPost_ret (results_row1 (by rfl) _ _ gk5 (Mg.cells ⟨21, ⟨false, fm⟩, ⟨false, to⟩, 0, 0, k, ⟨0, 0⟩, spZ, slZ, cZ, bvZ, slZ, false⟩) (by rfl) (run_load_part (cs := Mg.cs ⟨21, ⟨false, fm⟩, ⟨false, to⟩, 0, 0, k, ⟨0, 0⟩, spZ, slZ, cZ, bvZ, slZ, false⟩) (sub := Mg.cs ⟨21, ⟨false, fm⟩, ⟨false, to⟩, 0, 0, k, ⟨0, 0⟩, spZ, slZ, cZ, bvZ, slZ, false⟩) (HF.out.box 2 _ _ _ rfl) (Part.all _) Try.und50 rfl Try.size50)) rfl ?_
   exact ⟨by simp [askS, askM, q1, adZ, spZ], HF.out.kept⟩
set_option maxRecDepth 100000 in
set_option maxHeartbeats 4000000 in
theorem tellBlock_yes (p : Nat) (m : Mg) (b : Bl) (bs : List Int) (w : World) (hp : Box w p 46 (Mg.cells m)) (hz : eqS b.s spZ = false) (hr : RdB w b.d bs) (hn : b.d.l ≤ 140737488355328) (hne : ∀ k, At b.d.a k → k ≠ p) : Calls Try.prog 20 #[.pointer (some ⟨p, 0, none⟩), .agg (Bl.cells b)] w (fun e w' => ∃ s' : Sl, (∃ v, e = .returned v) ∧ Box w' p 46 (Mg.cells ({ m with st := b.s, bl := s' })) ∧ OwB w' w.heap.size s' bs ∧ Kept (Only p) w w') := by
  obtain ⟨C, hC⟩ : ∃ C : Ending → World → Prop, C = (fun e w' => ∃ s' : Sl, (∃ v, e = .returned v) ∧ Box w' p 46 (Mg.cells ({ m with st := b.s, bl := s' })) ∧ OwB w' w.heap.size s' bs ∧ Kept (Only p) w w') := ⟨_, rfl⟩
  have HC : Hid (C = (fun e w' => ∃ s' : Sl, (∃ v, e = .returned v) ∧ Box w' p 46 (Mg.cells ({ m with st := b.s, bl := s' })) ∧ OwB w' w.heap.size s' bs ∧ Kept (Only p) w w')) := hC
  rw [← hC]
  clear hC
  have HP : Hid (Box w p 46 (Mg.cells m)) := hp
  have HPl : Hid (p < w.heap.size) := hp.lt
  clear hp
  have HK : Hid (∀ W, Kept (Only p) w W → Box W p 46 (Mg.cells m) → Calls Try.prog 37 #[b.d.v] W (CloneOut W bs)) := fun W hk hb => clone_any b.d bs W (hr.kept hk (fun k e f => by
    have f : k = p := f
    subst f
    exact hne k e rfl)) hn
  clear hr
  have HF : Hid (Fr (Only p) w w []) := Fr.start _ _
  go_enter Try.func20, Try.ntmps20
  go_upto_region 0 with fail
  refine WL.start ?_
  refine wp_runW (.pointer (some ⟨w.heap.size, 0, none⟩)) (w.alloc (.cells (Bl.cells b) 26)) (exec_box 26 _ rfl (Bl.cells b) (by kernel_rfl)) (by kernel_rfl) ?_
  try simp only [pS]
  have HP : Hid (Box (w.alloc (.cells (Bl.cells b) 26)) p 46 (Mg.cells m)) := HP.out.no ((Kept.refl No _).alloc _)
  have HF : Hid (Fr (Only p) w _ [(w.heap.size, 26, Bl.cells b)]) := HF.out.alloc _ _
  generalize w.alloc (.cells (Bl.cells b) 26) = wk2 at HF HP ⊢
  generalize w.heap.size = gk1 at HF ⊢
  refine WL.nil ?_
  try simp only [pS]
  go_upto_region 1 with fail
  refine WL.start ?_
  refine tK (.pointer (some ⟨gk1, 0, none⟩)) ?_
  refine tW (.agg (Sp.cells b.s)) (eL 23 _ rfl ⟨gk1, 0, none⟩ (run_load_part (cs := Bl.cs b) (sub := Sp.cs b.s) (HF.out.box 0 _ _ _ rfl) (part_of (by kernel_rfl)) Try.und25 rfl Try.size25)) ?_
  refine tW (.agg (Sp.cells spZ)) (exec_build 23 _ rfl (Sp.cells spZ) (by kernel_rfl)) ?_
  refine tW (.bool false) (eB .eql 23 _ _ _ rfl (.agg (Sp.cells b.s)) (.agg (Sp.cells spZ)) _ (by rw [eqS_eql, hz]; try rfl)) ?_
  try simp only [pS]
  refine WL.nil ?_
  try simp only [pS]
  go_upto_region 2 with fail
  refine wp_region_held_drew (S := fun w' => Box w' gk1 26 (Bl.cells b)) rfl (HF.out.box 0 _ _ _ rfl) (fun hH => ?_)
  have HP : Hid (Box (wk2.drew) p 46 (Mg.cells m)) := HP.out.no (Kept.refl No _).drew
  have HF : Hid (Fr (Only p) w (wk2.drew) [(gk1, 26, Bl.cells b)]) := HF.out.drew
  generalize wk2.drew = wk3 at HF HP hH ⊢
  refine aT (i := 0) (oi := { dst := some 8, op := Op.move (Operand.tmp 0), type := 77, pos := "have.go:14", after := #[], guard := none }) (v := .pointer (some ⟨p, 0, none⟩)) (fun _ _ => by kernel_rfl) hH ?_
  try simp only [pS]
  refine aT (i := 1) (oi := { dst := some 9, op := Op.move (Operand.tmp 0), type := 77, pos := "have.go:14", after := #[{ on := 9, ground := Ground.gcOnly Departure.lateStores }], guard := none }) (v := .pointer (some ⟨p, 0, none⟩)) (fun _ _ => by kernel_rfl) hH ?_
  try simp only [pS]
  refine aT (i := 2) (oi := { dst := some 10, op := Op.fieldAddr 26 (Operand.tmp 3) 0, type := 0, pos := "have.go:14", after := #[], guard := none }) (v := .pointer (some ⟨gk1, 0, none⟩)) (fun _ _ => by kernel_rfl) hH ?_
  try simp only [pS]
  refine aT (i := 3) (oi := { dst := some 11, op := Op.load 23 (Operand.tmp 10), type := 23, pos := "have.go:14", after := #[{ on := 2, ground := Ground.data }], guard := none }) (v := .agg (Sp.cells b.s)) (fun w' hw => eL 23 _ rfl ⟨gk1, 0, none⟩ (run_load_part (cs := Bl.cs b) (sub := Sp.cs b.s) (hw) (part_of (by kernel_rfl)) Try.und25 rfl Try.size25)) hH ?_
  try simp only [pS]
  refine aT (i := 4) (oi := { dst := some 12, op := Op.fieldAddr 26 (Operand.tmp 3) 1, type := 0, pos := "have.go:14", after := #[], guard := none }) (v := .pointer (some ⟨gk1, 2, none⟩)) (fun _ _ => by kernel_rfl) hH ?_
  try simp only [pS]
  refine aT (i := 5) (oi := { dst := some 13, op := Op.load 24 (Operand.tmp 12), type := 24, pos := "have.go:14", after := #[{ on := 4, ground := Ground.data }], guard := none }) (v := b.d.v) (fun w' hw => eL 24 _ rfl ⟨gk1, 2, none⟩ (load_one ((hw).cell 2 |>.trans (by kernel_rfl)) Try.und26 rfl)) hH ?_
  try simp only [pS]
  have HFs : Hid (w.heap.size ≤ wk3.heap.size) := HF.out.kept.size
  refine any_call (i := 6) (o := { dst := some 14, op := Op.call { callee := Callee.value (Operand.func 37), args := #[Operand.tmp 13], argTypes := #[24] }, type := 24, pos := "have.go:14", after := #[{ on := 5, ground := Ground.data }], guard := none }) rfl (by kernel_rfl) (by kernel_rfl) 37 #[b.d.v] (by kernel_rfl) _ (HK.out _ HF.out.kept HP.out) ?_
  rintro e wk4 ⟨s', rfl, ho, hk⟩
  have hH2 : Box wk4 gk1 26 (Bl.cells b) := (hH.kept hk (fun e => e))
  have HP : Hid (Box (wk4) p 46 (Mg.cells m)) := HP.out.no hk
  have HF : Hid (Fr (Only p) w (wk4) [(gk1, 26, Bl.cells b)]) := HF.out.no hk
  have HO : Hid (OwB wk4 w.heap.size s' bs) := ⟨ho.own.lower HFs.out, ho.len⟩
  clear ho
  clear hk
  refine ⟨s'.v, rfl, hH2, fun hH => ?_⟩
  clear hH2
  try simp only [pS]
  refine aT (i := 7) (oi := { dst := some 15, op := Op.nilCheck (Operand.tmp 8), type := 0, pos := "have.go:14", after := #[{ on := 0, ground := Ground.data }, { on := 0, ground := Ground.phase }, { on := 1, ground := Ground.textOnly Departure.lateStores }, { on := 2, ground := Ground.phase }, { on := 3, ground := Ground.phase }, { on := 4, ground := Ground.textOnly Departure.lateStores }, { on := 5, ground := Ground.textOnly Departure.lateStores }, { on := 6, ground := Ground.phase }], guard := none }) (v := .pointer (some ⟨p, 0, none⟩)) (fun _ _ => by kernel_rfl) hH ?_
  try simp only [pS]
  refine aT (i := 8) (oi := { dst := some 16, op := Op.fieldAddr 46 (Operand.tmp 15) 6, type := 0, pos := "have.go:14", after := #[{ on := 7, ground := Ground.data }, { on := 0, ground := Ground.phase }, { on := 1, ground := Ground.textOnly Departure.lateStores }, { on := 2, ground := Ground.phase }, { on := 3, ground := Ground.phase }, { on := 4, ground := Ground.textOnly Departure.lateStores }, { on := 5, ground := Ground.textOnly Departure.lateStores }, { on := 6, ground := Ground.phase }], guard := none }) (v := .pointer (some ⟨p, 11, none⟩)) (fun _ _ => by kernel_rfl) hH ?_
  try simp only [pS]
  refine any_store (i := 9) (o := { dst := none, op := Op.store 23 (Operand.tmp 16) (Operand.tmp 11), type := 0, pos := "have.go:14", after := #[{ on := 8, ground := Ground.data }, { on := 3, ground := Ground.data }, { on := 6, ground := Ground.chain }, { on := 0, ground := Ground.phase }, { on := 1, ground := Ground.textOnly Departure.lateStores }, { on := 2, ground := Ground.phase }, { on := 3, ground := Ground.phase }, { on := 4, ground := Ground.textOnly Departure.lateStores }, { on := 5, ground := Ground.textOnly Departure.lateStores }, { on := 6, ground := Ground.phase }], guard := none }) (w' := wk4.setRow p (Mg.cells ⟨m.k, m.fr, m.to, m.op, m.rd, m.ky, b.s, m.hd, m.bl, m.c, m.bk, m.cm, m.mo⟩)) rfl (by kernel_rfl) (by kernel_rfl) 23 _ _ rfl ⟨p, 11, none⟩ (.agg (Sp.cells b.s)) (by kernel_rfl) (by kernel_rfl) (run_store_to (cur := Mg.cs m) (vs := Sp.cs b.s) (new := Mg.cs ⟨m.k, m.fr, m.to, m.op, m.rd, m.ky, b.s, m.hd, m.bl, m.c, m.bk, m.cm, m.mo⟩) (HP.out) (by kernel_rfl) Try.size25 (Nat.le_of_ble_eq_true (by kernel_rfl)) (Sp.oneL _) (by kernel_rfl)) ((hH.rowNe (fun e => by have h1 := HF.out.low 0 _ _ _ rfl; have h2 := HPl.out; omega) _)) (fun hH => ?_)
  try simp only [pS]
  have HP : Hid (Box (wk4.setRow p (Mg.cells ⟨m.k, m.fr, m.to, m.op, m.rd, m.ky, b.s, m.hd, m.bl, m.c, m.bk, m.cm, m.mo⟩)) p 46 (Mg.cells ⟨m.k, m.fr, m.to, m.op, m.rd, m.ky, b.s, m.hd, m.bl, m.c, m.bk, m.cm, m.mo⟩)) := HP.out.setRow _
  have HO : Hid (OwB (wk4.setRow p (Mg.cells ⟨m.k, m.fr, m.to, m.op, m.rd, m.ky, b.s, m.hd, m.bl, m.c, m.bk, m.cm, m.mo⟩)) w.heap.size s' bs) := HO.out.kept (Kept.setRow _ _ _) (fun k h e => by have h1 := HO.out.own.base h; have h2 := HPl.out; have e : k = p := e; omega)
  have HF : Hid (Fr (Only p) w (wk4.setRow p (Mg.cells ⟨m.k, m.fr, m.to, m.op, m.rd, m.ky, b.s, m.hd, m.bl, m.c, m.bk, m.cm, m.mo⟩)) [(gk1, 26, Bl.cells b)]) := HF.out.via (Kept.setRow _ _ _) (fun k e => ⟨(show k = p from e) ▸ HPl.out, e⟩)
  generalize wk4.setRow p (Mg.cells ⟨m.k, m.fr, m.to, m.op, m.rd, m.ky, b.s, m.hd, m.bl, m.c, m.bk, m.cm, m.mo⟩) = wk5 at HF HP HO hH ⊢
  refine aT (i := 10) (oi := { dst := some 17, op := Op.nilCheck (Operand.tmp 9), type := 0, pos := "have.go:14", after := #[{ on := 1, ground := Ground.data }, { on := 0, ground := Ground.phase }, { on := 1, ground := Ground.phase }, { on := 2, ground := Ground.phase }, { on := 3, ground := Ground.phase }, { on := 4, ground := Ground.phase }, { on := 5, ground := Ground.phase }, { on := 6, ground := Ground.phase }, { on := 7, ground := Ground.phase }, { on := 8, ground := Ground.phase }, { on := 9, ground := Ground.phase }], guard := none }) (v := .pointer (some ⟨p, 0, none⟩)) (fun _ _ => by kernel_rfl) hH ?_
  try simp only [pS]
  refine aT (i := 11) (oi := { dst := some 18, op := Op.fieldAddr 46 (Operand.tmp 17) 8, type := 0, pos := "have.go:14", after := #[{ on := 10, ground := Ground.data }, { on := 0, ground := Ground.phase }, { on := 1, ground := Ground.phase }, { on := 2, ground := Ground.phase }, { on := 3, ground := Ground.phase }, { on := 4, ground := Ground.phase }, { on := 5, ground := Ground.phase }, { on := 6, ground := Ground.phase }, { on := 7, ground := Ground.phase }, { on := 8, ground := Ground.phase }, { on := 9, ground := Ground.phase }], guard := none }) (v := .pointer (some ⟨p, 15, none⟩)) (fun _ _ => by kernel_rfl) hH ?_
  try simp only [pS]
  refine any_store (i := 12) (o := { dst := none, op := Op.store 24 (Operand.tmp 18) (Operand.tmp 14), type := 0, pos := "have.go:14", after := #[{ on := 11, ground := Ground.data }, { on := 6, ground := Ground.data }, { on := 9, ground := Ground.chain }, { on := 0, ground := Ground.phase }, { on := 1, ground := Ground.phase }, { on := 2, ground := Ground.phase }, { on := 3, ground := Ground.phase }, { on := 4, ground := Ground.phase }, { on := 5, ground := Ground.phase }, { on := 6, ground := Ground.phase }, { on := 7, ground := Ground.phase }, { on := 8, ground := Ground.phase }, { on := 9, ground := Ground.phase }], guard := none }) (w' := wk5.setRow p (Mg.cells ⟨m.k, m.fr, m.to, m.op, m.rd, m.ky, b.s, m.hd, s', m.c, m.bk, m.cm, m.mo⟩)) rfl (by kernel_rfl) (by kernel_rfl) 24 _ _ rfl ⟨p, 15, none⟩ (s'.v) (by kernel_rfl) (by kernel_rfl) (run_store_to (cur := Mg.cs ⟨m.k, m.fr, m.to, m.op, m.rd, m.ky, b.s, m.hd, m.bl, m.c, m.bk, m.cm, m.mo⟩) (vs := [s'.v]) (new := Mg.cs ⟨m.k, m.fr, m.to, m.op, m.rd, m.ky, b.s, m.hd, s', m.c, m.bk, m.cm, m.mo⟩) (HP.out) (by kernel_rfl) Try.size26 (Nat.le_of_ble_eq_true (by kernel_rfl)) (by simp [Value.oneCell', Sl.v]) (by kernel_rfl)) ((hH.rowNe (fun e => by have h1 := HF.out.low 0 _ _ _ rfl; have h2 := HPl.out; omega) _)) (fun hH => ?_)
  try simp only [pS]
  have HP : Hid (Box (wk5.setRow p (Mg.cells ⟨m.k, m.fr, m.to, m.op, m.rd, m.ky, b.s, m.hd, s', m.c, m.bk, m.cm, m.mo⟩)) p 46 (Mg.cells ⟨m.k, m.fr, m.to, m.op, m.rd, m.ky, b.s, m.hd, s', m.c, m.bk, m.cm, m.mo⟩)) := HP.out.setRow _
  have HO : Hid (OwB (wk5.setRow p (Mg.cells ⟨m.k, m.fr, m.to, m.op, m.rd, m.ky, b.s, m.hd, s', m.c, m.bk, m.cm, m.mo⟩)) w.heap.size s' bs) := HO.out.kept (Kept.setRow _ _ _) (fun k h e => by have h1 := HO.out.own.base h; have h2 := HPl.out; have e : k = p := e; omega)
  have HF : Hid (Fr (Only p) w (wk5.setRow p (Mg.cells ⟨m.k, m.fr, m.to, m.op, m.rd, m.ky, b.s, m.hd, s', m.c, m.bk, m.cm, m.mo⟩)) [(gk1, 26, Bl.cells b)]) := HF.out.via (Kept.setRow _ _ _) (fun k e => ⟨(show k = p from e) ▸ HPl.out, e⟩)
  generalize wk5.setRow p (Mg.cells ⟨m.k, m.fr, m.to, m.op, m.rd, m.ky, b.s, m.hd, s', m.c, m.bk, m.cm, m.mo⟩) = wk6 at HF HP HO hH ⊢
  refine wpAnyH_done (by kernel_rfl) ?_ _
  try simp only [pS]
  clear hH
  go_end0
  rw [HC.out]
  exact ⟨s', ⟨_, rfl⟩, HP.out, HO.out, HF.out.kept⟩
def NewOut (w : World) (m : Mg) (b : Bl) (bs : List Int) (e : Ending) (w' : World) : Prop :=
  (lessB b.s m.st = false ∧ e = .returned (.slice none 0 0) ∧ Kept No w w') ∨ (lessB b.s m.st = true ∧ ∃ (g : Nat) (s' : Sl), e = .returned (.slice (some ⟨g, 0, none⟩) 1 1) ∧ Box w' g 67 (Ch.cells ⟨m.ky, ⟨m.st, s'⟩, inZ, bvZ⟩) ∧ OwB w' w.heap.size s' bs ∧ w.heap.size ≤ g ∧ Kept No w w')
set_option maxRecDepth 100000 in
set_option maxHeartbeats 4000000 in
theorem newerBlock_any (m : Mg) (b : Bl) (bs : List Int) (w : World) (hr : RdB w m.bl bs) (hn : m.bl.l ≤ 140737488355328) : Calls Try.prog 29 #[.agg (Mg.cells m), .agg (Bl.cells b)] w (NewOut w m b bs) := by
  obtain ⟨C, hC⟩ : ∃ C : Ending → World → Prop, C = (NewOut w m b bs) := ⟨_, rfl⟩
  have HC : Hid (C = (NewOut w m b bs)) := hC
  rw [← hC]
  clear hC
  have HK : Hid (∀ W, Kept No w W → Calls Try.prog 37 #[m.bl.v] W (CloneOut W bs)) := fun W hk => clone_any m.bl bs W (hr.no hk) hn
  clear hr
  have HF : Hid (Fr No w w []) := Fr.start _ _
  go_enter Try.func29, Try.ntmps29
  go_upto_region 0 with fail
  refine WL.start ?_
  refine wp_runW (.pointer (some ⟨w.heap.size, 0, none⟩)) (w.alloc (.cells (Mg.cells m) 46)) (exec_box 46 _ rfl (Mg.cells m) (by kernel_rfl)) (by kernel_rfl) ?_
  try simp only [pS]
  have HF : Hid (Fr No w _ [(w.heap.size, 46, Mg.cells m)]) := HF.out.alloc _ _
  generalize w.alloc (.cells (Mg.cells m) 46) = wk2 at HF ⊢
  generalize w.heap.size = gk1 at HF ⊢
  refine wp_runW (.pointer (some ⟨wk2.heap.size, 0, none⟩)) (wk2.alloc (.cells (Bl.cells b) 26)) (exec_box 26 _ rfl (Bl.cells b) (by kernel_rfl)) (by kernel_rfl) ?_
  try simp only [pS]
  have HF : Hid (Fr No w _ [(gk1, 46, Mg.cells m), (wk2.heap.size, 26, Bl.cells b)]) := HF.out.alloc _ _
  generalize wk2.alloc (.cells (Bl.cells b) 26) = wk4 at HF ⊢
  generalize wk2.heap.size = gk3 at HF ⊢
  refine tK (.slice none 0 0) ?_
  try simp only [pS]
  refine WL.nil ?_
  try simp only [pS]
  go_upto_region 1 with fail
  refine WL.start ?_
  refine tK (.pointer (some ⟨gk3, 0, none⟩)) ?_
  refine tW (.agg (Sp.cells b.s)) (eL 23 _ rfl ⟨gk3, 0, none⟩ (run_load_part (cs := Bl.cs b) (sub := Sp.cs b.s) (HF.out.box 1 _ _ _ rfl) (part_of (by kernel_rfl)) Try.und25 rfl Try.size25)) ?_
  refine tK (.pointer (some ⟨gk1, 11, none⟩)) ?_
  refine tW (.agg (Sp.cells m.st)) (eL 23 _ rfl ⟨gk1, 11, none⟩ (run_load_part (cs := Mg.cs m) (sub := Sp.cs m.st) (HF.out.box 0 _ _ _ rfl) (part_of (by kernel_rfl)) Try.und25 rfl Try.size25)) ?_
  try simp only [pS]
  cases q1 : (lessB b.s m.st)
  ·skip
   refine wp_callW 41 #[.agg (Sp.cells b.s), .agg (Sp.cells m.st)] (by kernel_rfl) _ (less_any b.s m.st _) (by kernel_rfl) ?_
   rintro e wk5 ⟨rfl, hk⟩
   have HF : Hid (Fr No w (wk5) [(gk1, 46, Mg.cells m), (gk3, 26, Bl.cells b)]) := HF.out.no hk
   clear hk
   refine ⟨.bool false, by rw [q1], ?_⟩
   try simp only [pS]
   refine tK (.bool true) ?_
   try simp only [pS]
   refine WL.nil ?_
   try simp only [pS]
   go_upto_region 2 with fail
   refine WL.start ?_
   refine tK (.slice none 0 0) ?_
   try simp only [pS]
   refine WL.nil ?_
   try simp only [pS]
   go_wp2
   rw [HC.out]
   exact .inl ⟨q1, rfl, HF.out.kept⟩
  ·skip
   refine wp_callW 41 #[.agg (Sp.cells b.s), .agg (Sp.cells m.st)] (by kernel_rfl) _ (less_any b.s m.st _) (by kernel_rfl) ?_
   rintro e wk6 ⟨rfl, hk⟩
   have HF : Hid (Fr No w (wk6) [(gk1, 46, Mg.cells m), (gk3, 26, Bl.cells b)]) := HF.out.no hk
   clear hk
   refine ⟨.bool true, by rw [q1], ?_⟩
   try simp only [pS]
   refine tK (.bool false) ?_
   try simp only [pS]
   refine WL.nil ?_
   try simp only [pS]
   go_upto_region 3 with fail
   refine wp_region_held_drew (S := fun w' => Box w' gk1 46 (Mg.cells m)) rfl (HF.out.box 0 _ _ _ rfl) (fun hH => ?_)
   have HF : Hid (Fr No w (wk6.drew) [(gk1, 46, Mg.cells m), (gk3, 26, Bl.cells b)]) := HF.out.drew
   generalize wk6.drew = wk7 at HF hH ⊢
   refine aT (i := 0) (oi := { dst := some 11, op := Op.fieldAddr 46 (Operand.tmp 2) 5, type := 0, pos := "take.go:14", after := #[], guard := none }) (v := .pointer (some ⟨gk1, 7, none⟩)) (fun _ _ => by kernel_rfl) hH ?_
   try simp only [pS]
   refine aT (i := 1) (oi := { dst := some 12, op := Op.load 39 (Operand.tmp 11), type := 39, pos := "take.go:14", after := #[{ on := 0, ground := Ground.data }], guard := none }) (v := .agg (Ky.cells m.ky)) (fun w' hw => eL 39 _ rfl ⟨gk1, 7, none⟩ (run_load_part (cs := Mg.cs m) (sub := Ky.cs m.ky) (hw) (part_of (by kernel_rfl)) Try.und23 rfl Try.size23)) hH ?_
   try simp only [pS]
   refine aT (i := 2) (oi := { dst := some 13, op := Op.fieldAddr 46 (Operand.tmp 2) 6, type := 0, pos := "take.go:14", after := #[], guard := none }) (v := .pointer (some ⟨gk1, 11, none⟩)) (fun _ _ => by kernel_rfl) hH ?_
   try simp only [pS]
   refine aT (i := 3) (oi := { dst := some 14, op := Op.load 23 (Operand.tmp 13), type := 23, pos := "take.go:14", after := #[{ on := 2, ground := Ground.data }], guard := none }) (v := .agg (Sp.cells m.st)) (fun w' hw => eL 23 _ rfl ⟨gk1, 11, none⟩ (run_load_part (cs := Mg.cs m) (sub := Sp.cs m.st) (hw) (part_of (by kernel_rfl)) Try.und25 rfl Try.size25)) hH ?_
   try simp only [pS]
   refine aT (i := 4) (oi := { dst := some 15, op := Op.fieldAddr 46 (Operand.tmp 2) 8, type := 0, pos := "take.go:14", after := #[], guard := none }) (v := .pointer (some ⟨gk1, 15, none⟩)) (fun _ _ => by kernel_rfl) hH ?_
   try simp only [pS]
   refine aT (i := 5) (oi := { dst := some 16, op := Op.load 24 (Operand.tmp 15), type := 24, pos := "take.go:14", after := #[{ on := 4, ground := Ground.data }], guard := none }) (v := m.bl.v) (fun w' hw => eL 24 _ rfl ⟨gk1, 15, none⟩ (load_one ((hw).cell 15 |>.trans (by kernel_rfl)) Try.und26 rfl)) hH ?_
   try simp only [pS]
   have HFs : Hid (w.heap.size ≤ wk7.heap.size) := HF.out.kept.size
   refine any_call (i := 6) (o := { dst := some 17, op := Op.call { callee := Callee.value (Operand.func 37), args := #[Operand.tmp 16], argTypes := #[24] }, type := 24, pos := "take.go:14", after := #[{ on := 5, ground := Ground.data }], guard := none }) rfl (by kernel_rfl) (by kernel_rfl) 37 #[m.bl.v] (by kernel_rfl) _ (HK.out _ HF.out.kept) ?_
   rintro e wk8 ⟨s', rfl, ho, hk⟩
   have hH2 : Box wk8 gk1 46 (Mg.cells m) := (hH.kept hk (fun e => e))
   have HF : Hid (Fr No w (wk8) [(gk1, 46, Mg.cells m), (gk3, 26, Bl.cells b)]) := HF.out.no hk
   have HO : Hid (OwB wk8 w.heap.size s' bs) := ⟨ho.own.lower HFs.out, ho.len⟩
   clear ho
   clear hk
   refine ⟨s'.v, rfl, hH2, fun hH => ?_⟩
   clear hH2
   try simp only [pS]
   refine aT (i := 7) (oi := { dst := some 18, op := Op.build 26 #[(0, Operand.tmp 14), (1, Operand.tmp 17)], type := 26, pos := "take.go:14", after := #[{ on := 3, ground := Ground.data }, { on := 6, ground := Ground.data }], guard := none }) (v := .agg (Bl.cells ⟨m.st, s'⟩)) (fun w' hw => exec_build 26 _ rfl (Bl.cells ⟨m.st, s'⟩) (by kernel_rfl)) hH ?_
   try simp only [pS]
   refine aT (i := 8) (oi := { dst := some 19, op := Op.build 67 #[(0, Operand.tmp 12), (1, Operand.tmp 18)], type := 67, pos := "take.go:14", after := #[{ on := 1, ground := Ground.data }, { on := 7, ground := Ground.data }], guard := none }) (v := .agg (Ch.cells ⟨m.ky, ⟨m.st, s'⟩, inZ, bvZ⟩)) (fun w' hw => exec_build 67 _ rfl (Ch.cells ⟨m.ky, ⟨m.st, s'⟩, inZ, bvZ⟩) (by kernel_rfl)) hH ?_
   try simp only [pS]
   refine any_step (i := 9) (o := { dst := some 20, op := Op.buildSlice 56 1 #[(0, Operand.tmp 19)], type := 56, pos := "take.go:14", after := #[{ on := 8, ground := Ground.data }], guard := none }) rfl (by kernel_rfl) (by kernel_rfl) (exec_slice2 56 67 _ rfl (Ch.cells ⟨m.ky, ⟨m.st, s'⟩, inZ, bvZ⟩) (.agg (Ch.cells ⟨m.ky, ⟨m.st, s'⟩, inZ, bvZ⟩)) (by kernel_rfl) (by kernel_rfl)) ((hH.alloc _)) (fun hH => ?_)
   try simp only [pS]
   have HO : Hid (OwB (wk8.alloc (.cells (Ch.cells ⟨m.ky, ⟨m.st, s'⟩, inZ, bvZ⟩) 67)) w.heap.size s' bs) := HO.out.no ((Kept.refl No _).alloc _)
   have HF : Hid (Fr No w _ [(gk1, 46, Mg.cells m), (gk3, 26, Bl.cells b), (wk8.heap.size, 67, Ch.cells ⟨m.ky, ⟨m.st, s'⟩, inZ, bvZ⟩)]) := HF.out.alloc _ _
   generalize wk8.alloc (.cells (Ch.cells ⟨m.ky, ⟨m.st, s'⟩, inZ, bvZ⟩) 67) = wk10 at HF HO hH ⊢
   generalize wk8.heap.size = gk9 at HF ⊢
   refine aT (i := 10) (oi := { dst := some 4, op := Op.assign (Operand.tmp 20), type := 56, pos := "take.go:14", after := #[{ on := 9, ground := Ground.data }, { on := 6, ground := Ground.chain }, { on := 0, ground := Ground.phase }, { on := 1, ground := Ground.phase }, { on := 2, ground := Ground.phase }, { on := 3, ground := Ground.phase }, { on := 4, ground := Ground.phase }, { on := 5, ground := Ground.phase }, { on := 6, ground := Ground.phase }, { on := 7, ground := Ground.phase }, { on := 8, ground := Ground.phase }, { on := 9, ground := Ground.phase }], guard := none }) (v := .slice (some ⟨gk9, 0, none⟩) 1 1) (fun _ _ => by kernel_rfl) hH ?_
   try simp only [pS]
   refine wpAnyH_done (by kernel_rfl) ?_ _
   try simp only [pS]
   clear hH
   go_wp2
   rw [HC.out]
   exact .inr ⟨q1, _, s', rfl, HF.out.box 2 _ _ _ rfl, HO.out, HF.out.low 2 _ _ _ rfl, HF.out.kept⟩
set_option maxRecDepth 100000 in
set_option maxHeartbeats 4000000 in
theorem tellCommands_no (p : Nat) (m : Mg) (n : Int) (h : Hd) (ps : List Pl) (w : World) (hp : Box w p 46 (Mg.cells m)) (hne : ∀ k, At h.r.a k → k ≠ p) (hr : RdP w h.r ps) (hlt : ∀ k, At h.r.a k → k < w.heap.size) (hm : ps.length ≤ 10000000000000) (hg : Rng h.k.up ps) (hg0 : ∀ x ∈ decd ps, 0 ≤ x.1 ∧ x.1 ≤ 4611686018427387904) (hn : 0 ≤ n ∧ n ≤ 4611686018427387) (hc : min (topF h.k.up (decd ps)) (n + 63) < n) : Calls Try.prog 23 #[.pointer (some ⟨p, 0, none⟩), .int .i64 n, .agg (Hd.cells h)] w (fun e w' => (∃ v, e = .returned v) ∧ Box w' p 46 (Mg.cells { m with st := ⟨n, m.st.c⟩, mo := decide (min (topF h.k.up (decd ps)) (n + 63) < topF h.k.up (decd ps)) }) ∧ Kept (Only p) w w') := by
  obtain ⟨C, hC⟩ : ∃ C : Ending → World → Prop, C = (fun e w' => (∃ v, e = .returned v) ∧ Box w' p 46 (Mg.cells { m with st := ⟨n, m.st.c⟩, mo := decide (min (topF h.k.up (decd ps)) (n + 63) < topF h.k.up (decd ps)) }) ∧ Kept (Only p) w w') := ⟨_, rfl⟩
  have HC : Hid (C = (fun e w' => (∃ v, e = .returned v) ∧ Box w' p 46 (Mg.cells { m with st := ⟨n, m.st.c⟩, mo := decide (min (topF h.k.up (decd ps)) (n + 63) < topF h.k.up (decd ps)) }) ∧ Kept (Only p) w w')) := hC
  rw [← hC]
  clear hC
  have HP : Hid (Box w p 46 (Mg.cells m)) := hp
  have HPl : Hid (p < w.heap.size) := hp.lt
  clear hp
  have HTp : Hid (∀ W, Kept (Only p) w W → Calls Try.prog 39 #[.agg (Hd.cells h)] W (fun e w' => e = .returned (.int .i64 (topF h.k.up (decd ps))) ∧ Kept No W w')) := fun W hk => top_any h ps W (hr.kept hk (fun k e f => hne k e f)) (fun k e => Nat.lt_of_lt_of_le (hlt k e) hk.size) hm hg
  have hw1 : IntKind.i64.wrap (n + 64) = n + 64 := by rw [IntKind.wrap_i64]; omega
  have hw2 : IntKind.i64.wrap (n + 64 - 1) = n + 63 := by rw [IntKind.wrap_i64]; omega
  clear hr hlt hm hg hg0 hne
  obtain ⟨T, hT⟩ : ∃ T, T = topF h.k.up (decd ps) := ⟨_, rfl⟩
  rw [← hT] at hc HTp HC
  clear hT
  have HF : Hid (Fr (Only p) w w []) := Fr.start _ _
  go_enter Try.func23, Try.ntmps23
  have hq : decide (n ≤ (min T (n + 63))) = false := by simp; omega
  go_upto_region 0 with fail
  refine WL.start ?_
  refine wp_runW (.pointer (some ⟨w.heap.size, 0, none⟩)) (w.alloc (.cells (Hd.cells h) 49)) (exec_box 49 _ rfl (Hd.cells h) (by kernel_rfl)) (by kernel_rfl) ?_
  try simp only [pS]
  have HP : Hid (Box (w.alloc (.cells (Hd.cells h) 49)) p 46 (Mg.cells m)) := HP.out.no ((Kept.refl No _).alloc _)
  have HF : Hid (Fr (Only p) w _ [(w.heap.size, 49, Hd.cells h)]) := HF.out.alloc _ _
  generalize w.alloc (.cells (Hd.cells h) 49) = wk2 at HF HP ⊢
  generalize w.heap.size = gk1 at HF ⊢
  refine WL.nil ?_
  try simp only [pS]
  go_upto_region 1 with fail
  refine WL.start ?_
  refine tW (.agg (Hd.cells h)) (eL 49 _ rfl ⟨gk1, 0, none⟩ (run_load_part (cs := Hd.cs h) (sub := Hd.cs h) (HF.out.box 0 _ _ _ rfl) (Part.all _) Try.und40 rfl Try.size40)) ?_
  try simp only [pS]
  refine wp_callW 39 #[.agg (Hd.cells h)] (by kernel_rfl) _ (HTp.out _ HF.out.kept) (by kernel_rfl) ?_
  rintro e wk3 ⟨rfl, hk⟩
  have HP : Hid (Box (wk3) p 46 (Mg.cells m)) := HP.out.no hk
  have HF : Hid (Fr (Only p) w (wk3) [(gk1, 49, Hd.cells h)]) := HF.out.no hk
  clear hk
  refine ⟨.int .i64 T, rfl, ?_⟩
  try simp only [pS]
  refine tK (.int .i64 T) ?_
  try simp only [pS]
  refine WL.nil ?_
  try simp only [pS]
  go_upto_region 2 with fail
  refine WL.start ?_
  refine tK (.int .i64 T) ?_
  refine tK (.int .i64 n) ?_
  refine tW (.int .i64 (n + 64)) (eB .add 3 _ _ _ rfl (.int .i64 n) (.int .i64 64) _ (b_addw _ _ _ hw1 _)) ?_
  refine tW (.int .i64 (n + 63)) (eB .sub 3 _ _ _ rfl (.int .i64 (n + 64)) (.int .i64 1) _ (b_subw _ _ _ hw2 _)) ?_
  refine tW (.int .i64 (min T (n + 63))) (exec_minN _ _ 3 3 rfl T (n + 63) (by kernel_rfl) (by kernel_rfl)) ?_
  refine tK (.int .i64 (min T (n + 63))) ?_
  try simp only [pS]
  refine WL.nil ?_
  try simp only [pS]
  go_upto_region 3 with fail
  refine WL.start ?_
  refine tK (.pointer (some ⟨p, 0, none⟩)) ?_
  refine tK (.pointer (some ⟨p, 0, none⟩)) ?_
  refine tK (.int .i64 n) ?_
  refine tK (.int .i64 T) ?_
  refine tK (.int .i64 (min T (n + 63))) ?_
  refine tW (.bool (decide (min T (n + 63) < T))) (eB .gtr 3 _ _ _ rfl (.int .i64 T) (.int .i64 (min T (n + 63))) _ (b_gtr _ _ _)) ?_
  refine tK (.pointer (some ⟨p, 0, none⟩)) ?_
  refine tK (.pointer (some ⟨p, 11, none⟩)) ?_
  refine tK (.pointer (some ⟨p, 11, none⟩)) ?_
  try simp only [pS]
  refine wp_storeW 3 _ _ rfl ⟨p, 11, none⟩ (.int .i64 n) (by kernel_rfl) (by kernel_rfl) (wk3.setRow p (Mg.cells ⟨m.k, m.fr, m.to, m.op, m.rd, m.ky, ⟨n, m.st.c⟩, m.hd, m.bl, m.c, m.bk, m.cm, m.mo⟩)) (run_store_to (cur := Mg.cs m) (vs := [.int .i64 n]) (new := Mg.cs ⟨m.k, m.fr, m.to, m.op, m.rd, m.ky, ⟨n, m.st.c⟩, m.hd, m.bl, m.c, m.bk, m.cm, m.mo⟩) (HP.out) (by kernel_rfl) Try.size3 (Nat.le_of_ble_eq_true (by kernel_rfl)) (by simp [Value.oneCell', Sl.v]) (by kernel_rfl)) (by kernel_rfl) ?_
  try simp only [pS]
  have HP : Hid (Box (wk3.setRow p (Mg.cells ⟨m.k, m.fr, m.to, m.op, m.rd, m.ky, ⟨n, m.st.c⟩, m.hd, m.bl, m.c, m.bk, m.cm, m.mo⟩)) p 46 (Mg.cells ⟨m.k, m.fr, m.to, m.op, m.rd, m.ky, ⟨n, m.st.c⟩, m.hd, m.bl, m.c, m.bk, m.cm, m.mo⟩)) := HP.out.setRow _
  have HF : Hid (Fr (Only p) w (wk3.setRow p (Mg.cells ⟨m.k, m.fr, m.to, m.op, m.rd, m.ky, ⟨n, m.st.c⟩, m.hd, m.bl, m.c, m.bk, m.cm, m.mo⟩)) [(gk1, 49, Hd.cells h)]) := HF.out.via (Kept.setRow _ _ _) (fun k e => ⟨(show k = p from e) ▸ HPl.out, e⟩)
  generalize wk3.setRow p (Mg.cells ⟨m.k, m.fr, m.to, m.op, m.rd, m.ky, ⟨n, m.st.c⟩, m.hd, m.bl, m.c, m.bk, m.cm, m.mo⟩) = wk4 at HF HP ⊢
  refine tK (.pointer (some ⟨p, 0, none⟩)) ?_
  refine tK (.pointer (some ⟨p, 29, none⟩)) ?_
  try simp only [pS]
  refine wp_storeW 4 _ _ rfl ⟨p, 29, none⟩ (.bool (decide (min T (n + 63) < T))) (by kernel_rfl) (by kernel_rfl) (wk4.setRow p (Mg.cells ⟨m.k, m.fr, m.to, m.op, m.rd, m.ky, ⟨n, m.st.c⟩, m.hd, m.bl, m.c, m.bk, m.cm, (decide (min T (n + 63) < T))⟩)) (run_store_to (cur := Mg.cs ⟨m.k, m.fr, m.to, m.op, m.rd, m.ky, ⟨n, m.st.c⟩, m.hd, m.bl, m.c, m.bk, m.cm, m.mo⟩) (vs := [.bool (decide (min T (n + 63) < T))]) (new := Mg.cs ⟨m.k, m.fr, m.to, m.op, m.rd, m.ky, ⟨n, m.st.c⟩, m.hd, m.bl, m.c, m.bk, m.cm, (decide (min T (n + 63) < T))⟩) (HP.out) (by kernel_rfl) Try.size4 (Nat.le_of_ble_eq_true (by kernel_rfl)) (by simp [Value.oneCell', Sl.v]) (by kernel_rfl)) (by kernel_rfl) ?_
  try simp only [pS]
  have HP : Hid (Box (wk4.setRow p (Mg.cells ⟨m.k, m.fr, m.to, m.op, m.rd, m.ky, ⟨n, m.st.c⟩, m.hd, m.bl, m.c, m.bk, m.cm, (decide (min T (n + 63) < T))⟩)) p 46 (Mg.cells ⟨m.k, m.fr, m.to, m.op, m.rd, m.ky, ⟨n, m.st.c⟩, m.hd, m.bl, m.c, m.bk, m.cm, (decide (min T (n + 63) < T))⟩)) := HP.out.setRow _
  have HF : Hid (Fr (Only p) w (wk4.setRow p (Mg.cells ⟨m.k, m.fr, m.to, m.op, m.rd, m.ky, ⟨n, m.st.c⟩, m.hd, m.bl, m.c, m.bk, m.cm, (decide (min T (n + 63) < T))⟩)) [(gk1, 49, Hd.cells h)]) := HF.out.via (Kept.setRow _ _ _) (fun k e => ⟨(show k = p from e) ▸ HPl.out, e⟩)
  generalize wk4.setRow p (Mg.cells ⟨m.k, m.fr, m.to, m.op, m.rd, m.ky, ⟨n, m.st.c⟩, m.hd, m.bl, m.c, m.bk, m.cm, (decide (min T (n + 63) < T))⟩) = wk5 at HF HP ⊢
  refine WL.nil ?_
  try simp only [pS]
  go_upto_region 4 with fail
  refine WL.start ?_
  refine tK (.int .i64 (min T (n + 63))) ?_
  refine tK (.int .i64 n) ?_
  refine tW (.bool false) (eB .geq 3 _ _ _ rfl (.int .i64 (min T (n + 63))) (.int .i64 n) _ (by rw [b_geq, hq]; try rfl)) ?_
  try simp only [pS]
  refine WL.nil ?_
  try simp only [pS]
  go_wp2
  go_end0
  rw [HC.out]
  exact ⟨⟨_, rfl⟩, HP.out, HF.out.kept⟩
set_option maxRecDepth 100000 in
set_option maxHeartbeats 4000000 in
theorem tellCommands_yes (p : Nat) (m : Mg) (n : Int) (h : Hd) (ps : List Pl) (c : Nat) (w : World) (hp : Box w p 46 (Mg.cells m)) (hne : ∀ k, At h.r.a k → k ≠ p) (hr : RdP w h.r ps) (hlt : ∀ k, At h.r.a k → k < w.heap.size) (hm : ps.length ≤ 10000000000000) (hg : Rng h.k.up ps) (hg0 : ∀ x ∈ decd ps, 0 ≤ x.1 ∧ x.1 ≤ 4611686018427387904) (hn : 0 ≤ n ∧ n ≤ 4611686018427387) (hc : (c : Int) = min (topF h.k.up (decd ps)) (n + 63) - n + 1) (hc1 : 1 ≤ c) : Calls Try.prog 23 #[.pointer (some ⟨p, 0, none⟩), .int .i64 n, .agg (Hd.cells h)] w (fun e w' => ∃ g : Nat, (∃ v, e = .returned v) ∧ Box w' p 46 (Mg.cells { m with st := ⟨n, m.st.c⟩, mo := decide (min (topF h.k.up (decd ps)) (n + 63) < topF h.k.up (decd ps)), cm := ⟨some ⟨g, 0, none⟩, c, c⟩ }) ∧ Box w' g 43 (cmL (decF n c (decd ps))).toArray ∧ w.heap.size ≤ g ∧ Kept (Only p) w w') := by
  obtain ⟨C, hC⟩ : ∃ C : Ending → World → Prop, C = (fun e w' => ∃ g : Nat, (∃ v, e = .returned v) ∧ Box w' p 46 (Mg.cells { m with st := ⟨n, m.st.c⟩, mo := decide (min (topF h.k.up (decd ps)) (n + 63) < topF h.k.up (decd ps)), cm := ⟨some ⟨g, 0, none⟩, c, c⟩ }) ∧ Box w' g 43 (cmL (decF n c (decd ps))).toArray ∧ w.heap.size ≤ g ∧ Kept (Only p) w w') := ⟨_, rfl⟩
  have HC : Hid (C = (fun e w' => ∃ g : Nat, (∃ v, e = .returned v) ∧ Box w' p 46 (Mg.cells { m with st := ⟨n, m.st.c⟩, mo := decide (min (topF h.k.up (decd ps)) (n + 63) < topF h.k.up (decd ps)), cm := ⟨some ⟨g, 0, none⟩, c, c⟩ }) ∧ Box w' g 43 (cmL (decF n c (decd ps))).toArray ∧ w.heap.size ≤ g ∧ Kept (Only p) w w')) := hC
  rw [← hC]
  clear hC
  have HP : Hid (Box w p 46 (Mg.cells m)) := hp
  have HPl : Hid (p < w.heap.size) := hp.lt
  clear hp
  have HTp : Hid (∀ W, Kept (Only p) w W → Calls Try.prog 39 #[.agg (Hd.cells h)] W (fun e w' => e = .returned (.int .i64 (topF h.k.up (decd ps))) ∧ Kept No W w')) := fun W hk => top_any h ps W (hr.kept hk (fun k e f => hne k e f)) (fun k e => Nat.lt_of_lt_of_le (hlt k e) hk.size) hm hg
  have HDc : Hid (∀ W, Kept (Only p) w W → Calls Try.prog 40 #[h.r.v, .int .i64 n, .int .i64 (c : Int)] W (DcOut W n c ps)) := fun W hk => decisions_any h.r ps n c W (hr.kept hk (fun k e f => hne k e f)) (fun k e => Nat.lt_of_lt_of_le (hlt k e) hk.size) hm (by omega) (by omega) hg0
  have hw1 : IntKind.i64.wrap (n + 64) = n + 64 := by rw [IntKind.wrap_i64]; omega
  have hw2 : IntKind.i64.wrap (n + 64 - 1) = n + 63 := by rw [IntKind.wrap_i64]; omega
  clear hr hlt hm hg hg0 hne
  obtain ⟨T, hT⟩ : ∃ T, T = topF h.k.up (decd ps) := ⟨_, rfl⟩
  rw [← hT] at hc HTp HC
  clear hT
  have hw3 : IntKind.i64.wrap (min T (n + 63) - n) = min T (n + 63) - n := by rw [IntKind.wrap_i64]; omega
  have hw4 : IntKind.i64.wrap (min T (n + 63) - n + 1) = (c : Int) := by rw [IntKind.wrap_i64]; omega
  have HF : Hid (Fr (Only p) w w []) := Fr.start _ _
  go_enter Try.func23, Try.ntmps23
  have hq : decide (n ≤ (min T (n + 63))) = true := by simp; omega
  go_upto_region 0 with fail
  refine WL.start ?_
  refine wp_runW (.pointer (some ⟨w.heap.size, 0, none⟩)) (w.alloc (.cells (Hd.cells h) 49)) (exec_box 49 _ rfl (Hd.cells h) (by kernel_rfl)) (by kernel_rfl) ?_
  try simp only [pS]
  have HP : Hid (Box (w.alloc (.cells (Hd.cells h) 49)) p 46 (Mg.cells m)) := HP.out.no ((Kept.refl No _).alloc _)
  have HF : Hid (Fr (Only p) w _ [(w.heap.size, 49, Hd.cells h)]) := HF.out.alloc _ _
  generalize w.alloc (.cells (Hd.cells h) 49) = wk2 at HF HP ⊢
  generalize w.heap.size = gk1 at HF ⊢
  refine WL.nil ?_
  try simp only [pS]
  go_upto_region 1 with fail
  refine WL.start ?_
  refine tW (.agg (Hd.cells h)) (eL 49 _ rfl ⟨gk1, 0, none⟩ (run_load_part (cs := Hd.cs h) (sub := Hd.cs h) (HF.out.box 0 _ _ _ rfl) (Part.all _) Try.und40 rfl Try.size40)) ?_
  try simp only [pS]
  refine wp_callW 39 #[.agg (Hd.cells h)] (by kernel_rfl) _ (HTp.out _ HF.out.kept) (by kernel_rfl) ?_
  rintro e wk3 ⟨rfl, hk⟩
  have HP : Hid (Box (wk3) p 46 (Mg.cells m)) := HP.out.no hk
  have HF : Hid (Fr (Only p) w (wk3) [(gk1, 49, Hd.cells h)]) := HF.out.no hk
  clear hk
  refine ⟨.int .i64 T, rfl, ?_⟩
  try simp only [pS]
  refine tK (.int .i64 T) ?_
  try simp only [pS]
  refine WL.nil ?_
  try simp only [pS]
  go_upto_region 2 with fail
  refine WL.start ?_
  refine tK (.int .i64 T) ?_
  refine tK (.int .i64 n) ?_
  refine tW (.int .i64 (n + 64)) (eB .add 3 _ _ _ rfl (.int .i64 n) (.int .i64 64) _ (b_addw _ _ _ hw1 _)) ?_
  refine tW (.int .i64 (n + 63)) (eB .sub 3 _ _ _ rfl (.int .i64 (n + 64)) (.int .i64 1) _ (b_subw _ _ _ hw2 _)) ?_
  refine tW (.int .i64 (min T (n + 63))) (exec_minN _ _ 3 3 rfl T (n + 63) (by kernel_rfl) (by kernel_rfl)) ?_
  refine tK (.int .i64 (min T (n + 63))) ?_
  try simp only [pS]
  refine WL.nil ?_
  try simp only [pS]
  go_upto_region 3 with fail
  refine WL.start ?_
  refine tK (.pointer (some ⟨p, 0, none⟩)) ?_
  refine tK (.pointer (some ⟨p, 0, none⟩)) ?_
  refine tK (.int .i64 n) ?_
  refine tK (.int .i64 T) ?_
  refine tK (.int .i64 (min T (n + 63))) ?_
  refine tW (.bool (decide (min T (n + 63) < T))) (eB .gtr 3 _ _ _ rfl (.int .i64 T) (.int .i64 (min T (n + 63))) _ (b_gtr _ _ _)) ?_
  refine tK (.pointer (some ⟨p, 0, none⟩)) ?_
  refine tK (.pointer (some ⟨p, 11, none⟩)) ?_
  refine tK (.pointer (some ⟨p, 11, none⟩)) ?_
  try simp only [pS]
  refine wp_storeW 3 _ _ rfl ⟨p, 11, none⟩ (.int .i64 n) (by kernel_rfl) (by kernel_rfl) (wk3.setRow p (Mg.cells ⟨m.k, m.fr, m.to, m.op, m.rd, m.ky, ⟨n, m.st.c⟩, m.hd, m.bl, m.c, m.bk, m.cm, m.mo⟩)) (run_store_to (cur := Mg.cs m) (vs := [.int .i64 n]) (new := Mg.cs ⟨m.k, m.fr, m.to, m.op, m.rd, m.ky, ⟨n, m.st.c⟩, m.hd, m.bl, m.c, m.bk, m.cm, m.mo⟩) (HP.out) (by kernel_rfl) Try.size3 (Nat.le_of_ble_eq_true (by kernel_rfl)) (by simp [Value.oneCell', Sl.v]) (by kernel_rfl)) (by kernel_rfl) ?_
  try simp only [pS]
  have HP : Hid (Box (wk3.setRow p (Mg.cells ⟨m.k, m.fr, m.to, m.op, m.rd, m.ky, ⟨n, m.st.c⟩, m.hd, m.bl, m.c, m.bk, m.cm, m.mo⟩)) p 46 (Mg.cells ⟨m.k, m.fr, m.to, m.op, m.rd, m.ky, ⟨n, m.st.c⟩, m.hd, m.bl, m.c, m.bk, m.cm, m.mo⟩)) := HP.out.setRow _
  have HF : Hid (Fr (Only p) w (wk3.setRow p (Mg.cells ⟨m.k, m.fr, m.to, m.op, m.rd, m.ky, ⟨n, m.st.c⟩, m.hd, m.bl, m.c, m.bk, m.cm, m.mo⟩)) [(gk1, 49, Hd.cells h)]) := HF.out.via (Kept.setRow _ _ _) (fun k e => ⟨(show k = p from e) ▸ HPl.out, e⟩)
  generalize wk3.setRow p (Mg.cells ⟨m.k, m.fr, m.to, m.op, m.rd, m.ky, ⟨n, m.st.c⟩, m.hd, m.bl, m.c, m.bk, m.cm, m.mo⟩) = wk4 at HF HP ⊢
  refine tK (.pointer (some ⟨p, 0, none⟩)) ?_
  refine tK (.pointer (some ⟨p, 29, none⟩)) ?_
  try simp only [pS]
  refine wp_storeW 4 _ _ rfl ⟨p, 29, none⟩ (.bool (decide (min T (n + 63) < T))) (by kernel_rfl) (by kernel_rfl) (wk4.setRow p (Mg.cells ⟨m.k, m.fr, m.to, m.op, m.rd, m.ky, ⟨n, m.st.c⟩, m.hd, m.bl, m.c, m.bk, m.cm, (decide (min T (n + 63) < T))⟩)) (run_store_to (cur := Mg.cs ⟨m.k, m.fr, m.to, m.op, m.rd, m.ky, ⟨n, m.st.c⟩, m.hd, m.bl, m.c, m.bk, m.cm, m.mo⟩) (vs := [.bool (decide (min T (n + 63) < T))]) (new := Mg.cs ⟨m.k, m.fr, m.to, m.op, m.rd, m.ky, ⟨n, m.st.c⟩, m.hd, m.bl, m.c, m.bk, m.cm, (decide (min T (n + 63) < T))⟩) (HP.out) (by kernel_rfl) Try.size4 (Nat.le_of_ble_eq_true (by kernel_rfl)) (by simp [Value.oneCell', Sl.v]) (by kernel_rfl)) (by kernel_rfl) ?_
  try simp only [pS]
  have HP : Hid (Box (wk4.setRow p (Mg.cells ⟨m.k, m.fr, m.to, m.op, m.rd, m.ky, ⟨n, m.st.c⟩, m.hd, m.bl, m.c, m.bk, m.cm, (decide (min T (n + 63) < T))⟩)) p 46 (Mg.cells ⟨m.k, m.fr, m.to, m.op, m.rd, m.ky, ⟨n, m.st.c⟩, m.hd, m.bl, m.c, m.bk, m.cm, (decide (min T (n + 63) < T))⟩)) := HP.out.setRow _
  have HF : Hid (Fr (Only p) w (wk4.setRow p (Mg.cells ⟨m.k, m.fr, m.to, m.op, m.rd, m.ky, ⟨n, m.st.c⟩, m.hd, m.bl, m.c, m.bk, m.cm, (decide (min T (n + 63) < T))⟩)) [(gk1, 49, Hd.cells h)]) := HF.out.via (Kept.setRow _ _ _) (fun k e => ⟨(show k = p from e) ▸ HPl.out, e⟩)
  generalize wk4.setRow p (Mg.cells ⟨m.k, m.fr, m.to, m.op, m.rd, m.ky, ⟨n, m.st.c⟩, m.hd, m.bl, m.c, m.bk, m.cm, (decide (min T (n + 63) < T))⟩) = wk5 at HF HP ⊢
  refine WL.nil ?_
  try simp only [pS]
  go_upto_region 4 with fail
  refine WL.start ?_
  refine tK (.int .i64 (min T (n + 63))) ?_
  refine tK (.int .i64 n) ?_
  refine tW (.bool true) (eB .geq 3 _ _ _ rfl (.int .i64 (min T (n + 63))) (.int .i64 n) _ (by rw [b_geq, hq]; try rfl)) ?_
  try simp only [pS]
  refine WL.nil ?_
  try simp only [pS]
  go_upto_region 5 with fail
  refine WL.start ?_
  refine tK (.pointer (some ⟨p, 0, none⟩)) ?_
  refine tK (.pointer (some ⟨gk1, 6, none⟩)) ?_
  refine tW (h.r.v) (eL 47 _ rfl ⟨gk1, 6, none⟩ (load_one ((HF.out.box 0 _ _ _ rfl).cell 6 |>.trans (by kernel_rfl)) Try.und38 rfl)) ?_
  refine tK (.int .i64 n) ?_
  refine tK (.int .i64 (min T (n + 63))) ?_
  refine tK (.int .i64 n) ?_
  refine tW (.int .i64 (min T (n + 63) - n)) (eB .sub 3 _ _ _ rfl (.int .i64 (min T (n + 63))) (.int .i64 n) _ (b_subw _ _ _ hw3 _)) ?_
  refine tW (.int .i64 (c : Int)) (eB .add 3 _ _ _ rfl (.int .i64 (min T (n + 63) - n)) (.int .i64 1) _ (b_addw _ _ _ hw4 _)) ?_
  try simp only [pS]
  have HFs : Hid (w.heap.size ≤ wk5.heap.size) := HF.out.kept.size
  refine wp_callW 40 #[h.r.v, .int .i64 n, .int .i64 (c : Int)] (by kernel_rfl) _ (HDc.out _ HF.out.kept) (by kernel_rfl) ?_
  rintro e wk6 ⟨g, rfl, hbg, hgl, hk⟩
  have HP : Hid (Box (wk6) p 46 (Mg.cells ⟨m.k, m.fr, m.to, m.op, m.rd, m.ky, ⟨n, m.st.c⟩, m.hd, m.bl, m.c, m.bk, m.cm, (decide (min T (n + 63) < T))⟩)) := HP.out.no hk
  have HF : Hid (Fr (Only p) w (wk6) [(gk1, 49, Hd.cells h)]) := HF.out.no hk
  have HG : Hid (Box wk6 g 43 (cmL (decF n c (decd ps))).toArray) := hbg
  have HGl : Hid (w.heap.size ≤ g) := Nat.le_trans HFs.out hgl
  clear hbg hgl
  clear hk
  refine ⟨.slice (some ⟨g, 0, none⟩) c c, rfl, ?_⟩
  try simp only [pS]
  refine tK (.pointer (some ⟨p, 0, none⟩)) ?_
  refine tK (.pointer (some ⟨p, 28, none⟩)) ?_
  try simp only [pS]
  refine wp_storeW 44 _ _ rfl ⟨p, 28, none⟩ (.slice (some ⟨g, 0, none⟩) c c) (by kernel_rfl) (by kernel_rfl) (wk6.setRow p (Mg.cells ⟨m.k, m.fr, m.to, m.op, m.rd, m.ky, ⟨n, m.st.c⟩, m.hd, m.bl, m.c, m.bk, ⟨(some ⟨g, 0, none⟩), c, c⟩, (decide (min T (n + 63) < T))⟩)) (run_store_to (cur := Mg.cs ⟨m.k, m.fr, m.to, m.op, m.rd, m.ky, ⟨n, m.st.c⟩, m.hd, m.bl, m.c, m.bk, m.cm, (decide (min T (n + 63) < T))⟩) (vs := [.slice (some ⟨g, 0, none⟩) c c]) (new := Mg.cs ⟨m.k, m.fr, m.to, m.op, m.rd, m.ky, ⟨n, m.st.c⟩, m.hd, m.bl, m.c, m.bk, ⟨(some ⟨g, 0, none⟩), c, c⟩, (decide (min T (n + 63) < T))⟩) (HP.out) (by kernel_rfl) Try.size48 (Nat.le_of_ble_eq_true (by kernel_rfl)) (by simp [Value.oneCell', Sl.v]) (by kernel_rfl)) (by kernel_rfl) ?_
  try simp only [pS]
  have HP : Hid (Box (wk6.setRow p (Mg.cells ⟨m.k, m.fr, m.to, m.op, m.rd, m.ky, ⟨n, m.st.c⟩, m.hd, m.bl, m.c, m.bk, ⟨(some ⟨g, 0, none⟩), c, c⟩, (decide (min T (n + 63) < T))⟩)) p 46 (Mg.cells ⟨m.k, m.fr, m.to, m.op, m.rd, m.ky, ⟨n, m.st.c⟩, m.hd, m.bl, m.c, m.bk, ⟨(some ⟨g, 0, none⟩), c, c⟩, (decide (min T (n + 63) < T))⟩)) := HP.out.setRow _
  have HG : Hid (Box (wk6.setRow p (Mg.cells ⟨m.k, m.fr, m.to, m.op, m.rd, m.ky, ⟨n, m.st.c⟩, m.hd, m.bl, m.c, m.bk, ⟨(some ⟨g, 0, none⟩), c, c⟩, (decide (min T (n + 63) < T))⟩)) g 43 (cmL (decF n c (decd ps))).toArray) := HG.out.rowNe (fun e => by have h1 := HGl.out; have h2 := HPl.out; omega) _
  have HF : Hid (Fr (Only p) w (wk6.setRow p (Mg.cells ⟨m.k, m.fr, m.to, m.op, m.rd, m.ky, ⟨n, m.st.c⟩, m.hd, m.bl, m.c, m.bk, ⟨(some ⟨g, 0, none⟩), c, c⟩, (decide (min T (n + 63) < T))⟩)) [(gk1, 49, Hd.cells h)]) := HF.out.via (Kept.setRow _ _ _) (fun k e => ⟨(show k = p from e) ▸ HPl.out, e⟩)
  generalize wk6.setRow p (Mg.cells ⟨m.k, m.fr, m.to, m.op, m.rd, m.ky, ⟨n, m.st.c⟩, m.hd, m.bl, m.c, m.bk, ⟨(some ⟨g, 0, none⟩), c, c⟩, (decide (min T (n + 63) < T))⟩) = wk7 at HF HP HG ⊢
  refine WL.nil ?_
  try simp only [pS]
  go_end0
  rw [HC.out]
  exact ⟨g, ⟨_, rfl⟩, HP.out, HG.out, HGl.out, HF.out.kept⟩

end Go.Proofs.Ytcgnbpaaalmkoab
