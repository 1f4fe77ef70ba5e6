import Derived.Test.YtcgnbpaaalmkoabX
namespace Go.Proofs.Ytcgnbpaaalmkoab
open Go.RowKit
set_option linter.unusedVariables false
set_option linter.unusedSimpArgs false
@[reducible] def oqY0 : Oper := { dst := some 17, op := Op.fieldAddr 46 (Operand.tmp 2) 10, type := 0, pos := "mend.go:64", after := #[], guard := none }
@[reducible] def oqY1 : Oper := { dst := some 18, op := Op.fieldAddr 30 (Operand.tmp 17) 0, type := 0, pos := "mend.go:64", after := #[{ on := 0, ground := Ground.data }], guard := none }
@[reducible] def oqY2 : Oper := { dst := some 19, op := Op.load 3 (Operand.tmp 18), type := 3, pos := "mend.go:64", after := #[{ on := 1, ground := Ground.data }], guard := none }
@[reducible] def oqY3 : Oper := { dst := some 20, op := Op.fieldAddr 46 (Operand.tmp 2) 6, type := 0, pos := "mend.go:64", after := #[{ on := 6, ground := Ground.gcOnly Departure.lateStores }], guard := none }
@[reducible] def oqY4 : Oper := { dst := some 21, op := Op.fieldAddr 23 (Operand.tmp 20) 0, type := 0, pos := "mend.go:64", after := #[{ on := 3, ground := Ground.data }, { on := 6, ground := Ground.gcOnly Departure.lateStores }], guard := none }
@[reducible] def oqY5 : Oper := { dst := some 22, op := Op.load 3 (Operand.tmp 21), type := 3, pos := "mend.go:64", after := #[{ on := 4, ground := Ground.data }, { on := 6, ground := Ground.gcOnly Departure.lateStores }], guard := none }
@[reducible] def oqY6 : Oper := { dst := some 7, op := Op.assign (Operand.tmp 19), type := 3, pos := "mend.go:64", after := #[{ on := 2, ground := Ground.data }, { on := 0, ground := Ground.phase }, { on := 1, ground := Ground.phase }, { on := 2, ground := Ground.phase }, { on := 3, ground := Ground.textOnly Departure.lateStores }, { on := 4, ground := Ground.textOnly Departure.lateStores }, { on := 5, ground := Ground.textOnly Departure.lateStores }], guard := none }
@[reducible] def oqY7 : Oper := { dst := some 8, op := Op.assign (Operand.tmp 22), type := 3, pos := "mend.go:64", after := #[{ on := 5, ground := Ground.data }, { on := 6, ground := Ground.chain }, { on := 0, ground := Ground.phase }, { on := 1, ground := Ground.phase }, { on := 2, ground := Ground.phase }, { on := 3, ground := Ground.phase }, { on := 4, ground := Ground.phase }, { on := 5, ground := Ground.phase }, { on := 6, ground := Ground.phase }], guard := none }
@[reducible] def oqY8 : Oper := { dst := some 53, op := Op.load 46 (Operand.tmp 2), type := 46, pos := "mend.go:72", after := #[], guard := none }
@[reducible] def oqY9 : Oper := { dst := some 54, op := Op.load 49 (Operand.tmp 3), type := 49, pos := "mend.go:72", after := #[], guard := none }
@[reducible] def oqY10 : Oper := { dst := some 56, op := Op.load 46 (Operand.tmp 9), type := 46, pos := "mend.go:72", after := #[{ on := 5, ground := Ground.gcOnly Departure.lateStores }], guard := none }
@[reducible] def oqY11 : Oper := { dst := some 57, op := Op.move (Operand.tmp 10), type := 4, pos := "mend.go:72", after := #[{ on := 6, ground := Ground.gcOnly Departure.lateStores }], guard := none }
@[reducible] def oqY12 : Oper := { dst := some 55, op := Op.call { callee := Callee.value (Operand.func 31), args := #[Operand.tmp 53, Operand.tmp 54], argTypes := #[46, 49] }, type := 56, pos := "mend.go:72", after := #[{ on := 0, ground := Ground.data }, { on := 1, ground := Ground.data }], guard := none }
@[reducible] def oqY13 : Oper := { dst := some 4, op := Op.assign (Operand.tmp 55), type := 56, pos := "mend.go:72", after := #[{ on := 2, ground := Ground.data }, { on := 2, ground := Ground.chain }, { on := 0, ground := Ground.phase }, { on := 1, ground := Ground.phase }, { on := 2, ground := Ground.phase }, { on := 3, ground := Ground.textOnly Departure.lateStores }, { on := 4, ground := Ground.textOnly Departure.lateStores }], guard := none }
@[reducible] def oqY14 : Oper := { dst := none, op := Op.store 46 (Operand.tmp 5) (Operand.tmp 56), type := 0, pos := "mend.go:72", after := #[{ on := 3, ground := Ground.data }, { on := 5, ground := Ground.chain }, { on := 0, ground := Ground.phase }, { on := 1, ground := Ground.phase }, { on := 2, ground := Ground.phase }, { on := 3, ground := Ground.phase }, { on := 4, ground := Ground.textOnly Departure.lateStores }, { on := 5, ground := Ground.phase }], guard := none }
@[reducible] def oqY15 : Oper := { dst := some 6, op := Op.assign (Operand.tmp 57), type := 4, pos := "mend.go:72", after := #[{ on := 4, ground := Ground.data }, { on := 6, ground := Ground.chain }, { on := 0, ground := Ground.phase }, { on := 1, ground := Ground.phase }, { on := 2, ground := Ground.phase }, { on := 3, ground := Ground.phase }, { on := 4, ground := Ground.phase }, { on := 5, ground := Ground.phase }, { on := 6, ground := Ground.phase }], guard := none }

set_option maxRecDepth 100000 in
set_option maxHeartbeats 4000000 in
theorem have_bucket (a : Mg) (h : Hd) (ps : List Pl) (es : List En) (ls : List La) (w : World) (hk21 : (a.k == 21) = true) (hk1 : (a.ky.k == 1) = false) (hk2 : (a.ky.k == 2) = true) (hab : askB a.st.n = true) (hup : decide (a.st.n ≤ h.k.up) = true) (he : RdE w h.k.e es) (hl : RdL w h.k.l ls) (h1 : h.k.e.l * 40 ≤ 140737488355328) (h2 : h.k.l.l * 56 ≤ 140737488355328) (hr : RdP w h.r ps) (hlt : ∀ k, At h.r.a k → k < w.heap.size) (hltE : ∀ k, At h.k.e.a k → k < w.heap.size) (hltL : ∀ k, At h.k.l.a k → k < w.heap.size) (hm : ps.length ≤ 10000000000000) (hg : Rng h.k.up ps) : Calls Try.prog 7 #[.agg (Mg.cells a), .agg (Hd.cells h)] w (fun e w' => ∃ se sl : Sl, e = .returned (.agg (Mg.cells { haveM a with bk := ⟨h.k.up, se, sl⟩, mo := decide (h.k.up < topF h.k.up (decd ps)) })) ∧ OwE w' w.heap.size se es ∧ OwL w' w.heap.size sl ls ∧ Kept No w w') := by
  obtain ⟨C, hC⟩ : ∃ C : Ending → World → Prop, C = (fun e w' => ∃ se sl : Sl, e = .returned (.agg (Mg.cells { haveM a with bk := ⟨h.k.up, se, sl⟩, mo := decide (h.k.up < topF h.k.up (decd ps)) })) ∧ OwE w' w.heap.size se es ∧ OwL w' w.heap.size sl ls ∧ Kept No w w') := ⟨_, rfl⟩
  have HC : Hid (C = (fun e w' => ∃ se sl : Sl, e = .returned (.agg (Mg.cells { haveM a with bk := ⟨h.k.up, se, sl⟩, mo := decide (h.k.up < topF h.k.up (decd ps)) })) ∧ OwE w' w.heap.size se es ∧ OwL w' w.heap.size sl ls ∧ Kept No w w')) := hC
  rw [← hC]
  clear hC
  have HK : Hid (∀ W p m, Kept No w W → w.heap.size ≤ p → Box W p 46 (Mg.cells m) → Calls Try.prog 22 #[.pointer (some ⟨p, 0, none⟩), .agg (Hd.cells h)] W (fun e w' => ∃ se sl : Sl, (∃ v, e = .returned v) ∧ Box w' p 46 (Mg.cells { m with bk := ⟨h.k.up, se, sl⟩, mo := decide (h.k.up < topF h.k.up (decd ps)) }) ∧ OwE w' W.heap.size se es ∧ OwL w' W.heap.size sl ls ∧ Kept (Only p) W w')) := fun W p m hk hp hb => tellBucket_any p m h ps es ls W hb (fun k e f => by have := hlt k e; omega) (fun k e f => by have := hltE k e; omega) (fun k e f => by have := hltL k e; omega) (he.no hk) (hl.no hk) h1 h2 (hr.no hk) (fun k e => Nat.lt_of_lt_of_le (hlt k e) hk.size) hm hg
  clear he hl h1 h2 hr hlt hltE hltL hm hg
  have HF : Hid (Fr No w w []) := Fr.start _ _
  go_enter Try.func7, Try.ntmps7
  go_upto_region 0 with fail
  refine WL.start ?_
  refine wp_runW (.pointer (some ⟨w.heap.size, 0, none⟩)) (w.alloc (.cells (Mg.cells a) 46)) (exec_box 46 _ rfl (Mg.cells a) (by kernel_rfl)) (by kernel_rfl) ?_
  try simp only [pS]
  have HF : Hid (Fr No w _ [(w.heap.size, 46, Mg.cells a)]) := HF.out.alloc _ _
  generalize w.alloc (.cells (Mg.cells a) 46) = wk2 at HF ⊢
  generalize w.heap.size = gk1 at HF ⊢
  refine wp_runW (.pointer (some ⟨wk2.heap.size, 0, none⟩)) (wk2.alloc (.cells (Hd.cells h) 49)) (exec_box 49 _ rfl (Hd.cells h) (by kernel_rfl)) (by kernel_rfl) ?_
  try simp only [pS]
  have HF : Hid (Fr No w _ [(gk1, 46, Mg.cells a), (wk2.heap.size, 49, Hd.cells h)]) := HF.out.alloc _ _
  generalize wk2.alloc (.cells (Hd.cells h) 49) = wk4 at HF ⊢
  generalize wk2.heap.size = gk3 at HF ⊢
  refine wp_runW (.pointer (some ⟨wk4.heap.size, 0, none⟩)) (wk4.alloc (.cells (Mg.cells mgZ) 46)) (exec_alloc 46 rfl (Mg.cells mgZ) zero50) (by kernel_rfl) ?_
  try simp only [pS]
  have HF : Hid (Fr No w _ [(gk1, 46, Mg.cells a), (gk3, 49, Hd.cells h), (wk4.heap.size, 46, Mg.cells mgZ)]) := HF.out.alloc _ _
  generalize wk4.alloc (.cells (Mg.cells mgZ) 46) = wk6 at HF ⊢
  generalize wk4.heap.size = gk5 at HF ⊢
  refine WL.nil ?_
  try simp only [pS]
  go_upto_region 1 with fail
  refine WL.start ?_
  refine tK (.pointer (some ⟨gk1, 0, none⟩)) ?_
  refine tW (.int .i64 a.k) (eL 3 _ rfl ⟨gk1, 0, none⟩ (load_one ((HF.out.box 0 _ _ _ rfl).cell 0 |>.trans (by kernel_rfl)) Try.und3 rfl)) ?_
  refine tW (.bool false) (eB .neq 3 _ _ _ rfl (.int .i64 a.k) (.int .i64 21) _ (by rw [b_neq, hk21]; try rfl)) ?_
  try simp only [pS]
  refine WL.nil ?_
  try simp only [pS]
  go_upto_region 3 with fail
  refine WL.start ?_
  refine tK (.pointer (some ⟨gk1, 3, none⟩)) ?_
  refine tW (.agg (Ad.cells a.to)) (eL 37 _ rfl ⟨gk1, 3, none⟩ (run_load_part (cs := Mg.cs a) (sub := Ad.cs a.to) (HF.out.box 0 _ _ _ rfl) (part_of (by kernel_rfl)) Try.und43 rfl Try.size43)) ?_
  refine tK (.pointer (some ⟨gk1, 1, none⟩)) ?_
  refine tW (.agg (Ad.cells a.fr)) (eL 37 _ rfl ⟨gk1, 1, none⟩ (run_load_part (cs := Mg.cs a) (sub := Ad.cs a.fr) (HF.out.box 0 _ _ _ rfl) (part_of (by kernel_rfl)) Try.und43 rfl Try.size43)) ?_
  refine tK (.pointer (some ⟨gk1, 7, none⟩)) ?_
  refine tW (.agg (Ky.cells a.ky)) (eL 39 _ rfl ⟨gk1, 7, none⟩ (run_load_part (cs := Mg.cs a) (sub := Ky.cs a.ky) (HF.out.box 0 _ _ _ rfl) (part_of (by kernel_rfl)) Try.und23 rfl Try.size23)) ?_
  refine tW (.agg (Mg.cells ⟨22, a.to, a.fr, 0, 0, a.ky, spZ, spZ, slZ, cZ, bvZ, slZ, false⟩)) (exec_build 46 _ rfl (Mg.cells ⟨22, a.to, a.fr, 0, 0, a.ky, spZ, spZ, slZ, cZ, bvZ, slZ, false⟩) (by kernel_rfl)) ?_
  try simp only [pS]
  refine wp_runW (.pointer (some ⟨wk6.heap.size, 0, none⟩)) (wk6.alloc (.cells (Mg.cells mgZ) 46)) (exec_alloc 46 rfl (Mg.cells mgZ) zero50) (by kernel_rfl) ?_
  try simp only [pS]
  have HF : Hid (Fr No w _ [(gk1, 46, Mg.cells a), (gk3, 49, Hd.cells h), (gk5, 46, Mg.cells mgZ), (wk6.heap.size, 46, Mg.cells mgZ)]) := HF.out.alloc _ _
  generalize wk6.alloc (.cells (Mg.cells mgZ) 46) = wk8 at HF ⊢
  generalize wk6.heap.size = gk7 at HF ⊢
  refine wp_storeW 46 _ _ rfl ⟨gk7, 0, none⟩ (.agg (Mg.cells ⟨22, a.to, a.fr, 0, 0, a.ky, spZ, spZ, slZ, cZ, bvZ, slZ, false⟩)) (by kernel_rfl) (by kernel_rfl) (wk8.setRow gk7 (Mg.cells ⟨22, a.to, a.fr, 0, 0, a.ky, spZ, spZ, slZ, cZ, bvZ, slZ, false⟩)) (run_store_to (cur := Mg.cs mgZ) (vs := Mg.cs ⟨22, a.to, a.fr, 0, 0, a.ky, spZ, spZ, slZ, cZ, bvZ, slZ, false⟩) (new := Mg.cs ⟨22, a.to, a.fr, 0, 0, a.ky, spZ, spZ, slZ, cZ, bvZ, slZ, false⟩) (HF.out.box 3 _ _ _ rfl) (by kernel_rfl) Try.size50 (Nat.le_of_ble_eq_true (by kernel_rfl)) (Mg.oneL _) (by kernel_rfl)) (by kernel_rfl) ?_
  try simp only [pS]
  have HF : Hid (Fr No w _ [(gk1, 46, Mg.cells a), (gk3, 49, Hd.cells h), (gk5, 46, Mg.cells mgZ), (gk7, 46, Mg.cells ⟨22, a.to, a.fr, 0, 0, a.ky, spZ, spZ, slZ, cZ, bvZ, slZ, false⟩)]) := HF.out.set 3 rfl _
  generalize wk8.setRow gk7 (Mg.cells ⟨22, a.to, a.fr, 0, 0, a.ky, spZ, spZ, slZ, cZ, bvZ, slZ, false⟩) = wk9 at HF ⊢
  refine WL.nil ?_
  try simp only [pS]
  go_upto_region 4 with fail
  refine WL.start ?_
  refine tK (.pointer (some ⟨gk1, 11, none⟩)) ?_
  refine tK (.pointer (some ⟨gk1, 11, none⟩)) ?_
  refine tW (.int .i64 a.st.n) (eL 3 _ rfl ⟨gk1, 11, none⟩ (load_one ((HF.out.box 0 _ _ _ rfl).cell 11 |>.trans (by kernel_rfl)) Try.und3 rfl)) ?_
  refine tK (.int .i64 a.st.n) ?_
  try simp only [pS]
  refine WL.nil ?_
  try simp only [pS]
  go_upto_region 6 with fail
  refine WL.start ?_
  refine tK (.pointer (some ⟨gk1, 7, none⟩)) ?_
  refine tK (.pointer (some ⟨gk1, 7, none⟩)) ?_
  refine tW (.int .i64 a.ky.k) (eL 3 _ rfl ⟨gk1, 7, none⟩ (load_one ((HF.out.box 0 _ _ _ rfl).cell 7 |>.trans (by kernel_rfl)) Try.und3 rfl)) ?_
  refine tW (.bool false) (eB .eql 3 _ _ _ rfl (.int .i64 a.ky.k) (.int .i64 1) _ (by rw [b_eql, hk1]; try rfl)) ?_
  refine tK (.bool false) ?_
  try simp only [pS]
  refine WL.nil ?_
  try simp only [pS]
  go_upto_region 8 with fail
  refine WL.start ?_
  refine tK (.pointer (some ⟨gk1, 7, none⟩)) ?_
  refine tK (.pointer (some ⟨gk1, 7, none⟩)) ?_
  refine tW (.int .i64 a.ky.k) (eL 3 _ rfl ⟨gk1, 7, none⟩ (load_one ((HF.out.box 0 _ _ _ rfl).cell 7 |>.trans (by kernel_rfl)) Try.und3 rfl)) ?_
  refine tW (.bool false) (eB .neq 3 _ _ _ rfl (.int .i64 a.ky.k) (.int .i64 2) _ (by rw [b_neq, hk2]; try rfl)) ?_
  refine tK (.bool false) ?_
  refine tK (.int .i64 a.st.n) ?_
  try simp only [pS]
  refine wp_callW 21 #[.int .i64 a.st.n] (by kernel_rfl) _ (askable_any _ _) (by kernel_rfl) ?_
  rintro e wq ⟨rfl, hwq⟩
  rw [hwq]
  clear hwq wq
  refine ⟨.bool true, by rw [hab], ?_⟩
  try simp only [pS]
  refine tK (.bool false) ?_
  refine tK (.bool false) ?_
  refine tK (.bool false) ?_
  try simp only [pS]
  refine WL.nil ?_
  try simp only [pS]
  go_upto_region 10 with fail
  refine WL.start ?_
  refine tK (.pointer (some ⟨gk3, 3, none⟩)) ?_
  refine tK (.pointer (some ⟨gk3, 3, none⟩)) ?_
  refine tW (.int .i64 h.k.up) (eL 3 _ rfl ⟨gk3, 3, none⟩ (load_one ((HF.out.box 1 _ _ _ rfl).cell 3 |>.trans (by kernel_rfl)) Try.und3 rfl)) ?_
  refine tK (.int .i64 a.st.n) ?_
  refine tW (.bool true) (eB .geq 3 _ _ _ rfl (.int .i64 h.k.up) (.int .i64 a.st.n) _ (by rw [b_geq, hup]; try rfl)) ?_
  refine tK (.bool true) ?_
  try simp only [pS]
  refine WL.nil ?_
  try simp only [pS]
  go_upto_region 11 with fail
  refine WL.start ?_
  refine tW (.agg (Hd.cells h)) (eL 49 _ rfl ⟨gk3, 0, none⟩ (run_load_part (cs := Hd.cs h) (sub := Hd.cs h) (HF.out.box 1 _ _ _ rfl) (Part.all _) Try.und40 rfl Try.size40)) ?_
  try simp only [pS]
  refine wp_callW 22 #[.pointer (some ⟨gk7, 0, none⟩), .agg (Hd.cells h)] (by kernel_rfl) _ (HK.out _ gk7 ⟨22, a.to, a.fr, 0, 0, a.ky, spZ, spZ, slZ, cZ, bvZ, slZ, false⟩ HF.out.kept (HF.out.low 3 _ _ _ rfl) (HF.out.box 3 _ _ _ rfl)) (by kernel_rfl) ?_
  rintro e wk10 ⟨se, sl, ⟨v, rfl⟩, hbx, ho, hq, hk⟩
  have HO : Hid (OwE wk10 w.heap.size se es) := ho.lower HF.out.kept.size
  have HQ : Hid (OwL wk10 w.heap.size sl ls) := hq.lower HF.out.kept.size
  have HF : Hid (Fr No w (wk10) [(gk1, 46, Mg.cells a), (gk3, 49, Hd.cells h), (gk5, 46, Mg.cells mgZ), (gk7, 46, Mg.cells ⟨22, a.to, a.fr, 0, 0, a.ky, spZ, spZ, slZ, cZ, ⟨h.k.up, se, sl⟩, slZ, (decide (h.k.up < topF h.k.up (decd ps)))⟩)]) := HF.out.put 3 rfl hk hbx
  clear hbx hk ho hq
  refine ⟨v, rfl, ?_⟩
  try simp only [pS]
  refine WL.nil ?_
  try simp only [pS]
  go_upto_region 12 with fail
  refine WL.start ?_
  refine tW (.agg (Mg.cells ⟨22, a.to, a.fr, 0, 0, a.ky, spZ, spZ, slZ, cZ, ⟨h.k.up, se, sl⟩, slZ, (decide (h.k.up < topF h.k.up (decd ps)))⟩)) (eL 46 _ rfl ⟨gk7, 0, none⟩ (run_load_part (cs := Mg.cs ⟨22, a.to, a.fr, 0, 0, a.ky, spZ, spZ, slZ, cZ, ⟨h.k.up, se, sl⟩, slZ, (decide (h.k.up < topF h.k.up (decd ps)))⟩) (sub := Mg.cs ⟨22, a.to, a.fr, 0, 0, a.ky, spZ, spZ, slZ, cZ, ⟨h.k.up, se, sl⟩, slZ, (decide (h.k.up < topF h.k.up (decd ps)))⟩) (HF.out.box 3 _ _ _ rfl) (Part.all _) Try.und50 rfl Try.size50)) ?_
  try simp only [pS]
  refine wp_storeW 46 _ _ rfl ⟨gk5, 0, none⟩ (.agg (Mg.cells ⟨22, a.to, a.fr, 0, 0, a.ky, spZ, spZ, slZ, cZ, ⟨h.k.up, se, sl⟩, slZ, (decide (h.k.up < topF h.k.up (decd ps)))⟩)) (by kernel_rfl) (by kernel_rfl) (wk10.setRow gk5 (Mg.cells ⟨22, a.to, a.fr, 0, 0, a.ky, spZ, spZ, slZ, cZ, ⟨h.k.up, se, sl⟩, slZ, (decide (h.k.up < topF h.k.up (decd ps)))⟩)) (run_store_to (cur := Mg.cs mgZ) (vs := Mg.cs ⟨22, a.to, a.fr, 0, 0, a.ky, spZ, spZ, slZ, cZ, ⟨h.k.up, se, sl⟩, slZ, (decide (h.k.up < topF h.k.up (decd ps)))⟩) (new := Mg.cs ⟨22, a.to, a.fr, 0, 0, a.ky, spZ, spZ, slZ, cZ, ⟨h.k.up, se, sl⟩, slZ, (decide (h.k.up < topF h.k.up (decd ps)))⟩) (HF.out.box 2 _ _ _ rfl) (by kernel_rfl) Try.size50 (Nat.le_of_ble_eq_true (by kernel_rfl)) (Mg.oneL _) (by kernel_rfl)) (by kernel_rfl) ?_
  try simp only [pS]
  have HO : Hid (OwE (wk10.setRow gk5 (Mg.cells ⟨22, a.to, a.fr, 0, 0, a.ky, spZ, spZ, slZ, cZ, ⟨h.k.up, se, sl⟩, slZ, (decide (h.k.up < topF h.k.up (decd ps)))⟩)) w.heap.size se es) := HO.out.kept (Kept.setRow _ _ _) (fun k h e => (HO.out.own.notBox (HF.out.box 2 _ _ _ rfl) (by decide)) ((show k = gk5 from e) ▸ h))
  have HQ : Hid (OwL (wk10.setRow gk5 (Mg.cells ⟨22, a.to, a.fr, 0, 0, a.ky, spZ, spZ, slZ, cZ, ⟨h.k.up, se, sl⟩, slZ, (decide (h.k.up < topF h.k.up (decd ps)))⟩)) w.heap.size sl ls) := HQ.out.kept (Kept.setRow _ _ _) (fun k h e => (HQ.out.own.notBox (HF.out.box 2 _ _ _ rfl) (by decide)) ((show k = gk5 from e) ▸ h))
  have HF : Hid (Fr No w _ [(gk1, 46, Mg.cells a), (gk3, 49, Hd.cells h), (gk5, 46, Mg.cells ⟨22, a.to, a.fr, 0, 0, a.ky, spZ, spZ, slZ, cZ, ⟨h.k.up, se, sl⟩, slZ, (decide (h.k.up < topF h.k.up (decd ps)))⟩), (gk7, 46, Mg.cells ⟨22, a.to, a.fr, 0, 0, a.ky, spZ, spZ, slZ, cZ, ⟨h.k.up, se, sl⟩, slZ, (decide (h.k.up < topF h.k.up (decd ps)))⟩)]) := HF.out.set 2 rfl _
  generalize wk10.setRow gk5 (Mg.cells ⟨22, a.to, a.fr, 0, 0, a.ky, spZ, spZ, slZ, cZ, ⟨h.k.up, se, sl⟩, slZ, (decide (h.k.up < topF h.k.up (decd ps)))⟩) = wk11 at HF HO HQ ⊢
  refine WL.nil ?_
  try simp only [pS]
  go_wp2
  rw [HC.out]
  refine bodyPost_ret (results_row1 (by rfl) _ _ gk5 (Mg.cells ⟨22, a.to, a.fr, 0, 0, a.ky, spZ, spZ, slZ, cZ, ⟨h.k.up, se, sl⟩, slZ, (decide (h.k.up < topF h.k.up (decd ps)))⟩) (by rfl) (run_load_part (cs := Mg.cs ⟨22, a.to, a.fr, 0, 0, a.ky, spZ, spZ, slZ, cZ, ⟨h.k.up, se, sl⟩, slZ, (decide (h.k.up < topF h.k.up (decd ps)))⟩) (sub := Mg.cs ⟨22, a.to, a.fr, 0, 0, a.ky, spZ, spZ, slZ, cZ, ⟨h.k.up, se, sl⟩, slZ, (decide (h.k.up < topF h.k.up (decd ps)))⟩) (HF.out.box 2 _ _ _ rfl) (Part.all _) Try.und50 rfl Try.size50)) rfl ?_
  exact ⟨se, sl, rfl, HO.out, HQ.out, HF.out.kept⟩
set_option maxRecDepth 100000 in
set_option maxHeartbeats 4000000 in
theorem take_bucket_no (m : Mg) (h : Hd) (ps : List Pl) (es : List En) (ls : List La) (w : World) (hk22 : (m.k == 22) = true) (hk1 : (m.ky.k == 1) = false) (hk2 : (m.ky.k == 2) = true) (hu1 : decide (1 ≤ m.bk.up) = true) (hu2 : decide (m.bk.up ≤ 1048576) = true) (hE : m.bk.up ≤ edgeF h.k.up (decd ps)) (he : RdE w m.bk.e es) (hl : RdL w m.bk.l ls) (h1 : m.bk.e.l * 40 ≤ 140737488355328) (h2 : m.bk.l.l * 56 ≤ 140737488355328) (hr : RdP w h.r ps) (hlt : ∀ k, At h.r.a k → k < w.heap.size) (hm : ps.length ≤ 10000000000000) (hg : Rng h.k.up ps) : Calls Try.prog 12 #[.agg (Mg.cells m), .agg (Hd.cells h)] w (fun e w' => e = .returned (.tuple #[.slice none 0 0, .agg (Mg.cells (if moreB m then askM m.to m.fr m.ky (m.bk.up + 1) else mgZ)), .bool (moreB m)]) ∧ Kept No w w') := by
  obtain ⟨C, hC⟩ : ∃ C : Ending → World → Prop, C = (fun e w' => e = .returned (.tuple #[.slice none 0 0, .agg (Mg.cells (if moreB m then askM m.to m.fr m.ky (m.bk.up + 1) else mgZ)), .bool (moreB m)]) ∧ Kept No w w') := ⟨_, rfl⟩
  have HC : Hid (C = (fun e w' => e = .returned (.tuple #[.slice none 0 0, .agg (Mg.cells (if moreB m then askM m.to m.fr m.ky (m.bk.up + 1) else mgZ)), .bool (moreB m)]) ∧ Kept No w w')) := hC
  rw [← hC]
  clear hC
  have HK : Hid (∀ W, Kept No w W → Calls Try.prog 31 #[.agg (Mg.cells m), .agg (Hd.cells h)] W (NbOut W m (edgeF h.k.up (decd ps)) es ls)) := fun W hk => newerBucket_any m h ps es ls W (he.no hk) (hl.no hk) h1 h2 (hr.no hk) (fun k e => Nat.lt_of_lt_of_le (hlt k e) hk.size) hm hg
  have hw1 : IntKind.i64.wrap (m.bk.up + 1) = m.bk.up + 1 := by have := of_decide_eq_true hu1; have := of_decide_eq_true hu2; rw [IntKind.wrap_i64]; omega
  obtain ⟨X, hX⟩ : ∃ X : Mg, X = (if moreB m then askM m.to m.fr m.ky (m.bk.up + 1) else mgZ) := ⟨_, rfl⟩
  rw [← hX] at HC
  have HA : Hid (∀ W, Calls Try.prog 30 #[.agg (Mg.cells m), .int .i64 (m.bk.up + 1)] W (fun e w' => e = .returned (.tuple #[.agg (Mg.cells X), .bool (moreB m)]) ∧ Kept No W w')) := fun W => by rw [hX]; exact askOn_any m _ W
  have HEE : Hid (m.bk.up ≤ edgeF h.k.up (decd ps)) := hE
  clear he hl h1 h2 hr hlt hm hg hX hE
  have HF : Hid (Fr No w w []) := Fr.start _ _
  go_enter Try.func12, Try.ntmps12
  go_upto_region 0 with fail
  refine WL.start ?_
  refine wp_runW (.pointer (some ⟨w.heap.size, 0, none⟩)) (w.alloc (.cells (Mg.cells m) 46)) (exec_box 46 _ rfl (Mg.cells m) (by kernel_rfl)) (by kernel_rfl) ?_
  try simp only [pS]
  have HF : Hid (Fr No w _ [(w.heap.size, 46, Mg.cells m)]) := HF.out.alloc _ _
  generalize w.alloc (.cells (Mg.cells m) 46) = wk2 at HF ⊢
  generalize w.heap.size = gk1 at HF ⊢
  refine wp_runW (.pointer (some ⟨wk2.heap.size, 0, none⟩)) (wk2.alloc (.cells (Hd.cells h) 49)) (exec_box 49 _ rfl (Hd.cells h) (by kernel_rfl)) (by kernel_rfl) ?_
  try simp only [pS]
  have HF : Hid (Fr No w _ [(gk1, 46, Mg.cells m), (wk2.heap.size, 49, Hd.cells h)]) := HF.out.alloc _ _
  generalize wk2.alloc (.cells (Hd.cells h) 49) = wk4 at HF ⊢
  generalize wk2.heap.size = gk3 at HF ⊢
  refine tK (.slice none 0 0) ?_
  try simp only [pS]
  refine wp_runW (.pointer (some ⟨wk4.heap.size, 0, none⟩)) (wk4.alloc (.cells (Mg.cells mgZ) 46)) (exec_alloc 46 rfl (Mg.cells mgZ) zero50) (by kernel_rfl) ?_
  try simp only [pS]
  have HF : Hid (Fr No w _ [(gk1, 46, Mg.cells m), (gk3, 49, Hd.cells h), (wk4.heap.size, 46, Mg.cells mgZ)]) := HF.out.alloc _ _
  generalize wk4.alloc (.cells (Mg.cells mgZ) 46) = wk6 at HF ⊢
  generalize wk4.heap.size = gk5 at HF ⊢
  refine tK (.bool false) ?_
  try simp only [pS]
  refine WL.nil ?_
  try simp only [pS]
  go_upto_region 1 with fail
  refine WL.start ?_
  refine tK (.pointer (some ⟨gk1, 0, none⟩)) ?_
  refine tW (.int .i64 m.k) (eL 3 _ rfl ⟨gk1, 0, none⟩ (load_one ((HF.out.box 0 _ _ _ rfl).cell 0 |>.trans (by kernel_rfl)) Try.und3 rfl)) ?_
  refine tW (.bool false) (eB .neq 3 _ _ _ rfl (.int .i64 m.k) (.int .i64 22) _ (by rw [b_neq, hk22]; try rfl)) ?_
  try simp only [pS]
  refine WL.nil ?_
  try simp only [pS]
  go_upto_region 3 with fail
  refine wp_region_held_drew (S := fun w' => Box w' gk1 46 (Mg.cells m)) rfl (HF.out.box 0 _ _ _ rfl) (fun hH => ?_)
  have HF : Hid (Fr No w (wk6.drew) [(gk1, 46, Mg.cells m), (gk3, 49, Hd.cells h), (gk5, 46, Mg.cells mgZ)]) := HF.out.drew
  generalize wk6.drew = wk7 at HF hH ⊢
  refine aT (i := 0) (oi := oqY0) (v := .pointer (some ⟨gk1, 25, none⟩)) (fun _ _ => by kernel_rfl) hH ?_
  try simp only [pS]
  refine aT (i := 1) (oi := oqY1) (v := .pointer (some ⟨gk1, 25, none⟩)) (fun _ _ => by kernel_rfl) hH ?_
  try simp only [pS]
  refine aT (i := 2) (oi := oqY2) (v := .int .i64 m.bk.up) (fun w' hw => eL 3 _ rfl ⟨gk1, 25, none⟩ (load_one ((hw).cell 25 |>.trans (by kernel_rfl)) Try.und3 rfl)) hH ?_
  try simp only [pS]
  refine aT (i := 3) (oi := oqY3) (v := .pointer (some ⟨gk1, 11, none⟩)) (fun _ _ => by kernel_rfl) hH ?_
  try simp only [pS]
  refine aT (i := 4) (oi := oqY4) (v := .pointer (some ⟨gk1, 11, none⟩)) (fun _ _ => by kernel_rfl) hH ?_
  try simp only [pS]
  refine aT (i := 5) (oi := oqY5) (v := .int .i64 m.st.n) (fun w' hw => eL 3 _ rfl ⟨gk1, 11, none⟩ (load_one ((hw).cell 11 |>.trans (by kernel_rfl)) Try.und3 rfl)) hH ?_
  try simp only [pS]
  refine aT (i := 6) (oi := oqY6) (v := .int .i64 m.bk.up) (fun _ _ => by kernel_rfl) hH ?_
  try simp only [pS]
  refine aT (i := 7) (oi := oqY7) (v := .int .i64 m.st.n) (fun _ _ => by kernel_rfl) hH ?_
  try simp only [pS]
  refine wpAnyH_done (by kernel_rfl) ?_ _
  try simp only [pS]
  clear hH
  go_upto_region 4 with fail
  refine WL.start ?_
  refine tK (.pointer (some ⟨gk1, 7, none⟩)) ?_
  refine tK (.pointer (some ⟨gk1, 7, none⟩)) ?_
  refine tW (.int .i64 m.ky.k) (eL 3 _ rfl ⟨gk1, 7, none⟩ (load_one ((HF.out.box 0 _ _ _ rfl).cell 7 |>.trans (by kernel_rfl)) Try.und3 rfl)) ?_
  refine tW (.bool false) (eB .eql 3 _ _ _ rfl (.int .i64 m.ky.k) (.int .i64 1) _ (by rw [b_eql, hk1]; try rfl)) ?_
  refine tK (.bool false) ?_
  try simp only [pS]
  refine WL.nil ?_
  try simp only [pS]
  go_upto_region 6 with fail
  refine WL.start ?_
  refine tK (.pointer (some ⟨gk1, 7, none⟩)) ?_
  refine tK (.pointer (some ⟨gk1, 7, none⟩)) ?_
  refine tW (.int .i64 m.ky.k) (eL 3 _ rfl ⟨gk1, 7, none⟩ (load_one ((HF.out.box 0 _ _ _ rfl).cell 7 |>.trans (by kernel_rfl)) Try.und3 rfl)) ?_
  refine tW (.bool false) (eB .neq 3 _ _ _ rfl (.int .i64 m.ky.k) (.int .i64 2) _ (by rw [b_neq, hk2]; try rfl)) ?_
  refine tK (.bool false) ?_
  try simp only [pS]
  refine WL.nil ?_
  try simp only [pS]
  go_upto_region 8 with fail
  refine WL.start ?_
  refine tK (.int .i64 m.bk.up) ?_
  refine tW (.bool true) (eB .geq 3 _ _ _ rfl (.int .i64 m.bk.up) (.int .i64 1) _ (by rw [b_geq, hu1]; try rfl)) ?_
  refine tK (.bool true) ?_
  refine tK (.int .i64 m.bk.up) ?_
  refine tW (.bool true) (eB .leq 3 _ _ _ rfl (.int .i64 m.bk.up) (.int .i64 1048576) _ (by rw [b_leq, hu2]; try rfl)) ?_
  refine tK (.bool true) ?_
  refine tK (.bool true) ?_
  try simp only [pS]
  refine WL.nil ?_
  try simp only [pS]
  go_upto_region 9 with fail
  refine WL.start ?_
  refine tW (.agg (Mg.cells m)) (eL 46 _ rfl ⟨gk1, 0, none⟩ (run_load_part (cs := Mg.cs m) (sub := Mg.cs m) (HF.out.box 0 _ _ _ rfl) (Part.all _) Try.und50 rfl Try.size50)) ?_
  refine tK (.int .i64 m.bk.up) ?_
  refine tW (.int .i64 (m.bk.up + 1)) (eB .add 3 _ _ _ rfl (.int .i64 m.bk.up) (.int .i64 1) _ (b_addw _ _ _ hw1 _)) ?_
  try simp only [pS]
  refine wp_callW 30 #[.agg (Mg.cells m), .int .i64 (m.bk.up + 1)] (by kernel_rfl) _ (HA.out _) (by kernel_rfl) ?_
  rintro e wk8 ⟨rfl, hk⟩
  have HF : Hid (Fr No w (wk8) [(gk1, 46, Mg.cells m), (gk3, 49, Hd.cells h), (gk5, 46, Mg.cells mgZ)]) := HF.out.no hk
  clear hk
  refine ⟨.tuple #[.agg (Mg.cells X), .bool (moreB m)], rfl, ?_⟩
  try simp only [pS]
  refine tK (.tuple #[.agg (Mg.cells X), .bool (moreB m)]) ?_
  refine tK (.agg (Mg.cells X)) ?_
  refine tK (.bool (moreB m)) ?_
  try simp only [pS]
  refine wp_runW (.pointer (some ⟨wk8.heap.size, 0, none⟩)) (wk8.alloc (.cells (Mg.cells mgZ) 46)) (exec_alloc 46 rfl (Mg.cells mgZ) zero50) (by kernel_rfl) ?_
  try simp only [pS]
  have HF : Hid (Fr No w _ [(gk1, 46, Mg.cells m), (gk3, 49, Hd.cells h), (gk5, 46, Mg.cells mgZ), (wk8.heap.size, 46, Mg.cells mgZ)]) := HF.out.alloc _ _
  generalize wk8.alloc (.cells (Mg.cells mgZ) 46) = wk10 at HF ⊢
  generalize wk8.heap.size = gk9 at HF ⊢
  refine wp_storeW 46 _ _ rfl ⟨gk9, 0, none⟩ (.agg (Mg.cells X)) (by kernel_rfl) (by kernel_rfl) (wk10.setRow gk9 (Mg.cells X)) (run_store_to (cur := Mg.cs mgZ) (vs := Mg.cs X) (new := Mg.cs X) (HF.out.box 3 _ _ _ rfl) (by kernel_rfl) Try.size50 (Nat.le_of_ble_eq_true (by kernel_rfl)) (Mg.oneL _) (by kernel_rfl)) (by kernel_rfl) ?_
  try simp only [pS]
  have HF : Hid (Fr No w _ [(gk1, 46, Mg.cells m), (gk3, 49, Hd.cells h), (gk5, 46, Mg.cells mgZ), (gk9, 46, Mg.cells X)]) := HF.out.set 3 rfl _
  generalize wk10.setRow gk9 (Mg.cells X) = wk11 at HF ⊢
  refine tK (.bool (moreB m)) ?_
  try simp only [pS]
  refine WL.nil ?_
  try simp only [pS]
  go_upto_region 10 with fail
  refine wp_region_held_drew (S := fun w' => Box w' gk1 46 (Mg.cells m) ∧ Box w' gk3 49 (Hd.cells h) ∧ Box w' gk9 46 (Mg.cells X)) rfl ⟨HF.out.box 0 _ _ _ rfl, HF.out.box 1 _ _ _ rfl, HF.out.box 3 _ _ _ rfl⟩ (fun hH => ?_)
  have HF : Hid (Fr No w (wk11.drew) [(gk1, 46, Mg.cells m), (gk3, 49, Hd.cells h), (gk5, 46, Mg.cells mgZ), (gk9, 46, Mg.cells X)]) := HF.out.drew
  generalize wk11.drew = wk12 at HF hH ⊢
  refine aT (i := 0) (oi := oqY8) (v := .agg (Mg.cells m)) (fun w' hw => eL 46 _ rfl ⟨gk1, 0, none⟩ (run_load_part (cs := Mg.cs m) (sub := Mg.cs m) (hw.1) (Part.all _) Try.und50 rfl Try.size50)) hH ?_
  try simp only [pS]
  refine aT (i := 1) (oi := oqY9) (v := .agg (Hd.cells h)) (fun w' hw => eL 49 _ rfl ⟨gk3, 0, none⟩ (run_load_part (cs := Hd.cs h) (sub := Hd.cs h) (hw.2.1) (Part.all _) Try.und40 rfl Try.size40)) hH ?_
  try simp only [pS]
  refine aT (i := 3) (oi := oqY10) (v := .agg (Mg.cells X)) (fun w' hw => eL 46 _ rfl ⟨gk9, 0, none⟩ (run_load_part (cs := Mg.cs X) (sub := Mg.cs X) (hw.2.2) (Part.all _) Try.und50 rfl Try.size50)) hH ?_
  try simp only [pS]
  refine aT (i := 4) (oi := oqY11) (v := .bool (moreB m)) (fun _ _ => by kernel_rfl) hH ?_
  try simp only [pS]
  refine any_call (i := 2) (o := oqY12) rfl (by kernel_rfl) (by kernel_rfl) 31 #[.agg (Mg.cells m), .agg (Hd.cells h)] (by kernel_rfl) _ (HK.out _ HF.out.kept) ?_
  rintro e wk13 hh
  rcases hh with ⟨-, rfl, hk⟩ | ⟨hf, _⟩
  rotate_left
  · have := HEE.out; omega
  have hH2 : Box wk13 gk1 46 (Mg.cells m) ∧ Box wk13 gk3 49 (Hd.cells h) ∧ Box wk13 gk9 46 (Mg.cells X) := ⟨hH.1.kept hk (fun e => e), hH.2.1.kept hk (fun e => e), hH.2.2.kept hk (fun e => e)⟩
  have HF : Hid (Fr No w (wk13) [(gk1, 46, Mg.cells m), (gk3, 49, Hd.cells h), (gk5, 46, Mg.cells mgZ), (gk9, 46, Mg.cells X)]) := HF.out.no hk
  clear hk
  refine ⟨.slice none 0 0, rfl, hH2, fun hH => ?_⟩
  clear hH2
  try simp only [pS]
  refine aT (i := 5) (oi := oqY13) (v := .slice none 0 0) (fun _ _ => by kernel_rfl) hH ?_
  try simp only [pS]
  refine any_store (i := 6) (o := oqY14) (w' := wk13.setRow gk5 (Mg.cells X)) rfl (by kernel_rfl) (by kernel_rfl) 46 _ _ rfl ⟨gk5, 0, none⟩ (.agg (Mg.cells X)) (by kernel_rfl) (by kernel_rfl) (run_store_to (cur := Mg.cs mgZ) (vs := Mg.cs X) (new := Mg.cs X) (HF.out.box 2 _ _ _ rfl) (by kernel_rfl) Try.size50 (Nat.le_of_ble_eq_true (by kernel_rfl)) (Mg.oneL _) (by kernel_rfl)) (⟨hH.1.rowNe (HF.out.ne 0 2 rfl rfl (by simp)) _, hH.2.1.rowNe (HF.out.ne 1 2 rfl rfl (by simp)) _, hH.2.2.rowNe (HF.out.ne 3 2 rfl rfl (by simp)) _⟩) (fun hH => ?_)
  try simp only [pS]
  have HF : Hid (Fr No w _ [(gk1, 46, Mg.cells m), (gk3, 49, Hd.cells h), (gk5, 46, Mg.cells X), (gk9, 46, Mg.cells X)]) := HF.out.set 2 rfl _
  generalize wk13.setRow gk5 (Mg.cells X) = wk14 at HF hH ⊢
  refine aT (i := 7) (oi := oqY15) (v := .bool (moreB m)) (fun _ _ => by kernel_rfl) hH ?_
  try simp only [pS]
  refine wpAnyH_done (by kernel_rfl) ?_ _
  try simp only [pS]
  clear hH
  go_wp2
  rw [HC.out]
  refine bodyPost_ret (results_tct (by rfl) _ _ gk5 (Mg.cells X) (by rfl) (run_load_part (cs := Mg.cs X) (sub := Mg.cs X) (HF.out.box 2 _ _ _ rfl) (Part.all _) Try.und50 rfl Try.size50)) rfl ?_
  exact ⟨rfl, HF.out.kept⟩
set_option maxRecDepth 100000 in
set_option maxHeartbeats 4000000 in
theorem take_bucket_yes (m : Mg) (h : Hd) (ps : List Pl) (es : List En) (ls : List La) (w : World) (hk22 : (m.k == 22) = true) (hk1 : (m.ky.k == 1) = false) (hk2 : (m.ky.k == 2) = true) (hu1 : decide (1 ≤ m.bk.up) = true) (hu2 : decide (m.bk.up ≤ 1048576) = true) (hE : edgeF h.k.up (decd ps) < m.bk.up) (he : RdE w m.bk.e es) (hl : RdL w m.bk.l ls) (h1 : m.bk.e.l * 40 ≤ 140737488355328) (h2 : m.bk.l.l * 56 ≤ 140737488355328) (hr : RdP w h.r ps) (hlt : ∀ k, At h.r.a k → k < w.heap.size) (hm : ps.length ≤ 10000000000000) (hg : Rng h.k.up ps) : Calls Try.prog 12 #[.agg (Mg.cells m), .agg (Hd.cells h)] w (fun e w' => ∃ (g : Nat) (se sl : Sl), e = .returned (.tuple #[.slice (some ⟨g, 0, none⟩) 1 1, .agg (Mg.cells (if moreB m then askM m.to m.fr m.ky (m.bk.up + 1) else mgZ)), .bool (moreB m)]) ∧ Box w' g 67 (Ch.cells ⟨m.ky, blZ, inZ, ⟨m.bk.up, se, sl⟩⟩) ∧ OwE w' w.heap.size se es ∧ OwL w' w.heap.size sl ls ∧ w.heap.size ≤ g ∧ Kept No w w') := by
  obtain ⟨C, hC⟩ : ∃ C : Ending → World → Prop, C = (fun e w' => ∃ (g : Nat) (se sl : Sl), e = .returned (.tuple #[.slice (some ⟨g, 0, none⟩) 1 1, .agg (Mg.cells (if moreB m then askM m.to m.fr m.ky (m.bk.up + 1) else mgZ)), .bool (moreB m)]) ∧ Box w' g 67 (Ch.cells ⟨m.ky, blZ, inZ, ⟨m.bk.up, se, sl⟩⟩) ∧ OwE w' w.heap.size se es ∧ OwL w' w.heap.size sl ls ∧ w.heap.size ≤ g ∧ Kept No w w') := ⟨_, rfl⟩
  have HC : Hid (C = (fun e w' => ∃ (g : Nat) (se sl : Sl), e = .returned (.tuple #[.slice (some ⟨g, 0, none⟩) 1 1, .agg (Mg.cells (if moreB m then askM m.to m.fr m.ky (m.bk.up + 1) else mgZ)), .bool (moreB m)]) ∧ Box w' g 67 (Ch.cells ⟨m.ky, blZ, inZ, ⟨m.bk.up, se, sl⟩⟩) ∧ OwE w' w.heap.size se es ∧ OwL w' w.heap.size sl ls ∧ w.heap.size ≤ g ∧ Kept No w w')) := hC
  rw [← hC]
  clear hC
  have HK : Hid (∀ W, Kept No w W → Calls Try.prog 31 #[.agg (Mg.cells m), .agg (Hd.cells h)] W (NbOut W m (edgeF h.k.up (decd ps)) es ls)) := fun W hk => newerBucket_any m h ps es ls W (he.no hk) (hl.no hk) h1 h2 (hr.no hk) (fun k e => Nat.lt_of_lt_of_le (hlt k e) hk.size) hm hg
  have hw1 : IntKind.i64.wrap (m.bk.up + 1) = m.bk.up + 1 := by have := of_decide_eq_true hu1; have := of_decide_eq_true hu2; rw [IntKind.wrap_i64]; omega
  obtain ⟨X, hX⟩ : ∃ X : Mg, X = (if moreB m then askM m.to m.fr m.ky (m.bk.up + 1) else mgZ) := ⟨_, rfl⟩
  rw [← hX] at HC
  have HA : Hid (∀ W, Calls Try.prog 30 #[.agg (Mg.cells m), .int .i64 (m.bk.up + 1)] W (fun e w' => e = .returned (.tuple #[.agg (Mg.cells X), .bool (moreB m)]) ∧ Kept No W w')) := fun W => by rw [hX]; exact askOn_any m _ W
  have HEE : Hid (edgeF h.k.up (decd ps) < m.bk.up) := hE
  clear he hl h1 h2 hr hlt hm hg hX hE
  have HF : Hid (Fr No w w []) := Fr.start _ _
  go_enter Try.func12, Try.ntmps12
  go_upto_region 0 with fail
  refine WL.start ?_
  refine wp_runW (.pointer (some ⟨w.heap.size, 0, none⟩)) (w.alloc (.cells (Mg.cells m) 46)) (exec_box 46 _ rfl (Mg.cells m) (by kernel_rfl)) (by kernel_rfl) ?_
  try simp only [pS]
  have HF : Hid (Fr No w _ [(w.heap.size, 46, Mg.cells m)]) := HF.out.alloc _ _
  generalize w.alloc (.cells (Mg.cells m) 46) = wk2 at HF ⊢
  generalize w.heap.size = gk1 at HF ⊢
  refine wp_runW (.pointer (some ⟨wk2.heap.size, 0, none⟩)) (wk2.alloc (.cells (Hd.cells h) 49)) (exec_box 49 _ rfl (Hd.cells h) (by kernel_rfl)) (by kernel_rfl) ?_
  try simp only [pS]
  have HF : Hid (Fr No w _ [(gk1, 46, Mg.cells m), (wk2.heap.size, 49, Hd.cells h)]) := HF.out.alloc _ _
  generalize wk2.alloc (.cells (Hd.cells h) 49) = wk4 at HF ⊢
  generalize wk2.heap.size = gk3 at HF ⊢
  refine tK (.slice none 0 0) ?_
  try simp only [pS]
  refine wp_runW (.pointer (some ⟨wk4.heap.size, 0, none⟩)) (wk4.alloc (.cells (Mg.cells mgZ) 46)) (exec_alloc 46 rfl (Mg.cells mgZ) zero50) (by kernel_rfl) ?_
  try simp only [pS]
  have HF : Hid (Fr No w _ [(gk1, 46, Mg.cells m), (gk3, 49, Hd.cells h), (wk4.heap.size, 46, Mg.cells mgZ)]) := HF.out.alloc _ _
  generalize wk4.alloc (.cells (Mg.cells mgZ) 46) = wk6 at HF ⊢
  generalize wk4.heap.size = gk5 at HF ⊢
  refine tK (.bool false) ?_
  try simp only [pS]
  refine WL.nil ?_
  try simp only [pS]
  go_upto_region 1 with fail
  refine WL.start ?_
  refine tK (.pointer (some ⟨gk1, 0, none⟩)) ?_
  refine tW (.int .i64 m.k) (eL 3 _ rfl ⟨gk1, 0, none⟩ (load_one ((HF.out.box 0 _ _ _ rfl).cell 0 |>.trans (by kernel_rfl)) Try.und3 rfl)) ?_
  refine tW (.bool false) (eB .neq 3 _ _ _ rfl (.int .i64 m.k) (.int .i64 22) _ (by rw [b_neq, hk22]; try rfl)) ?_
  try simp only [pS]
  refine WL.nil ?_
  try simp only [pS]
  go_upto_region 3 with fail
  refine wp_region_held_drew (S := fun w' => Box w' gk1 46 (Mg.cells m)) rfl (HF.out.box 0 _ _ _ rfl) (fun hH => ?_)
  have HF : Hid (Fr No w (wk6.drew) [(gk1, 46, Mg.cells m), (gk3, 49, Hd.cells h), (gk5, 46, Mg.cells mgZ)]) := HF.out.drew
  generalize wk6.drew = wk7 at HF hH ⊢
  refine aT (i := 0) (oi := oqY0) (v := .pointer (some ⟨gk1, 25, none⟩)) (fun _ _ => by kernel_rfl) hH ?_
  try simp only [pS]
  refine aT (i := 1) (oi := oqY1) (v := .pointer (some ⟨gk1, 25, none⟩)) (fun _ _ => by kernel_rfl) hH ?_
  try simp only [pS]
  refine aT (i := 2) (oi := oqY2) (v := .int .i64 m.bk.up) (fun w' hw => eL 3 _ rfl ⟨gk1, 25, none⟩ (load_one ((hw).cell 25 |>.trans (by kernel_rfl)) Try.und3 rfl)) hH ?_
  try simp only [pS]
  refine aT (i := 3) (oi := oqY3) (v := .pointer (some ⟨gk1, 11, none⟩)) (fun _ _ => by kernel_rfl) hH ?_
  try simp only [pS]
  refine aT (i := 4) (oi := oqY4) (v := .pointer (some ⟨gk1, 11, none⟩)) (fun _ _ => by kernel_rfl) hH ?_
  try simp only [pS]
  refine aT (i := 5) (oi := oqY5) (v := .int .i64 m.st.n) (fun w' hw => eL 3 _ rfl ⟨gk1, 11, none⟩ (load_one ((hw).cell 11 |>.trans (by kernel_rfl)) Try.und3 rfl)) hH ?_
  try simp only [pS]
  refine aT (i := 6) (oi := oqY6) (v := .int .i64 m.bk.up) (fun _ _ => by kernel_rfl) hH ?_
  try simp only [pS]
  refine aT (i := 7) (oi := oqY7) (v := .int .i64 m.st.n) (fun _ _ => by kernel_rfl) hH ?_
  try simp only [pS]
  refine wpAnyH_done (by kernel_rfl) ?_ _
  try simp only [pS]
  clear hH
  go_upto_region 4 with fail
  refine WL.start ?_
  refine tK (.pointer (some ⟨gk1, 7, none⟩)) ?_
  refine tK (.pointer (some ⟨gk1, 7, none⟩)) ?_
  refine tW (.int .i64 m.ky.k) (eL 3 _ rfl ⟨gk1, 7, none⟩ (load_one ((HF.out.box 0 _ _ _ rfl).cell 7 |>.trans (by kernel_rfl)) Try.und3 rfl)) ?_
  refine tW (.bool false) (eB .eql 3 _ _ _ rfl (.int .i64 m.ky.k) (.int .i64 1) _ (by rw [b_eql, hk1]; try rfl)) ?_
  refine tK (.bool false) ?_
  try simp only [pS]
  refine WL.nil ?_
  try simp only [pS]
  go_upto_region 6 with fail
  refine WL.start ?_
  refine tK (.pointer (some ⟨gk1, 7, none⟩)) ?_
  refine tK (.pointer (some ⟨gk1, 7, none⟩)) ?_
  refine tW (.int .i64 m.ky.k) (eL 3 _ rfl ⟨gk1, 7, none⟩ (load_one ((HF.out.box 0 _ _ _ rfl).cell 7 |>.trans (by kernel_rfl)) Try.und3 rfl)) ?_
  refine tW (.bool false) (eB .neq 3 _ _ _ rfl (.int .i64 m.ky.k) (.int .i64 2) _ (by rw [b_neq, hk2]; try rfl)) ?_
  refine tK (.bool false) ?_
  try simp only [pS]
  refine WL.nil ?_
  try simp only [pS]
  go_upto_region 8 with fail
  refine WL.start ?_
  refine tK (.int .i64 m.bk.up) ?_
  refine tW (.bool true) (eB .geq 3 _ _ _ rfl (.int .i64 m.bk.up) (.int .i64 1) _ (by rw [b_geq, hu1]; try rfl)) ?_
  refine tK (.bool true) ?_
  refine tK (.int .i64 m.bk.up) ?_
  refine tW (.bool true) (eB .leq 3 _ _ _ rfl (.int .i64 m.bk.up) (.int .i64 1048576) _ (by rw [b_leq, hu2]; try rfl)) ?_
  refine tK (.bool true) ?_
  refine tK (.bool true) ?_
  try simp only [pS]
  refine WL.nil ?_
  try simp only [pS]
  go_upto_region 9 with fail
  refine WL.start ?_
  refine tW (.agg (Mg.cells m)) (eL 46 _ rfl ⟨gk1, 0, none⟩ (run_load_part (cs := Mg.cs m) (sub := Mg.cs m) (HF.out.box 0 _ _ _ rfl) (Part.all _) Try.und50 rfl Try.size50)) ?_
  refine tK (.int .i64 m.bk.up) ?_
  refine tW (.int .i64 (m.bk.up + 1)) (eB .add 3 _ _ _ rfl (.int .i64 m.bk.up) (.int .i64 1) _ (b_addw _ _ _ hw1 _)) ?_
  try simp only [pS]
  refine wp_callW 30 #[.agg (Mg.cells m), .int .i64 (m.bk.up + 1)] (by kernel_rfl) _ (HA.out _) (by kernel_rfl) ?_
  rintro e wk8 ⟨rfl, hk⟩
  have HF : Hid (Fr No w (wk8) [(gk1, 46, Mg.cells m), (gk3, 49, Hd.cells h), (gk5, 46, Mg.cells mgZ)]) := HF.out.no hk
  clear hk
  refine ⟨.tuple #[.agg (Mg.cells X), .bool (moreB m)], rfl, ?_⟩
  try simp only [pS]
  refine tK (.tuple #[.agg (Mg.cells X), .bool (moreB m)]) ?_
  refine tK (.agg (Mg.cells X)) ?_
  refine tK (.bool (moreB m)) ?_
  try simp only [pS]
  refine wp_runW (.pointer (some ⟨wk8.heap.size, 0, none⟩)) (wk8.alloc (.cells (Mg.cells mgZ) 46)) (exec_alloc 46 rfl (Mg.cells mgZ) zero50) (by kernel_rfl) ?_
  try simp only [pS]
  have HF : Hid (Fr No w _ [(gk1, 46, Mg.cells m), (gk3, 49, Hd.cells h), (gk5, 46, Mg.cells mgZ), (wk8.heap.size, 46, Mg.cells mgZ)]) := HF.out.alloc _ _
  generalize wk8.alloc (.cells (Mg.cells mgZ) 46) = wk10 at HF ⊢
  generalize wk8.heap.size = gk9 at HF ⊢
  refine wp_storeW 46 _ _ rfl ⟨gk9, 0, none⟩ (.agg (Mg.cells X)) (by kernel_rfl) (by kernel_rfl) (wk10.setRow gk9 (Mg.cells X)) (run_store_to (cur := Mg.cs mgZ) (vs := Mg.cs X) (new := Mg.cs X) (HF.out.box 3 _ _ _ rfl) (by kernel_rfl) Try.size50 (Nat.le_of_ble_eq_true (by kernel_rfl)) (Mg.oneL _) (by kernel_rfl)) (by kernel_rfl) ?_
  try simp only [pS]
  have HF : Hid (Fr No w _ [(gk1, 46, Mg.cells m), (gk3, 49, Hd.cells h), (gk5, 46, Mg.cells mgZ), (gk9, 46, Mg.cells X)]) := HF.out.set 3 rfl _
  generalize wk10.setRow gk9 (Mg.cells X) = wk11 at HF ⊢
  refine tK (.bool (moreB m)) ?_
  try simp only [pS]
  refine WL.nil ?_
  try simp only [pS]
  go_upto_region 10 with fail
  refine wp_region_held_drew (S := fun w' => Box w' gk1 46 (Mg.cells m) ∧ Box w' gk3 49 (Hd.cells h) ∧ Box w' gk9 46 (Mg.cells X)) rfl ⟨HF.out.box 0 _ _ _ rfl, HF.out.box 1 _ _ _ rfl, HF.out.box 3 _ _ _ rfl⟩ (fun hH => ?_)
  have HF : Hid (Fr No w (wk11.drew) [(gk1, 46, Mg.cells m), (gk3, 49, Hd.cells h), (gk5, 46, Mg.cells mgZ), (gk9, 46, Mg.cells X)]) := HF.out.drew
  generalize wk11.drew = wk12 at HF hH ⊢
  refine aT (i := 0) (oi := oqY8) (v := .agg (Mg.cells m)) (fun w' hw => eL 46 _ rfl ⟨gk1, 0, none⟩ (run_load_part (cs := Mg.cs m) (sub := Mg.cs m) (hw.1) (Part.all _) Try.und50 rfl Try.size50)) hH ?_
  try simp only [pS]
  refine aT (i := 1) (oi := oqY9) (v := .agg (Hd.cells h)) (fun w' hw => eL 49 _ rfl ⟨gk3, 0, none⟩ (run_load_part (cs := Hd.cs h) (sub := Hd.cs h) (hw.2.1) (Part.all _) Try.und40 rfl Try.size40)) hH ?_
  try simp only [pS]
  refine aT (i := 3) (oi := oqY10) (v := .agg (Mg.cells X)) (fun w' hw => eL 46 _ rfl ⟨gk9, 0, none⟩ (run_load_part (cs := Mg.cs X) (sub := Mg.cs X) (hw.2.2) (Part.all _) Try.und50 rfl Try.size50)) hH ?_
  try simp only [pS]
  refine aT (i := 4) (oi := oqY11) (v := .bool (moreB m)) (fun _ _ => by kernel_rfl) hH ?_
  try simp only [pS]
  refine any_call (i := 2) (o := oqY12) rfl (by kernel_rfl) (by kernel_rfl) 31 #[.agg (Mg.cells m), .agg (Hd.cells h)] (by kernel_rfl) _ (HK.out _ HF.out.kept) ?_
  rintro e wk13 hh
  rcases hh with ⟨hf, _⟩ | ⟨-, g, se, sl, rfl, hbg, ho, hq, hgl, hk⟩
  · have := HEE.out; omega
  have hH2 : Box wk13 gk1 46 (Mg.cells m) ∧ Box wk13 gk3 49 (Hd.cells h) ∧ Box wk13 gk9 46 (Mg.cells X) := ⟨hH.1.kept hk (fun e => e), hH.2.1.kept hk (fun e => e), hH.2.2.kept hk (fun e => e)⟩
  have HG : Hid (Box wk13 g 67 (Ch.cells ⟨m.ky, blZ, inZ, ⟨m.bk.up, se, sl⟩⟩)) := hbg
  have HGl : Hid (w.heap.size ≤ g) := Nat.le_trans HF.out.kept.size hgl
  have HO : Hid (OwE wk13 w.heap.size se es) := ho.lower HF.out.kept.size
  have HQ : Hid (OwL wk13 w.heap.size sl ls) := hq.lower HF.out.kept.size
  have HF : Hid (Fr No w (wk13) [(gk1, 46, Mg.cells m), (gk3, 49, Hd.cells h), (gk5, 46, Mg.cells mgZ), (gk9, 46, Mg.cells X)]) := HF.out.no hk
  clear hk hbg ho hq hgl
  refine ⟨.slice (some ⟨g, 0, none⟩) 1 1, rfl, hH2, fun hH => ?_⟩
  clear hH2
  try simp only [pS]
  refine aT (i := 5) (oi := oqY13) (v := .slice (some ⟨g, 0, none⟩) 1 1) (fun _ _ => by kernel_rfl) hH ?_
  try simp only [pS]
  refine any_store (i := 6) (o := oqY14) (w' := wk13.setRow gk5 (Mg.cells X)) rfl (by kernel_rfl) (by kernel_rfl) 46 _ _ rfl ⟨gk5, 0, none⟩ (.agg (Mg.cells X)) (by kernel_rfl) (by kernel_rfl) (run_store_to (cur := Mg.cs mgZ) (vs := Mg.cs X) (new := Mg.cs X) (HF.out.box 2 _ _ _ rfl) (by kernel_rfl) Try.size50 (Nat.le_of_ble_eq_true (by kernel_rfl)) (Mg.oneL _) (by kernel_rfl)) (⟨hH.1.rowNe (HF.out.ne 0 2 rfl rfl (by simp)) _, hH.2.1.rowNe (HF.out.ne 1 2 rfl rfl (by simp)) _, hH.2.2.rowNe (HF.out.ne 3 2 rfl rfl (by simp)) _⟩) (fun hH => ?_)
  try simp only [pS]
  have HG : Hid (Box (wk13.setRow gk5 (Mg.cells X)) g 67 (Ch.cells ⟨m.ky, blZ, inZ, ⟨m.bk.up, se, sl⟩⟩)) := HG.out.rowNe (box_ne HG.out (HF.out.box 2 _ _ _ rfl) (by decide)) _
  have HO : Hid (OwE (wk13.setRow gk5 (Mg.cells X)) w.heap.size se es) := HO.out.kept (Kept.setRow _ _ _) (fun k h e => (HO.out.own.notBox (HF.out.box 2 _ _ _ rfl) (by decide)) ((show k = gk5 from e) ▸ h))
  have HQ : Hid (OwL (wk13.setRow gk5 (Mg.cells X)) w.heap.size sl ls) := HQ.out.kept (Kept.setRow _ _ _) (fun k h e => (HQ.out.own.notBox (HF.out.box 2 _ _ _ rfl) (by decide)) ((show k = gk5 from e) ▸ h))
  have HF : Hid (Fr No w _ [(gk1, 46, Mg.cells m), (gk3, 49, Hd.cells h), (gk5, 46, Mg.cells X), (gk9, 46, Mg.cells X)]) := HF.out.set 2 rfl _
  generalize wk13.setRow gk5 (Mg.cells X) = wk14 at HF HG HO HQ hH ⊢
  refine aT (i := 7) (oi := oqY15) (v := .bool (moreB m)) (fun _ _ => by kernel_rfl) hH ?_
  try simp only [pS]
  refine wpAnyH_done (by kernel_rfl) ?_ _
  try simp only [pS]
  clear hH
  go_wp2
  rw [HC.out]
  refine bodyPost_ret (results_tct (by rfl) _ _ gk5 (Mg.cells X) (by rfl) (run_load_part (cs := Mg.cs X) (sub := Mg.cs X) (HF.out.box 2 _ _ _ rfl) (Part.all _) Try.und50 rfl Try.size50)) rfl ?_
  exact ⟨g, se, sl, rfl, HG.out, HO.out, HQ.out, HGl.out, HF.out.kept⟩

end Go.Proofs.Ytcgnbpaaalmkoab
