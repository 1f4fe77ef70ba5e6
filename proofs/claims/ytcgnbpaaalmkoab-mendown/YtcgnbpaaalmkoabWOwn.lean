import Derived.Test.YtcgnbpaaalmkoabMc
namespace Go.Proofs.Ytcgnbpaaalmkoab
open Go.RowKit
set_option linter.unusedVariables false
set_option linter.unusedSimpArgs false
@[reducible] def oqWOwn0 : Oper := { dst := some 104, op := Op.move (Operand.tmp 10), type := 44, pos := "outright.go:212", after := #[], guard := none }
@[reducible] def oqWOwn1 : Oper := { dst := some 105, op := Op.move (Operand.tmp 14), type := 3, pos := "outright.go:212", after := #[], guard := none }
@[reducible] def oqWOwn2 : Oper := { dst := some 106, op := Op.indexAddr 44 (Operand.tmp 104) (Operand.tmp 105), type := 0, pos := "outright.go:212", after := #[{ on := 0, ground := Ground.data }, { on := 1, ground := Ground.data }], guard := none }
@[reducible] def oqWOwn3 : Oper := { dst := some 107, op := Op.load 43 (Operand.tmp 106), type := 43, pos := "outright.go:212", after := #[{ on := 2, ground := Ground.data }], guard := none }
@[reducible] def oqWOwn4 : Oper := { dst := some 108, op := Op.load 43 (Operand.tmp 15), type := 43, pos := "outright.go:212", after := #[], guard := none }
@[reducible] def oqWOwn5 : Oper := { dst := some 109, op := Op.binOp BinOp.neq 43 (Operand.tmp 107) (Operand.tmp 108) 43, type := 4, pos := "outright.go:212", after := #[{ on := 3, ground := Ground.data }, { on := 4, ground := Ground.data }], guard := none }
@[reducible] def oqWOwn6 : Oper := { dst := some 110, op := Op.move (Operand.tmp 109), type := 4, pos := "outright.go:212", after := #[{ on := 5, ground := Ground.data }], guard := none }
@[reducible] def oqWOwn7 : Oper := { dst := some 111, op := Op.move (Operand.tmp 11), type := 44, pos := "outright.go:212", after := #[{ on := 6, ground := Ground.guard }], guard := some (6, false) }
@[reducible] def oqWOwn8 : Oper := { dst := some 112, op := Op.move (Operand.tmp 14), type := 3, pos := "outright.go:212", after := #[{ on := 6, ground := Ground.guard }], guard := some (6, false) }
@[reducible] def oqWOwn9 : Oper := { dst := some 113, op := Op.indexAddr 44 (Operand.tmp 111) (Operand.tmp 112), type := 0, pos := "outright.go:212", after := #[{ on := 7, ground := Ground.data }, { on := 8, ground := Ground.data }, { on := 6, ground := Ground.guard }], guard := some (6, false) }
@[reducible] def oqWOwn10 : Oper := { dst := some 114, op := Op.load 43 (Operand.tmp 113), type := 43, pos := "outright.go:212", after := #[{ on := 9, ground := Ground.data }, { on := 6, ground := Ground.guard }], guard := some (6, false) }
@[reducible] def oqWOwn11 : Oper := { dst := some 115, op := Op.load 43 (Operand.tmp 16), type := 43, pos := "outright.go:212", after := #[{ on := 6, ground := Ground.guard }], guard := some (6, false) }
@[reducible] def oqWOwn12 : Oper := { dst := some 116, op := Op.binOp BinOp.neq 43 (Operand.tmp 114) (Operand.tmp 115) 43, type := 4, pos := "outright.go:212", after := #[{ on := 10, ground := Ground.data }, { on := 11, ground := Ground.data }, { on := 6, ground := Ground.guard }], guard := some (6, false) }
@[reducible] def oqWOwn13 : Oper := { dst := some 117, op := Op.pick (Operand.tmp 110) (Operand.const (Value.bool true)) (Operand.tmp 116), type := 4, pos := "outright.go:212", after := #[{ on := 6, ground := Ground.data }, { on := 12, ground := Ground.data }], guard := none }

def SzL (n : Nat) (W : World) : Prop := n ≤ W.heap.size
theorem SzL.grow {S : Nat → Prop} {n : Nat} {W W' : World} (h : SzL n W) (hk : Kept S W W') : SzL n W' := Nat.le_trans h hk.size
theorem SzL.no {n : Nat} {W W' : World} (h : SzL n W) (hk : Kept No W W') : SzL n W' := h.grow hk
set_option maxRecDepth 100000 in
set_option maxHeartbeats 4000000 in
theorem ownWalk (h : Hd) (nn : Int) (bs : List Int) (es : List En) (ls : List La) (ps : List Pl) (w : World) (hh : HdAt w h bs es ls ps) : Calls Try.prog 3 #[.agg (Hd.cells h), .int .i64 nn] w (fun e w' => e = .returned (.bool true) ∧ Kept No w w') := by
  obtain ⟨C, hC⟩ : ∃ C : Ending → World → Prop, C = (fun e w' => e = .returned (.bool true) ∧ Kept No w w') := ⟨_, rfl⟩
  have HC : Hid (C = (fun e w' => e = .returned (.bool true) ∧ Kept No w w')) := hC
  rw [← hC]
  clear hC
  have HH : Hid (HdAt w h bs es ls ps) := hh
  have hLb : bs.length ≤ 140737488351232 ∧ es.length ≤ 3518437208780 ∧ ls.length ≤ 2513169434843 := ⟨by rw [hh.b.len]; exact hh.nb, by rw [hh.e.len]; exact hh.ne, by rw [hh.l.len]; exact hh.nl⟩
  have hvb : ((owA nn h bs es ls ps).b.length ≤ bs.length ∧ (owA nn h bs es ls ps).e.length ≤ es.length) ∧ (owA nn h bs es ls ps).l.length ≤ ls.length ∧ (owA nn h bs es ls ps).c.length ≤ 1048577 := hv_b (ownQ nn) h bs es ls ps
  have hAb : (owA nn h bs es ls ps).b = [] := own_b nn h bs es ls ps
  have HOh : Hid (HdOff (fun k => w.heap.size ≤ k) h bs es ls ps) := HdOff.start hh (fun k e => e)
  clear hh
  obtain ⟨w0s, hw0⟩ : ∃ x, w.heap.size = x := ⟨_, rfl⟩
  rw [hw0] at HOh
  have HW0 : Hid (w.heap.size = w0s) := hw0
  clear hw0
  have HF : Hid (Fr No w w []) := Fr.start _ _
  go_enter Try.func3, Try.ntmps3
  go_upto_region 0 with fail
  refine WL.start ?_
  refine wp_runW (.pointer (some ⟨w.heap.size, 0, none⟩)) (w.alloc (.cells (Hd.cells h) 33)) (exec_box 33 _ rfl (Hd.cells h) (by kernel_rfl)) (by kernel_rfl) ?_
  try simp only [pS]
  have HF : Hid (Fr No w _ [(w.heap.size, 33, Hd.cells h)]) := HF.out.alloc _ _
  generalize w.alloc (.cells (Hd.cells h) 33) = wk2 at HF ⊢
  generalize w.heap.size = gk1 at HF ⊢
  refine tK (.bool false) ?_
  try simp only [pS]
  refine WL.nil ?_
  try simp only [pS]
  go_upto_region 1 with fail
  refine WL.start ?_
  refine wp_callW 4 #[] (by kernel_rfl) _ (known_any _) (by kernel_rfl) ?_
  rintro e wk3 ⟨rfl, hk⟩
  have HF : Hid (Fr No w (wk3) [(gk1, 33, Hd.cells h)]) := HF.out.no hk
  clear hk
  refine ⟨.bool true, rfl, ?_⟩
  try simp only [pS]
  refine tK (.bool false) ?_
  try simp only [pS]
  refine tK (.bool false) ?_
  try simp only [pS]
  refine tW (.agg (Hd.cells h)) (eL 33 _ rfl ⟨gk1, 0, none⟩ (run_load_part (cs := Hd.cs h) (sub := Hd.cs h) (HF.out.box 0 _ _ _ rfl) (Part.all _) Try.und35 rfl Try.size35)) ?_
  try simp only [pS]
  refine wp_callW 5 #[.agg (Hd.cells h)] (by kernel_rfl) _ (may_any h bs es ls ps _ (HH.out.no HF.out.kept)) (by kernel_rfl) ?_
  rintro e wk4 ⟨b, rfl, hb, hk⟩
  have HF : Hid (Fr No w (wk4) [(gk1, 33, Hd.cells h)]) := HF.out.no hk
  clear hk
  refine ⟨.bool b, rfl, ?_⟩
  try simp only [pS]
  cases q1 : (b)
  ·skip
   try simp only [q1]
   refine tK (.bool true) ?_
   try simp only [pS]
   refine tK (.bool true) ?_
   try simp only [pS]
   refine WL.nil ?_
   try simp only [pS]
   go_upto_region 2 with fail
   refine WL.start ?_
   refine wp_callW 4 #[] (by kernel_rfl) _ (known_any _) (by kernel_rfl) ?_
   rintro e wk5 ⟨rfl, hk⟩
   have HF : Hid (Fr No w (wk5) [(gk1, 33, Hd.cells h)]) := HF.out.no hk
   clear hk
   refine ⟨.bool true, rfl, ?_⟩
   try simp only [pS]
   refine tK (.bool true) ?_
   try simp only [pS]
   refine WL.nil ?_
   try simp only [pS]
   go_wp2
   rw [HC.out]
   exact ⟨rfl, HF.out.kept⟩
  ·skip
   try simp only [q1]
   refine tK (.bool false) ?_
   try simp only [pS]
   refine tK (.bool false) ?_
   try simp only [pS]
   refine WL.nil ?_
   try simp only [pS]
   have HM : Hid (MayP h ps) := hb (by simpa using q1)
   clear hb
   go_upto_region 3 with fail
   refine WL.start ?_
   refine tW (.agg (Ad.cells ⟨false, 1⟩)) (exec_build 37 _ rfl (Ad.cells ⟨false, 1⟩) (by kernel_rfl)) ?_
   try simp only [pS]
   refine tW (.agg (Ad.cells ⟨false, 2⟩)) (exec_build 37 _ rfl (Ad.cells ⟨false, 2⟩) (by kernel_rfl)) ?_
   try simp only [pS]
   refine tW (.agg (Ky.cells ⟨2, 0, 0, 0⟩)) (exec_build 39 _ rfl (Ky.cells ⟨2, 0, 0, 0⟩) (by kernel_rfl)) ?_
   try simp only [pS]
   refine tK (.int .i64 nn) ?_
   try simp only [pS]
   refine tW (.agg (Sp.cells ⟨nn, 0⟩)) (exec_build 23 _ rfl (Sp.cells ⟨nn, 0⟩) (by kernel_rfl)) ?_
   try simp only [pS]
   refine tW (.agg (Mg.cells ⟨21, ⟨false, 1⟩, ⟨false, 2⟩, 0, 0, ⟨2, 0, 0, 0⟩, ⟨nn, 0⟩, spZ, slZ, cZ, bvZ, slZ, false⟩)) (exec_build 46 _ rfl (Mg.cells ⟨21, ⟨false, 1⟩, ⟨false, 2⟩, 0, 0, ⟨2, 0, 0, 0⟩, ⟨nn, 0⟩, spZ, slZ, cZ, bvZ, slZ, false⟩) (by kernel_rfl)) ?_
   try simp only [pS]
   refine wp_runW (.pointer (some ⟨wk4.heap.size, 0, none⟩)) (wk4.alloc (.cells (Mg.cells mgZ) 46)) (exec_alloc 46 rfl (Mg.cells mgZ) zero50) (by kernel_rfl) ?_
   try simp only [pS]
   have HF : Hid (Fr No w _ [(gk1, 33, Hd.cells h), (wk4.heap.size, 46, Mg.cells mgZ)]) := HF.out.alloc _ _
   generalize wk4.alloc (.cells (Mg.cells mgZ) 46) = wk7 at HF ⊢
   generalize wk4.heap.size = gk6 at HF ⊢
   refine wp_storeW 46 _ _ rfl ⟨gk6, 0, none⟩ (.agg (Mg.cells ⟨21, ⟨false, 1⟩, ⟨false, 2⟩, 0, 0, ⟨2, 0, 0, 0⟩, ⟨nn, 0⟩, spZ, slZ, cZ, bvZ, slZ, false⟩)) (by kernel_rfl) (by kernel_rfl) (wk7.setRow gk6 (Mg.cells ⟨21, ⟨false, 1⟩, ⟨false, 2⟩, 0, 0, ⟨2, 0, 0, 0⟩, ⟨nn, 0⟩, spZ, slZ, cZ, bvZ, slZ, false⟩)) (run_store_to (cur := Mg.cs mgZ) (vs := Mg.cs ⟨21, ⟨false, 1⟩, ⟨false, 2⟩, 0, 0, ⟨2, 0, 0, 0⟩, ⟨nn, 0⟩, spZ, slZ, cZ, bvZ, slZ, false⟩) (new := Mg.cs ⟨21, ⟨false, 1⟩, ⟨false, 2⟩, 0, 0, ⟨2, 0, 0, 0⟩, ⟨nn, 0⟩, spZ, slZ, cZ, bvZ, slZ, false⟩) (HF.out.box 1 _ _ _ rfl) (by kernel_rfl) Try.size50 (Nat.le_of_ble_eq_true (by kernel_rfl)) (Mg.oneL _) (by kernel_rfl)) (by kernel_rfl) ?_
   try simp only [pS]
   have HF : Hid (Fr No w _ [(gk1, 33, Hd.cells h), (gk6, 46, Mg.cells ⟨21, ⟨false, 1⟩, ⟨false, 2⟩, 0, 0, ⟨2, 0, 0, 0⟩, ⟨nn, 0⟩, spZ, slZ, cZ, bvZ, slZ, false⟩)]) := HF.out.set 1 rfl _
   generalize wk7.setRow gk6 (Mg.cells ⟨21, ⟨false, 1⟩, ⟨false, 2⟩, 0, 0, ⟨2, 0, 0, 0⟩, ⟨nn, 0⟩, spZ, slZ, cZ, bvZ, slZ, false⟩) = wk8 at HF ⊢
   refine WL.nil ?_
   try simp only [pS]
   have HF : Hid (Fr No w (wk8) [(gk1, 33, Hd.cells h), (gk6, 46, Mg.cells (ownQ nn))]) := HF
   have HK0 : Hid (Kept No wk8 wk8) := Kept.refl _ _
   obtain ⟨s0, hs0⟩ : ∃ n, wk8.heap.size = n := ⟨_, rfl⟩
   have HS0 : Hid (wk8.heap.size = s0) := hs0
   clear hs0
   go_upto_region 4 with fail
   refine WL.start ?_
   refine tW (.agg (Hd.cells h)) (eL 33 _ rfl ⟨gk1, 0, none⟩ (run_load_part (cs := Hd.cs h) (sub := Hd.cs h) (HF.out.box 0 _ _ _ rfl) (Part.all _) Try.und35 rfl Try.size35)) ?_
   try simp only [pS]
   refine wp_callW 6 #[.agg (Hd.cells h)] (by kernel_rfl) _ (lend_any h bs es ls ps _ (HH.out.no HF.out.kept)) (by kernel_rfl) ?_
   have hbb : w0s ≤ wk8.heap.size := by rw [← HW0.out]; exact HF.out.kept.size
   rintro e wk9 ⟨gb, ge, gl, gp, rfl, hT, hk⟩
   have HK0 : Hid (Kept No wk8 (wk9)) := HK0.out.no hk
   have HF : Hid (Fr No w (wk9) [(gk1, 33, Hd.cells h), (gk6, 46, Mg.cells (ownQ nn))]) := HF.out.no hk
   have HT6 : Hid (LtAt wk9 wk8.heap.size h bs es ls ps gb ge gl gp) := hT
   clear hk hT
   generalize wk8.heap.size = bb at hbb HT6
   have HK1 : Hid (Kept No wk9 wk9) := Kept.refl _ _
   obtain ⟨s1, hs1⟩ : ∃ n, wk9.heap.size = n := ⟨_, rfl⟩
   have HS1 : Hid (wk9.heap.size = s1) := hs1
   clear hs1
   refine ⟨.agg (Hd.cells (lentH h gb ge gl gp)), rfl, ?_⟩
   try simp only [pS]
   refine wp_runW (.pointer (some ⟨wk9.heap.size, 0, none⟩)) (wk9.alloc (.cells (Hd.cells hdZ) 49)) (exec_alloc 49 rfl (Hd.cells hdZ) zero40) (by kernel_rfl) ?_
   try simp only [pS]
   have hx0_gk10 : s0 ≤ wk9.heap.size := by rw [← HS0.out]; exact HK0.out.size
   have hx1_gk10 : s1 ≤ wk9.heap.size := by rw [← HS1.out]; exact HK1.out.size
   have HK0 : Hid (Kept No wk8 (wk9.alloc (.cells (Hd.cells hdZ) 49))) := HK0.out.no ((Kept.refl No _).alloc _)
   have HK1 : Hid (Kept No wk9 (wk9.alloc (.cells (Hd.cells hdZ) 49))) := HK1.out.no ((Kept.refl No _).alloc _)
   have HF : Hid (Fr No w _ [(gk1, 33, Hd.cells h), (gk6, 46, Mg.cells (ownQ nn)), (wk9.heap.size, 49, Hd.cells hdZ)]) := HF.out.alloc _ _
   generalize wk9.alloc (.cells (Hd.cells hdZ) 49) = wk11 at HF HK0 HK1 ⊢
   generalize wk9.heap.size = gk10 at HF hx0_gk10 hx1_gk10 ⊢
   refine wp_storeW 49 _ _ rfl ⟨gk10, 0, none⟩ (.agg (Hd.cells (lentH h gb ge gl gp))) (by kernel_rfl) (by kernel_rfl) (wk11.setRow gk10 (Hd.cells (lentH h gb ge gl gp))) (run_store_to (cur := Hd.cs hdZ) (vs := Hd.cs (lentH h gb ge gl gp)) (new := Hd.cs (lentH h gb ge gl gp)) (HF.out.box 2 _ _ _ rfl) (by kernel_rfl) Try.size40 (Nat.le_of_ble_eq_true (by kernel_rfl)) (Hd.oneL _) (by kernel_rfl)) (by kernel_rfl) ?_
   try simp only [pS]
   have HK0 : Hid (Kept No wk8 (wk11.setRow gk10 (Hd.cells (lentH h gb ge gl gp)))) := HK0.out.newRow (by rw [HS0.out]; exact hx0_gk10) _
   have HK1 : Hid (Kept No wk9 (wk11.setRow gk10 (Hd.cells (lentH h gb ge gl gp)))) := HK1.out.newRow (by rw [HS1.out]; exact hx1_gk10) _
   have HF : Hid (Fr No w _ [(gk1, 33, Hd.cells h), (gk6, 46, Mg.cells (ownQ nn)), (gk10, 49, Hd.cells (lentH h gb ge gl gp))]) := HF.out.set 2 rfl _
   generalize wk11.setRow gk10 (Hd.cells (lentH h gb ge gl gp)) = wk12 at HF HK0 HK1 ⊢
   refine WL.nil ?_
   try simp only [pS]
   have HT : Hid (LtAt wk12 bb h bs es ls ps gb ge gl gp) := HT6.out.no HK1.out
   clear  HT6 HK1 HS1 HK0 HS0 hx0_gk10 hx1_gk10
   have HTs : Hid (LtAt wk12 bb h bs es ls ps gb ge gl gp) := HT
   clear HT
   have HK0 : Hid (Kept No wk12 wk12) := Kept.refl _ _
   obtain ⟨s0, hs0⟩ : ∃ n, wk12.heap.size = n := ⟨_, rfl⟩
   have HS0 : Hid (wk12.heap.size = s0) := hs0
   clear hs0
   go_upto_region 5 with fail
   refine WL.start ?_
   refine tW (.agg (Mg.cells (ownQ nn))) (eL 46 _ rfl ⟨gk6, 0, none⟩ (run_load_part (cs := Mg.cs (ownQ nn)) (sub := Mg.cs (ownQ nn)) (HF.out.box 1 _ _ _ rfl) (Part.all _) Try.und50 rfl Try.size50)) ?_
   try simp only [pS]
   refine tW (.agg (Hd.cells (lentH h gb ge gl gp))) (eL 49 _ rfl ⟨gk10, 0, none⟩ (run_load_part (cs := Hd.cs (lentH h gb ge gl gp)) (sub := Hd.cs (lentH h gb ge gl gp)) (HF.out.box 2 _ _ _ rfl) (Part.all _) Try.und40 rfl Try.size40)) ?_
   try simp only [pS]
   refine wp_callW 7 #[.agg (Mg.cells (ownQ nn)), .agg (Hd.cells (lentH h gb ge gl gp))] (by kernel_rfl) _ (have_own (ownQ nn) h bs es ls ps gb ge gl gp bb _ (HH.out.no HF.out.kept) (HTs.out.no HK0.out) HM.out rfl) (by kernel_rfl) ?_
   have hba0 : w0s ≤ wk12.heap.size := by rw [← HW0.out]; exact HF.out.kept.size
   have hgd : ∀ k, LS gb ge gl gp k → k < wk12.heap.size := (HTs.out.no HK0.out).lt
   rintro e wk13 ⟨a, rfl, hm, ho, hk⟩
   have HK0 : Hid (Kept No wk12 (wk13)) := HK0.out.no hk
   have HF : Hid (Fr No w (wk13) [(gk1, 33, Hd.cells h), (gk6, 46, Mg.cells (ownQ nn)), (gk10, 49, Hd.cells (lentH h gb ge gl gp))]) := HF.out.no hk
   have HLa6 : Hid (SzL wk12.heap.size wk13) := hk.size
   have HRa6 : Hid (MgRd wk13 a (owA nn h bs es ls ps)) := hm
   have HOa6 : Hid (MgOw wk13 wk12.heap.size a (owA nn h bs es ls ps)) := ho
   clear hk hm ho
   generalize wk12.heap.size = ba at hba0 hgd HOa6 HLa6
   have HK1 : Hid (Kept No wk13 wk13) := Kept.refl _ _
   obtain ⟨s1, hs1⟩ : ∃ n, wk13.heap.size = n := ⟨_, rfl⟩
   have HS1 : Hid (wk13.heap.size = s1) := hs1
   clear hs1
   refine ⟨.agg (Mg.cells a), rfl, ?_⟩
   try simp only [pS]
   refine wp_runW (.pointer (some ⟨wk13.heap.size, 0, none⟩)) (wk13.alloc (.cells (Mg.cells mgZ) 46)) (exec_alloc 46 rfl (Mg.cells mgZ) zero50) (by kernel_rfl) ?_
   try simp only [pS]
   have hx0_gk14 : s0 ≤ wk13.heap.size := by rw [← HS0.out]; exact HK0.out.size
   have hx1_gk14 : s1 ≤ wk13.heap.size := by rw [← HS1.out]; exact HK1.out.size
   have HK0 : Hid (Kept No wk12 (wk13.alloc (.cells (Mg.cells mgZ) 46))) := HK0.out.no ((Kept.refl No _).alloc _)
   have HK1 : Hid (Kept No wk13 (wk13.alloc (.cells (Mg.cells mgZ) 46))) := HK1.out.no ((Kept.refl No _).alloc _)
   have HF : Hid (Fr No w _ [(gk1, 33, Hd.cells h), (gk6, 46, Mg.cells (ownQ nn)), (gk10, 49, Hd.cells (lentH h gb ge gl gp)), (wk13.heap.size, 46, Mg.cells mgZ)]) := HF.out.alloc _ _
   generalize wk13.alloc (.cells (Mg.cells mgZ) 46) = wk15 at HF HK0 HK1 ⊢
   generalize wk13.heap.size = gk14 at HF hx0_gk14 hx1_gk14 ⊢
   refine wp_storeW 46 _ _ rfl ⟨gk14, 0, none⟩ (.agg (Mg.cells a)) (by kernel_rfl) (by kernel_rfl) (wk15.setRow gk14 (Mg.cells a)) (run_store_to (cur := Mg.cs mgZ) (vs := Mg.cs a) (new := Mg.cs a) (HF.out.box 3 _ _ _ rfl) (by kernel_rfl) Try.size50 (Nat.le_of_ble_eq_true (by kernel_rfl)) (Mg.oneL _) (by kernel_rfl)) (by kernel_rfl) ?_
   try simp only [pS]
   have HK0 : Hid (Kept No wk12 (wk15.setRow gk14 (Mg.cells a))) := HK0.out.newRow (by rw [HS0.out]; exact hx0_gk14) _
   have HK1 : Hid (Kept No wk13 (wk15.setRow gk14 (Mg.cells a))) := HK1.out.newRow (by rw [HS1.out]; exact hx1_gk14) _
   have HF : Hid (Fr No w _ [(gk1, 33, Hd.cells h), (gk6, 46, Mg.cells (ownQ nn)), (gk10, 49, Hd.cells (lentH h gb ge gl gp)), (gk14, 46, Mg.cells a)]) := HF.out.set 3 rfl _
   generalize wk15.setRow gk14 (Mg.cells a) = wk16 at HF HK0 HK1 ⊢
   refine WL.nil ?_
   try simp only [pS]
   have HT : Hid (LtAt wk16 bb h bs es ls ps gb ge gl gp) := HTs.out.no HK0.out
   have HRa : Hid (MgRd wk16 a (owA nn h bs es ls ps)) := HRa6.out.no HK1.out
   have HOa : Hid (MgOw wk16 ba a (owA nn h bs es ls ps)) := HOa6.out.no HK1.out
   have HLa : Hid (SzL ba wk16) := HLa6.out.no HK1.out
   clear HTs HRa6 HOa6 HLa6 HK1 HS1 HK0 HS0 hx0_gk14 hx1_gk14
   have HTs : Hid (LtAt wk16 bb h bs es ls ps gb ge gl gp) := HT
   clear HT
   have HRas : Hid (MgRd wk16 a (owA nn h bs es ls ps)) := HRa
   clear HRa
   have HOas : Hid (MgOw wk16 ba a (owA nn h bs es ls ps)) := HOa
   clear HOa
   have HLas : Hid (SzL ba wk16) := HLa
   clear HLa
   have HK0 : Hid (Kept No wk16 wk16) := Kept.refl _ _
   obtain ⟨s0, hs0⟩ : ∃ n, wk16.heap.size = n := ⟨_, rfl⟩
   have HS0 : Hid (wk16.heap.size = s0) := hs0
   clear hs0
   go_upto_region 6 with fail
   refine WL.start ?_
   refine tW (.agg (Mg.cells (ownQ nn))) (eL 46 _ rfl ⟨gk6, 0, none⟩ (run_load_part (cs := Mg.cs (ownQ nn)) (sub := Mg.cs (ownQ nn)) (HF.out.box 1 _ _ _ rfl) (Part.all _) Try.und50 rfl Try.size50)) ?_
   try simp only [pS]
   refine tW (.agg (Hd.cells (lentH h gb ge gl gp))) (eL 49 _ rfl ⟨gk10, 0, none⟩ (run_load_part (cs := Hd.cs (lentH h gb ge gl gp)) (sub := Hd.cs (lentH h gb ge gl gp)) (HF.out.box 2 _ _ _ rfl) (Part.all _) Try.und40 rfl Try.size40)) ?_
   try simp only [pS]
   refine wp_callW 7 #[.agg (Mg.cells (ownQ nn)), .agg (Hd.cells (lentH h gb ge gl gp))] (by kernel_rfl) _ (have_own (ownQ nn) h bs es ls ps gb ge gl gp bb _ (HH.out.no HF.out.kept) (HTs.out.no HK0.out) HM.out rfl) (by kernel_rfl) ?_
   have hb20 : w0s ≤ wk16.heap.size := by rw [← HW0.out]; exact HF.out.kept.size
   have hab : ∀ k, MS a k → k < wk16.heap.size := fun k e => (HOas.out.no HK0.out).lt e
   have hba2 : ba ≤ wk16.heap.size := (HLas.out.no HK0.out)
   rintro e wk17 ⟨b, rfl, hm, ho, hk⟩
   have HK0 : Hid (Kept No wk16 (wk17)) := HK0.out.no hk
   have HF : Hid (Fr No w (wk17) [(gk1, 33, Hd.cells h), (gk6, 46, Mg.cells (ownQ nn)), (gk10, 49, Hd.cells (lentH h gb ge gl gp)), (gk14, 46, Mg.cells a)]) := HF.out.no hk
   have HLb6 : Hid (SzL wk16.heap.size wk17) := hk.size
   have HRb6 : Hid (MgRd wk17 b (owA nn h bs es ls ps)) := hm
   have HOb6 : Hid (MgOw wk17 wk16.heap.size b (owA nn h bs es ls ps)) := ho
   clear hk hm ho
   generalize wk16.heap.size = b2 at hb20 hab hba2 HOb6 HLb6
   have HK1 : Hid (Kept No wk17 wk17) := Kept.refl _ _
   obtain ⟨s1, hs1⟩ : ∃ n, wk17.heap.size = n := ⟨_, rfl⟩
   have HS1 : Hid (wk17.heap.size = s1) := hs1
   clear hs1
   refine ⟨.agg (Mg.cells b), rfl, ?_⟩
   try simp only [pS]
   refine wp_runW (.pointer (some ⟨wk17.heap.size, 0, none⟩)) (wk17.alloc (.cells (Mg.cells mgZ) 46)) (exec_alloc 46 rfl (Mg.cells mgZ) zero50) (by kernel_rfl) ?_
   try simp only [pS]
   have hx0_gk18 : s0 ≤ wk17.heap.size := by rw [← HS0.out]; exact HK0.out.size
   have hx1_gk18 : s1 ≤ wk17.heap.size := by rw [← HS1.out]; exact HK1.out.size
   have HK0 : Hid (Kept No wk16 (wk17.alloc (.cells (Mg.cells mgZ) 46))) := HK0.out.no ((Kept.refl No _).alloc _)
   have HK1 : Hid (Kept No wk17 (wk17.alloc (.cells (Mg.cells mgZ) 46))) := HK1.out.no ((Kept.refl No _).alloc _)
   have HF : Hid (Fr No w _ [(gk1, 33, Hd.cells h), (gk6, 46, Mg.cells (ownQ nn)), (gk10, 49, Hd.cells (lentH h gb ge gl gp)), (gk14, 46, Mg.cells a), (wk17.heap.size, 46, Mg.cells mgZ)]) := HF.out.alloc _ _
   generalize wk17.alloc (.cells (Mg.cells mgZ) 46) = wk19 at HF HK0 HK1 ⊢
   generalize wk17.heap.size = gk18 at HF hx0_gk18 hx1_gk18 ⊢
   refine wp_storeW 46 _ _ rfl ⟨gk18, 0, none⟩ (.agg (Mg.cells b)) (by kernel_rfl) (by kernel_rfl) (wk19.setRow gk18 (Mg.cells b)) (run_store_to (cur := Mg.cs mgZ) (vs := Mg.cs b) (new := Mg.cs b) (HF.out.box 4 _ _ _ rfl) (by kernel_rfl) Try.size50 (Nat.le_of_ble_eq_true (by kernel_rfl)) (Mg.oneL _) (by kernel_rfl)) (by kernel_rfl) ?_
   try simp only [pS]
   have HK0 : Hid (Kept No wk16 (wk19.setRow gk18 (Mg.cells b))) := HK0.out.newRow (by rw [HS0.out]; exact hx0_gk18) _
   have HK1 : Hid (Kept No wk17 (wk19.setRow gk18 (Mg.cells b))) := HK1.out.newRow (by rw [HS1.out]; exact hx1_gk18) _
   have HF : Hid (Fr No w _ [(gk1, 33, Hd.cells h), (gk6, 46, Mg.cells (ownQ nn)), (gk10, 49, Hd.cells (lentH h gb ge gl gp)), (gk14, 46, Mg.cells a), (gk18, 46, Mg.cells b)]) := HF.out.set 4 rfl _
   generalize wk19.setRow gk18 (Mg.cells b) = wk20 at HF HK0 HK1 ⊢
   refine WL.nil ?_
   try simp only [pS]
   have HT : Hid (LtAt wk20 bb h bs es ls ps gb ge gl gp) := HTs.out.no HK0.out
   have HRa : Hid (MgRd wk20 a (owA nn h bs es ls ps)) := HRas.out.no HK0.out
   have HOa : Hid (MgOw wk20 ba a (owA nn h bs es ls ps)) := HOas.out.no HK0.out
   have HLa : Hid (SzL ba wk20) := HLas.out.no HK0.out
   have HRb : Hid (MgRd wk20 b (owA nn h bs es ls ps)) := HRb6.out.no HK1.out
   have HOb : Hid (MgOw wk20 b2 b (owA nn h bs es ls ps)) := HOb6.out.no HK1.out
   have HLb : Hid (SzL b2 wk20) := HLb6.out.no HK1.out
   clear HTs HRas HOas HLas HRb6 HOb6 HLb6 HK1 HS1 HK0 HS0 hx0_gk18 hx1_gk18
   have HTs : Hid (LtAt wk20 bb h bs es ls ps gb ge gl gp) := HT
   clear HT
   have HRas : Hid (MgRd wk20 a (owA nn h bs es ls ps)) := HRa
   clear HRa
   have HOas : Hid (MgOw wk20 ba a (owA nn h bs es ls ps)) := HOa
   clear HOa
   have HLas : Hid (SzL ba wk20) := HLa
   clear HLa
   have HRbs : Hid (MgRd wk20 b (owA nn h bs es ls ps)) := HRb
   clear HRb
   have HObs : Hid (MgOw wk20 b2 b (owA nn h bs es ls ps)) := HOb
   clear HOb
   have HLbs : Hid (SzL b2 wk20) := HLb
   clear HLb
   have HK0 : Hid (Kept No wk20 wk20) := Kept.refl _ _
   obtain ⟨s0, hs0⟩ : ∃ n, wk20.heap.size = n := ⟨_, rfl⟩
   have HS0 : Hid (wk20.heap.size = s0) := hs0
   clear hs0
   go_upto_region 7 with fail
   refine WL.start ?_
   refine tW (.agg (Mg.cells (ownQ nn))) (eL 46 _ rfl ⟨gk6, 0, none⟩ (run_load_part (cs := Mg.cs (ownQ nn)) (sub := Mg.cs (ownQ nn)) (HF.out.box 1 _ _ _ rfl) (Part.all _) Try.und50 rfl Try.size50)) ?_
   try simp only [pS]
   refine tW (.agg (Hd.cells h)) (eL 33 _ rfl ⟨gk1, 0, none⟩ (run_load_part (cs := Hd.cs h) (sub := Hd.cs h) (HF.out.box 0 _ _ _ rfl) (Part.all _) Try.und35 rfl Try.size35)) ?_
   try simp only [pS]
   refine wp_callW 8 #[.agg (Mg.cells (ownQ nn)), .agg (Hd.cells h)] (by kernel_rfl) _ (refHave_loc w0s (ownQ nn) h bs es ls ps _ (HH.out.no HF.out.kept) HM.out HOh.out rfl) (by kernel_rfl) ?_
   have hb2w : ∀ k, MS b k → k < wk20.heap.size := fun k e => (HObs.out.no HK0.out).lt e
   have hb2b : b2 ≤ wk20.heap.size := (HLbs.out.no HK0.out)
   rintro e wk21 ⟨m, rfl, hm, ho, hk⟩
   have HK0 : Hid (Kept No wk20 (wk21)) := HK0.out.no hk
   have HF : Hid (Fr No w (wk21) [(gk1, 33, Hd.cells h), (gk6, 46, Mg.cells (ownQ nn)), (gk10, 49, Hd.cells (lentH h gb ge gl gp)), (gk14, 46, Mg.cells a), (gk18, 46, Mg.cells b)]) := HF.out.no hk
   have hbt : wk20.heap.size ≤ wk21.heap.size := hk.size
   have HRm6 : Hid (MgRd wk21 m (owA nn h bs es ls ps)) := hm
   have HWo : Hid (MgOff (fun k => w0s ≤ k ∧ (k < wk20.heap.size ∨ wk21.heap.size ≤ k)) m (owA nn h bs es ls ps)) := ho
   clear hk hm ho
   obtain ⟨tw, htw⟩ : ∃ x, wk21.heap.size = x := ⟨_, rfl⟩
   rw [htw] at HWo hbt
   have HLt6 : Hid (SzL tw wk21) := Nat.le_of_eq htw.symm
   clear htw
   generalize wk20.heap.size = bw at hb2w hb2b HWo hbt
   have HK1 : Hid (Kept No wk21 wk21) := Kept.refl _ _
   obtain ⟨s1, hs1⟩ : ∃ n, wk21.heap.size = n := ⟨_, rfl⟩
   have HS1 : Hid (wk21.heap.size = s1) := hs1
   clear hs1
   refine ⟨.agg (Mg.cells m), rfl, ?_⟩
   try simp only [pS]
   refine wp_runW (.pointer (some ⟨wk21.heap.size, 0, none⟩)) (wk21.alloc (.cells (Mg.cells mgZ) 46)) (exec_alloc 46 rfl (Mg.cells mgZ) zero50) (by kernel_rfl) ?_
   try simp only [pS]
   have hx0_gk22 : s0 ≤ wk21.heap.size := by rw [← HS0.out]; exact HK0.out.size
   have hx1_gk22 : s1 ≤ wk21.heap.size := by rw [← HS1.out]; exact HK1.out.size
   have HK0 : Hid (Kept No wk20 (wk21.alloc (.cells (Mg.cells mgZ) 46))) := HK0.out.no ((Kept.refl No _).alloc _)
   have HK1 : Hid (Kept No wk21 (wk21.alloc (.cells (Mg.cells mgZ) 46))) := HK1.out.no ((Kept.refl No _).alloc _)
   have HF : Hid (Fr No w _ [(gk1, 33, Hd.cells h), (gk6, 46, Mg.cells (ownQ nn)), (gk10, 49, Hd.cells (lentH h gb ge gl gp)), (gk14, 46, Mg.cells a), (gk18, 46, Mg.cells b), (wk21.heap.size, 46, Mg.cells mgZ)]) := HF.out.alloc _ _
   generalize wk21.alloc (.cells (Mg.cells mgZ) 46) = wk23 at HF HK0 HK1 ⊢
   generalize wk21.heap.size = gk22 at HF hx0_gk22 hx1_gk22 ⊢
   refine wp_storeW 46 _ _ rfl ⟨gk22, 0, none⟩ (.agg (Mg.cells m)) (by kernel_rfl) (by kernel_rfl) (wk23.setRow gk22 (Mg.cells m)) (run_store_to (cur := Mg.cs mgZ) (vs := Mg.cs m) (new := Mg.cs m) (HF.out.box 5 _ _ _ rfl) (by kernel_rfl) Try.size50 (Nat.le_of_ble_eq_true (by kernel_rfl)) (Mg.oneL _) (by kernel_rfl)) (by kernel_rfl) ?_
   try simp only [pS]
   have HK0 : Hid (Kept No wk20 (wk23.setRow gk22 (Mg.cells m))) := HK0.out.newRow (by rw [HS0.out]; exact hx0_gk22) _
   have HK1 : Hid (Kept No wk21 (wk23.setRow gk22 (Mg.cells m))) := HK1.out.newRow (by rw [HS1.out]; exact hx1_gk22) _
   have HF : Hid (Fr No w _ [(gk1, 33, Hd.cells h), (gk6, 46, Mg.cells (ownQ nn)), (gk10, 49, Hd.cells (lentH h gb ge gl gp)), (gk14, 46, Mg.cells a), (gk18, 46, Mg.cells b), (gk22, 46, Mg.cells m)]) := HF.out.set 5 rfl _
   generalize wk23.setRow gk22 (Mg.cells m) = wk24 at HF HK0 HK1 ⊢
   refine WL.nil ?_
   try simp only [pS]
   have HT : Hid (LtAt wk24 bb h bs es ls ps gb ge gl gp) := HTs.out.no HK0.out
   have HRa : Hid (MgRd wk24 a (owA nn h bs es ls ps)) := HRas.out.no HK0.out
   have HOa : Hid (MgOw wk24 ba a (owA nn h bs es ls ps)) := HOas.out.no HK0.out
   have HLa : Hid (SzL ba wk24) := HLas.out.no HK0.out
   have HRb : Hid (MgRd wk24 b (owA nn h bs es ls ps)) := HRbs.out.no HK0.out
   have HOb : Hid (MgOw wk24 b2 b (owA nn h bs es ls ps)) := HObs.out.no HK0.out
   have HLb : Hid (SzL b2 wk24) := HLbs.out.no HK0.out
   have HRm : Hid (MgRd wk24 m (owA nn h bs es ls ps)) := HRm6.out.no HK1.out
   have HLt : Hid (SzL tw wk24) := HLt6.out.no HK1.out
   clear HTs HRas HOas HLas HRbs HObs HLbs HRm6 HLt6 HK1 HS1 HK0 HS0 hx0_gk22 hx1_gk22
   clear HLa HLb
   have hmk : (m.ky.k == 1) = false := by have e9 : (scal m).ky = (owA nn h bs es ls ps).m.ky := congrArg Mg.ky HRm.out.s; rw [show m.ky = (scal m).ky from rfl, e9]; exact own_k1 nn h bs es ls ps
   have hLn : (owT nn m h bs es ls ps).z.length ≤ 4000000000000 ∧ (owT nn m h bs es ls ps).e.length ≤ 4000000000000 ∧ (owT nn m h bs es ls ps).l.length ≤ 4000000000000 := tk_len m hdZ (owA nn h bs es ls ps).b (owA nn h bs es ls ps).e (owA nn h bs es ls ps).l (owA nn h bs es ls ps).c [] (by rw [← HRm.out.c.len]; omega) (by omega) (by omega)
   have hbla : a.bl.l = 0 := by have h9 := HOa.out.b.len; rw [hAb] at h9; exact h9.symm
   have hna : a.bk.e.l ≤ 4000000000000 ∧ a.bk.l.l ≤ 4000000000000 ∧ a.cm.l ≤ 4000000000000 := ⟨by rw [← HOa.out.e.len]; omega, by rw [← HOa.out.l.len]; omega, by rw [← HOa.out.c.len]; omega⟩
   have hblb : b.bl.l = 0 := by have h9 := HOb.out.b.len; rw [hAb] at h9; exact h9.symm
   have hnb : b.bk.e.l ≤ 4000000000000 ∧ b.bk.l.l ≤ 4000000000000 ∧ b.cm.l ≤ 4000000000000 := ⟨by rw [← HOb.out.e.len]; omega, by rw [← HOb.out.l.len]; omega, by rw [← HOb.out.c.len]; omega⟩
   have hcma : a.cm.l ≤ 1048577 := by rw [← HOa.out.c.len]; omega
   have hcmb : b.cm.l ≤ 1048577 := by rw [← HOb.out.c.len]; omega
   have hcl : a.cm.l = b.cm.l := by rw [← HOa.out.c.len, ← HOb.out.c.len]
   go_upto_region 8 with fail
   refine WL.start ?_
   refine tW (.agg (Mg.cells a)) (eL 46 _ rfl ⟨gk14, 0, none⟩ (run_load_part (cs := Mg.cs a) (sub := Mg.cs a) (HF.out.box 3 _ _ _ rfl) (Part.all _) Try.und50 rfl Try.size50)) ?_
   try simp only [pS]
   refine tW (.agg (Mg.cells m)) (eL 46 _ rfl ⟨gk22, 0, none⟩ (run_load_part (cs := Mg.cs m) (sub := Mg.cs m) (HF.out.box 5 _ _ _ rfl) (Part.all _) Try.und50 rfl Try.size50)) ?_
   try simp only [pS]
   refine wp_callW 9 #[.agg (Mg.cells a), .agg (Mg.cells m)] (by kernel_rfl) _ (sameM2 a m (owA nn h bs es ls ps) _ HRa.out HRm.out (hv_len (ownQ nn) h bs es ls ps (by omega) (by omega)).1 (hv_len (ownQ nn) h bs es ls ps (by omega) (by omega)).2.1 (hv_len (ownQ nn) h bs es ls ps (by omega) (by omega)).2.2) (by kernel_rfl) ?_
   rintro e wk25 ⟨rfl, hk⟩
   have HT : Hid (LtAt (wk25) bb h bs es ls ps gb ge gl gp) := HT.out.no hk
   have HRa : Hid (MgRd (wk25) a (owA nn h bs es ls ps)) := HRa.out.no hk
   have HOa : Hid (MgOw (wk25) ba a (owA nn h bs es ls ps)) := HOa.out.no hk
   have HRb : Hid (MgRd (wk25) b (owA nn h bs es ls ps)) := HRb.out.no hk
   have HOb : Hid (MgOw (wk25) b2 b (owA nn h bs es ls ps)) := HOb.out.no hk
   have HRm : Hid (MgRd (wk25) m (owA nn h bs es ls ps)) := HRm.out.no hk
   have HLt : Hid (SzL tw (wk25)) := HLt.out.no hk
   have HF : Hid (Fr No w (wk25) [(gk1, 33, Hd.cells h), (gk6, 46, Mg.cells (ownQ nn)), (gk10, 49, Hd.cells (lentH h gb ge gl gp)), (gk14, 46, Mg.cells a), (gk18, 46, Mg.cells b), (gk22, 46, Mg.cells m)]) := HF.out.no hk
   clear hk
   refine ⟨.bool true, rfl, ?_⟩
   try simp only [pS]
   refine tK (.bool false) ?_
   try simp only [pS]
   refine tK (.bool false) ?_
   try simp only [pS]
   refine tW (.agg (Mg.cells b)) (eL 46 _ rfl ⟨gk18, 0, none⟩ (run_load_part (cs := Mg.cs b) (sub := Mg.cs b) (HF.out.box 4 _ _ _ rfl) (Part.all _) Try.und50 rfl Try.size50)) ?_
   try simp only [pS]
   refine tW (.agg (Mg.cells m)) (eL 46 _ rfl ⟨gk22, 0, none⟩ (run_load_part (cs := Mg.cs m) (sub := Mg.cs m) (HF.out.box 5 _ _ _ rfl) (Part.all _) Try.und50 rfl Try.size50)) ?_
   try simp only [pS]
   refine wp_callW 9 #[.agg (Mg.cells b), .agg (Mg.cells m)] (by kernel_rfl) _ (sameM2 b m (owA nn h bs es ls ps) _ HRb.out HRm.out (hv_len (ownQ nn) h bs es ls ps (by omega) (by omega)).1 (hv_len (ownQ nn) h bs es ls ps (by omega) (by omega)).2.1 (hv_len (ownQ nn) h bs es ls ps (by omega) (by omega)).2.2) (by kernel_rfl) ?_
   rintro e wk26 ⟨rfl, hk⟩
   have HT : Hid (LtAt (wk26) bb h bs es ls ps gb ge gl gp) := HT.out.no hk
   have HRa : Hid (MgRd (wk26) a (owA nn h bs es ls ps)) := HRa.out.no hk
   have HOa : Hid (MgOw (wk26) ba a (owA nn h bs es ls ps)) := HOa.out.no hk
   have HRb : Hid (MgRd (wk26) b (owA nn h bs es ls ps)) := HRb.out.no hk
   have HOb : Hid (MgOw (wk26) b2 b (owA nn h bs es ls ps)) := HOb.out.no hk
   have HRm : Hid (MgRd (wk26) m (owA nn h bs es ls ps)) := HRm.out.no hk
   have HLt : Hid (SzL tw (wk26)) := HLt.out.no hk
   have HF : Hid (Fr No w (wk26) [(gk1, 33, Hd.cells h), (gk6, 46, Mg.cells (ownQ nn)), (gk10, 49, Hd.cells (lentH h gb ge gl gp)), (gk14, 46, Mg.cells a), (gk18, 46, Mg.cells b), (gk22, 46, Mg.cells m)]) := HF.out.no hk
   clear hk
   refine ⟨.bool true, rfl, ?_⟩
   try simp only [pS]
   refine tK (.bool false) ?_
   try simp only [pS]
   refine tK (.bool false) ?_
   try simp only [pS]
   refine WL.nil ?_
   try simp only [pS]
   clear HRa HRb
   go_upto_region 10 with fail
   refine WL.start ?_
   refine tW (.agg (Mg.cells a)) (eL 46 _ rfl ⟨gk14, 0, none⟩ (run_load_part (cs := Mg.cs a) (sub := Mg.cs a) (HF.out.box 3 _ _ _ rfl) (Part.all _) Try.und50 rfl Try.size50)) ?_
   try simp only [pS]
   have lty : ∀ y ∈ [(gk1, 33, Hd.cells h), (gk6, 46, Mg.cells (ownQ nn)), (gk10, 49, Hd.cells (lentH h gb ge gl gp)), (gk14, 46, Mg.cells a), (gk18, 46, Mg.cells b), (gk22, 46, Mg.cells m)], y.2.1 ≠ 5 ∧ y.2.1 ≠ 91 ∧ y.2.1 ≠ 94 ∧ y.2.1 ≠ 43 := by simp
   refine wp_callW 10 #[.agg (Mg.cells a)] (by kernel_rfl) _ (spoilM a ba (owA nn h bs es ls ps) _ HOa.out hbla hna.1 hna.2.1 hna.2.2) (by kernel_rfl) ?_
   rintro e wk27 ⟨rfl, ⟨cura, hcm, hspa⟩, hk⟩
   have hms : ∀ k, (At a.bk.e.a k ∨ At a.bk.l.a k ∨ At a.cm.a k) → MS a k := fun k e => .inr e
   have HF : Hid (Fr No w (wk27) [(gk1, 33, Hd.cells h), (gk6, 46, Mg.cells (ownQ nn)), (gk10, 49, Hd.cells (lentH h gb ge gl gp)), (gk14, 46, Mg.cells a), (gk18, 46, Mg.cells b), (gk22, 46, Mg.cells m)]) := HF.out.lent hk (fun k e => by have h1 := HOa.out.base (hms k e); rw [HW0.out]; omega) (fun y hy e => by obtain ⟨i, hi⟩ := List.mem_iff_getElem?.1 hy; exact HOa.out.notBox (HF.out.box i y.1 y.2.1 y.2.2 hi) (lty y hy) (hms _ e))
   have HT : Hid (LtAt wk27 bb h bs es ls ps gb ge gl gp) := HT.out.keptS hk (fun k e f => by have h1 := hgd k e; have h2 := HOa.out.base (hms k f); omega)
   have HRm : Hid (MgRd wk27 m (owA nn h bs es ls ps)) := HRm.out.keptN HWo.out hk (fun k e => by have h1 := HOa.out.base (hms k e); have h2 := hab k (hms k e); exact ⟨by omega, .inl (by omega)⟩)
   have HLt : Hid (SzL tw wk27) := HLt.out.grow hk
   have HOb : Hid (MgOw wk27 b2 b (owA nn h bs es ls ps)) := HOb.out.kept hk (fun k e f => by have h1 := hab k (hms k f); have h2 := HOb.out.base e; omega)
   have HQa : Hid (OwC wk27 ba a.cm cura) := hcm
   clear hcm hk hms HOa lty
   refine ⟨.tuple #[], rfl, ?_⟩
   try simp only [pS]
   refine WL.nil ?_
   try simp only [pS]
   go_upto_region 11 with fail
   refine WL.start ?_
   refine tW (.agg (Mg.cells b)) (eL 46 _ rfl ⟨gk18, 0, none⟩ (run_load_part (cs := Mg.cs b) (sub := Mg.cs b) (HF.out.box 4 _ _ _ rfl) (Part.all _) Try.und50 rfl Try.size50)) ?_
   try simp only [pS]
   have lty : ∀ y ∈ [(gk1, 33, Hd.cells h), (gk6, 46, Mg.cells (ownQ nn)), (gk10, 49, Hd.cells (lentH h gb ge gl gp)), (gk14, 46, Mg.cells a), (gk18, 46, Mg.cells b), (gk22, 46, Mg.cells m)], y.2.1 ≠ 5 ∧ y.2.1 ≠ 91 ∧ y.2.1 ≠ 94 ∧ y.2.1 ≠ 43 := by simp
   refine wp_callW 10 #[.agg (Mg.cells b)] (by kernel_rfl) _ (spoilM b b2 (owA nn h bs es ls ps) _ HOb.out hblb hnb.1 hnb.2.1 hnb.2.2) (by kernel_rfl) ?_
   rintro e wk28 ⟨rfl, ⟨curb, hcm, hspb⟩, hk⟩
   have hms : ∀ k, (At b.bk.e.a k ∨ At b.bk.l.a k ∨ At b.cm.a k) → MS b k := fun k e => .inr e
   have HF : Hid (Fr No w (wk28) [(gk1, 33, Hd.cells h), (gk6, 46, Mg.cells (ownQ nn)), (gk10, 49, Hd.cells (lentH h gb ge gl gp)), (gk14, 46, Mg.cells a), (gk18, 46, Mg.cells b), (gk22, 46, Mg.cells m)]) := HF.out.lent hk (fun k e => by have h1 := HOb.out.base (hms k e); rw [HW0.out]; omega) (fun y hy e => by obtain ⟨i, hi⟩ := List.mem_iff_getElem?.1 hy; exact HOb.out.notBox (HF.out.box i y.1 y.2.1 y.2.2 hi) (lty y hy) (hms _ e))
   have HT : Hid (LtAt wk28 bb h bs es ls ps gb ge gl gp) := HT.out.keptS hk (fun k e f => by have h1 := hgd k e; have h2 := HOb.out.base (hms k f); omega)
   have HRm : Hid (MgRd wk28 m (owA nn h bs es ls ps)) := HRm.out.keptN HWo.out hk (fun k e => by have h1 := HOb.out.base (hms k e); have h2 := hb2w k (hms k e); exact ⟨by omega, .inl (by omega)⟩)
   have HLt : Hid (SzL tw wk28) := HLt.out.grow hk
   have HQa : Hid (OwC wk28 ba a.cm cura) := HQa.out.kept hk (fun k e f => by have h1 := hab k (.inr (.inr (.inr e))); have h2 := HOb.out.base (hms k f); omega)
   have HQb : Hid (OwC wk28 b2 b.cm curb) := hcm
   clear hcm hk hms HOb lty
   refine ⟨.tuple #[], rfl, ?_⟩
   try simp only [pS]
   refine WL.nil ?_
   try simp only [pS]
   go_upto_region 12 with fail
   refine WL.start ?_
   refine tK (.pointer (some ⟨gk14, 28, none⟩)) ?_
   try simp only [pS]
   refine tW (a.cm.v) (eL 44 _ rfl ⟨gk14, 28, none⟩ (load_one ((HF.out.box 3 _ _ _ rfl).cell 28 |>.trans (by kernel_rfl)) Try.und48 rfl)) ?_
   try simp only [pS]
   refine tK (a.cm.v) ?_
   try simp only [pS]
   refine WL.nil ?_
   try simp only [pS]
   go_upto_region 13 with fail
   refine WL.start ?_
   refine tK (.pointer (some ⟨gk18, 28, none⟩)) ?_
   try simp only [pS]
   refine tW (b.cm.v) (eL 44 _ rfl ⟨gk18, 28, none⟩ (load_one ((HF.out.box 4 _ _ _ rfl).cell 28 |>.trans (by kernel_rfl)) Try.und48 rfl)) ?_
   try simp only [pS]
   refine tK (b.cm.v) ?_
   try simp only [pS]
   refine WL.nil ?_
   try simp only [pS]
   go_upto_region 14 with fail
   refine WL.start ?_
   refine tK (.int .i64 0) ?_
   try simp only [pS]
   refine WL.nil ?_
   try simp only [pS]
   obtain ⟨lo, hlo⟩ : ∃ x, wk28.heap.size = x := ⟨_, rfl⟩
   have htl : tw ≤ lo := by rw [← hlo]; exact HLt.out
   have hal : ∀ k, At a.cm.a k → ba ≤ k ∧ k < b2 := fun k e => ⟨HQa.out.own.base e, hab k (.inr (.inr (.inr e)))⟩
   have hbl2 : ∀ k, At b.cm.a k → b2 ≤ k ∧ k < bw := fun k e => ⟨HQb.out.own.base e, hb2w k (.inr (.inr (.inr e)))⟩
   have hla : cura.length = a.cm.l := HQa.out.len
   have hlb : curb.length = b.cm.l := HQb.out.len
   have hlw : w.heap.size ≤ ba := by rw [HW0.out]; exact hba0
   have HA0 : Hid (Own 43 9 wk28 w.heap.size a.cm.a a.cm.k (a.cm.l + 0) (cmL (cura ++ List.replicate 0 oneC))) := by show Own _ _ _ _ _ _ _ _; rw [List.replicate_zero, List.append_nil]; exact HQa.out.own.lower hlw
   go_wp2
   go_loopw [10, 12] (fun v10 v12 wr => ∃ (i : Nat) (sa : Option Addr) (sc : Nat), v10 = .slice sa (a.cm.l + i) sc ∧ v12 = .int .i64 ((i : Nat) : Int) ∧ i ≤ 70 ∧ lo ≤ wr.heap.size ∧ Hid (Own 43 9 wr w.heap.size sa sc (a.cm.l + i) (cmL (cura ++ List.replicate i oneC))) ∧ Hid (∀ k, At sa k → (ba ≤ k ∧ k < b2) ∨ lo ≤ k) ∧ Hid (OwC wr b2 b.cm curb) ∧ Hid (MgRd wr m (owA nn h bs es ls ps)) ∧ Hid (LtAt wr bb h bs es ls ps gb ge gl gp) ∧ Hid (Fr No w wr [(gk1, 33, Hd.cells h), (gk6, 46, Mg.cells (ownQ nn)), (gk10, 49, Hd.cells (lentH h gb ge gl gp)), (gk14, 46, Mg.cells a), (gk18, 46, Mg.cells b), (gk22, 46, Mg.cells m)])) (fun i10 i12 _ => 70 - (intOf i12).toNat)
   case atStart => exact ⟨0, a.cm.a, a.cm.k, rfl, by go_num, by omega, Nat.le_of_eq hlo.symm, HA0, (fun k e => .inl (hal k e)), HQb, HRm, HT, HF⟩
   case round =>
     clear HF HQa HQb HRm HT HA0 HLt hlo
     obtain ⟨i, sa, sc, rfl, rfl, hi, hwl, HQ, Hat, HQb, HRm, HT, HF⟩ := hrel
     by_cases hlt : i < 70
     · skip
       have HKr : Hid (Kept No wr wr) := Kept.refl _ _
       go_upto_region 15 with fail
       refine WL.start ?_
       refine tK (.int .i64 ((i : Nat) : Int)) ?_
       try simp only [pS]
       refine tW (.bool true) (eB .lss 3 _ _ _ rfl (.int .i64 ((i : Nat) : Int)) (.int .i64 70) _ (by rw [b_lss, decide_eq_true (by omega)])) ?_
       try simp only [pS]
       refine WL.nil ?_
       try simp only [pS]
       go_upto_region 17 with fail
       refine WL.start ?_
       refine tK (.slice sa (a.cm.l + i) sc) ?_
       try simp only [pS]
       refine tW (.agg (Cm.cells ⟨0, 0, 1, ⟨#[]⟩, 0, 0, 0, 0, 0⟩)) (exec_build 43 _ rfl (Cm.cells ⟨0, 0, 1, ⟨#[]⟩, 0, 0, 0, 0, 0⟩) (by kernel_rfl)) ?_
       try simp only [pS]
       refine wp_runW (.slice (some ⟨wr.heap.size, 0, none⟩) 1 1) (wr.alloc (.cells (Cm.cells ⟨0, 0, 1, ⟨#[]⟩, 0, 0, 0, 0, 0⟩) 43)) (exec_slice2 44 43 _ rfl (Cm.cells ⟨0, 0, 1, ⟨#[]⟩, 0, 0, 0, 0, 0⟩) (.agg (Cm.cells ⟨0, 0, 1, ⟨#[]⟩, 0, 0, 0, 0, 0⟩)) (by kernel_rfl) (by kernel_rfl)) (by kernel_rfl) ?_
       try simp only [pS]
       have HQ : Hid (Own 43 9 (wr.alloc (.cells (Cm.cells ⟨0, 0, 1, ⟨#[]⟩, 0, 0, 0, 0, 0⟩) 43)) w.heap.size sa sc (a.cm.l + i) (cmL (cura ++ List.replicate i oneC))) := HQ.out.no ((Kept.refl No _).alloc _)
       have HQb : Hid (OwC (wr.alloc (.cells (Cm.cells ⟨0, 0, 1, ⟨#[]⟩, 0, 0, 0, 0, 0⟩) 43)) b2 b.cm curb) := HQb.out.no ((Kept.refl No _).alloc _)
       have HRm : Hid (MgRd (wr.alloc (.cells (Cm.cells ⟨0, 0, 1, ⟨#[]⟩, 0, 0, 0, 0, 0⟩) 43)) m (owA nn h bs es ls ps)) := HRm.out.no ((Kept.refl No _).alloc _)
       have HT : Hid (LtAt (wr.alloc (.cells (Cm.cells ⟨0, 0, 1, ⟨#[]⟩, 0, 0, 0, 0, 0⟩) 43)) bb h bs es ls ps gb ge gl gp) := HT.out.no ((Kept.refl No _).alloc _)
       have HKr : Hid (Kept No wr (wr.alloc (.cells (Cm.cells ⟨0, 0, 1, ⟨#[]⟩, 0, 0, 0, 0, 0⟩) 43))) := HKr.out.no ((Kept.refl No _).alloc _)
       have HF : Hid (Fr No w _ [(gk1, 33, Hd.cells h), (gk6, 46, Mg.cells (ownQ nn)), (gk10, 49, Hd.cells (lentH h gb ge gl gp)), (gk14, 46, Mg.cells a), (gk18, 46, Mg.cells b), (gk22, 46, Mg.cells m), (wr.heap.size, 43, Cm.cells ⟨0, 0, 1, ⟨#[]⟩, 0, 0, 0, 0, 0⟩)]) := HF.out.alloc _ _
       generalize wr.alloc (.cells (Cm.cells ⟨0, 0, 1, ⟨#[]⟩, 0, 0, 0, 0, 0⟩) 43) = wk30 at HF HQ HQb HRm HT HKr ⊢
       generalize wr.heap.size = gk29 at HF ⊢
       have hWl : lo ≤ wk30.heap.size := Nat.le_trans hwl HKr.out.size
       obtain ⟨sa1, sc1, wa1, hrun, hown, hk2, hat2⟩ := run_appN (w := wk30) 44 44 43 9 80 (.agg cZ.cells) Try.und48 Try.info47 rfl (by omega) w.heap.size (a.cm.l + i) sc sa (cmL (cura ++ List.replicate i oneC)) HQ.out (some ⟨gk29, 0, none⟩) 1 1 (Cm.cs ⟨0, 0, 1, ⟨#[]⟩, 0, 0, 0, 0, 0⟩) rfl (fun e => by cases e) (fun j u hj => ⟨_, rfl, by rw [addr_add, Nat.zero_add, (HF.out.box 6 _ _ _ rfl).cell]; exact cell_cs _ _ _ hj⟩) (Cm.oneL _) (by omega) (by omega) (by have := HF.out.kept.size; omega)
       have HF1 : Fr No w wk30 [(gk1, 33, Hd.cells h), (gk6, 46, Mg.cells (ownQ nn)), (gk10, 49, Hd.cells (lentH h gb ge gl gp)), (gk14, 46, Mg.cells a), (gk18, 46, Mg.cells b), (gk22, 46, Mg.cells m)] := (show Fr No w wk30 ([(gk1, 33, Hd.cells h), (gk6, 46, Mg.cells (ownQ nn)), (gk10, 49, Hd.cells (lentH h gb ge gl gp)), (gk14, 46, Mg.cells a), (gk18, 46, Mg.cells b), (gk22, 46, Mg.cells m)] ++ [(gk29, 43, Cm.cells ⟨0, 0, 1, ⟨#[]⟩, 0, 0, 0, 0, 0⟩)]) from HF.out).front
       refine wp_runW (.slice sa1 ((a.cm.l + i) + 1) sc1) wa1 (exec_appN _ _ 44 44 rfl _ _ (by kernel_rfl) (by kernel_rfl) hrun) (by kernel_rfl) ?_
       try simp only [pS]
       have HF : Hid (Fr No w wa1 [(gk1, 33, Hd.cells h), (gk6, 46, Mg.cells (ownQ nn)), (gk10, 49, Hd.cells (lentH h gb ge gl gp)), (gk14, 46, Mg.cells a), (gk18, 46, Mg.cells b), (gk22, 46, Mg.cells m)]) := HF1.app HQ.out hk2 (by simp)
       have HQb : Hid (OwC wa1 b2 b.cm curb) := HQb.out.kept hk2 (fun k e f => by have h1 := hbl2 k e; have h2 := Hat.out k f; omega)
       have HRm : Hid (MgRd wa1 m (owA nn h bs es ls ps)) := HRm.out.keptN HWo.out hk2 (fun k e => by have h1 := Hat.out k e; rcases h1 with h1 | h1; exact ⟨by omega, .inl (by omega)⟩; exact ⟨by omega, .inr (by omega)⟩)
       have HT : Hid (LtAt wa1 bb h bs es ls ps gb ge gl gp) := HT.out.keptS hk2 (fun k e f => by have h1 := hgd k e; have h2 := Hat.out k f; omega)
       have Hat1 : Hid (∀ k, At sa1 k → (ba ≤ k ∧ k < b2) ∨ lo ≤ k) := show ∀ k, At sa1 k → (ba ≤ k ∧ k < b2) ∨ lo ≤ k from fun k e => (hat2 k e).elim (Hat.out k) (fun e => .inr (by omega))
       have hwl1 : lo ≤ wa1.heap.size := Nat.le_trans hWl hk2.size
       have HQ : Hid (Own 43 9 wa1 w.heap.size sa1 sc1 ((a.cm.l + i) + 1) (cmL (cura ++ List.replicate (i + 1) oneC))) := by show Own _ _ _ _ _ _ _ _; rw [rep_succ]; exact hown
       clear hrun hown hk2 hat2 HF1 HKr hWl Hat
       refine tK (.slice sa1 ((a.cm.l + i) + 1) sc1) ?_
       try simp only [pS]
       refine WL.nil ?_
       try simp only [pS]
       go_upto_region 16 with fail
       refine WL.start ?_
       refine tK (.int .i64 ((i : Nat) : Int)) ?_
       try simp only [pS]
       refine tW (.int .i64 (((i + 1) : Nat) : Int)) (eB .add 3 _ _ _ rfl (.int .i64 ((i : Nat) : Int)) (.int .i64 1) _ (b_addw _ _ _ (by rw [IntKind.wrap_i64]; omega) _)) ?_
       try simp only [pS]
       refine tK (.int .i64 (((i + 1) : Nat) : Int)) ?_
       try simp only [pS]
       refine WL.nil ?_
       try simp only [pS]
       go_wp2
       go_roundw
       case rel => exact ⟨i + 1, sa1, sc1, rfl, by go_num, by omega, hwl1, HQ, Hat1, HQb, HRm, HT, HF⟩
       case measure => simp [intOf]; omega
     · skip
       go_upto_region 15 with fail
       refine WL.start ?_
       refine tK (.int .i64 ((i : Nat) : Int)) ?_
       try simp only [pS]
       refine tW (.bool false) (eB .lss 3 _ _ _ rfl (.int .i64 ((i : Nat) : Int)) (.int .i64 70) _ (by rw [b_lss, decide_eq_false (by omega)])) ?_
       try simp only [pS]
       refine WL.nil ?_
       try simp only [pS]
       have hi70 : i = 70 := by omega
       subst hi70
       clear hlt hi
       go_upto_region 18 with fail
       refine WL.start ?_
       refine tK (.int .i64 0) ?_
       try simp only [pS]
       refine WL.nil ?_
       try simp only [pS]
       obtain ⟨lo2, hlo2⟩ : ∃ x, wr.heap.size = x := ⟨_, rfl⟩
       have hlo3 : lo ≤ lo2 := by rw [← hlo2]; exact Nat.le_trans hwl (Nat.le_refl _)
       have HatA : Hid (∀ k, At sa k → ((ba ≤ k ∧ k < b2) ∨ lo ≤ k) ∧ k < lo2) := show ∀ k, At sa k → ((ba ≤ k ∧ k < b2) ∨ lo ≤ k) ∧ k < lo2 from fun k e => ⟨Hat.out k e, by rw [← hlo2]; exact HQ.out.lt e⟩
       have HQA : Hid (Own 43 9 wr w.heap.size sa sc (a.cm.l + 70) (cmL (cura ++ List.replicate 70 oneC))) := HQ
       have hlw2 : w.heap.size ≤ b2 := by rw [HW0.out]; exact hb20
       have HB0 : Hid (Own 43 9 wr w.heap.size b.cm.a b.cm.k (b.cm.l + 0) (cmL (curb ++ List.replicate 0 twoC))) := by show Own _ _ _ _ _ _ _ _; rw [List.replicate_zero, List.append_nil]; exact HQb.out.own.lower hlw2
       clear HQ Hat
       go_wp2
       go_loopw [11, 13] (fun v11 v13 wr => ∃ (i : Nat) (sb : Option Addr) (sd : Nat), v11 = .slice sb (b.cm.l + i) sd ∧ v13 = .int .i64 ((i : Nat) : Int) ∧ i ≤ 70 ∧ lo2 ≤ wr.heap.size ∧ Hid (Own 43 9 wr w.heap.size sb sd (b.cm.l + i) (cmL (curb ++ List.replicate i twoC))) ∧ Hid (∀ k, At sb k → (b2 ≤ k ∧ k < bw) ∨ lo2 ≤ k) ∧ Hid (Own 43 9 wr w.heap.size sa sc (a.cm.l + 70) (cmL (cura ++ List.replicate 70 oneC))) ∧ Hid (MgRd wr m (owA nn h bs es ls ps)) ∧ Hid (LtAt wr bb h bs es ls ps gb ge gl gp) ∧ Hid (Fr No w wr [(gk1, 33, Hd.cells h), (gk6, 46, Mg.cells (ownQ nn)), (gk10, 49, Hd.cells (lentH h gb ge gl gp)), (gk14, 46, Mg.cells a), (gk18, 46, Mg.cells b), (gk22, 46, Mg.cells m)])) (fun i11 i13 _ => 70 - (intOf i13).toNat)
       case atStart => exact ⟨0, b.cm.a, b.cm.k, rfl, by go_num, by omega, Nat.le_of_eq hlo2.symm, HB0, (fun k e => .inl (hbl2 k e)), HQA, HRm, HT, HF⟩
       case round =>
         clear HF HQb HQA HRm HT HB0 hlo2 hwl
         obtain ⟨i, sb, sd, rfl, rfl, hi, hwl, HQ, Hat, HQA, HRm, HT, HF⟩ := hrel
         by_cases hlt : i < 70
         · skip
           have HKr : Hid (Kept No wr wr) := Kept.refl _ _
           go_upto_region 19 with fail
           refine WL.start ?_
           refine tK (.int .i64 ((i : Nat) : Int)) ?_
           try simp only [pS]
           refine tW (.bool true) (eB .lss 3 _ _ _ rfl (.int .i64 ((i : Nat) : Int)) (.int .i64 70) _ (by rw [b_lss, decide_eq_true (by omega)])) ?_
           try simp only [pS]
           refine WL.nil ?_
           try simp only [pS]
           go_upto_region 21 with fail
           refine WL.start ?_
           refine tK (.slice sb (b.cm.l + i) sd) ?_
           try simp only [pS]
           refine tW (.agg (Cm.cells ⟨0, 0, 2, ⟨#[]⟩, 0, 0, 0, 0, 0⟩)) (exec_build 43 _ rfl (Cm.cells ⟨0, 0, 2, ⟨#[]⟩, 0, 0, 0, 0, 0⟩) (by kernel_rfl)) ?_
           try simp only [pS]
           refine wp_runW (.slice (some ⟨wr.heap.size, 0, none⟩) 1 1) (wr.alloc (.cells (Cm.cells ⟨0, 0, 2, ⟨#[]⟩, 0, 0, 0, 0, 0⟩) 43)) (exec_slice2 44 43 _ rfl (Cm.cells ⟨0, 0, 2, ⟨#[]⟩, 0, 0, 0, 0, 0⟩) (.agg (Cm.cells ⟨0, 0, 2, ⟨#[]⟩, 0, 0, 0, 0, 0⟩)) (by kernel_rfl) (by kernel_rfl)) (by kernel_rfl) ?_
           try simp only [pS]
           have HQ : Hid (Own 43 9 (wr.alloc (.cells (Cm.cells ⟨0, 0, 2, ⟨#[]⟩, 0, 0, 0, 0, 0⟩) 43)) w.heap.size sb sd (b.cm.l + i) (cmL (curb ++ List.replicate i twoC))) := HQ.out.no ((Kept.refl No _).alloc _)
           have HQA : Hid (Own 43 9 (wr.alloc (.cells (Cm.cells ⟨0, 0, 2, ⟨#[]⟩, 0, 0, 0, 0, 0⟩) 43)) w.heap.size sa sc (a.cm.l + 70) (cmL (cura ++ List.replicate 70 oneC))) := HQA.out.no ((Kept.refl No _).alloc _)
           have HRm : Hid (MgRd (wr.alloc (.cells (Cm.cells ⟨0, 0, 2, ⟨#[]⟩, 0, 0, 0, 0, 0⟩) 43)) m (owA nn h bs es ls ps)) := HRm.out.no ((Kept.refl No _).alloc _)
           have HT : Hid (LtAt (wr.alloc (.cells (Cm.cells ⟨0, 0, 2, ⟨#[]⟩, 0, 0, 0, 0, 0⟩) 43)) bb h bs es ls ps gb ge gl gp) := HT.out.no ((Kept.refl No _).alloc _)
           have HKr : Hid (Kept No wr (wr.alloc (.cells (Cm.cells ⟨0, 0, 2, ⟨#[]⟩, 0, 0, 0, 0, 0⟩) 43))) := HKr.out.no ((Kept.refl No _).alloc _)
           have HF : Hid (Fr No w _ [(gk1, 33, Hd.cells h), (gk6, 46, Mg.cells (ownQ nn)), (gk10, 49, Hd.cells (lentH h gb ge gl gp)), (gk14, 46, Mg.cells a), (gk18, 46, Mg.cells b), (gk22, 46, Mg.cells m), (wr.heap.size, 43, Cm.cells ⟨0, 0, 2, ⟨#[]⟩, 0, 0, 0, 0, 0⟩)]) := HF.out.alloc _ _
           generalize wr.alloc (.cells (Cm.cells ⟨0, 0, 2, ⟨#[]⟩, 0, 0, 0, 0, 0⟩) 43) = wk32 at HF HQ HQA HRm HT HKr ⊢
           generalize wr.heap.size = gk31 at HF ⊢
           have hWl : lo2 ≤ wk32.heap.size := Nat.le_trans hwl HKr.out.size
           obtain ⟨sa1, sc1, wa1, hrun, hown, hk2, hat2⟩ := run_appN (w := wk32) 44 44 43 9 80 (.agg cZ.cells) Try.und48 Try.info47 rfl (by omega) w.heap.size (b.cm.l + i) sd sb (cmL (curb ++ List.replicate i twoC)) HQ.out (some ⟨gk31, 0, none⟩) 1 1 (Cm.cs ⟨0, 0, 2, ⟨#[]⟩, 0, 0, 0, 0, 0⟩) rfl (fun e => by cases e) (fun j u hj => ⟨_, rfl, by rw [addr_add, Nat.zero_add, (HF.out.box 6 _ _ _ rfl).cell]; exact cell_cs _ _ _ hj⟩) (Cm.oneL _) (by omega) (by omega) (by have := HF.out.kept.size; omega)
           have HF1 : Fr No w wk32 [(gk1, 33, Hd.cells h), (gk6, 46, Mg.cells (ownQ nn)), (gk10, 49, Hd.cells (lentH h gb ge gl gp)), (gk14, 46, Mg.cells a), (gk18, 46, Mg.cells b), (gk22, 46, Mg.cells m)] := (show Fr No w wk32 ([(gk1, 33, Hd.cells h), (gk6, 46, Mg.cells (ownQ nn)), (gk10, 49, Hd.cells (lentH h gb ge gl gp)), (gk14, 46, Mg.cells a), (gk18, 46, Mg.cells b), (gk22, 46, Mg.cells m)] ++ [(gk31, 43, Cm.cells ⟨0, 0, 2, ⟨#[]⟩, 0, 0, 0, 0, 0⟩)]) from HF.out).front
           refine wp_runW (.slice sa1 ((b.cm.l + i) + 1) sc1) wa1 (exec_appN _ _ 44 44 rfl _ _ (by kernel_rfl) (by kernel_rfl) hrun) (by kernel_rfl) ?_
           try simp only [pS]
           have HF : Hid (Fr No w wa1 [(gk1, 33, Hd.cells h), (gk6, 46, Mg.cells (ownQ nn)), (gk10, 49, Hd.cells (lentH h gb ge gl gp)), (gk14, 46, Mg.cells a), (gk18, 46, Mg.cells b), (gk22, 46, Mg.cells m)]) := HF1.app HQ.out hk2 (by simp)
           have HQA : Hid (Own 43 9 wa1 w.heap.size sa sc (a.cm.l + 70) (cmL (cura ++ List.replicate 70 oneC))) := HQA.out.kept hk2 (fun k e f => by have h1 := HatA.out k e; have h2 := Hat.out k f; omega)
           have HRm : Hid (MgRd wa1 m (owA nn h bs es ls ps)) := HRm.out.keptN HWo.out hk2 (fun k e => by have h1 := Hat.out k e; rcases h1 with h1 | h1; exact ⟨by omega, .inl (by omega)⟩; exact ⟨by omega, .inr (by omega)⟩)
           have HT : Hid (LtAt wa1 bb h bs es ls ps gb ge gl gp) := HT.out.keptS hk2 (fun k e f => by have h1 := hgd k e; have h2 := Hat.out k f; omega)
           have Hat1 : Hid (∀ k, At sa1 k → (b2 ≤ k ∧ k < bw) ∨ lo2 ≤ k) := show ∀ k, At sa1 k → (b2 ≤ k ∧ k < bw) ∨ lo2 ≤ k from fun k e => (hat2 k e).elim (Hat.out k) (fun e => .inr (by omega))
           have hwl1 : lo2 ≤ wa1.heap.size := Nat.le_trans hWl hk2.size
           have HQ : Hid (Own 43 9 wa1 w.heap.size sa1 sc1 ((b.cm.l + i) + 1) (cmL (curb ++ List.replicate (i + 1) twoC))) := by show Own _ _ _ _ _ _ _ _; rw [rep_succ]; exact hown
           clear hrun hown hk2 hat2 HF1 HKr hWl Hat
           refine tK (.slice sa1 ((b.cm.l + i) + 1) sc1) ?_
           try simp only [pS]
           refine WL.nil ?_
           try simp only [pS]
           go_upto_region 20 with fail
           refine WL.start ?_
           refine tK (.int .i64 ((i : Nat) : Int)) ?_
           try simp only [pS]
           refine tW (.int .i64 (((i + 1) : Nat) : Int)) (eB .add 3 _ _ _ rfl (.int .i64 ((i : Nat) : Int)) (.int .i64 1) _ (b_addw _ _ _ (by rw [IntKind.wrap_i64]; omega) _)) ?_
           try simp only [pS]
           refine tK (.int .i64 (((i + 1) : Nat) : Int)) ?_
           try simp only [pS]
           refine WL.nil ?_
           try simp only [pS]
           go_wp2
           go_roundw
           case rel => exact ⟨i + 1, sa1, sc1, rfl, by go_num, by omega, hwl1, HQ, Hat1, HQA, HRm, HT, HF⟩
           case measure => simp [intOf]; omega
         · skip
           go_upto_region 19 with fail
           refine WL.start ?_
           refine tK (.int .i64 ((i : Nat) : Int)) ?_
           try simp only [pS]
           refine tW (.bool false) (eB .lss 3 _ _ _ rfl (.int .i64 ((i : Nat) : Int)) (.int .i64 70) _ (by rw [b_lss, decide_eq_false (by omega)])) ?_
           try simp only [pS]
           refine WL.nil ?_
           try simp only [pS]
           have hi70 : i = 70 := by omega
           subst hi70
           clear hlt hi
           have HCa : Hid (RdC wr ⟨sa, a.cm.l + 70, sc⟩ (cura ++ List.replicate 70 oneC)) := ⟨Own.rows HQA.out (cmL_c _) (by omega), by rw [List.length_append, List.length_replicate, hla], HQA.out.cap0⟩
           have HCb : Hid (RdC wr ⟨sb, b.cm.l + 70, sd⟩ (curb ++ List.replicate 70 twoC)) := ⟨Own.rows HQ.out (cmL_c _) (by omega), by rw [List.length_append, List.length_replicate, hlb], HQ.out.cap0⟩
           have HLt : Hid (SzL tw wr) := Nat.le_trans (Nat.le_trans htl hlo3) hwl
           clear HQ HQA Hat HatA
           go_upto_region 22 with fail
           refine WL.start ?_
           refine tK (.int .i64 0) ?_
           try simp only [pS]
           refine WL.nil ?_
           try simp only [pS]
           go_wp2
           go_loopw [14, 15, 16] (fun v14 v15 v16 wr => ∃ (i : Nat), v14 = .int .i64 ((i : Nat) : Int) ∧ i ≤ a.cm.l + 70 ∧ Hid (RdC wr ⟨sa, a.cm.l + 70, sc⟩ (cura ++ List.replicate 70 oneC)) ∧ Hid (RdC wr ⟨sb, b.cm.l + 70, sd⟩ (curb ++ List.replicate 70 twoC)) ∧ Hid (MgRd wr m (owA nn h bs es ls ps)) ∧ Hid (LtAt wr bb h bs es ls ps gb ge gl gp) ∧ Hid (SzL tw wr) ∧ Hid (Fr No w wr [(gk1, 33, Hd.cells h), (gk6, 46, Mg.cells (ownQ nn)), (gk10, 49, Hd.cells (lentH h gb ge gl gp)), (gk14, 46, Mg.cells a), (gk18, 46, Mg.cells b), (gk22, 46, Mg.cells m)])) (fun i14 i15 i16 _ => a.cm.l + 70 - (intOf i14).toNat)
           case atStart => exact ⟨0, by go_num, by omega, HCa, HCb, HRm, HT, HLt, HF⟩
           case round =>
             clear HF HCa HCb HRm HT HLt
             obtain ⟨i, rfl, hi, HCa, HCb, HRm, HT, HLt, HF⟩ := hrel
             by_cases hlt : i < a.cm.l + 70
             · skip
               have HCas : Hid (RdC wr ⟨sa, a.cm.l + 70, sc⟩ (cura ++ List.replicate 70 oneC)) := HCa
               clear HCa
               have HCbs : Hid (RdC wr ⟨sb, b.cm.l + 70, sd⟩ (curb ++ List.replicate 70 twoC)) := HCb
               clear HCb
               have HRms : Hid (MgRd wr m (owA nn h bs es ls ps)) := HRm
               clear HRm
               have HTs : Hid (LtAt wr bb h bs es ls ps gb ge gl gp) := HT
               clear HT
               have HLts : Hid (SzL tw wr) := HLt
               clear HLt
               have HK0 : Hid (Kept No wr wr) := Kept.refl _ _
               obtain ⟨s0, hs0⟩ : ∃ n, wr.heap.size = n := ⟨_, rfl⟩
               have HS0 : Hid (wr.heap.size = s0) := hs0
               clear hs0
               go_upto_region 23 with fail
               refine WL.start ?_
               refine tK (.int .i64 ((i : Nat) : Int)) ?_
               try simp only [pS]
               refine tK (.slice sa (a.cm.l + 70) sc) ?_
               try simp only [pS]
               refine tK (.int .i64 (((a.cm.l + 70) : Nat) : Int)) ?_
               try simp only [pS]
               refine tW (.bool true) (eB .lss 3 _ _ _ rfl (.int .i64 ((i : Nat) : Int)) (.int .i64 (((a.cm.l + 70) : Nat) : Int)) _ (by rw [b_lss, decide_eq_true (by omega)])) ?_
               try simp only [pS]
               refine WL.nil ?_
               try simp only [pS]
               go_upto_region 25 with fail
               refine WL.start ?_
               refine tW (.agg (Cm.cells ⟨0, 0, 0, ⟨#[115, 112, 111, 105, 108, 116]⟩, 0, 0, 0, 0, 0⟩)) (exec_build 43 _ rfl (Cm.cells ⟨0, 0, 0, ⟨#[115, 112, 111, 105, 108, 116]⟩, 0, 0, 0, 0, 0⟩) (by kernel_rfl)) ?_
               try simp only [pS]
               refine wp_runW (.pointer (some ⟨wr.heap.size, 0, none⟩)) (wr.alloc (.cells (Cm.cells cZ) 43)) (exec_alloc 43 rfl (Cm.cells cZ) zero47) (by kernel_rfl) ?_
               try simp only [pS]
               have hx0_gk33 : s0 ≤ wr.heap.size := by rw [← HS0.out]; exact HK0.out.size
               have HK0 : Hid (Kept No wr (wr.alloc (.cells (Cm.cells cZ) 43))) := HK0.out.no ((Kept.refl No _).alloc _)
               have HF : Hid (Fr No w _ [(gk1, 33, Hd.cells h), (gk6, 46, Mg.cells (ownQ nn)), (gk10, 49, Hd.cells (lentH h gb ge gl gp)), (gk14, 46, Mg.cells a), (gk18, 46, Mg.cells b), (gk22, 46, Mg.cells m), (wr.heap.size, 43, Cm.cells cZ)]) := HF.out.alloc _ _
               generalize wr.alloc (.cells (Cm.cells cZ) 43) = wk34 at HF HK0 ⊢
               generalize wr.heap.size = gk33 at HF hx0_gk33 ⊢
               refine wp_storeW 43 _ _ rfl ⟨gk33, 0, none⟩ (.agg (Cm.cells ⟨0, 0, 0, ⟨#[115, 112, 111, 105, 108, 116]⟩, 0, 0, 0, 0, 0⟩)) (by kernel_rfl) (by kernel_rfl) (wk34.setRow gk33 (Cm.cells ⟨0, 0, 0, ⟨#[115, 112, 111, 105, 108, 116]⟩, 0, 0, 0, 0, 0⟩)) (run_store_to (cur := Cm.cs cZ) (vs := Cm.cs ⟨0, 0, 0, ⟨#[115, 112, 111, 105, 108, 116]⟩, 0, 0, 0, 0, 0⟩) (new := Cm.cs ⟨0, 0, 0, ⟨#[115, 112, 111, 105, 108, 116]⟩, 0, 0, 0, 0, 0⟩) (HF.out.box 6 _ _ _ rfl) (by kernel_rfl) Try.size47 (Nat.le_of_ble_eq_true (by kernel_rfl)) (Cm.oneL _) (by kernel_rfl)) (by kernel_rfl) ?_
               try simp only [pS]
               have HK0 : Hid (Kept No wr (wk34.setRow gk33 (Cm.cells ⟨0, 0, 0, ⟨#[115, 112, 111, 105, 108, 116]⟩, 0, 0, 0, 0, 0⟩))) := HK0.out.newRow (by rw [HS0.out]; exact hx0_gk33) _
               have HF : Hid (Fr No w _ [(gk1, 33, Hd.cells h), (gk6, 46, Mg.cells (ownQ nn)), (gk10, 49, Hd.cells (lentH h gb ge gl gp)), (gk14, 46, Mg.cells a), (gk18, 46, Mg.cells b), (gk22, 46, Mg.cells m), (gk33, 43, Cm.cells ⟨0, 0, 0, ⟨#[115, 112, 111, 105, 108, 116]⟩, 0, 0, 0, 0, 0⟩)]) := HF.out.set 6 rfl _
               generalize wk34.setRow gk33 (Cm.cells ⟨0, 0, 0, ⟨#[115, 112, 111, 105, 108, 116]⟩, 0, 0, 0, 0, 0⟩) = wk35 at HF HK0 ⊢
               refine WL.nil ?_
               try simp only [pS]
               go_upto_region 26 with fail
               refine WL.start ?_
               refine tW (.agg (Cm.cells ⟨0, 0, 0, ⟨#[115, 112, 111, 105, 108, 116]⟩, 0, 0, 0, 0, 0⟩)) (eL 43 _ rfl ⟨gk33, 0, none⟩ (run_load_part (cs := Cm.cs ⟨0, 0, 0, ⟨#[115, 112, 111, 105, 108, 116]⟩, 0, 0, 0, 0, 0⟩) (sub := Cm.cs ⟨0, 0, 0, ⟨#[115, 112, 111, 105, 108, 116]⟩, 0, 0, 0, 0, 0⟩) (HF.out.box 6 _ _ _ rfl) (Part.all _) Try.und47 rfl Try.size47)) ?_
               try simp only [pS]
               refine wp_runW (.pointer (some ⟨wk35.heap.size, 0, none⟩)) (wk35.alloc (.cells (Cm.cells cZ) 43)) (exec_alloc 43 rfl (Cm.cells cZ) zero47) (by kernel_rfl) ?_
               try simp only [pS]
               have hx0_gk36 : s0 ≤ wk35.heap.size := by rw [← HS0.out]; exact HK0.out.size
               have HK0 : Hid (Kept No wr (wk35.alloc (.cells (Cm.cells cZ) 43))) := HK0.out.no ((Kept.refl No _).alloc _)
               have HF : Hid (Fr No w _ [(gk1, 33, Hd.cells h), (gk6, 46, Mg.cells (ownQ nn)), (gk10, 49, Hd.cells (lentH h gb ge gl gp)), (gk14, 46, Mg.cells a), (gk18, 46, Mg.cells b), (gk22, 46, Mg.cells m), (gk33, 43, Cm.cells ⟨0, 0, 0, ⟨#[115, 112, 111, 105, 108, 116]⟩, 0, 0, 0, 0, 0⟩), (wk35.heap.size, 43, Cm.cells cZ)]) := HF.out.alloc _ _
               generalize wk35.alloc (.cells (Cm.cells cZ) 43) = wk37 at HF HK0 ⊢
               generalize wk35.heap.size = gk36 at HF hx0_gk36 ⊢
               refine wp_storeW 43 _ _ rfl ⟨gk36, 0, none⟩ (.agg (Cm.cells ⟨0, 0, 0, ⟨#[115, 112, 111, 105, 108, 116]⟩, 0, 0, 0, 0, 0⟩)) (by kernel_rfl) (by kernel_rfl) (wk37.setRow gk36 (Cm.cells ⟨0, 0, 0, ⟨#[115, 112, 111, 105, 108, 116]⟩, 0, 0, 0, 0, 0⟩)) (run_store_to (cur := Cm.cs cZ) (vs := Cm.cs ⟨0, 0, 0, ⟨#[115, 112, 111, 105, 108, 116]⟩, 0, 0, 0, 0, 0⟩) (new := Cm.cs ⟨0, 0, 0, ⟨#[115, 112, 111, 105, 108, 116]⟩, 0, 0, 0, 0, 0⟩) (HF.out.box 7 _ _ _ rfl) (by kernel_rfl) Try.size47 (Nat.le_of_ble_eq_true (by kernel_rfl)) (Cm.oneL _) (by kernel_rfl)) (by kernel_rfl) ?_
               try simp only [pS]
               have HK0 : Hid (Kept No wr (wk37.setRow gk36 (Cm.cells ⟨0, 0, 0, ⟨#[115, 112, 111, 105, 108, 116]⟩, 0, 0, 0, 0, 0⟩))) := HK0.out.newRow (by rw [HS0.out]; exact hx0_gk36) _
               have HF : Hid (Fr No w _ [(gk1, 33, Hd.cells h), (gk6, 46, Mg.cells (ownQ nn)), (gk10, 49, Hd.cells (lentH h gb ge gl gp)), (gk14, 46, Mg.cells a), (gk18, 46, Mg.cells b), (gk22, 46, Mg.cells m), (gk33, 43, Cm.cells ⟨0, 0, 0, ⟨#[115, 112, 111, 105, 108, 116]⟩, 0, 0, 0, 0, 0⟩), (gk36, 43, Cm.cells ⟨0, 0, 0, ⟨#[115, 112, 111, 105, 108, 116]⟩, 0, 0, 0, 0, 0⟩)]) := HF.out.set 7 rfl _
               generalize wk37.setRow gk36 (Cm.cells ⟨0, 0, 0, ⟨#[115, 112, 111, 105, 108, 116]⟩, 0, 0, 0, 0, 0⟩) = wk38 at HF HK0 ⊢
               refine WL.nil ?_
               try simp only [pS]
               go_upto_region 27 with fail
               refine WL.start ?_
               refine tK (.int .i64 ((i : Nat) : Int)) ?_
               try simp only [pS]
               refine tK (.pointer (some ⟨gk14, 28, none⟩)) ?_
               try simp only [pS]
               refine tW (a.cm.v) (eL 44 _ rfl ⟨gk14, 28, none⟩ (load_one ((HF.out.box 3 _ _ _ rfl).cell 28 |>.trans (by kernel_rfl)) Try.und48 rfl)) ?_
               try simp only [pS]
               refine tK (.int .i64 ((a.cm.l : Nat) : Int)) ?_
               try simp only [pS]
               cases q2 : (decide (((a.cm.l : Nat) : Int) ≤ ((i : Nat) : Int)))
               ·skip
                refine tW (.bool false) (eB .geq 3 _ _ _ rfl (.int .i64 ((i : Nat) : Int)) (.int .i64 ((a.cm.l : Nat) : Int)) _ (by rw [b_geq, q2]; try rfl)) ?_
                try simp only [pS]
                refine WL.nil ?_
                try simp only [pS]
                have hge : i < a.cm.l := by have h9 := of_decide_eq_false q2; omega
                have hxa : (cura ++ List.replicate 70 oneC)[i]? = some spoC := app_lo hla hspa hge
                have hxb : (curb ++ List.replicate 70 twoC)[i]? = some spoC := app_lo hlb hspb (by omega)
                obtain ⟨pa, oa, hpa, hca⟩ := (HCas.out.no HK0.out).get hxa
                have hsla : Hid (Value.slice sa (a.cm.l + 70) sc = .slice (some ⟨pa, oa, none⟩) (a.cm.l + 70) sc) := congrArg (fun y => Value.slice y (a.cm.l + 70) sc) hpa
                have HCa9 : Hid (∀ (j : Nat) v, (Cm.cs ⟨0, 0, 0, ⟨#[115, 112, 111, 105, 108, 116]⟩, 0, 0, 0, 0, 0⟩)[j]? = some v → wk38.cell? ⟨pa, oa + i * 9 + j, none⟩ = some v) := show ∀ (j : Nat) v, (Cm.cs ⟨0, 0, 0, ⟨#[115, 112, 111, 105, 108, 116]⟩, 0, 0, 0, 0, 0⟩)[j]? = some v → wk38.cell? ⟨pa, oa + i * 9 + j, none⟩ = some v from hca
                clear hpa hca hxa
                obtain ⟨pb, ob, hpb, hcb⟩ := (HCbs.out.no HK0.out).get hxb
                have hslb : Hid (Value.slice sb (b.cm.l + 70) sd = .slice (some ⟨pb, ob, none⟩) (b.cm.l + 70) sd) := congrArg (fun y => Value.slice y (b.cm.l + 70) sd) hpb
                have HCb9 : Hid (∀ (j : Nat) v, (Cm.cs ⟨0, 0, 0, ⟨#[115, 112, 111, 105, 108, 116]⟩, 0, 0, 0, 0, 0⟩)[j]? = some v → wk38.cell? ⟨pb, ob + i * 9 + j, none⟩ = some v) := show ∀ (j : Nat) v, (Cm.cs ⟨0, 0, 0, ⟨#[115, 112, 111, 105, 108, 116]⟩, 0, 0, 0, 0, 0⟩)[j]? = some v → wk38.cell? ⟨pb, ob + i * 9 + j, none⟩ = some v from hcb
                clear hpb hcb hxb
                go_upto_region 30 with fail
                refine wp_region_held_drew (S := fun w' => Fr No w w' [(gk1, 33, Hd.cells h), (gk6, 46, Mg.cells (ownQ nn)), (gk10, 49, Hd.cells (lentH h gb ge gl gp)), (gk14, 46, Mg.cells a), (gk18, 46, Mg.cells b), (gk22, 46, Mg.cells m), (gk33, 43, Cm.cells ⟨0, 0, 0, ⟨#[115, 112, 111, 105, 108, 116]⟩, 0, 0, 0, 0, 0⟩), (gk36, 43, Cm.cells ⟨0, 0, 0, ⟨#[115, 112, 111, 105, 108, 116]⟩, 0, 0, 0, 0, 0⟩)] ∧ Kept No wk38 w') rfl ⟨HF.out.drew, (Kept.refl No _).drew⟩ (fun hH => ?_)
                have HK0 : Hid (Kept No wr (wk38.drew)) := HK0.out.no (Kept.refl No _).drew
                have HF : Hid (Fr No w (wk38.drew) [(gk1, 33, Hd.cells h), (gk6, 46, Mg.cells (ownQ nn)), (gk10, 49, Hd.cells (lentH h gb ge gl gp)), (gk14, 46, Mg.cells a), (gk18, 46, Mg.cells b), (gk22, 46, Mg.cells m), (gk33, 43, Cm.cells ⟨0, 0, 0, ⟨#[115, 112, 111, 105, 108, 116]⟩, 0, 0, 0, 0, 0⟩), (gk36, 43, Cm.cells ⟨0, 0, 0, ⟨#[115, 112, 111, 105, 108, 116]⟩, 0, 0, 0, 0, 0⟩)]) := HF.out.drew
                generalize wk38.drew = wk39 at HF HK0 hH ⊢
                refine aT (i := 0) (oi := oqWOwn0) (v := .slice sa (a.cm.l + 70) sc) (fun _ _ => by kernel_rfl) hH ?_
                try simp only [pS]
                refine aT (i := 1) (oi := oqWOwn1) (v := .int .i64 ((i : Nat) : Int)) (fun _ _ => by kernel_rfl) hH ?_
                try simp only [pS]
                refine aT (i := 2) (oi := oqWOwn2) (v := .pointer (some ⟨pa, oa + i * 9, none⟩)) (fun w' hw => exec_ixA 44 9 Try.und48e Try.size48e _ _ rfl pa oa (a.cm.l + 70) sc i (Eq.trans (b := .slice sa (a.cm.l + 70) sc) (by kernel_rfl) hsla.out) (by kernel_rfl) (by omega)) hH ?_
                try simp only [pS]
                refine aT (i := 3) (oi := oqWOwn3) (v := .agg (Cm.cells ⟨0, 0, 0, ⟨#[115, 112, 111, 105, 108, 116]⟩, 0, 0, 0, 0, 0⟩)) (fun w' hw => eL 43 _ rfl ⟨pa, oa + i * 9, none⟩ (load_cells (it := Cm.cs ⟨0, 0, 0, ⟨#[115, 112, 111, 105, 108, 116]⟩, 0, 0, 0, 0, 0⟩) (fun j v hv => hw.2.cell (HCa9.out j v hv) (fun e => e)) Try.und47 rfl Try.size47)) hH ?_
                try simp only [pS]
                refine aT (i := 4) (oi := oqWOwn4) (v := .agg (Cm.cells ⟨0, 0, 0, ⟨#[115, 112, 111, 105, 108, 116]⟩, 0, 0, 0, 0, 0⟩)) (fun w' hw => eL 43 _ rfl ⟨gk33, 0, none⟩ (run_load_part (cs := Cm.cs ⟨0, 0, 0, ⟨#[115, 112, 111, 105, 108, 116]⟩, 0, 0, 0, 0, 0⟩) (sub := Cm.cs ⟨0, 0, 0, ⟨#[115, 112, 111, 105, 108, 116]⟩, 0, 0, 0, 0, 0⟩) (hw.1.box 6 _ _ _ rfl) (Part.all _) Try.und47 rfl Try.size47)) hH ?_
                try simp only [pS]
                refine aT (i := 5) (oi := oqWOwn5) (v := .bool false) (fun w' hw => eB .neq 43 _ _ _ rfl (.agg (Cm.cells ⟨0, 0, 0, ⟨#[115, 112, 111, 105, 108, 116]⟩, 0, 0, 0, 0, 0⟩)) (.agg (Cm.cells ⟨0, 0, 0, ⟨#[115, 112, 111, 105, 108, 116]⟩, 0, 0, 0, 0, 0⟩)) _ (by rw [eqC_neq, eqC_refl]; rfl)) hH ?_
                try simp only [pS]
                refine aT (i := 6) (oi := oqWOwn6) (v := .bool false) (fun _ _ => by kernel_rfl) hH ?_
                try simp only [pS]
                refine aT (i := 7) (oi := oqWOwn7) (v := .slice sb (b.cm.l + 70) sd) (fun _ _ => by kernel_rfl) hH ?_
                try simp only [pS]
                refine aT (i := 8) (oi := oqWOwn8) (v := .int .i64 ((i : Nat) : Int)) (fun _ _ => by kernel_rfl) hH ?_
                try simp only [pS]
                refine aT (i := 9) (oi := oqWOwn9) (v := .pointer (some ⟨pb, ob + i * 9, none⟩)) (fun w' hw => exec_ixA 44 9 Try.und48e Try.size48e _ _ rfl pb ob (b.cm.l + 70) sd i (Eq.trans (b := .slice sb (b.cm.l + 70) sd) (by kernel_rfl) hslb.out) (by kernel_rfl) (by omega)) hH ?_
                try simp only [pS]
                refine aT (i := 10) (oi := oqWOwn10) (v := .agg (Cm.cells ⟨0, 0, 0, ⟨#[115, 112, 111, 105, 108, 116]⟩, 0, 0, 0, 0, 0⟩)) (fun w' hw => eL 43 _ rfl ⟨pb, ob + i * 9, none⟩ (load_cells (it := Cm.cs ⟨0, 0, 0, ⟨#[115, 112, 111, 105, 108, 116]⟩, 0, 0, 0, 0, 0⟩) (fun j v hv => hw.2.cell (HCb9.out j v hv) (fun e => e)) Try.und47 rfl Try.size47)) hH ?_
                try simp only [pS]
                refine aT (i := 11) (oi := oqWOwn11) (v := .agg (Cm.cells ⟨0, 0, 0, ⟨#[115, 112, 111, 105, 108, 116]⟩, 0, 0, 0, 0, 0⟩)) (fun w' hw => eL 43 _ rfl ⟨gk36, 0, none⟩ (run_load_part (cs := Cm.cs ⟨0, 0, 0, ⟨#[115, 112, 111, 105, 108, 116]⟩, 0, 0, 0, 0, 0⟩) (sub := Cm.cs ⟨0, 0, 0, ⟨#[115, 112, 111, 105, 108, 116]⟩, 0, 0, 0, 0, 0⟩) (hw.1.box 7 _ _ _ rfl) (Part.all _) Try.und47 rfl Try.size47)) hH ?_
                try simp only [pS]
                refine aT (i := 12) (oi := oqWOwn12) (v := .bool false) (fun w' hw => eB .neq 43 _ _ _ rfl (.agg (Cm.cells ⟨0, 0, 0, ⟨#[115, 112, 111, 105, 108, 116]⟩, 0, 0, 0, 0, 0⟩)) (.agg (Cm.cells ⟨0, 0, 0, ⟨#[115, 112, 111, 105, 108, 116]⟩, 0, 0, 0, 0, 0⟩)) _ (by rw [eqC_neq, eqC_refl]; rfl)) hH ?_
                try simp only [pS]
                refine aT (i := 13) (oi := oqWOwn13) (v := .bool false) (fun _ _ => by kernel_rfl) hH ?_
                try simp only [pS]
                refine wpAnyH_done (by kernel_rfl) ?_ _
                try simp only [pS]
                clear hH
                clear HCa9 HCb9 hsla hslb
                go_upto_region 24 with fail
                refine WL.start ?_
                refine tK (.int .i64 ((i : Nat) : Int)) ?_
                try simp only [pS]
                refine tW (.int .i64 (((i + 1) : Nat) : Int)) (eB .add 3 _ _ _ rfl (.int .i64 ((i : Nat) : Int)) (.int .i64 1) _ (b_addw _ _ _ (by rw [IntKind.wrap_i64]; omega) _)) ?_
                try simp only [pS]
                refine tK (.int .i64 (((i + 1) : Nat) : Int)) ?_
                try simp only [pS]
                refine WL.nil ?_
                try simp only [pS]
                have HCa : Hid (RdC wk39 ⟨sa, a.cm.l + 70, sc⟩ (cura ++ List.replicate 70 oneC)) := HCas.out.no HK0.out
                have HCb : Hid (RdC wk39 ⟨sb, b.cm.l + 70, sd⟩ (curb ++ List.replicate 70 twoC)) := HCbs.out.no HK0.out
                have HRm : Hid (MgRd wk39 m (owA nn h bs es ls ps)) := HRms.out.no HK0.out
                have HT : Hid (LtAt wk39 bb h bs es ls ps gb ge gl gp) := HTs.out.no HK0.out
                have HLt : Hid (SzL tw wk39) := HLts.out.no HK0.out
                clear HCas HCbs HRms HTs HLts HK0 HS0 hx0_gk33 hx0_gk36
                have HF : Hid (Fr No w wk39 [(gk1, 33, Hd.cells h), (gk6, 46, Mg.cells (ownQ nn)), (gk10, 49, Hd.cells (lentH h gb ge gl gp)), (gk14, 46, Mg.cells a), (gk18, 46, Mg.cells b), (gk22, 46, Mg.cells m)]) := (show Fr No w wk39 ([(gk1, 33, Hd.cells h), (gk6, 46, Mg.cells (ownQ nn)), (gk10, 49, Hd.cells (lentH h gb ge gl gp)), (gk14, 46, Mg.cells a), (gk18, 46, Mg.cells b), (gk22, 46, Mg.cells m)] ++ [(gk33, 43, Cm.cells ⟨0, 0, 0, ⟨#[115, 112, 111, 105, 108, 116]⟩, 0, 0, 0, 0, 0⟩), (gk36, 43, Cm.cells ⟨0, 0, 0, ⟨#[115, 112, 111, 105, 108, 116]⟩, 0, 0, 0, 0, 0⟩)]) from HF.out).front
                go_wp2
                go_roundw
                case rel => exact ⟨i + 1, by go_num, by omega, HCa, HCb, HRm, HT, HLt, HF⟩
                case measure => simp [intOf]; omega
               ·skip
                refine tW (.bool true) (eB .geq 3 _ _ _ rfl (.int .i64 ((i : Nat) : Int)) (.int .i64 ((a.cm.l : Nat) : Int)) _ (by rw [b_geq, q2]; try rfl)) ?_
                try simp only [pS]
                refine WL.nil ?_
                try simp only [pS]
                have hge : a.cm.l ≤ i := by have h9 := of_decide_eq_true q2; omega
                have hxa : (cura ++ List.replicate 70 oneC)[i]? = some oneC := app_hi hla hge (by omega)
                have hxb : (curb ++ List.replicate 70 twoC)[i]? = some twoC := app_hi hlb (by omega) (by omega)
                go_upto_region 28 with fail
                refine WL.start ?_
                refine tW (.agg (Cm.cells ⟨0, 0, 1, ⟨#[]⟩, 0, 0, 0, 0, 0⟩)) (exec_build 43 _ rfl (Cm.cells ⟨0, 0, 1, ⟨#[]⟩, 0, 0, 0, 0, 0⟩) (by kernel_rfl)) ?_
                try simp only [pS]
                refine wp_storeW 43 _ _ rfl ⟨gk33, 0, none⟩ (.agg (Cm.cells ⟨0, 0, 1, ⟨#[]⟩, 0, 0, 0, 0, 0⟩)) (by kernel_rfl) (by kernel_rfl) (wk38.setRow gk33 (Cm.cells ⟨0, 0, 1, ⟨#[]⟩, 0, 0, 0, 0, 0⟩)) (run_store_to (cur := Cm.cs ⟨0, 0, 0, ⟨#[115, 112, 111, 105, 108, 116]⟩, 0, 0, 0, 0, 0⟩) (vs := Cm.cs ⟨0, 0, 1, ⟨#[]⟩, 0, 0, 0, 0, 0⟩) (new := Cm.cs ⟨0, 0, 1, ⟨#[]⟩, 0, 0, 0, 0, 0⟩) (HF.out.box 6 _ _ _ rfl) (by kernel_rfl) Try.size47 (Nat.le_of_ble_eq_true (by kernel_rfl)) (Cm.oneL _) (by kernel_rfl)) (by kernel_rfl) ?_
                try simp only [pS]
                have HK0 : Hid (Kept No wr (wk38.setRow gk33 (Cm.cells ⟨0, 0, 1, ⟨#[]⟩, 0, 0, 0, 0, 0⟩))) := HK0.out.newRow (by rw [HS0.out]; exact hx0_gk33) _
                have HF : Hid (Fr No w _ [(gk1, 33, Hd.cells h), (gk6, 46, Mg.cells (ownQ nn)), (gk10, 49, Hd.cells (lentH h gb ge gl gp)), (gk14, 46, Mg.cells a), (gk18, 46, Mg.cells b), (gk22, 46, Mg.cells m), (gk33, 43, Cm.cells ⟨0, 0, 1, ⟨#[]⟩, 0, 0, 0, 0, 0⟩), (gk36, 43, Cm.cells ⟨0, 0, 0, ⟨#[115, 112, 111, 105, 108, 116]⟩, 0, 0, 0, 0, 0⟩)]) := HF.out.set 6 rfl _
                generalize wk38.setRow gk33 (Cm.cells ⟨0, 0, 1, ⟨#[]⟩, 0, 0, 0, 0, 0⟩) = wk40 at HF HK0 ⊢
                refine WL.nil ?_
                try simp only [pS]
                go_upto_region 29 with fail
                refine WL.start ?_
                refine tW (.agg (Cm.cells ⟨0, 0, 2, ⟨#[]⟩, 0, 0, 0, 0, 0⟩)) (exec_build 43 _ rfl (Cm.cells ⟨0, 0, 2, ⟨#[]⟩, 0, 0, 0, 0, 0⟩) (by kernel_rfl)) ?_
                try simp only [pS]
                refine wp_storeW 43 _ _ rfl ⟨gk36, 0, none⟩ (.agg (Cm.cells ⟨0, 0, 2, ⟨#[]⟩, 0, 0, 0, 0, 0⟩)) (by kernel_rfl) (by kernel_rfl) (wk40.setRow gk36 (Cm.cells ⟨0, 0, 2, ⟨#[]⟩, 0, 0, 0, 0, 0⟩)) (run_store_to (cur := Cm.cs ⟨0, 0, 0, ⟨#[115, 112, 111, 105, 108, 116]⟩, 0, 0, 0, 0, 0⟩) (vs := Cm.cs ⟨0, 0, 2, ⟨#[]⟩, 0, 0, 0, 0, 0⟩) (new := Cm.cs ⟨0, 0, 2, ⟨#[]⟩, 0, 0, 0, 0, 0⟩) (HF.out.box 7 _ _ _ rfl) (by kernel_rfl) Try.size47 (Nat.le_of_ble_eq_true (by kernel_rfl)) (Cm.oneL _) (by kernel_rfl)) (by kernel_rfl) ?_
                try simp only [pS]
                have HK0 : Hid (Kept No wr (wk40.setRow gk36 (Cm.cells ⟨0, 0, 2, ⟨#[]⟩, 0, 0, 0, 0, 0⟩))) := HK0.out.newRow (by rw [HS0.out]; exact hx0_gk36) _
                have HF : Hid (Fr No w _ [(gk1, 33, Hd.cells h), (gk6, 46, Mg.cells (ownQ nn)), (gk10, 49, Hd.cells (lentH h gb ge gl gp)), (gk14, 46, Mg.cells a), (gk18, 46, Mg.cells b), (gk22, 46, Mg.cells m), (gk33, 43, Cm.cells ⟨0, 0, 1, ⟨#[]⟩, 0, 0, 0, 0, 0⟩), (gk36, 43, Cm.cells ⟨0, 0, 2, ⟨#[]⟩, 0, 0, 0, 0, 0⟩)]) := HF.out.set 7 rfl _
                generalize wk40.setRow gk36 (Cm.cells ⟨0, 0, 2, ⟨#[]⟩, 0, 0, 0, 0, 0⟩) = wk41 at HF HK0 ⊢
                refine WL.nil ?_
                try simp only [pS]
                obtain ⟨pa, oa, hpa, hca⟩ := (HCas.out.no HK0.out).get hxa
                have hsla : Hid (Value.slice sa (a.cm.l + 70) sc = .slice (some ⟨pa, oa, none⟩) (a.cm.l + 70) sc) := congrArg (fun y => Value.slice y (a.cm.l + 70) sc) hpa
                have HCa9 : Hid (∀ (j : Nat) v, (Cm.cs ⟨0, 0, 1, ⟨#[]⟩, 0, 0, 0, 0, 0⟩)[j]? = some v → wk41.cell? ⟨pa, oa + i * 9 + j, none⟩ = some v) := show ∀ (j : Nat) v, (Cm.cs ⟨0, 0, 1, ⟨#[]⟩, 0, 0, 0, 0, 0⟩)[j]? = some v → wk41.cell? ⟨pa, oa + i * 9 + j, none⟩ = some v from hca
                clear hpa hca hxa
                obtain ⟨pb, ob, hpb, hcb⟩ := (HCbs.out.no HK0.out).get hxb
                have hslb : Hid (Value.slice sb (b.cm.l + 70) sd = .slice (some ⟨pb, ob, none⟩) (b.cm.l + 70) sd) := congrArg (fun y => Value.slice y (b.cm.l + 70) sd) hpb
                have HCb9 : Hid (∀ (j : Nat) v, (Cm.cs ⟨0, 0, 2, ⟨#[]⟩, 0, 0, 0, 0, 0⟩)[j]? = some v → wk41.cell? ⟨pb, ob + i * 9 + j, none⟩ = some v) := show ∀ (j : Nat) v, (Cm.cs ⟨0, 0, 2, ⟨#[]⟩, 0, 0, 0, 0, 0⟩)[j]? = some v → wk41.cell? ⟨pb, ob + i * 9 + j, none⟩ = some v from hcb
                clear hpb hcb hxb
                go_upto_region 30 with fail
                refine wp_region_held_drew (S := fun w' => Fr No w w' [(gk1, 33, Hd.cells h), (gk6, 46, Mg.cells (ownQ nn)), (gk10, 49, Hd.cells (lentH h gb ge gl gp)), (gk14, 46, Mg.cells a), (gk18, 46, Mg.cells b), (gk22, 46, Mg.cells m), (gk33, 43, Cm.cells ⟨0, 0, 1, ⟨#[]⟩, 0, 0, 0, 0, 0⟩), (gk36, 43, Cm.cells ⟨0, 0, 2, ⟨#[]⟩, 0, 0, 0, 0, 0⟩)] ∧ Kept No wk41 w') rfl ⟨HF.out.drew, (Kept.refl No _).drew⟩ (fun hH => ?_)
                have HK0 : Hid (Kept No wr (wk41.drew)) := HK0.out.no (Kept.refl No _).drew
                have HF : Hid (Fr No w (wk41.drew) [(gk1, 33, Hd.cells h), (gk6, 46, Mg.cells (ownQ nn)), (gk10, 49, Hd.cells (lentH h gb ge gl gp)), (gk14, 46, Mg.cells a), (gk18, 46, Mg.cells b), (gk22, 46, Mg.cells m), (gk33, 43, Cm.cells ⟨0, 0, 1, ⟨#[]⟩, 0, 0, 0, 0, 0⟩), (gk36, 43, Cm.cells ⟨0, 0, 2, ⟨#[]⟩, 0, 0, 0, 0, 0⟩)]) := HF.out.drew
                generalize wk41.drew = wk42 at HF HK0 hH ⊢
                refine aT (i := 0) (oi := oqWOwn0) (v := .slice sa (a.cm.l + 70) sc) (fun _ _ => by kernel_rfl) hH ?_
                try simp only [pS]
                refine aT (i := 1) (oi := oqWOwn1) (v := .int .i64 ((i : Nat) : Int)) (fun _ _ => by kernel_rfl) hH ?_
                try simp only [pS]
                refine aT (i := 2) (oi := oqWOwn2) (v := .pointer (some ⟨pa, oa + i * 9, none⟩)) (fun w' hw => exec_ixA 44 9 Try.und48e Try.size48e _ _ rfl pa oa (a.cm.l + 70) sc i (Eq.trans (b := .slice sa (a.cm.l + 70) sc) (by kernel_rfl) hsla.out) (by kernel_rfl) (by omega)) hH ?_
                try simp only [pS]
                refine aT (i := 3) (oi := oqWOwn3) (v := .agg (Cm.cells ⟨0, 0, 1, ⟨#[]⟩, 0, 0, 0, 0, 0⟩)) (fun w' hw => eL 43 _ rfl ⟨pa, oa + i * 9, none⟩ (load_cells (it := Cm.cs ⟨0, 0, 1, ⟨#[]⟩, 0, 0, 0, 0, 0⟩) (fun j v hv => hw.2.cell (HCa9.out j v hv) (fun e => e)) Try.und47 rfl Try.size47)) hH ?_
                try simp only [pS]
                refine aT (i := 4) (oi := oqWOwn4) (v := .agg (Cm.cells ⟨0, 0, 1, ⟨#[]⟩, 0, 0, 0, 0, 0⟩)) (fun w' hw => eL 43 _ rfl ⟨gk33, 0, none⟩ (run_load_part (cs := Cm.cs ⟨0, 0, 1, ⟨#[]⟩, 0, 0, 0, 0, 0⟩) (sub := Cm.cs ⟨0, 0, 1, ⟨#[]⟩, 0, 0, 0, 0, 0⟩) (hw.1.box 6 _ _ _ rfl) (Part.all _) Try.und47 rfl Try.size47)) hH ?_
                try simp only [pS]
                refine aT (i := 5) (oi := oqWOwn5) (v := .bool false) (fun w' hw => eB .neq 43 _ _ _ rfl (.agg (Cm.cells ⟨0, 0, 1, ⟨#[]⟩, 0, 0, 0, 0, 0⟩)) (.agg (Cm.cells ⟨0, 0, 1, ⟨#[]⟩, 0, 0, 0, 0, 0⟩)) _ (by rw [eqC_neq, eqC_refl]; rfl)) hH ?_
                try simp only [pS]
                refine aT (i := 6) (oi := oqWOwn6) (v := .bool false) (fun _ _ => by kernel_rfl) hH ?_
                try simp only [pS]
                refine aT (i := 7) (oi := oqWOwn7) (v := .slice sb (b.cm.l + 70) sd) (fun _ _ => by kernel_rfl) hH ?_
                try simp only [pS]
                refine aT (i := 8) (oi := oqWOwn8) (v := .int .i64 ((i : Nat) : Int)) (fun _ _ => by kernel_rfl) hH ?_
                try simp only [pS]
                refine aT (i := 9) (oi := oqWOwn9) (v := .pointer (some ⟨pb, ob + i * 9, none⟩)) (fun w' hw => exec_ixA 44 9 Try.und48e Try.size48e _ _ rfl pb ob (b.cm.l + 70) sd i (Eq.trans (b := .slice sb (b.cm.l + 70) sd) (by kernel_rfl) hslb.out) (by kernel_rfl) (by omega)) hH ?_
                try simp only [pS]
                refine aT (i := 10) (oi := oqWOwn10) (v := .agg (Cm.cells ⟨0, 0, 2, ⟨#[]⟩, 0, 0, 0, 0, 0⟩)) (fun w' hw => eL 43 _ rfl ⟨pb, ob + i * 9, none⟩ (load_cells (it := Cm.cs ⟨0, 0, 2, ⟨#[]⟩, 0, 0, 0, 0, 0⟩) (fun j v hv => hw.2.cell (HCb9.out j v hv) (fun e => e)) Try.und47 rfl Try.size47)) hH ?_
                try simp only [pS]
                refine aT (i := 11) (oi := oqWOwn11) (v := .agg (Cm.cells ⟨0, 0, 2, ⟨#[]⟩, 0, 0, 0, 0, 0⟩)) (fun w' hw => eL 43 _ rfl ⟨gk36, 0, none⟩ (run_load_part (cs := Cm.cs ⟨0, 0, 2, ⟨#[]⟩, 0, 0, 0, 0, 0⟩) (sub := Cm.cs ⟨0, 0, 2, ⟨#[]⟩, 0, 0, 0, 0, 0⟩) (hw.1.box 7 _ _ _ rfl) (Part.all _) Try.und47 rfl Try.size47)) hH ?_
                try simp only [pS]
                refine aT (i := 12) (oi := oqWOwn12) (v := .bool false) (fun w' hw => eB .neq 43 _ _ _ rfl (.agg (Cm.cells ⟨0, 0, 2, ⟨#[]⟩, 0, 0, 0, 0, 0⟩)) (.agg (Cm.cells ⟨0, 0, 2, ⟨#[]⟩, 0, 0, 0, 0, 0⟩)) _ (by rw [eqC_neq, eqC_refl]; rfl)) hH ?_
                try simp only [pS]
                refine aT (i := 13) (oi := oqWOwn13) (v := .bool false) (fun _ _ => by kernel_rfl) hH ?_
                try simp only [pS]
                refine wpAnyH_done (by kernel_rfl) ?_ _
                try simp only [pS]
                clear hH
                clear HCa9 HCb9 hsla hslb
                go_upto_region 24 with fail
                refine WL.start ?_
                refine tK (.int .i64 ((i : Nat) : Int)) ?_
                try simp only [pS]
                refine tW (.int .i64 (((i + 1) : Nat) : Int)) (eB .add 3 _ _ _ rfl (.int .i64 ((i : Nat) : Int)) (.int .i64 1) _ (b_addw _ _ _ (by rw [IntKind.wrap_i64]; omega) _)) ?_
                try simp only [pS]
                refine tK (.int .i64 (((i + 1) : Nat) : Int)) ?_
                try simp only [pS]
                refine WL.nil ?_
                try simp only [pS]
                have HCa : Hid (RdC wk42 ⟨sa, a.cm.l + 70, sc⟩ (cura ++ List.replicate 70 oneC)) := HCas.out.no HK0.out
                have HCb : Hid (RdC wk42 ⟨sb, b.cm.l + 70, sd⟩ (curb ++ List.replicate 70 twoC)) := HCbs.out.no HK0.out
                have HRm : Hid (MgRd wk42 m (owA nn h bs es ls ps)) := HRms.out.no HK0.out
                have HT : Hid (LtAt wk42 bb h bs es ls ps gb ge gl gp) := HTs.out.no HK0.out
                have HLt : Hid (SzL tw wk42) := HLts.out.no HK0.out
                clear HCas HCbs HRms HTs HLts HK0 HS0 hx0_gk33 hx0_gk36
                have HF : Hid (Fr No w wk42 [(gk1, 33, Hd.cells h), (gk6, 46, Mg.cells (ownQ nn)), (gk10, 49, Hd.cells (lentH h gb ge gl gp)), (gk14, 46, Mg.cells a), (gk18, 46, Mg.cells b), (gk22, 46, Mg.cells m)]) := (show Fr No w wk42 ([(gk1, 33, Hd.cells h), (gk6, 46, Mg.cells (ownQ nn)), (gk10, 49, Hd.cells (lentH h gb ge gl gp)), (gk14, 46, Mg.cells a), (gk18, 46, Mg.cells b), (gk22, 46, Mg.cells m)] ++ [(gk33, 43, Cm.cells ⟨0, 0, 1, ⟨#[]⟩, 0, 0, 0, 0, 0⟩), (gk36, 43, Cm.cells ⟨0, 0, 2, ⟨#[]⟩, 0, 0, 0, 0, 0⟩)]) from HF.out).front
                go_wp2
                go_roundw
                case rel => exact ⟨i + 1, by go_num, by omega, HCa, HCb, HRm, HT, HLt, HF⟩
                case measure => simp [intOf]; omega
             · skip
               go_upto_region 23 with fail
               refine WL.start ?_
               refine tK (.int .i64 ((i : Nat) : Int)) ?_
               try simp only [pS]
               refine tK (.slice sa (a.cm.l + 70) sc) ?_
               try simp only [pS]
               refine tK (.int .i64 (((a.cm.l + 70) : Nat) : Int)) ?_
               try simp only [pS]
               refine tW (.bool false) (eB .lss 3 _ _ _ rfl (.int .i64 ((i : Nat) : Int)) (.int .i64 (((a.cm.l + 70) : Nat) : Int)) _ (by rw [b_lss, decide_eq_false (by omega)])) ?_
               try simp only [pS]
               refine WL.nil ?_
               try simp only [pS]
               clear hlt hi HCa HCb
               go_upto_region 32 with fail
               refine wp_region_held_drew (S := fun w' => Fr No w w' [(gk1, 33, Hd.cells h), (gk6, 46, Mg.cells (ownQ nn)), (gk10, 49, Hd.cells (lentH h gb ge gl gp)), (gk14, 46, Mg.cells a), (gk18, 46, Mg.cells b), (gk22, 46, Mg.cells m)]) rfl (HF.out.drew) (fun hH => ?_)
               have HRm : Hid (MgRd (wr.drew) m (owA nn h bs es ls ps)) := HRm.out.no (Kept.refl No _).drew
               have HT : Hid (LtAt (wr.drew) bb h bs es ls ps gb ge gl gp) := HT.out.no (Kept.refl No _).drew
               have HLt : Hid (SzL tw (wr.drew)) := HLt.out.no (Kept.refl No _).drew
               have HF : Hid (Fr No w (wr.drew) [(gk1, 33, Hd.cells h), (gk6, 46, Mg.cells (ownQ nn)), (gk10, 49, Hd.cells (lentH h gb ge gl gp)), (gk14, 46, Mg.cells a), (gk18, 46, Mg.cells b), (gk22, 46, Mg.cells m)]) := HF.out.drew
               generalize wr.drew = wk43 at HF HRm HT HLt hH ⊢
               refine aT (i := 0) (oi := { dst := some 118, op := Op.load 46 (Operand.tmp 5), type := 46, pos := "outright.go:216", after := #[], guard := none }) (v := .agg (Mg.cells (ownQ nn))) (fun w' hw => eL 46 _ rfl ⟨gk6, 0, none⟩ (run_load_part (cs := Mg.cs (ownQ nn)) (sub := Mg.cs (ownQ nn)) (hw.box 1 _ _ _ rfl) (Part.all _) Try.und50 rfl Try.size50)) hH ?_
               try simp only [pS]
               refine aT (i := 1) (oi := { dst := some 119, op := Op.load 49 (Operand.tmp 6), type := 49, pos := "outright.go:216", after := #[], guard := none }) (v := .agg (Hd.cells (lentH h gb ge gl gp))) (fun w' hw => eL 49 _ rfl ⟨gk10, 0, none⟩ (run_load_part (cs := Hd.cs (lentH h gb ge gl gp)) (sub := Hd.cs (lentH h gb ge gl gp)) (hw.box 2 _ _ _ rfl) (Part.all _) Try.und40 rfl Try.size40)) hH ?_
               try simp only [pS]
               refine aT (i := 3) (oi := { dst := some 121, op := Op.load 46 (Operand.tmp 9), type := 46, pos := "outright.go:216", after := #[], guard := none }) (v := .agg (Mg.cells m)) (fun w' hw => eL 46 _ rfl ⟨gk22, 0, none⟩ (run_load_part (cs := Mg.cs m) (sub := Mg.cs m) (hw.box 5 _ _ _ rfl) (Part.all _) Try.und50 rfl Try.size50)) hH ?_
               try simp only [pS]
               refine any_call (i := 2) (o := { dst := some 120, op := Op.call { callee := Callee.value (Operand.func 7), args := #[Operand.tmp 118, Operand.tmp 119], argTypes := #[46, 49] }, type := 46, pos := "outright.go:216", after := #[{ on := 0, ground := Ground.data }, { on := 1, ground := Ground.data }], guard := none }) rfl (by kernel_rfl) (by kernel_rfl) 7 #[.agg (Mg.cells (ownQ nn)), .agg (Hd.cells (lentH h gb ge gl gp))] (by kernel_rfl) _ (have_own (ownQ nn) h bs es ls ps gb ge gl gp bb _ (HH.out.no HF.out.kept) HT.out HM.out rfl) ?_
               rintro e wk44 ⟨m3, rfl, hm, hmn, hk⟩
               have hH2 : Fr No w wk44 [(gk1, 33, Hd.cells h), (gk6, 46, Mg.cells (ownQ nn)), (gk10, 49, Hd.cells (lentH h gb ge gl gp)), (gk14, 46, Mg.cells a), (gk18, 46, Mg.cells b), (gk22, 46, Mg.cells m)] := hH.no hk
               have HRm : Hid (MgRd (wk44) m (owA nn h bs es ls ps)) := HRm.out.no hk
               have HT : Hid (LtAt (wk44) bb h bs es ls ps gb ge gl gp) := HT.out.no hk
               have HLt : Hid (SzL tw (wk44)) := HLt.out.no hk
               have HF : Hid (Fr No w (wk44) [(gk1, 33, Hd.cells h), (gk6, 46, Mg.cells (ownQ nn)), (gk10, 49, Hd.cells (lentH h gb ge gl gp)), (gk14, 46, Mg.cells a), (gk18, 46, Mg.cells b), (gk22, 46, Mg.cells m)]) := HF.out.no hk
               have HM3 : Hid (MgRd wk44 m3 (owA nn h bs es ls ps)) := hm
               clear hk hm hmn
               refine ⟨.agg (Mg.cells m3), rfl, hH2, fun hH => ?_⟩
               clear hH2
               try simp only [pS]
               refine any_call (i := 4) (o := { dst := some 122, op := Op.call { callee := Callee.value (Operand.func 9), args := #[Operand.tmp 120, Operand.tmp 121], argTypes := #[46, 46] }, type := 4, pos := "outright.go:216", after := #[{ on := 2, ground := Ground.data }, { on := 3, ground := Ground.data }, { on := 2, ground := Ground.chain }], guard := none }) rfl (by kernel_rfl) (by kernel_rfl) 9 #[.agg (Mg.cells m3), .agg (Mg.cells m)] (by kernel_rfl) _ (sameM2 m3 m (owA nn h bs es ls ps) _ HM3.out HRm.out (hv_len (ownQ nn) h bs es ls ps (by omega) (by omega)).1 (hv_len (ownQ nn) h bs es ls ps (by omega) (by omega)).2.1 (hv_len (ownQ nn) h bs es ls ps (by omega) (by omega)).2.2) ?_
               rintro e wk45 ⟨rfl, hk⟩
               have hH2 : Fr No w wk45 [(gk1, 33, Hd.cells h), (gk6, 46, Mg.cells (ownQ nn)), (gk10, 49, Hd.cells (lentH h gb ge gl gp)), (gk14, 46, Mg.cells a), (gk18, 46, Mg.cells b), (gk22, 46, Mg.cells m)] := hH.no hk
               have HRm : Hid (MgRd (wk45) m (owA nn h bs es ls ps)) := HRm.out.no hk
               have HT : Hid (LtAt (wk45) bb h bs es ls ps gb ge gl gp) := HT.out.no hk
               have HLt : Hid (SzL tw (wk45)) := HLt.out.no hk
               have HM3 : Hid (MgRd (wk45) m3 (owA nn h bs es ls ps)) := HM3.out.no hk
               have HF : Hid (Fr No w (wk45) [(gk1, 33, Hd.cells h), (gk6, 46, Mg.cells (ownQ nn)), (gk10, 49, Hd.cells (lentH h gb ge gl gp)), (gk14, 46, Mg.cells a), (gk18, 46, Mg.cells b), (gk22, 46, Mg.cells m)]) := HF.out.no hk
               clear hk
               refine ⟨.bool true, rfl, hH2, fun hH => ?_⟩
               clear hH2
               try simp only [pS]
               refine aT (i := 5) (oi := { dst := some 123, op := Op.unOp UnOp.not 4 (Operand.tmp 122), type := 4, pos := "outright.go:216", after := #[{ on := 4, ground := Ground.data }], guard := none }) (v := .bool false) (fun _ _ => by kernel_rfl) hH ?_
               try simp only [pS]
               refine aT (i := 6) (oi := { dst := some 124, op := Op.move (Operand.tmp 123), type := 4, pos := "outright.go:216", after := #[{ on := 5, ground := Ground.data }, { on := 4, ground := Ground.chain }], guard := none }) (v := .bool false) (fun _ _ => by kernel_rfl) hH ?_
               try simp only [pS]
               refine aT (i := 7) (oi := { dst := some 125, op := Op.load 49 (Operand.tmp 6), type := 49, pos := "outright.go:216", after := #[{ on := 6, ground := Ground.guard }], guard := some (6, false) }) (v := .agg (Hd.cells (lentH h gb ge gl gp))) (fun w' hw => eL 49 _ rfl ⟨gk10, 0, none⟩ (run_load_part (cs := Hd.cs (lentH h gb ge gl gp)) (sub := Hd.cs (lentH h gb ge gl gp)) (hw.box 2 _ _ _ rfl) (Part.all _) Try.und40 rfl Try.size40)) hH ?_
               try simp only [pS]
               refine aT (i := 8) (oi := { dst := some 126, op := Op.load 33 (Operand.tmp 2), type := 33, pos := "outright.go:216", after := #[{ on := 6, ground := Ground.guard }], guard := some (6, false) }) (v := .agg (Hd.cells h)) (fun w' hw => eL 33 _ rfl ⟨gk1, 0, none⟩ (run_load_part (cs := Hd.cs h) (sub := Hd.cs h) (hw.box 0 _ _ _ rfl) (Part.all _) Try.und35 rfl Try.size35)) hH ?_
               try simp only [pS]
               refine any_call (i := 9) (o := { dst := some 127, op := Op.call { callee := Callee.value (Operand.func 11), args := #[Operand.tmp 125, Operand.tmp 126], argTypes := #[49, 33] }, type := 4, pos := "outright.go:216", after := #[{ on := 7, ground := Ground.data }, { on := 8, ground := Ground.data }, { on := 6, ground := Ground.chain }, { on := 6, ground := Ground.guard }], guard := some (6, false) }) rfl (by kernel_rfl) (by kernel_rfl) 11 #[.agg (Hd.cells (lentH h gb ge gl gp)), .agg (Hd.cells h)] (by kernel_rfl) _ (back_any h gb ge gl gp bb bs es ls ps _ (HH.out.no HF.out.kept) HT.out) ?_
               rintro e wk46 ⟨rfl, hk⟩
               have hH2 : Fr No w wk46 [(gk1, 33, Hd.cells h), (gk6, 46, Mg.cells (ownQ nn)), (gk10, 49, Hd.cells (lentH h gb ge gl gp)), (gk14, 46, Mg.cells a), (gk18, 46, Mg.cells b), (gk22, 46, Mg.cells m)] := hH.back HT.out hk (by rw [HW0.out]; exact hbb) (by simp)
               have HF : Hid (Fr No w (wk46) [(gk1, 33, Hd.cells h), (gk6, 46, Mg.cells (ownQ nn)), (gk10, 49, Hd.cells (lentH h gb ge gl gp)), (gk14, 46, Mg.cells a), (gk18, 46, Mg.cells b), (gk22, 46, Mg.cells m)]) := HF.out.back HT.out hk (by rw [HW0.out]; exact hbb) (by simp)
               have HRm : Hid (MgRd wk46 m (owA nn h bs es ls ps)) := HRm.out.keptN HWo.out hk (fun k e => by have h1 := hgd k e; have h2 := HT.out.low hbb k e; exact ⟨h2, .inl (by omega)⟩)
               have HLt : Hid (SzL tw wk46) := HLt.out.grow hk
               clear hk HT HM3
               refine ⟨.bool true, rfl, hH2, fun hH => ?_⟩
               clear hH2
               try simp only [pS]
               refine aT (i := 10) (oi := { dst := some 128, op := Op.unOp UnOp.not 4 (Operand.tmp 127), type := 4, pos := "outright.go:216", after := #[{ on := 9, ground := Ground.data }, { on := 6, ground := Ground.guard }], guard := some (6, false) }) (v := .bool false) (fun _ _ => by kernel_rfl) hH ?_
               try simp only [pS]
               refine aT (i := 11) (oi := { dst := some 129, op := Op.pick (Operand.tmp 124) (Operand.const (Value.bool true)) (Operand.tmp 128), type := 4, pos := "outright.go:216", after := #[{ on := 6, ground := Ground.data }, { on := 10, ground := Ground.data }], guard := none }) (v := .bool false) (fun _ _ => by kernel_rfl) hH ?_
               try simp only [pS]
               refine wpAnyH_done (by kernel_rfl) ?_ _
               try simp only [pS]
               clear hH
               have HRms : Hid (MgRd wk46 m (owA nn h bs es ls ps)) := HRm
               clear HRm
               have HLts : Hid (SzL tw wk46) := HLt
               clear HLt
               have HK0 : Hid (Kept No wk46 wk46) := Kept.refl _ _
               obtain ⟨s0, hs0⟩ : ∃ n, wk46.heap.size = n := ⟨_, rfl⟩
               have HS0 : Hid (wk46.heap.size = s0) := hs0
               clear hs0
               go_upto_region 34 with fail
               refine WL.start ?_
               refine tW (.agg (Mg.cells m)) (eL 46 _ rfl ⟨gk22, 0, none⟩ (run_load_part (cs := Mg.cs m) (sub := Mg.cs m) (HF.out.box 5 _ _ _ rfl) (Part.all _) Try.und50 rfl Try.size50)) ?_
               try simp only [pS]
               refine tW (.agg (Hd.cells hdZ)) (exec_build 49 _ rfl (Hd.cells hdZ) (by kernel_rfl)) ?_
               try simp only [pS]
               refine wp_callW 12 #[.agg (Mg.cells m), .agg (Hd.cells hdZ)] (by kernel_rfl) _ (take_own m (owA nn h bs es ls ps).b (owA nn h bs es ls ps).e (owA nn h bs es ls ps).l (owA nn h bs es ls ps).c _ ((HRms.out.no HK0.out).at (by omega) (by omega) (by omega) (by omega)) may_zero hmk) (by kernel_rfl) ?_
               have hbx0 : tw ≤ wk46.heap.size := (HLts.out.no HK0.out)
               rintro e wk47 ⟨⟨xa, xn, xk⟩, X, rfl, hm, hmn, ho, hk⟩
               have HK0 : Hid (Kept No wk46 (wk47)) := HK0.out.no hk
               have HF : Hid (Fr No w (wk47) [(gk1, 33, Hd.cells h), (gk6, 46, Mg.cells (ownQ nn)), (gk10, 49, Hd.cells (lentH h gb ge gl gp)), (gk14, 46, Mg.cells a), (gk18, 46, Mg.cells b), (gk22, 46, Mg.cells m)]) := HF.out.no hk
               have HX6 : Hid (TkRd wk47 ⟨xa, xn, xk⟩ (owT nn m h bs es ls ps).z (owT nn m h bs es ls ps).b (owT nn m h bs es ls ps).e (owT nn m h bs es ls ps).l X) := hm
               have HLx6 : Hid (SzL wk46.heap.size wk47) := hk.size
               have HXo6 : Hid (XOw wk47 wk46.heap.size ⟨xa, xn, xk⟩ X) := ho
               have hlx : (owT nn m h bs es ls ps).z.length = xn := hm.zl
               clear HLx6
               clear hk hm hmn ho
               generalize wk46.heap.size = bx at hbx0 HXo6
               have HK1 : Hid (Kept No wk47 wk47) := Kept.refl _ _
               obtain ⟨s1, hs1⟩ : ∃ n, wk47.heap.size = n := ⟨_, rfl⟩
               have HS1 : Hid (wk47.heap.size = s1) := hs1
               clear hs1
               refine ⟨.tuple #[.slice xa xn xk, .agg (Mg.cells (owT nn m h bs es ls ps).m), .bool (owT nn m h bs es ls ps).o], rfl, ?_⟩
               try simp only [pS]
               refine tK (.tuple #[.slice xa xn xk, .agg (Mg.cells (owT nn m h bs es ls ps).m), .bool (owT nn m h bs es ls ps).o]) ?_
               try simp only [pS]
               refine tK (.slice xa xn xk) ?_
               try simp only [pS]
               refine tK (.agg (Mg.cells ((owT nn m h bs es ls ps).m))) ?_
               try simp only [pS]
               refine tK (.bool (owT nn m h bs es ls ps).o) ?_
               try simp only [pS]
               refine wp_runW (.pointer (some ⟨wk47.heap.size, 0, none⟩)) (wk47.alloc (.cells (Mg.cells mgZ) 46)) (exec_alloc 46 rfl (Mg.cells mgZ) zero50) (by kernel_rfl) ?_
               try simp only [pS]
               have hx0_gk48 : s0 ≤ wk47.heap.size := by rw [← HS0.out]; exact HK0.out.size
               have hx1_gk48 : s1 ≤ wk47.heap.size := by rw [← HS1.out]; exact HK1.out.size
               have HK0 : Hid (Kept No wk46 (wk47.alloc (.cells (Mg.cells mgZ) 46))) := HK0.out.no ((Kept.refl No _).alloc _)
               have HK1 : Hid (Kept No wk47 (wk47.alloc (.cells (Mg.cells mgZ) 46))) := HK1.out.no ((Kept.refl No _).alloc _)
               have HF : Hid (Fr No w _ [(gk1, 33, Hd.cells h), (gk6, 46, Mg.cells (ownQ nn)), (gk10, 49, Hd.cells (lentH h gb ge gl gp)), (gk14, 46, Mg.cells a), (gk18, 46, Mg.cells b), (gk22, 46, Mg.cells m), (wk47.heap.size, 46, Mg.cells mgZ)]) := HF.out.alloc _ _
               generalize wk47.alloc (.cells (Mg.cells mgZ) 46) = wk49 at HF HK0 HK1 ⊢
               generalize wk47.heap.size = gk48 at HF hx0_gk48 hx1_gk48 ⊢
               refine tK (.slice xa xn xk) ?_
               try simp only [pS]
               refine wp_storeW 46 _ _ rfl ⟨gk48, 0, none⟩ (.agg (Mg.cells ((owT nn m h bs es ls ps).m))) (by kernel_rfl) (by kernel_rfl) (wk49.setRow gk48 (Mg.cells ((owT nn m h bs es ls ps).m))) (run_store_to (cur := Mg.cs mgZ) (vs := Mg.cs ((owT nn m h bs es ls ps).m)) (new := Mg.cs ((owT nn m h bs es ls ps).m)) (HF.out.box 6 _ _ _ rfl) (by kernel_rfl) Try.size50 (Nat.le_of_ble_eq_true (by kernel_rfl)) (Mg.oneL _) (by kernel_rfl)) (by kernel_rfl) ?_
               try simp only [pS]
               have HK0 : Hid (Kept No wk46 (wk49.setRow gk48 (Mg.cells ((owT nn m h bs es ls ps).m)))) := HK0.out.newRow (by rw [HS0.out]; exact hx0_gk48) _
               have HK1 : Hid (Kept No wk47 (wk49.setRow gk48 (Mg.cells ((owT nn m h bs es ls ps).m)))) := HK1.out.newRow (by rw [HS1.out]; exact hx1_gk48) _
               have HF : Hid (Fr No w _ [(gk1, 33, Hd.cells h), (gk6, 46, Mg.cells (ownQ nn)), (gk10, 49, Hd.cells (lentH h gb ge gl gp)), (gk14, 46, Mg.cells a), (gk18, 46, Mg.cells b), (gk22, 46, Mg.cells m), (gk48, 46, Mg.cells ((owT nn m h bs es ls ps).m))]) := HF.out.set 6 rfl _
               generalize wk49.setRow gk48 (Mg.cells ((owT nn m h bs es ls ps).m)) = wk50 at HF HK0 HK1 ⊢
               refine tK (.bool (owT nn m h bs es ls ps).o) ?_
               try simp only [pS]
               refine WL.nil ?_
               try simp only [pS]
               have HRm : Hid (MgRd wk50 m (owA nn h bs es ls ps)) := HRms.out.no HK0.out
               have HLt : Hid (SzL tw wk50) := HLts.out.no HK0.out
               have HX : Hid (TkRd wk50 ⟨xa, xn, xk⟩ (owT nn m h bs es ls ps).z (owT nn m h bs es ls ps).b (owT nn m h bs es ls ps).e (owT nn m h bs es ls ps).l X) := HX6.out.no HK1.out
               have HXo : Hid (XOw wk50 bx ⟨xa, xn, xk⟩ X) := HXo6.out.no HK1.out
               clear HRms HLts HX6 HXo6 HK1 HS1 HK0 HS0 hx0_gk48 hx1_gk48
               have HRms : Hid (MgRd wk50 m (owA nn h bs es ls ps)) := HRm
               clear HRm
               have HLts : Hid (SzL tw wk50) := HLt
               clear HLt
               have HXs : Hid (TkRd wk50 ⟨xa, xn, xk⟩ (owT nn m h bs es ls ps).z (owT nn m h bs es ls ps).b (owT nn m h bs es ls ps).e (owT nn m h bs es ls ps).l X) := HX
               clear HX
               have HXos : Hid (XOw wk50 bx ⟨xa, xn, xk⟩ X) := HXo
               clear HXo
               have HK0 : Hid (Kept No wk50 wk50) := Kept.refl _ _
               obtain ⟨s0, hs0⟩ : ∃ n, wk50.heap.size = n := ⟨_, rfl⟩
               have HS0 : Hid (wk50.heap.size = s0) := hs0
               clear hs0
               go_upto_region 35 with fail
               refine WL.start ?_
               refine tW (.agg (Mg.cells m)) (eL 46 _ rfl ⟨gk22, 0, none⟩ (run_load_part (cs := Mg.cs m) (sub := Mg.cs m) (HF.out.box 5 _ _ _ rfl) (Part.all _) Try.und50 rfl Try.size50)) ?_
               try simp only [pS]
               refine tW (.agg (Hd.cells hdZ)) (exec_build 49 _ rfl (Hd.cells hdZ) (by kernel_rfl)) ?_
               try simp only [pS]
               refine wp_callW 12 #[.agg (Mg.cells m), .agg (Hd.cells hdZ)] (by kernel_rfl) _ (take_own m (owA nn h bs es ls ps).b (owA nn h bs es ls ps).e (owA nn h bs es ls ps).l (owA nn h bs es ls ps).c _ ((HRms.out.no HK0.out).at (by omega) (by omega) (by omega) (by omega)) may_zero hmk) (by kernel_rfl) ?_
               have hby_0 : tw ≤ wk50.heap.size := (HLts.out.no HK0.out)
               have hxo : ∀ k, At xa k → bx ≤ k ∧ k < wk50.heap.size := fun k e => ⟨(HXos.out.no HK0.out).own.base e, (HXos.out.no HK0.out).own.lt e⟩
               have hxe : ∀ i, i < xn → ∀ k, (At (hAt X i).bk.e.a k ∨ At (hAt X i).bk.l.a k) → bx ≤ k ∧ k < wk50.heap.size := fun i hi k e => (HXos.out.no HK0.out).lt hi e
               rintro e wk51 ⟨⟨ya, yn, yk⟩, Y, rfl, hm, hmn, ho, hk⟩
               obtain rfl : xn = yn := hlx.symm.trans hm.zl
               have HK0 : Hid (Kept No wk50 (wk51)) := HK0.out.no hk
               have HF : Hid (Fr No w (wk51) [(gk1, 33, Hd.cells h), (gk6, 46, Mg.cells (ownQ nn)), (gk10, 49, Hd.cells (lentH h gb ge gl gp)), (gk14, 46, Mg.cells a), (gk18, 46, Mg.cells b), (gk22, 46, Mg.cells m), (gk48, 46, Mg.cells ((owT nn m h bs es ls ps).m))]) := HF.out.no hk
               have HY6 : Hid (TkRd wk51 ⟨ya, xn, yk⟩ (owT nn m h bs es ls ps).z (owT nn m h bs es ls ps).b (owT nn m h bs es ls ps).e (owT nn m h bs es ls ps).l Y) := hm
               have HLy6 : Hid (SzL wk50.heap.size wk51) := hk.size
               have HYn : Hid (TkNew wk50.heap.size ⟨ya, xn, yk⟩ Y) := hmn
               clear hk hm hmn ho
               generalize wk50.heap.size = by_ at hby_0 hxo hxe HYn HLy6
               have HK1 : Hid (Kept No wk51 wk51) := Kept.refl _ _
               obtain ⟨s1, hs1⟩ : ∃ n, wk51.heap.size = n := ⟨_, rfl⟩
               have HS1 : Hid (wk51.heap.size = s1) := hs1
               clear hs1
               refine ⟨.tuple #[.slice ya xn yk, .agg (Mg.cells (owT nn m h bs es ls ps).m), .bool (owT nn m h bs es ls ps).o], rfl, ?_⟩
               try simp only [pS]
               refine tK (.tuple #[.slice ya xn yk, .agg (Mg.cells (owT nn m h bs es ls ps).m), .bool (owT nn m h bs es ls ps).o]) ?_
               try simp only [pS]
               refine tK (.slice ya xn yk) ?_
               try simp only [pS]
               refine tK (.agg (Mg.cells ((owT nn m h bs es ls ps).m))) ?_
               try simp only [pS]
               refine tK (.bool (owT nn m h bs es ls ps).o) ?_
               try simp only [pS]
               refine wp_runW (.pointer (some ⟨wk51.heap.size, 0, none⟩)) (wk51.alloc (.cells (Mg.cells mgZ) 46)) (exec_alloc 46 rfl (Mg.cells mgZ) zero50) (by kernel_rfl) ?_
               try simp only [pS]
               have hx0_gk52 : s0 ≤ wk51.heap.size := by rw [← HS0.out]; exact HK0.out.size
               have hx1_gk52 : s1 ≤ wk51.heap.size := by rw [← HS1.out]; exact HK1.out.size
               have HK0 : Hid (Kept No wk50 (wk51.alloc (.cells (Mg.cells mgZ) 46))) := HK0.out.no ((Kept.refl No _).alloc _)
               have HK1 : Hid (Kept No wk51 (wk51.alloc (.cells (Mg.cells mgZ) 46))) := HK1.out.no ((Kept.refl No _).alloc _)
               have HF : Hid (Fr No w _ [(gk1, 33, Hd.cells h), (gk6, 46, Mg.cells (ownQ nn)), (gk10, 49, Hd.cells (lentH h gb ge gl gp)), (gk14, 46, Mg.cells a), (gk18, 46, Mg.cells b), (gk22, 46, Mg.cells m), (gk48, 46, Mg.cells ((owT nn m h bs es ls ps).m)), (wk51.heap.size, 46, Mg.cells mgZ)]) := HF.out.alloc _ _
               generalize wk51.alloc (.cells (Mg.cells mgZ) 46) = wk53 at HF HK0 HK1 ⊢
               generalize wk51.heap.size = gk52 at HF hx0_gk52 hx1_gk52 ⊢
               refine tK (.slice ya xn yk) ?_
               try simp only [pS]
               refine wp_storeW 46 _ _ rfl ⟨gk52, 0, none⟩ (.agg (Mg.cells ((owT nn m h bs es ls ps).m))) (by kernel_rfl) (by kernel_rfl) (wk53.setRow gk52 (Mg.cells ((owT nn m h bs es ls ps).m))) (run_store_to (cur := Mg.cs mgZ) (vs := Mg.cs ((owT nn m h bs es ls ps).m)) (new := Mg.cs ((owT nn m h bs es ls ps).m)) (HF.out.box 7 _ _ _ rfl) (by kernel_rfl) Try.size50 (Nat.le_of_ble_eq_true (by kernel_rfl)) (Mg.oneL _) (by kernel_rfl)) (by kernel_rfl) ?_
               try simp only [pS]
               have HK0 : Hid (Kept No wk50 (wk53.setRow gk52 (Mg.cells ((owT nn m h bs es ls ps).m)))) := HK0.out.newRow (by rw [HS0.out]; exact hx0_gk52) _
               have HK1 : Hid (Kept No wk51 (wk53.setRow gk52 (Mg.cells ((owT nn m h bs es ls ps).m)))) := HK1.out.newRow (by rw [HS1.out]; exact hx1_gk52) _
               have HF : Hid (Fr No w _ [(gk1, 33, Hd.cells h), (gk6, 46, Mg.cells (ownQ nn)), (gk10, 49, Hd.cells (lentH h gb ge gl gp)), (gk14, 46, Mg.cells a), (gk18, 46, Mg.cells b), (gk22, 46, Mg.cells m), (gk48, 46, Mg.cells ((owT nn m h bs es ls ps).m)), (gk52, 46, Mg.cells ((owT nn m h bs es ls ps).m))]) := HF.out.set 7 rfl _
               generalize wk53.setRow gk52 (Mg.cells ((owT nn m h bs es ls ps).m)) = wk54 at HF HK0 HK1 ⊢
               refine tK (.bool (owT nn m h bs es ls ps).o) ?_
               try simp only [pS]
               refine WL.nil ?_
               try simp only [pS]
               have HRm : Hid (MgRd wk54 m (owA nn h bs es ls ps)) := HRms.out.no HK0.out
               have HLt : Hid (SzL tw wk54) := HLts.out.no HK0.out
               have HX : Hid (TkRd wk54 ⟨xa, xn, xk⟩ (owT nn m h bs es ls ps).z (owT nn m h bs es ls ps).b (owT nn m h bs es ls ps).e (owT nn m h bs es ls ps).l X) := HXs.out.no HK0.out
               have HXo : Hid (XOw wk54 bx ⟨xa, xn, xk⟩ X) := HXos.out.no HK0.out
               have HY : Hid (TkRd wk54 ⟨ya, xn, yk⟩ (owT nn m h bs es ls ps).z (owT nn m h bs es ls ps).b (owT nn m h bs es ls ps).e (owT nn m h bs es ls ps).l Y) := HY6.out.no HK1.out
               have HLy : Hid (SzL by_ wk54) := HLy6.out.no HK1.out
               clear HRms HLts HXs HXos HY6 HLy6 HK1 HS1 HK0 HS0 hx0_gk52 hx1_gk52
               have HRms : Hid (MgRd wk54 m (owA nn h bs es ls ps)) := HRm
               clear HRm
               have HLts : Hid (SzL tw wk54) := HLt
               clear HLt
               have HXs : Hid (TkRd wk54 ⟨xa, xn, xk⟩ (owT nn m h bs es ls ps).z (owT nn m h bs es ls ps).b (owT nn m h bs es ls ps).e (owT nn m h bs es ls ps).l X) := HX
               clear HX
               have HXos : Hid (XOw wk54 bx ⟨xa, xn, xk⟩ X) := HXo
               clear HXo
               have HYs : Hid (TkRd wk54 ⟨ya, xn, yk⟩ (owT nn m h bs es ls ps).z (owT nn m h bs es ls ps).b (owT nn m h bs es ls ps).e (owT nn m h bs es ls ps).l Y) := HY
               clear HY
               have HLys : Hid (SzL by_ wk54) := HLy
               clear HLy
               have HK0 : Hid (Kept No wk54 wk54) := Kept.refl _ _
               obtain ⟨s0, hs0⟩ : ∃ n, wk54.heap.size = n := ⟨_, rfl⟩
               have HS0 : Hid (wk54.heap.size = s0) := hs0
               clear hs0
               go_upto_region 36 with fail
               refine WL.start ?_
               refine tW (.agg (Mg.cells m)) (eL 46 _ rfl ⟨gk22, 0, none⟩ (run_load_part (cs := Mg.cs m) (sub := Mg.cs m) (HF.out.box 5 _ _ _ rfl) (Part.all _) Try.und50 rfl Try.size50)) ?_
               try simp only [pS]
               refine tW (.agg (Hd.cells hdZ)) (exec_build 33 _ rfl (Hd.cells hdZ) (by kernel_rfl)) ?_
               try simp only [pS]
               obtain ⟨bt, hbt2⟩ : ∃ x, wk54.heap.size = x := ⟨_, rfl⟩
               have hbyt : by_ ≤ bt := by rw [← hbt2]; exact (HLys.out.no HK0.out)
               have HBT : Hid (wk54.heap.size = bt) := hbt2
               clear hbt2
               refine wp_callW 13 #[.agg (Mg.cells m), .agg (Hd.cells hdZ)] (by kernel_rfl) _ (refTake_loc (fun k => (w0s ≤ k ∧ (k < bw ∨ tw ≤ k)) ∧ k < bt) m hdZ (owA nn h bs es ls ps).b (owA nn h bs es ls ps).e (owA nn h bs es ls ps).l (owA nn h bs es ls ps).c [] [] [] [] _ ((HRms.out.no HK0.out).at (by omega) (by omega) (by omega) (by omega)) (hd_zero _) may_zero (fun k e => by rw [HBT.out]; exact e.2) (fun n k e f => HWo.out.1 n k e f.1) (fun n k e f => HWo.out.2.1 n k e f.1) (fun n k e f => HWo.out.2.2.1 n k e f.1) hmk) (by kernel_rfl) ?_
               rintro e wk55 ⟨⟨va, yn, vk⟩, V, rfl, hm, ho, hk⟩
               obtain rfl : xn = yn := hlx.symm.trans hm.zl
               have HK0 : Hid (Kept No wk54 (wk55)) := HK0.out.no hk
               have HF : Hid (Fr No w (wk55) [(gk1, 33, Hd.cells h), (gk6, 46, Mg.cells (ownQ nn)), (gk10, 49, Hd.cells (lentH h gb ge gl gp)), (gk14, 46, Mg.cells a), (gk18, 46, Mg.cells b), (gk22, 46, Mg.cells m), (gk48, 46, Mg.cells ((owT nn m h bs es ls ps).m)), (gk52, 46, Mg.cells ((owT nn m h bs es ls ps).m))]) := HF.out.no hk
               have HV6 : Hid (TkRd wk55 ⟨va, xn, vk⟩ (owT nn m h bs es ls ps).z (owT nn m h bs es ls ps).b (owT nn m h bs es ls ps).e (owT nn m h bs es ls ps).l V) := hm
               have HVo : Hid (TkOffN (fun k => (w0s ≤ k ∧ (k < bw ∨ tw ≤ k)) ∧ k < bt) ⟨va, xn, vk⟩ V (owT nn m h bs es ls ps).b (owT nn m h bs es ls ps).e (owT nn m h bs es ls ps).l) := ho
               clear hk hm ho HBT
               have HK1 : Hid (Kept No wk55 wk55) := Kept.refl _ _
               obtain ⟨s1, hs1⟩ : ∃ n, wk55.heap.size = n := ⟨_, rfl⟩
               have HS1 : Hid (wk55.heap.size = s1) := hs1
               clear hs1
               refine ⟨.tuple #[.slice va xn vk, .agg (Mg.cells (owT nn m h bs es ls ps).m), .bool (owT nn m h bs es ls ps).o], rfl, ?_⟩
               try simp only [pS]
               refine tK (.tuple #[.slice va xn vk, .agg (Mg.cells (owT nn m h bs es ls ps).m), .bool (owT nn m h bs es ls ps).o]) ?_
               try simp only [pS]
               refine tK (.slice va xn vk) ?_
               try simp only [pS]
               refine tK (.agg (Mg.cells ((owT nn m h bs es ls ps).m))) ?_
               try simp only [pS]
               refine tK (.bool (owT nn m h bs es ls ps).o) ?_
               try simp only [pS]
               refine wp_runW (.pointer (some ⟨wk55.heap.size, 0, none⟩)) (wk55.alloc (.cells (Mg.cells mgZ) 46)) (exec_alloc 46 rfl (Mg.cells mgZ) zero50) (by kernel_rfl) ?_
               try simp only [pS]
               have hx0_gk56 : s0 ≤ wk55.heap.size := by rw [← HS0.out]; exact HK0.out.size
               have hx1_gk56 : s1 ≤ wk55.heap.size := by rw [← HS1.out]; exact HK1.out.size
               have HK0 : Hid (Kept No wk54 (wk55.alloc (.cells (Mg.cells mgZ) 46))) := HK0.out.no ((Kept.refl No _).alloc _)
               have HK1 : Hid (Kept No wk55 (wk55.alloc (.cells (Mg.cells mgZ) 46))) := HK1.out.no ((Kept.refl No _).alloc _)
               have HF : Hid (Fr No w _ [(gk1, 33, Hd.cells h), (gk6, 46, Mg.cells (ownQ nn)), (gk10, 49, Hd.cells (lentH h gb ge gl gp)), (gk14, 46, Mg.cells a), (gk18, 46, Mg.cells b), (gk22, 46, Mg.cells m), (gk48, 46, Mg.cells ((owT nn m h bs es ls ps).m)), (gk52, 46, Mg.cells ((owT nn m h bs es ls ps).m)), (wk55.heap.size, 46, Mg.cells mgZ)]) := HF.out.alloc _ _
               generalize wk55.alloc (.cells (Mg.cells mgZ) 46) = wk57 at HF HK0 HK1 ⊢
               generalize wk55.heap.size = gk56 at HF hx0_gk56 hx1_gk56 ⊢
               refine tK (.slice va xn vk) ?_
               try simp only [pS]
               refine wp_storeW 46 _ _ rfl ⟨gk56, 0, none⟩ (.agg (Mg.cells ((owT nn m h bs es ls ps).m))) (by kernel_rfl) (by kernel_rfl) (wk57.setRow gk56 (Mg.cells ((owT nn m h bs es ls ps).m))) (run_store_to (cur := Mg.cs mgZ) (vs := Mg.cs ((owT nn m h bs es ls ps).m)) (new := Mg.cs ((owT nn m h bs es ls ps).m)) (HF.out.box 8 _ _ _ rfl) (by kernel_rfl) Try.size50 (Nat.le_of_ble_eq_true (by kernel_rfl)) (Mg.oneL _) (by kernel_rfl)) (by kernel_rfl) ?_
               try simp only [pS]
               have HK0 : Hid (Kept No wk54 (wk57.setRow gk56 (Mg.cells ((owT nn m h bs es ls ps).m)))) := HK0.out.newRow (by rw [HS0.out]; exact hx0_gk56) _
               have HK1 : Hid (Kept No wk55 (wk57.setRow gk56 (Mg.cells ((owT nn m h bs es ls ps).m)))) := HK1.out.newRow (by rw [HS1.out]; exact hx1_gk56) _
               have HF : Hid (Fr No w _ [(gk1, 33, Hd.cells h), (gk6, 46, Mg.cells (ownQ nn)), (gk10, 49, Hd.cells (lentH h gb ge gl gp)), (gk14, 46, Mg.cells a), (gk18, 46, Mg.cells b), (gk22, 46, Mg.cells m), (gk48, 46, Mg.cells ((owT nn m h bs es ls ps).m)), (gk52, 46, Mg.cells ((owT nn m h bs es ls ps).m)), (gk56, 46, Mg.cells ((owT nn m h bs es ls ps).m))]) := HF.out.set 8 rfl _
               generalize wk57.setRow gk56 (Mg.cells ((owT nn m h bs es ls ps).m)) = wk58 at HF HK0 HK1 ⊢
               refine tK (.bool (owT nn m h bs es ls ps).o) ?_
               try simp only [pS]
               refine WL.nil ?_
               try simp only [pS]
               have HRm : Hid (MgRd wk58 m (owA nn h bs es ls ps)) := HRms.out.no HK0.out
               have HLt : Hid (SzL tw wk58) := HLts.out.no HK0.out
               have HX : Hid (TkRd wk58 ⟨xa, xn, xk⟩ (owT nn m h bs es ls ps).z (owT nn m h bs es ls ps).b (owT nn m h bs es ls ps).e (owT nn m h bs es ls ps).l X) := HXs.out.no HK0.out
               have HXo : Hid (XOw wk58 bx ⟨xa, xn, xk⟩ X) := HXos.out.no HK0.out
               have HY : Hid (TkRd wk58 ⟨ya, xn, yk⟩ (owT nn m h bs es ls ps).z (owT nn m h bs es ls ps).b (owT nn m h bs es ls ps).e (owT nn m h bs es ls ps).l Y) := HYs.out.no HK0.out
               have HLy : Hid (SzL by_ wk58) := HLys.out.no HK0.out
               have HV : Hid (TkRd wk58 ⟨va, xn, vk⟩ (owT nn m h bs es ls ps).z (owT nn m h bs es ls ps).b (owT nn m h bs es ls ps).e (owT nn m h bs es ls ps).l V) := HV6.out.no HK1.out
               clear HRms HLts HXs HXos HYs HLys HV6 HK1 HS1 HK0 HS0 hx0_gk56 hx1_gk56
               clear HLy
               go_upto_region 37 with fail
               refine WL.start ?_
               refine tK (.slice xa xn xk) ?_
               try simp only [pS]
               refine tK (.slice va xn vk) ?_
               try simp only [pS]
               refine wp_callW 14 #[.slice xa xn xk, .slice va xn vk] (by kernel_rfl) _ (sameH_any xa va xn xk vk (owT nn m h bs es ls ps).z (owT nn m h bs es ls ps).b (owT nn m h bs es ls ps).e (owT nn m h bs es ls ps).l X V _ HX.out HV.out (by rw [← hlx]; exact hLn.1) hLn.2.1 hLn.2.2) (by kernel_rfl) ?_
               rintro e wk59 ⟨rfl, hk⟩
               have HRm : Hid (MgRd (wk59) m (owA nn h bs es ls ps)) := HRm.out.no hk
               have HLt : Hid (SzL tw (wk59)) := HLt.out.no hk
               have HX : Hid (TkRd (wk59) ⟨xa, xn, xk⟩ (owT nn m h bs es ls ps).z (owT nn m h bs es ls ps).b (owT nn m h bs es ls ps).e (owT nn m h bs es ls ps).l X) := HX.out.no hk
               have HXo : Hid (XOw (wk59) bx ⟨xa, xn, xk⟩ X) := HXo.out.no hk
               have HY : Hid (TkRd (wk59) ⟨ya, xn, yk⟩ (owT nn m h bs es ls ps).z (owT nn m h bs es ls ps).b (owT nn m h bs es ls ps).e (owT nn m h bs es ls ps).l Y) := HY.out.no hk
               have HV : Hid (TkRd (wk59) ⟨va, xn, vk⟩ (owT nn m h bs es ls ps).z (owT nn m h bs es ls ps).b (owT nn m h bs es ls ps).e (owT nn m h bs es ls ps).l V) := HV.out.no hk
               have HF : Hid (Fr No w (wk59) [(gk1, 33, Hd.cells h), (gk6, 46, Mg.cells (ownQ nn)), (gk10, 49, Hd.cells (lentH h gb ge gl gp)), (gk14, 46, Mg.cells a), (gk18, 46, Mg.cells b), (gk22, 46, Mg.cells m), (gk48, 46, Mg.cells ((owT nn m h bs es ls ps).m)), (gk52, 46, Mg.cells ((owT nn m h bs es ls ps).m)), (gk56, 46, Mg.cells ((owT nn m h bs es ls ps).m))]) := HF.out.no hk
               clear hk
               refine ⟨.bool true, rfl, ?_⟩
               try simp only [pS]
               refine tK (.bool false) ?_
               try simp only [pS]
               refine tK (.bool false) ?_
               try simp only [pS]
               refine tK (.slice ya xn yk) ?_
               try simp only [pS]
               refine tK (.slice va xn vk) ?_
               try simp only [pS]
               refine wp_callW 14 #[.slice ya xn yk, .slice va xn vk] (by kernel_rfl) _ (sameH_any ya va xn yk vk (owT nn m h bs es ls ps).z (owT nn m h bs es ls ps).b (owT nn m h bs es ls ps).e (owT nn m h bs es ls ps).l Y V _ HY.out HV.out (by rw [← hlx]; exact hLn.1) hLn.2.1 hLn.2.2) (by kernel_rfl) ?_
               rintro e wk60 ⟨rfl, hk⟩
               have HRm : Hid (MgRd (wk60) m (owA nn h bs es ls ps)) := HRm.out.no hk
               have HLt : Hid (SzL tw (wk60)) := HLt.out.no hk
               have HX : Hid (TkRd (wk60) ⟨xa, xn, xk⟩ (owT nn m h bs es ls ps).z (owT nn m h bs es ls ps).b (owT nn m h bs es ls ps).e (owT nn m h bs es ls ps).l X) := HX.out.no hk
               have HXo : Hid (XOw (wk60) bx ⟨xa, xn, xk⟩ X) := HXo.out.no hk
               have HY : Hid (TkRd (wk60) ⟨ya, xn, yk⟩ (owT nn m h bs es ls ps).z (owT nn m h bs es ls ps).b (owT nn m h bs es ls ps).e (owT nn m h bs es ls ps).l Y) := HY.out.no hk
               have HV : Hid (TkRd (wk60) ⟨va, xn, vk⟩ (owT nn m h bs es ls ps).z (owT nn m h bs es ls ps).b (owT nn m h bs es ls ps).e (owT nn m h bs es ls ps).l V) := HV.out.no hk
               have HF : Hid (Fr No w (wk60) [(gk1, 33, Hd.cells h), (gk6, 46, Mg.cells (ownQ nn)), (gk10, 49, Hd.cells (lentH h gb ge gl gp)), (gk14, 46, Mg.cells a), (gk18, 46, Mg.cells b), (gk22, 46, Mg.cells m), (gk48, 46, Mg.cells ((owT nn m h bs es ls ps).m)), (gk52, 46, Mg.cells ((owT nn m h bs es ls ps).m)), (gk56, 46, Mg.cells ((owT nn m h bs es ls ps).m))]) := HF.out.no hk
               clear hk
               refine ⟨.bool true, rfl, ?_⟩
               try simp only [pS]
               refine tK (.bool false) ?_
               try simp only [pS]
               refine tK (.bool false) ?_
               try simp only [pS]
               refine WL.nil ?_
               try simp only [pS]
               have hXl : X.length = xn := HX.out.len
               have hxb : ∀ i, i < xn → (hAt X i).bk.e.l ≤ 4000000000000 ∧ (hAt X i).bk.l.l ≤ 4000000000000 := fun i hi => ⟨by rw [← (HX.out.el i hi).e.len]; exact hLn.2.1, by rw [← (HX.out.el i hi).l.len]; exact hLn.2.2⟩
               have HXone : Hid (XOne ⟨xa, xn, xk⟩ X) := HXo.out.one
               have HXl : Hid (XL wk60 bx ⟨xa, xn, xk⟩ X 0) := HXo.out.xl
               have HXr : Hid (Own 67 24 wk60 bx xa xk xn (chL X)) := HXo.out.own
               clear HX HXo
               go_upto_region 39 with fail
               refine WL.start ?_
               refine tK (.int .i64 0) ?_
               try simp only [pS]
               refine WL.nil ?_
               try simp only [pS]
               go_wp2
               go_loopw [26] (fun v26 wr => ∃ (i : Nat) (cur : List Ch), v26 = .int .i64 ((i : Nat) : Int) ∧ i ≤ xn ∧ cur.length = xn ∧ Hid (∀ j, i ≤ j → cur[j]? = X[j]?) ∧ Hid (Own 67 24 wr bx xa xk xn (chL cur)) ∧ Hid (XL wr bx ⟨xa, xn, xk⟩ X i) ∧ Hid (TkRd wr ⟨ya, xn, yk⟩ (owT nn m h bs es ls ps).z (owT nn m h bs es ls ps).b (owT nn m h bs es ls ps).e (owT nn m h bs es ls ps).l Y) ∧ Hid (TkRd wr ⟨va, xn, vk⟩ (owT nn m h bs es ls ps).z (owT nn m h bs es ls ps).b (owT nn m h bs es ls ps).e (owT nn m h bs es ls ps).l V) ∧ Hid (MgRd wr m (owA nn h bs es ls ps)) ∧ Hid (SzL tw wr) ∧ Hid (Fr No w wr [(gk1, 33, Hd.cells h), (gk6, 46, Mg.cells (ownQ nn)), (gk10, 49, Hd.cells (lentH h gb ge gl gp)), (gk14, 46, Mg.cells a), (gk18, 46, Mg.cells b), (gk22, 46, Mg.cells m), (gk48, 46, Mg.cells ((owT nn m h bs es ls ps).m)), (gk52, 46, Mg.cells ((owT nn m h bs es ls ps).m)), (gk56, 46, Mg.cells ((owT nn m h bs es ls ps).m))])) (fun i26 _ => xn - (intOf i26).toNat)
               case atStart => exact ⟨0, X, by go_num, by omega, hXl, (fun j _ => rfl), HXr, HXl, HY, HV, HRm, HLt, HF⟩
               case round =>
                 clear HF HXr HXl HY HV HRm HLt
                 obtain ⟨i, cur, rfl, hi, hcl9, Hcj, HXr, HXl, HY, HV, HRm, HLt, HF⟩ := hrel
                 by_cases hlt : i < xn
                 · skip
                   obtain ⟨g9, hg9⟩ := HXr.out.some (by omega)
                   have hsl : Hid (Value.slice xa xn xk = .slice (some ⟨g9, 0, none⟩) xn xk) := congrArg (fun y => Value.slice y xn xk) hg9
                   have hcx : cur[i]? = some (hAt X i) := (Hcj.out i (Nat.le_refl _)).trans (hAt_eq (by omega))
                   obtain ⟨es9, ls9, he9, hl9⟩ := HXl.out i (Nat.le_refl _) hlt
                   have HE9 : Hid (OwE wr bx (hAt X i).bk.e es9) := he9
                   have HL9 : Hid (OwL wr bx (hAt X i).bk.l ls9) := hl9
                   clear he9 hl9
                   go_upto_region 40 with fail
                   refine WL.start ?_
                   refine tK (.int .i64 ((i : Nat) : Int)) ?_
                   try simp only [pS]
                   refine tK (.slice xa xn xk) ?_
                   try simp only [pS]
                   refine tK (.int .i64 ((xn : Nat) : Int)) ?_
                   try simp only [pS]
                   refine tW (.bool true) (eB .lss 3 _ _ _ rfl (.int .i64 ((i : Nat) : Int)) (.int .i64 ((xn : Nat) : Int)) _ (by rw [b_lss, decide_eq_true (by omega)])) ?_
                   try simp only [pS]
                   refine WL.nil ?_
                   try simp only [pS]
                   go_upto_region 42 with fail
                   refine WL.start ?_
                   refine tK (.slice xa xn xk) ?_
                   try simp only [pS]
                   refine tK (.int .i64 ((i : Nat) : Int)) ?_
                   try simp only [pS]
                   refine tW (.pointer (some ⟨g9, 0 + i * 24, none⟩)) (exec_ixA 56 24 Try.und61e Try.size61e _ _ rfl g9 0 xn xk i (Eq.trans (b := .slice xa xn xk) (by kernel_rfl) hsl.out) (by kernel_rfl) hlt) ?_
                   try simp only [pS]
                   refine tK (.pointer (some ⟨g9, 0 + i * 24 + 21, none⟩)) ?_
                   try simp only [pS]
                   refine tW (.agg (Bv.cells ((hAt X i).bk))) (eL 30 _ rfl ⟨g9, 0 + i * 24 + 21, none⟩ (load_cells (it := Bv.cs (hAt X i).bk) (ch_bk (ch_get HXr.out hg9 hcx)) Try.und32 rfl Try.size32)) ?_
                   try simp only [pS]
                   refine wp_callW 15 #[.agg (Bv.cells ((hAt X i).bk))] (by kernel_rfl) _ (spoilO (hAt X i).bk bx es9 ls9 _ HE9.out HL9.out (hxb i hlt).1 (hxb i hlt).2) (by kernel_rfl) ?_
                   rintro e wk61 ⟨rfl, hk⟩
                   have hloc : ∀ k, (fun k => At (hAt X i).bk.e.a k ∨ At (hAt X i).bk.l.a k) k → bx ≤ k ∧ k < by_ := fun k e => hxe i hlt k e
                   have HF : Hid (Fr No w (wk61) [(gk1, 33, Hd.cells h), (gk6, 46, Mg.cells (ownQ nn)), (gk10, 49, Hd.cells (lentH h gb ge gl gp)), (gk14, 46, Mg.cells a), (gk18, 46, Mg.cells b), (gk22, 46, Mg.cells m), (gk48, 46, Mg.cells ((owT nn m h bs es ls ps).m)), (gk52, 46, Mg.cells ((owT nn m h bs es ls ps).m)), (gk56, 46, Mg.cells ((owT nn m h bs es ls ps).m))]) := HF.out.lent hk (fun k e => by have h1 := hloc k e; rw [HW0.out]; omega) (fun y hy e => by obtain ⟨i9, hi9⟩ := List.mem_iff_getElem?.1 hy; have hb9 := HF.out.box i9 y.1 y.2.1 y.2.2 hi9; have hT9 := (show ∀ y ∈ [(gk1, 33, Hd.cells h), (gk6, 46, Mg.cells (ownQ nn)), (gk10, 49, Hd.cells (lentH h gb ge gl gp)), (gk14, 46, Mg.cells a), (gk18, 46, Mg.cells b), (gk22, 46, Mg.cells m), (gk48, 46, Mg.cells ((owT nn m h bs es ls ps).m)), (gk52, 46, Mg.cells ((owT nn m h bs es ls ps).m)), (gk56, 46, Mg.cells ((owT nn m h bs es ls ps).m))], y.2.1 ≠ 91 ∧ y.2.1 ≠ 94 from by simp) y hy; rcases e with e | e; exact HE9.out.own.notBox hb9 (fun e2 => hT9.1 e2.symm) e; exact HL9.out.own.notBox hb9 (fun e2 => hT9.2 e2.symm) e)
                   have HY : Hid (TkRd wk61 ⟨ya, xn, yk⟩ (owT nn m h bs es ls ps).z (owT nn m h bs es ls ps).b (owT nn m h bs es ls ps).e (owT nn m h bs es ls ps).l Y) := HY.out.kept HYn.out hk (fun k e => (hloc k e).2)
                   have HV : Hid (TkRd wk61 ⟨va, xn, vk⟩ (owT nn m h bs es ls ps).z (owT nn m h bs es ls ps).b (owT nn m h bs es ls ps).e (owT nn m h bs es ls ps).l V) := HV.out.keptN HVo.out hk (fun k e => by have h1 := hloc k e; exact ⟨⟨by omega, .inr (by omega)⟩, by omega⟩)
                   have HRm : Hid (MgRd wk61 m (owA nn h bs es ls ps)) := HRm.out.keptN HWo.out hk (fun k e => by have h1 := hloc k e; exact ⟨by omega, .inr (by omega)⟩)
                   have HLt : Hid (SzL tw wk61) := HLt.out.grow hk
                   have HXr : Hid (Own 67 24 wk61 bx xa xk xn (chL cur)) := HXr.out.kept hk (fun k e f => by rcases f with f | f; exact HXr.out.apart HE9.out.own (by decide) e f; exact HXr.out.apart HL9.out.own (by decide) e f)
                   have HXl : Hid (XL wk61 bx ⟨xa, xn, xk⟩ X (i + 1)) := XL.next HXl.out HXone.out hk
                   clear HE9 HL9
                   clear hloc
                   clear hk
                   refine ⟨.tuple #[], rfl, ?_⟩
                   try simp only [pS]
                   refine WL.nil ?_
                   try simp only [pS]
                   go_upto_region 43 with fail
                   refine WL.start ?_
                   refine tK (.slice xa xn xk) ?_
                   try simp only [pS]
                   refine tK (.int .i64 ((i : Nat) : Int)) ?_
                   try simp only [pS]
                   refine tK (.int .i64 ((i : Nat) : Int)) ?_
                   try simp only [pS]
                   refine tW (.int .i64 (((1 + i) : Nat) : Int)) (eB .add 3 _ _ _ rfl (.int .i64 1) (.int .i64 ((i : Nat) : Int)) _ (b_addw _ _ _ (by rw [IntKind.wrap_i64]; omega) _)) ?_
                   try simp only [pS]
                   refine tW (.agg (Ky.cells ⟨0, (((1 + i) : Nat) : Int), 0, 0⟩)) (exec_build 39 _ rfl (Ky.cells ⟨0, (((1 + i) : Nat) : Int), 0, 0⟩) (by kernel_rfl)) ?_
                   try simp only [pS]
                   refine tW (.agg (Ch.cells ⟨⟨0, (((1 + i) : Nat) : Int), 0, 0⟩, blZ, inZ, bvZ⟩)) (exec_build 67 _ rfl (Ch.cells ⟨⟨0, (((1 + i) : Nat) : Int), 0, 0⟩, blZ, inZ, bvZ⟩) (by kernel_rfl)) ?_
                   try simp only [pS]
                   refine tW (.pointer (some ⟨g9, 0 + i * 24, none⟩)) (exec_ixA 56 24 Try.und61e Try.size61e _ _ rfl g9 0 xn xk i (Eq.trans (b := .slice xa xn xk) (by kernel_rfl) hsl.out) (by kernel_rfl) hlt) ?_
                   try simp only [pS]
                   obtain ⟨cs9, hrun9, hown9⟩ := chSet (s := ⟨xa, xn, xk⟩) HXr.out hcl9 hlt hg9 ⟨⟨0, (((1 + i) : Nat) : Int), 0, 0⟩, blZ, inZ, bvZ⟩
                   refine wp_storeW 67 _ _ rfl ⟨g9, 0 + i * 24, none⟩ (.agg (Ch.cells ⟨⟨0, (((1 + i) : Nat) : Int), 0, 0⟩, blZ, inZ, bvZ⟩)) (by kernel_rfl) (by kernel_rfl) (wk61.setRow g9 cs9) hrun9 (by kernel_rfl) ?_
                   try simp only [pS]
                   have hk : Kept (Only g9) wk61 (wk61.setRow g9 cs9) := Kept.setRow _ _ _
                   have hloc : ∀ k, Only g9 k → bx ≤ k ∧ k < by_ := fun k e => hxo k ⟨_, hg9, (show k = g9 from e).symm⟩
                   have HF : Hid (Fr No w ((wk61.setRow g9 cs9)) [(gk1, 33, Hd.cells h), (gk6, 46, Mg.cells (ownQ nn)), (gk10, 49, Hd.cells (lentH h gb ge gl gp)), (gk14, 46, Mg.cells a), (gk18, 46, Mg.cells b), (gk22, 46, Mg.cells m), (gk48, 46, Mg.cells ((owT nn m h bs es ls ps).m)), (gk52, 46, Mg.cells ((owT nn m h bs es ls ps).m)), (gk56, 46, Mg.cells ((owT nn m h bs es ls ps).m))]) := HF.out.lent hk (fun k e => by have h1 := hloc k e; rw [HW0.out]; omega) (fun y hy e => by obtain ⟨i9, hi9⟩ := List.mem_iff_getElem?.1 hy; have hb9 := HF.out.box i9 y.1 y.2.1 y.2.2 hi9; have hT9 := (show ∀ y ∈ [(gk1, 33, Hd.cells h), (gk6, 46, Mg.cells (ownQ nn)), (gk10, 49, Hd.cells (lentH h gb ge gl gp)), (gk14, 46, Mg.cells a), (gk18, 46, Mg.cells b), (gk22, 46, Mg.cells m), (gk48, 46, Mg.cells ((owT nn m h bs es ls ps).m)), (gk52, 46, Mg.cells ((owT nn m h bs es ls ps).m)), (gk56, 46, Mg.cells ((owT nn m h bs es ls ps).m))], y.2.1 ≠ 67 from by simp) y hy; exact HXr.out.notBox hb9 (fun e2 => hT9 e2.symm) ⟨_, hg9, (show y.1 = g9 from e).symm⟩)
                   have HY : Hid (TkRd (wk61.setRow g9 cs9) ⟨ya, xn, yk⟩ (owT nn m h bs es ls ps).z (owT nn m h bs es ls ps).b (owT nn m h bs es ls ps).e (owT nn m h bs es ls ps).l Y) := HY.out.kept HYn.out hk (fun k e => (hloc k e).2)
                   have HV : Hid (TkRd (wk61.setRow g9 cs9) ⟨va, xn, vk⟩ (owT nn m h bs es ls ps).z (owT nn m h bs es ls ps).b (owT nn m h bs es ls ps).e (owT nn m h bs es ls ps).l V) := HV.out.keptN HVo.out hk (fun k e => by have h1 := hloc k e; exact ⟨⟨by omega, .inr (by omega)⟩, by omega⟩)
                   have HRm : Hid (MgRd (wk61.setRow g9 cs9) m (owA nn h bs es ls ps)) := HRm.out.keptN HWo.out hk (fun k e => by have h1 := hloc k e; exact ⟨by omega, .inr (by omega)⟩)
                   have HLt : Hid (SzL tw (wk61.setRow g9 cs9)) := HLt.out.grow hk
                   clear hloc
                   have HXl : Hid (XL (wk61.setRow g9 cs9) bx ⟨xa, xn, xk⟩ X (i + 1)) := XL.next2 HXl.out HXone.out hk
                   have HXr : Hid (Own 67 24 (wk61.setRow g9 cs9) bx xa xk xn (chL (cur.set i ⟨⟨0, (((1 + i) : Nat) : Int), 0, 0⟩, blZ, inZ, bvZ⟩))) := hown9
                   clear hk hrun9 hown9
                   generalize wk61.setRow g9 cs9 = wk62 at HF HY HV HRm HLt HXl HXr ⊢
                   refine WL.nil ?_
                   try simp only [pS]
                   go_upto_region 41 with fail
                   refine WL.start ?_
                   refine tK (.int .i64 ((i : Nat) : Int)) ?_
                   try simp only [pS]
                   refine tW (.int .i64 (((i + 1) : Nat) : Int)) (eB .add 3 _ _ _ rfl (.int .i64 ((i : Nat) : Int)) (.int .i64 1) _ (b_addw _ _ _ (by rw [IntKind.wrap_i64]; omega) _)) ?_
                   try simp only [pS]
                   refine tK (.int .i64 (((i + 1) : Nat) : Int)) ?_
                   try simp only [pS]
                   refine WL.nil ?_
                   try simp only [pS]
                   have Hcj2 : Hid (∀ j, i + 1 ≤ j → (cur.set i ⟨⟨0, (((1 + i) : Nat) : Int), 0, 0⟩, blZ, inZ, bvZ⟩)[j]? = X[j]?) := show ∀ j, i + 1 ≤ j → (cur.set i ⟨⟨0, (((1 + i) : Nat) : Int), 0, 0⟩, blZ, inZ, bvZ⟩)[j]? = X[j]? from fun j hj => by rw [List.getElem?_set_ne (by omega)]; exact Hcj.out j (by omega)
                   go_wp2
                   go_roundw
                   case rel => exact ⟨i + 1, _, by go_num, by omega, by rw [List.length_set]; exact hcl9, Hcj2, HXr, HXl, HY, HV, HRm, HLt, HF⟩
                   case measure => simp [intOf]; omega
                 · skip
                   go_upto_region 40 with fail
                   refine WL.start ?_
                   refine tK (.int .i64 ((i : Nat) : Int)) ?_
                   try simp only [pS]
                   refine tK (.slice xa xn xk) ?_
                   try simp only [pS]
                   refine tK (.int .i64 ((xn : Nat) : Int)) ?_
                   try simp only [pS]
                   refine tW (.bool false) (eB .lss 3 _ _ _ rfl (.int .i64 ((i : Nat) : Int)) (.int .i64 ((xn : Nat) : Int)) _ (by rw [b_lss, decide_eq_false (by omega)])) ?_
                   try simp only [pS]
                   refine WL.nil ?_
                   try simp only [pS]
                   clear hlt hi HXr HXl Hcj hcl9
                   go_upto_region 44 with fail
                   refine WL.start ?_
                   refine tK (.slice ya xn yk) ?_
                   try simp only [pS]
                   refine tK (.slice va xn vk) ?_
                   try simp only [pS]
                   refine wp_callW 14 #[.slice ya xn yk, .slice va xn vk] (by kernel_rfl) _ (sameH_any ya va xn yk vk (owT nn m h bs es ls ps).z (owT nn m h bs es ls ps).b (owT nn m h bs es ls ps).e (owT nn m h bs es ls ps).l Y V _ HY.out HV.out (by rw [← hlx]; exact hLn.1) hLn.2.1 hLn.2.2) (by kernel_rfl) ?_
                   rintro e wk63 ⟨rfl, hk⟩
                   have HY : Hid (TkRd (wk63) ⟨ya, xn, yk⟩ (owT nn m h bs es ls ps).z (owT nn m h bs es ls ps).b (owT nn m h bs es ls ps).e (owT nn m h bs es ls ps).l Y) := HY.out.no hk
                   have HV : Hid (TkRd (wk63) ⟨va, xn, vk⟩ (owT nn m h bs es ls ps).z (owT nn m h bs es ls ps).b (owT nn m h bs es ls ps).e (owT nn m h bs es ls ps).l V) := HV.out.no hk
                   have HRm : Hid (MgRd (wk63) m (owA nn h bs es ls ps)) := HRm.out.no hk
                   have HLt : Hid (SzL tw (wk63)) := HLt.out.no hk
                   have HF : Hid (Fr No w (wk63) [(gk1, 33, Hd.cells h), (gk6, 46, Mg.cells (ownQ nn)), (gk10, 49, Hd.cells (lentH h gb ge gl gp)), (gk14, 46, Mg.cells a), (gk18, 46, Mg.cells b), (gk22, 46, Mg.cells m), (gk48, 46, Mg.cells ((owT nn m h bs es ls ps).m)), (gk52, 46, Mg.cells ((owT nn m h bs es ls ps).m)), (gk56, 46, Mg.cells ((owT nn m h bs es ls ps).m))]) := HF.out.no hk
                   clear hk
                   refine ⟨.bool true, rfl, ?_⟩
                   try simp only [pS]
                   refine tK (.bool false) ?_
                   try simp only [pS]
                   refine WL.nil ?_
                   try simp only [pS]
                   clear HY
                   have HVs : Hid (TkRd wk63 ⟨va, xn, vk⟩ (owT nn m h bs es ls ps).z (owT nn m h bs es ls ps).b (owT nn m h bs es ls ps).e (owT nn m h bs es ls ps).l V) := HV
                   clear HV
                   have HRms : Hid (MgRd wk63 m (owA nn h bs es ls ps)) := HRm
                   clear HRm
                   have HLts : Hid (SzL tw wk63) := HLt
                   clear HLt
                   have HK0 : Hid (Kept No wk63 wk63) := Kept.refl _ _
                   obtain ⟨s0, hs0⟩ : ∃ n, wk63.heap.size = n := ⟨_, rfl⟩
                   have HS0 : Hid (wk63.heap.size = s0) := hs0
                   clear hs0
                   go_upto_region 46 with fail
                   refine WL.start ?_
                   refine tW (.agg (Mg.cells m)) (eL 46 _ rfl ⟨gk22, 0, none⟩ (run_load_part (cs := Mg.cs m) (sub := Mg.cs m) (HF.out.box 5 _ _ _ rfl) (Part.all _) Try.und50 rfl Try.size50)) ?_
                   try simp only [pS]
                   refine tW (.agg (Hd.cells hdZ)) (exec_build 49 _ rfl (Hd.cells hdZ) (by kernel_rfl)) ?_
                   try simp only [pS]
                   refine wp_callW 12 #[.agg (Mg.cells m), .agg (Hd.cells hdZ)] (by kernel_rfl) _ (take_own m (owA nn h bs es ls ps).b (owA nn h bs es ls ps).e (owA nn h bs es ls ps).l (owA nn h bs es ls ps).c _ ((HRms.out.no HK0.out).at (by omega) (by omega) (by omega) (by omega)) may_zero hmk) (by kernel_rfl) ?_
                   have hbz0 : tw ≤ wk63.heap.size := (HLts.out.no HK0.out)
                   rintro e wk64 ⟨⟨za, yn, zk⟩, Z, rfl, hm, hmn, ho, hk⟩
                   obtain rfl : xn = yn := hlx.symm.trans hm.zl
                   have HK0 : Hid (Kept No wk63 (wk64)) := HK0.out.no hk
                   have HF : Hid (Fr No w (wk64) [(gk1, 33, Hd.cells h), (gk6, 46, Mg.cells (ownQ nn)), (gk10, 49, Hd.cells (lentH h gb ge gl gp)), (gk14, 46, Mg.cells a), (gk18, 46, Mg.cells b), (gk22, 46, Mg.cells m), (gk48, 46, Mg.cells ((owT nn m h bs es ls ps).m)), (gk52, 46, Mg.cells ((owT nn m h bs es ls ps).m)), (gk56, 46, Mg.cells ((owT nn m h bs es ls ps).m))]) := HF.out.no hk
                   have HZ6 : Hid (TkRd wk64 ⟨za, xn, zk⟩ (owT nn m h bs es ls ps).z (owT nn m h bs es ls ps).b (owT nn m h bs es ls ps).e (owT nn m h bs es ls ps).l Z) := hm
                   have HLz6 : Hid (SzL wk63.heap.size wk64) := hk.size
                   clear HLz6
                   clear hk hm hmn ho
                   generalize wk63.heap.size = bz at hbz0
                   have HK1 : Hid (Kept No wk64 wk64) := Kept.refl _ _
                   obtain ⟨s1, hs1⟩ : ∃ n, wk64.heap.size = n := ⟨_, rfl⟩
                   have HS1 : Hid (wk64.heap.size = s1) := hs1
                   clear hs1
                   refine ⟨.tuple #[.slice za xn zk, .agg (Mg.cells (owT nn m h bs es ls ps).m), .bool (owT nn m h bs es ls ps).o], rfl, ?_⟩
                   try simp only [pS]
                   refine tK (.tuple #[.slice za xn zk, .agg (Mg.cells (owT nn m h bs es ls ps).m), .bool (owT nn m h bs es ls ps).o]) ?_
                   try simp only [pS]
                   refine tK (.slice za xn zk) ?_
                   try simp only [pS]
                   refine tK (.agg (Mg.cells ((owT nn m h bs es ls ps).m))) ?_
                   try simp only [pS]
                   refine tK (.bool (owT nn m h bs es ls ps).o) ?_
                   try simp only [pS]
                   refine wp_runW (.pointer (some ⟨wk64.heap.size, 0, none⟩)) (wk64.alloc (.cells (Mg.cells mgZ) 46)) (exec_alloc 46 rfl (Mg.cells mgZ) zero50) (by kernel_rfl) ?_
                   try simp only [pS]
                   have hx0_gk65 : s0 ≤ wk64.heap.size := by rw [← HS0.out]; exact HK0.out.size
                   have hx1_gk65 : s1 ≤ wk64.heap.size := by rw [← HS1.out]; exact HK1.out.size
                   have HK0 : Hid (Kept No wk63 (wk64.alloc (.cells (Mg.cells mgZ) 46))) := HK0.out.no ((Kept.refl No _).alloc _)
                   have HK1 : Hid (Kept No wk64 (wk64.alloc (.cells (Mg.cells mgZ) 46))) := HK1.out.no ((Kept.refl No _).alloc _)
                   have HF : Hid (Fr No w _ [(gk1, 33, Hd.cells h), (gk6, 46, Mg.cells (ownQ nn)), (gk10, 49, Hd.cells (lentH h gb ge gl gp)), (gk14, 46, Mg.cells a), (gk18, 46, Mg.cells b), (gk22, 46, Mg.cells m), (gk48, 46, Mg.cells ((owT nn m h bs es ls ps).m)), (gk52, 46, Mg.cells ((owT nn m h bs es ls ps).m)), (gk56, 46, Mg.cells ((owT nn m h bs es ls ps).m)), (wk64.heap.size, 46, Mg.cells mgZ)]) := HF.out.alloc _ _
                   generalize wk64.alloc (.cells (Mg.cells mgZ) 46) = wk66 at HF HK0 HK1 ⊢
                   generalize wk64.heap.size = gk65 at HF hx0_gk65 hx1_gk65 ⊢
                   refine tK (.slice za xn zk) ?_
                   try simp only [pS]
                   refine wp_storeW 46 _ _ rfl ⟨gk65, 0, none⟩ (.agg (Mg.cells ((owT nn m h bs es ls ps).m))) (by kernel_rfl) (by kernel_rfl) (wk66.setRow gk65 (Mg.cells ((owT nn m h bs es ls ps).m))) (run_store_to (cur := Mg.cs mgZ) (vs := Mg.cs ((owT nn m h bs es ls ps).m)) (new := Mg.cs ((owT nn m h bs es ls ps).m)) (HF.out.box 9 _ _ _ rfl) (by kernel_rfl) Try.size50 (Nat.le_of_ble_eq_true (by kernel_rfl)) (Mg.oneL _) (by kernel_rfl)) (by kernel_rfl) ?_
                   try simp only [pS]
                   have HK0 : Hid (Kept No wk63 (wk66.setRow gk65 (Mg.cells ((owT nn m h bs es ls ps).m)))) := HK0.out.newRow (by rw [HS0.out]; exact hx0_gk65) _
                   have HK1 : Hid (Kept No wk64 (wk66.setRow gk65 (Mg.cells ((owT nn m h bs es ls ps).m)))) := HK1.out.newRow (by rw [HS1.out]; exact hx1_gk65) _
                   have HF : Hid (Fr No w _ [(gk1, 33, Hd.cells h), (gk6, 46, Mg.cells (ownQ nn)), (gk10, 49, Hd.cells (lentH h gb ge gl gp)), (gk14, 46, Mg.cells a), (gk18, 46, Mg.cells b), (gk22, 46, Mg.cells m), (gk48, 46, Mg.cells ((owT nn m h bs es ls ps).m)), (gk52, 46, Mg.cells ((owT nn m h bs es ls ps).m)), (gk56, 46, Mg.cells ((owT nn m h bs es ls ps).m)), (gk65, 46, Mg.cells ((owT nn m h bs es ls ps).m))]) := HF.out.set 9 rfl _
                   generalize wk66.setRow gk65 (Mg.cells ((owT nn m h bs es ls ps).m)) = wk67 at HF HK0 HK1 ⊢
                   refine tK (.bool (owT nn m h bs es ls ps).o) ?_
                   try simp only [pS]
                   refine WL.nil ?_
                   try simp only [pS]
                   have HV : Hid (TkRd wk67 ⟨va, xn, vk⟩ (owT nn m h bs es ls ps).z (owT nn m h bs es ls ps).b (owT nn m h bs es ls ps).e (owT nn m h bs es ls ps).l V) := HVs.out.no HK0.out
                   have HRm : Hid (MgRd wk67 m (owA nn h bs es ls ps)) := HRms.out.no HK0.out
                   have HLt : Hid (SzL tw wk67) := HLts.out.no HK0.out
                   have HZ : Hid (TkRd wk67 ⟨za, xn, zk⟩ (owT nn m h bs es ls ps).z (owT nn m h bs es ls ps).b (owT nn m h bs es ls ps).e (owT nn m h bs es ls ps).l Z) := HZ6.out.no HK1.out
                   clear HVs HRms HLts HZ6 HK1 HS1 HK0 HS0 hx0_gk65 hx1_gk65
                   go_upto_region 47 with fail
                   refine wp_region_held_drew (S := fun w' => Fr No w w' [(gk1, 33, Hd.cells h), (gk6, 46, Mg.cells (ownQ nn)), (gk10, 49, Hd.cells (lentH h gb ge gl gp)), (gk14, 46, Mg.cells a), (gk18, 46, Mg.cells b), (gk22, 46, Mg.cells m), (gk48, 46, Mg.cells ((owT nn m h bs es ls ps).m)), (gk52, 46, Mg.cells ((owT nn m h bs es ls ps).m)), (gk56, 46, Mg.cells ((owT nn m h bs es ls ps).m)), (gk65, 46, Mg.cells ((owT nn m h bs es ls ps).m))]) rfl (HF.out.drew) (fun hH => ?_)
                   have HV : Hid (TkRd (wk67.drew) ⟨va, xn, vk⟩ (owT nn m h bs es ls ps).z (owT nn m h bs es ls ps).b (owT nn m h bs es ls ps).e (owT nn m h bs es ls ps).l V) := HV.out.no (Kept.refl No _).drew
                   have HRm : Hid (MgRd (wk67.drew) m (owA nn h bs es ls ps)) := HRm.out.no (Kept.refl No _).drew
                   have HLt : Hid (SzL tw (wk67.drew)) := HLt.out.no (Kept.refl No _).drew
                   have HZ : Hid (TkRd (wk67.drew) ⟨za, xn, zk⟩ (owT nn m h bs es ls ps).z (owT nn m h bs es ls ps).b (owT nn m h bs es ls ps).e (owT nn m h bs es ls ps).l Z) := HZ.out.no (Kept.refl No _).drew
                   have HF : Hid (Fr No w (wk67.drew) [(gk1, 33, Hd.cells h), (gk6, 46, Mg.cells (ownQ nn)), (gk10, 49, Hd.cells (lentH h gb ge gl gp)), (gk14, 46, Mg.cells a), (gk18, 46, Mg.cells b), (gk22, 46, Mg.cells m), (gk48, 46, Mg.cells ((owT nn m h bs es ls ps).m)), (gk52, 46, Mg.cells ((owT nn m h bs es ls ps).m)), (gk56, 46, Mg.cells ((owT nn m h bs es ls ps).m)), (gk65, 46, Mg.cells ((owT nn m h bs es ls ps).m))]) := HF.out.drew
                   generalize wk67.drew = wk68 at HF HV HRm HLt HZ hH ⊢
                   refine aT (i := 0) (oi := { dst := some 191, op := Op.move (Operand.tmp 27), type := 56, pos := "outright.go:233", after := #[], guard := none }) (v := .slice za xn zk) (fun _ _ => by kernel_rfl) hH ?_
                   try simp only [pS]
                   refine aT (i := 1) (oi := { dst := some 192, op := Op.move (Operand.tmp 23), type := 59, pos := "outright.go:233", after := #[], guard := none }) (v := .slice va xn vk) (fun _ _ => by kernel_rfl) hH ?_
                   try simp only [pS]
                   refine any_call (i := 2) (o := { dst := some 193, op := Op.call { callee := Callee.value (Operand.func 14), args := #[Operand.tmp 191, Operand.tmp 192], argTypes := #[56, 59] }, type := 4, pos := "outright.go:233", after := #[{ on := 0, ground := Ground.data }, { on := 1, ground := Ground.data }], guard := none }) rfl (by kernel_rfl) (by kernel_rfl) 14 #[.slice za xn zk, .slice va xn vk] (by kernel_rfl) _ (sameH_any za va xn zk vk (owT nn m h bs es ls ps).z (owT nn m h bs es ls ps).b (owT nn m h bs es ls ps).e (owT nn m h bs es ls ps).l Z V _ HZ.out HV.out (by rw [← hlx]; exact hLn.1) hLn.2.1 hLn.2.2) ?_
                   rintro e wk69 ⟨rfl, hk⟩
                   have hH2 : Fr No w wk69 [(gk1, 33, Hd.cells h), (gk6, 46, Mg.cells (ownQ nn)), (gk10, 49, Hd.cells (lentH h gb ge gl gp)), (gk14, 46, Mg.cells a), (gk18, 46, Mg.cells b), (gk22, 46, Mg.cells m), (gk48, 46, Mg.cells ((owT nn m h bs es ls ps).m)), (gk52, 46, Mg.cells ((owT nn m h bs es ls ps).m)), (gk56, 46, Mg.cells ((owT nn m h bs es ls ps).m)), (gk65, 46, Mg.cells ((owT nn m h bs es ls ps).m))] := hH.no hk
                   have HV : Hid (TkRd (wk69) ⟨va, xn, vk⟩ (owT nn m h bs es ls ps).z (owT nn m h bs es ls ps).b (owT nn m h bs es ls ps).e (owT nn m h bs es ls ps).l V) := HV.out.no hk
                   have HRm : Hid (MgRd (wk69) m (owA nn h bs es ls ps)) := HRm.out.no hk
                   have HLt : Hid (SzL tw (wk69)) := HLt.out.no hk
                   have HZ : Hid (TkRd (wk69) ⟨za, xn, zk⟩ (owT nn m h bs es ls ps).z (owT nn m h bs es ls ps).b (owT nn m h bs es ls ps).e (owT nn m h bs es ls ps).l Z) := HZ.out.no hk
                   have HF : Hid (Fr No w (wk69) [(gk1, 33, Hd.cells h), (gk6, 46, Mg.cells (ownQ nn)), (gk10, 49, Hd.cells (lentH h gb ge gl gp)), (gk14, 46, Mg.cells a), (gk18, 46, Mg.cells b), (gk22, 46, Mg.cells m), (gk48, 46, Mg.cells ((owT nn m h bs es ls ps).m)), (gk52, 46, Mg.cells ((owT nn m h bs es ls ps).m)), (gk56, 46, Mg.cells ((owT nn m h bs es ls ps).m)), (gk65, 46, Mg.cells ((owT nn m h bs es ls ps).m))]) := HF.out.no hk
                   clear hk
                   refine ⟨.bool true, rfl, hH2, fun hH => ?_⟩
                   clear hH2
                   try simp only [pS]
                   refine aT (i := 3) (oi := { dst := some 194, op := Op.move (Operand.tmp 193), type := 4, pos := "outright.go:233", after := #[{ on := 2, ground := Ground.data }, { on := 2, ground := Ground.chain }], guard := none }) (v := .bool true) (fun _ _ => by kernel_rfl) hH ?_
                   try simp only [pS]
                   refine aT (i := 4) (oi := { dst := some 195, op := Op.load 46 (Operand.tmp 9), type := 46, pos := "outright.go:233", after := #[{ on := 3, ground := Ground.guard }], guard := some (3, true) }) (v := .agg (Mg.cells m)) (fun w' hw => eL 46 _ rfl ⟨gk22, 0, none⟩ (run_load_part (cs := Mg.cs m) (sub := Mg.cs m) (hw.box 5 _ _ _ rfl) (Part.all _) Try.und50 rfl Try.size50)) hH ?_
                   try simp only [pS]
                   refine aT (i := 5) (oi := { dst := some 196, op := Op.load 46 (Operand.tmp 5), type := 46, pos := "outright.go:233", after := #[{ on := 3, ground := Ground.guard }], guard := some (3, true) }) (v := .agg (Mg.cells (ownQ nn))) (fun w' hw => eL 46 _ rfl ⟨gk6, 0, none⟩ (run_load_part (cs := Mg.cs (ownQ nn)) (sub := Mg.cs (ownQ nn)) (hw.box 1 _ _ _ rfl) (Part.all _) Try.und50 rfl Try.size50)) hH ?_
                   try simp only [pS]
                   refine aT (i := 6) (oi := { dst := some 197, op := Op.load 33 (Operand.tmp 2), type := 33, pos := "outright.go:233", after := #[{ on := 3, ground := Ground.guard }], guard := some (3, true) }) (v := .agg (Hd.cells h)) (fun w' hw => eL 33 _ rfl ⟨gk1, 0, none⟩ (run_load_part (cs := Hd.cs h) (sub := Hd.cs h) (hw.box 0 _ _ _ rfl) (Part.all _) Try.und35 rfl Try.size35)) hH ?_
                   try simp only [pS]
                   refine any_call (i := 7) (o := { dst := some 198, op := Op.call { callee := Callee.value (Operand.func 8), args := #[Operand.tmp 196, Operand.tmp 197], argTypes := #[46, 33] }, type := 46, pos := "outright.go:233", after := #[{ on := 5, ground := Ground.data }, { on := 6, ground := Ground.data }, { on := 3, ground := Ground.chain }, { on := 3, ground := Ground.guard }], guard := some (3, true) }) rfl (by kernel_rfl) (by kernel_rfl) 8 #[.agg (Mg.cells (ownQ nn)), .agg (Hd.cells h)] (by kernel_rfl) _ (refHave_loc w0s (ownQ nn) h bs es ls ps _ (HH.out.no HF.out.kept) HM.out HOh.out rfl) ?_
                   rintro e wk70 ⟨m4, rfl, hm, _, hk⟩
                   have hH2 : Fr No w wk70 [(gk1, 33, Hd.cells h), (gk6, 46, Mg.cells (ownQ nn)), (gk10, 49, Hd.cells (lentH h gb ge gl gp)), (gk14, 46, Mg.cells a), (gk18, 46, Mg.cells b), (gk22, 46, Mg.cells m), (gk48, 46, Mg.cells ((owT nn m h bs es ls ps).m)), (gk52, 46, Mg.cells ((owT nn m h bs es ls ps).m)), (gk56, 46, Mg.cells ((owT nn m h bs es ls ps).m)), (gk65, 46, Mg.cells ((owT nn m h bs es ls ps).m))] := hH.no hk
                   have HV : Hid (TkRd (wk70) ⟨va, xn, vk⟩ (owT nn m h bs es ls ps).z (owT nn m h bs es ls ps).b (owT nn m h bs es ls ps).e (owT nn m h bs es ls ps).l V) := HV.out.no hk
                   have HRm : Hid (MgRd (wk70) m (owA nn h bs es ls ps)) := HRm.out.no hk
                   have HLt : Hid (SzL tw (wk70)) := HLt.out.no hk
                   have HZ : Hid (TkRd (wk70) ⟨za, xn, zk⟩ (owT nn m h bs es ls ps).z (owT nn m h bs es ls ps).b (owT nn m h bs es ls ps).e (owT nn m h bs es ls ps).l Z) := HZ.out.no hk
                   have HF : Hid (Fr No w (wk70) [(gk1, 33, Hd.cells h), (gk6, 46, Mg.cells (ownQ nn)), (gk10, 49, Hd.cells (lentH h gb ge gl gp)), (gk14, 46, Mg.cells a), (gk18, 46, Mg.cells b), (gk22, 46, Mg.cells m), (gk48, 46, Mg.cells ((owT nn m h bs es ls ps).m)), (gk52, 46, Mg.cells ((owT nn m h bs es ls ps).m)), (gk56, 46, Mg.cells ((owT nn m h bs es ls ps).m)), (gk65, 46, Mg.cells ((owT nn m h bs es ls ps).m))]) := HF.out.no hk
                   have HM4 : Hid (MgRd wk70 m4 (owA nn h bs es ls ps)) := hm
                   clear hk hm
                   refine ⟨.agg (Mg.cells m4), rfl, hH2, fun hH => ?_⟩
                   clear hH2
                   try simp only [pS]
                   refine any_call (i := 8) (o := { dst := some 199, op := Op.call { callee := Callee.value (Operand.func 9), args := #[Operand.tmp 195, Operand.tmp 198], argTypes := #[46, 46] }, type := 4, pos := "outright.go:233", after := #[{ on := 4, ground := Ground.data }, { on := 7, ground := Ground.data }, { on := 7, ground := Ground.chain }, { on := 3, ground := Ground.guard }], guard := some (3, true) }) rfl (by kernel_rfl) (by kernel_rfl) 9 #[.agg (Mg.cells m), .agg (Mg.cells m4)] (by kernel_rfl) _ (sameM2 m m4 (owA nn h bs es ls ps) _ HRm.out HM4.out (hv_len (ownQ nn) h bs es ls ps (by omega) (by omega)).1 (hv_len (ownQ nn) h bs es ls ps (by omega) (by omega)).2.1 (hv_len (ownQ nn) h bs es ls ps (by omega) (by omega)).2.2) ?_
                   rintro e wk71 ⟨rfl, hk⟩
                   have hH2 : Fr No w wk71 [(gk1, 33, Hd.cells h), (gk6, 46, Mg.cells (ownQ nn)), (gk10, 49, Hd.cells (lentH h gb ge gl gp)), (gk14, 46, Mg.cells a), (gk18, 46, Mg.cells b), (gk22, 46, Mg.cells m), (gk48, 46, Mg.cells ((owT nn m h bs es ls ps).m)), (gk52, 46, Mg.cells ((owT nn m h bs es ls ps).m)), (gk56, 46, Mg.cells ((owT nn m h bs es ls ps).m)), (gk65, 46, Mg.cells ((owT nn m h bs es ls ps).m))] := hH.no hk
                   have HV : Hid (TkRd (wk71) ⟨va, xn, vk⟩ (owT nn m h bs es ls ps).z (owT nn m h bs es ls ps).b (owT nn m h bs es ls ps).e (owT nn m h bs es ls ps).l V) := HV.out.no hk
                   have HRm : Hid (MgRd (wk71) m (owA nn h bs es ls ps)) := HRm.out.no hk
                   have HLt : Hid (SzL tw (wk71)) := HLt.out.no hk
                   have HZ : Hid (TkRd (wk71) ⟨za, xn, zk⟩ (owT nn m h bs es ls ps).z (owT nn m h bs es ls ps).b (owT nn m h bs es ls ps).e (owT nn m h bs es ls ps).l Z) := HZ.out.no hk
                   have HM4 : Hid (MgRd (wk71) m4 (owA nn h bs es ls ps)) := HM4.out.no hk
                   have HF : Hid (Fr No w (wk71) [(gk1, 33, Hd.cells h), (gk6, 46, Mg.cells (ownQ nn)), (gk10, 49, Hd.cells (lentH h gb ge gl gp)), (gk14, 46, Mg.cells a), (gk18, 46, Mg.cells b), (gk22, 46, Mg.cells m), (gk48, 46, Mg.cells ((owT nn m h bs es ls ps).m)), (gk52, 46, Mg.cells ((owT nn m h bs es ls ps).m)), (gk56, 46, Mg.cells ((owT nn m h bs es ls ps).m)), (gk65, 46, Mg.cells ((owT nn m h bs es ls ps).m))]) := HF.out.no hk
                   clear hk
                   refine ⟨.bool true, rfl, hH2, fun hH => ?_⟩
                   clear hH2
                   try simp only [pS]
                   refine aT (i := 9) (oi := { dst := some 200, op := Op.pick (Operand.tmp 194) (Operand.tmp 199) (Operand.const (Value.bool false)), type := 4, pos := "outright.go:233", after := #[{ on := 3, ground := Ground.data }, { on := 8, ground := Ground.data }], guard := none }) (v := .bool true) (fun _ _ => by kernel_rfl) hH ?_
                   try simp only [pS]
                   refine aT (i := 10) (oi := { dst := some 4, op := Op.assign (Operand.tmp 200), type := 4, pos := "outright.go:233", after := #[{ on := 9, ground := Ground.data }, { on := 8, ground := Ground.chain }, { on := 0, ground := Ground.phase }, { on := 1, ground := Ground.phase }, { on := 2, ground := Ground.phase }, { on := 3, ground := Ground.phase }, { on := 4, ground := Ground.phase }, { on := 5, ground := Ground.phase }, { on := 6, ground := Ground.phase }, { on := 7, ground := Ground.phase }, { on := 8, ground := Ground.phase }, { on := 9, ground := Ground.phase }], guard := none }) (v := .bool true) (fun _ _ => by kernel_rfl) hH ?_
                   try simp only [pS]
                   refine wpAnyH_done (by kernel_rfl) ?_ _
                   try simp only [pS]
                   clear hH
                   go_wp2
                   rw [HC.out]
                   exact ⟨rfl, HF.out.kept⟩

end Go.Proofs.Ytcgnbpaaalmkoab
