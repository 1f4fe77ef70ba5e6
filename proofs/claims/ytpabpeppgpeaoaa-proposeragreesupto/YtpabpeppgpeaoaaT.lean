import Derived.Test.YtpabpeppgpeaoaaQ
namespace Go.Proofs.Ytpabpeppgpeaoaa
open Go.RowKit Gt
set_option linter.unusedVariables false
set_option linter.unusedSimpArgs false

/-- What a proposer tells of its end. -/
structure Oc where
  d : Bool
  t : Bool
  w : Bool
  c : Cm
  u : Int
  e : Sl
  l : Sl
def Oc.cs (o : Oc) : List Value := [.bool o.d, .bool o.t, .bool o.w] ++ (o.c.cs ++ [.int .i64 o.u, o.e.v, o.l.v])
def Oc.cells (o : Oc) : Array Value := o.cs.toArray
def ocZ : Oc := ⟨false, false, false, cZ, 0, slZ, slZ⟩
theorem Oc.one (o : Oc) : o.cells.all (·.oneCell') = true := by simp [Oc.cells, Oc.cs, Cm.cs, Sl.v, Value.oneCell']
theorem zero102 : (Try.prog.info? 102).bind (·.zero) = some (.agg ocZ.cells) := by kernel_rfl
theorem zero118 : (Try.prog.info? 118).bind (·.zero) = some (.agg cZ.cells) := by kernel_rfl
theorem zero120 : (Try.prog.info? 120).bind (·.zero) = some (.agg #[.int .i64 0, slZ.v, slZ.v]) := by kernel_rfl
theorem zero140 : (Try.prog.info? 140).bind (·.zero) = some (.agg #[]) := by kernel_rfl
theorem Try.und102 : Try.prog.underlying 102 = some (.struct (Try.prog.fieldsOf 102)) := by kernel_rfl
theorem Try.size102 : (Try.prog.info? 102).map (·.size) = some 15 := by kernel_rfl
theorem Try.size118 : (Try.prog.info? 118).map (·.size) = some 9 := by kernel_rfl
theorem Try.size120 : (Try.prog.info? 120).map (·.size) = some 3 := by kernel_rfl
theorem Try.size140 : (Try.prog.info? 140).map (·.size) = some 0 := by kernel_rfl
theorem Try.und44 : Try.prog.underlying 44 = some (.struct (Try.prog.fieldsOf 44)) := by kernel_rfl
theorem Try.size44 : (Try.prog.info? 44).map (·.size) = some 3 := by kernel_rfl
theorem load_O {w : World} {g : Nat} {o : Oc} (h : Box w g 102 o.cells) : (loadVar 102 ⟨g, 0, none⟩).run Try.prog w = .ok (.agg o.cells) w := run_load_part h (Part.all _) Try.und102 rfl Try.size102
theorem store_O {w : World} {g : Nat} {o : Oc} (h : Box w g 102 ocZ.cells) : (storeVar 102 ⟨g, 0, none⟩ (.agg o.cells)).run Try.prog w = .ok () (w.setRow g o.cells) :=
  run_storeVar_row w g 102 102 ocZ.cells o.cells h Try.size102 rfl o.one
theorem store_D {w : World} {g : Nat} {c : Cm} (h : Box w g 118 cZ.cells) : (storeVar 118 ⟨g, 0, none⟩ (.agg c.cells)).run Try.prog w = .ok () (w.setRow g c.cells) :=
  run_storeVar_row w g 118 118 cZ.cells c.cells h Try.size118 rfl c.one
theorem load_D {w : World} {g : Nat} {c : Cm} (h : Box w g 118 c.cells) : (loadVar 28 ⟨g, 0, none⟩).run Try.prog w = .ok (.agg c.cells) w := run_load_part h (Part.all _) Try.und28 rfl Try.size28
theorem store_T {w : World} {g : Nat} {u : Int} {e l : Sl} (h : Box w g 120 #[.int .i64 0, slZ.v, slZ.v]) : (storeVar 120 ⟨g, 0, none⟩ (.agg #[.int .i64 u, e.v, l.v])).run Try.prog w = .ok () (w.setRow g #[.int .i64 u, e.v, l.v]) :=
  run_storeVar_row w g 120 120 _ _ h Try.size120 rfl (by simp [Sl.v, Value.oneCell'])
theorem load_T {w : World} {g : Nat} {u : Int} {e l : Sl} (h : Box w g 120 #[.int .i64 u, e.v, l.v]) : (loadVar 44 ⟨g, 0, none⟩).run Try.prog w = .ok (.agg #[.int .i64 u, e.v, l.v]) w := run_load_part (cs := [.int .i64 u, e.v, l.v]) h (Part.all _) Try.und44 rfl Try.size44
theorem store_W {w : World} {g : Nat} (h : Box w g 140 #[]) : (storeVar 140 ⟨g, 0, none⟩ (.agg #[])).run Try.prog w = .ok () (w.setRow g #[]) :=
  run_storeVar_row w g 140 140 _ _ h Try.size140 rfl (by simp)
set_option maxRecDepth 100000 in
set_option maxHeartbeats 2000000 in
theorem out_nil  (w : World) : Calls Try.prog 45 #[.nilIface] w (fun e w' => e = .returned (.agg ocZ.cells) ∧ Kept No w w') := by
  refine hideC fun C HC => ?_
  go_enter Try.func45, Try.ntmps45
  go_upto_region 0 with fail
  refine WL.start ?_
  refine wp_allocW 102 rfl ocZ.cells zero102 w.heap.size rfl (by kernel_rfl) ?_
  try simp only [pS]
  refine WL.nil ?_
  try simp only [pS]
  obtain ⟨w1, hw1⟩ : ∃ w1, w1 = w.alloc (.cells ocZ.cells 102) := ⟨_, rfl⟩
  rw [← hw1]
  have HB : Hid (Box w1 w.heap.size 102 ocZ.cells) := by rw [hw1]; exact Box.new _ _ _
  have HK : Hid (Kept No w w1) := by rw [hw1]; exact (Kept.refl No w).alloc _
  clear hw1
  obtain ⟨B, hB⟩ : ∃ B, B = w.heap.size := ⟨_, rfl⟩
  rw [← hB] at HB ⊢
  have HBw : Hid (w.heap.size ≤ B) := by show _ ≤ _; omega
  clear hB
  go_upto_region 1 with fail
  refine WL.start <| uK (.nilIface) <| WL.nil <| ?_
  try simp only [pS]
  go_upto_region 2 with fail
  refine WL.start <| uK (.tuple #[.agg cZ.cells, .bool false]) <| uK (.bool false) <| uK (.agg cZ.cells) <| WL.nil <| ?_
  try simp only [pS]
  go_upto_region 5 with fail
  refine WL.start <| uK (.tuple #[.agg #[.int .i64 0, slZ.v, slZ.v], .bool false]) <| uK (.bool false) <| uK (.agg #[.int .i64 0, slZ.v, slZ.v]) <| WL.nil <| ?_
  try simp only [pS]
  go_upto_region 8 with fail
  refine WL.start <| uK (.tuple #[.agg #[], .bool false]) <| uK (.bool false) <| uK (.agg #[]) <| WL.nil <| ?_
  try simp only [pS]
  go_upto_region 11 with fail
  refine WL.start <| uW (.agg ocZ.cells) (exec_build 102 _ rfl (ocZ.cells) (by kernel_rfl)) <| ?_
  try simp only [pS]
  refine uT 102 ⟨B, 0, none⟩ (.agg ocZ.cells) _ (store_O HB.out) ?_
  try simp only [pS]
  refine WL.nil ?_
  try simp only [pS]
  go_wp2
  rw [HC.out]
  refine bodyPost_ret (results_row1 (by rfl) _ _ B ocZ.cells (by rfl) (load_O (HB.out.setRow _))) rfl ?_
  exact ⟨rfl, HK.out.newRow HBw.out _⟩
set_option maxRecDepth 100000 in
set_option maxHeartbeats 2000000 in
theorem out_pre (q t : Nat) (w : World) : Calls Try.prog 45 #[phPre q t] w (fun e w' => e = .returned (.agg ocZ.cells) ∧ Kept No w w') := by
  refine hideC fun C HC => ?_
  go_enter Try.func45, Try.ntmps45
  go_upto_region 0 with fail
  refine WL.start ?_
  refine wp_allocW 102 rfl ocZ.cells zero102 w.heap.size rfl (by kernel_rfl) ?_
  try simp only [pS]
  refine WL.nil ?_
  try simp only [pS]
  obtain ⟨w1, hw1⟩ : ∃ w1, w1 = w.alloc (.cells ocZ.cells 102) := ⟨_, rfl⟩
  rw [← hw1]
  have HB : Hid (Box w1 w.heap.size 102 ocZ.cells) := by rw [hw1]; exact Box.new _ _ _
  have HK : Hid (Kept No w w1) := by rw [hw1]; exact (Kept.refl No w).alloc _
  clear hw1
  obtain ⟨B, hB⟩ : ∃ B, B = w.heap.size := ⟨_, rfl⟩
  rw [← hB] at HB ⊢
  have HBw : Hid (w.heap.size ≤ B) := by show _ ≤ _; omega
  clear hB
  go_upto_region 1 with fail
  refine WL.start <| uK (phPre q t) <| WL.nil <| ?_
  try simp only [pS]
  go_upto_region 2 with fail
  refine WL.start <| uK (.tuple #[.agg cZ.cells, .bool false]) <| uK (.bool false) <| uK (.agg cZ.cells) <| WL.nil <| ?_
  try simp only [pS]
  go_upto_region 5 with fail
  refine WL.start <| uK (.tuple #[.agg #[.int .i64 0, slZ.v, slZ.v], .bool false]) <| uK (.bool false) <| uK (.agg #[.int .i64 0, slZ.v, slZ.v]) <| WL.nil <| ?_
  try simp only [pS]
  go_upto_region 8 with fail
  refine WL.start <| uK (.tuple #[.agg #[], .bool false]) <| uK (.bool false) <| uK (.agg #[]) <| WL.nil <| ?_
  try simp only [pS]
  go_upto_region 11 with fail
  refine WL.start <| uW (.agg ocZ.cells) (exec_build 102 _ rfl (ocZ.cells) (by kernel_rfl)) <| ?_
  try simp only [pS]
  refine uT 102 ⟨B, 0, none⟩ (.agg ocZ.cells) _ (store_O HB.out) ?_
  try simp only [pS]
  refine WL.nil ?_
  try simp only [pS]
  go_wp2
  rw [HC.out]
  refine bodyPost_ret (results_row1 (by rfl) _ _ B ocZ.cells (by rfl) (load_O (HB.out.setRow _))) rfl ?_
  exact ⟨rfl, HK.out.newRow HBw.out _⟩
set_option maxRecDepth 100000 in
set_option maxHeartbeats 2000000 in
theorem out_acc (q t : Nat) (w : World) : Calls Try.prog 45 #[phAcc q t] w (fun e w' => e = .returned (.agg ocZ.cells) ∧ Kept No w w') := by
  refine hideC fun C HC => ?_
  go_enter Try.func45, Try.ntmps45
  go_upto_region 0 with fail
  refine WL.start ?_
  refine wp_allocW 102 rfl ocZ.cells zero102 w.heap.size rfl (by kernel_rfl) ?_
  try simp only [pS]
  refine WL.nil ?_
  try simp only [pS]
  obtain ⟨w1, hw1⟩ : ∃ w1, w1 = w.alloc (.cells ocZ.cells 102) := ⟨_, rfl⟩
  rw [← hw1]
  have HB : Hid (Box w1 w.heap.size 102 ocZ.cells) := by rw [hw1]; exact Box.new _ _ _
  have HK : Hid (Kept No w w1) := by rw [hw1]; exact (Kept.refl No w).alloc _
  clear hw1
  obtain ⟨B, hB⟩ : ∃ B, B = w.heap.size := ⟨_, rfl⟩
  rw [← hB] at HB ⊢
  have HBw : Hid (w.heap.size ≤ B) := by show _ ≤ _; omega
  clear hB
  go_upto_region 1 with fail
  refine WL.start <| uK (phAcc q t) <| WL.nil <| ?_
  try simp only [pS]
  go_upto_region 2 with fail
  refine WL.start <| uK (.tuple #[.agg cZ.cells, .bool false]) <| uK (.bool false) <| uK (.agg cZ.cells) <| WL.nil <| ?_
  try simp only [pS]
  go_upto_region 5 with fail
  refine WL.start <| uK (.tuple #[.agg #[.int .i64 0, slZ.v, slZ.v], .bool false]) <| uK (.bool false) <| uK (.agg #[.int .i64 0, slZ.v, slZ.v]) <| WL.nil <| ?_
  try simp only [pS]
  go_upto_region 8 with fail
  refine WL.start <| uK (.tuple #[.agg #[], .bool false]) <| uK (.bool false) <| uK (.agg #[]) <| WL.nil <| ?_
  try simp only [pS]
  go_upto_region 11 with fail
  refine WL.start <| uW (.agg ocZ.cells) (exec_build 102 _ rfl (ocZ.cells) (by kernel_rfl)) <| ?_
  try simp only [pS]
  refine uT 102 ⟨B, 0, none⟩ (.agg ocZ.cells) _ (store_O HB.out) ?_
  try simp only [pS]
  refine WL.nil ?_
  try simp only [pS]
  go_wp2
  rw [HC.out]
  refine bodyPost_ret (results_row1 (by rfl) _ _ B ocZ.cells (by rfl) (load_O (HB.out.setRow _))) rfl ?_
  exact ⟨rfl, HK.out.newRow HBw.out _⟩
set_option maxRecDepth 100000 in
set_option maxHeartbeats 2000000 in
theorem out_dec (c : Cm) (w : World) : Calls Try.prog 45 #[phDec c] w (fun e w' => e = .returned (.agg (⟨true, false, false, c, 0, slZ, slZ⟩ : Oc).cells) ∧ Kept No w w') := by
  refine hideC fun C HC => ?_
  go_enter Try.func45, Try.ntmps45
  go_upto_region 0 with fail
  refine WL.start ?_
  refine wp_allocW 102 rfl ocZ.cells zero102 w.heap.size rfl (by kernel_rfl) ?_
  try simp only [pS]
  refine WL.nil ?_
  try simp only [pS]
  obtain ⟨w1, hw1⟩ : ∃ w1, w1 = w.alloc (.cells ocZ.cells 102) := ⟨_, rfl⟩
  rw [← hw1]
  have HB : Hid (Box w1 w.heap.size 102 ocZ.cells) := by rw [hw1]; exact Box.new _ _ _
  have HK : Hid (Kept No w w1) := by rw [hw1]; exact (Kept.refl No w).alloc _
  clear hw1
  obtain ⟨B, hB⟩ : ∃ B, B = w.heap.size := ⟨_, rfl⟩
  rw [← hB] at HB ⊢
  have HBw : Hid (w.heap.size ≤ B) := by show _ ≤ _; omega
  clear hB
  go_upto_region 1 with fail
  refine WL.start <| uK (phDec c) <| WL.nil <| ?_
  try simp only [pS]
  go_upto_region 2 with fail
  refine WL.start <| uK (.tuple #[.agg c.cells, .bool true]) <| uK (.bool true) <| uK (.agg c.cells) <| WL.nil <| ?_
  try simp only [pS]
  go_upto_region 3 with fail
  refine WL.start ?_
  refine wp_allocW 118 rfl (cZ.cells) zero118 w1.heap.size rfl (by kernel_rfl) ?_
  try simp only [pS]
  obtain ⟨w2, hw2⟩ : ∃ w2, w2 = w1.alloc (.cells (cZ.cells) 118) := ⟨_, rfl⟩
  rw [← hw2]
  have HV : Hid (Box w2 w1.heap.size 118 (cZ.cells)) := by rw [hw2]; exact Box.new _ _ _
  have HB2 : Hid (Box w2 B 102 ocZ.cells) := by rw [hw2]; exact HB.out.alloc _
  have HK2 : Hid (Kept No w w2) := by rw [hw2]; exact HK.out.alloc _
  clear hw2
  obtain ⟨V, hV⟩ : ∃ V, V = w1.heap.size := ⟨_, rfl⟩
  rw [← hV] at HV ⊢
  have HVw : Hid (w.heap.size ≤ V ∧ B < V) := ⟨by have := HK.out.size; omega, by have := HB.out.lt; omega⟩
  clear hV HB HK
  refine uT 118 ⟨V, 0, none⟩ (.agg c.cells) _ (store_D HV.out) ?_
  try simp only [pS]
  refine WL.nil ?_
  try simp only [pS]
  obtain ⟨w3, hw3⟩ : ∃ w3, w3 = w2.setRow V (c.cells) := ⟨_, rfl⟩
  rw [← hw3]
  have HV3 : Hid (Box w3 V 118 (c.cells)) := by rw [hw3]; exact HV.out.setRow _
  have HB3 : Hid (Box w3 B 102 ocZ.cells) := by rw [hw3]; exact HB2.out.rowNe (by have := HVw.out; omega) _
  have HK3 : Hid (Kept No w w3) := by rw [hw3]; exact HK2.out.newRow HVw.out.1 _
  clear hw3 HV HB2 HK2
  go_upto_region 4 with fail
  refine WL.start <| uK (pV V 0) <| uL 28 ⟨V, 0, none⟩ (.agg c.cells) (load_D HV3.out) <| uW (.agg (⟨true, false, false, c, 0, slZ, slZ⟩ : Oc).cells) (exec_build 102 _ rfl ((⟨true, false, false, c, 0, slZ, slZ⟩ : Oc).cells) (by kernel_rfl)) <| ?_
  try simp only [pS]
  refine uT 102 ⟨B, 0, none⟩ (.agg (⟨true, false, false, c, 0, slZ, slZ⟩ : Oc).cells) _ (store_O HB3.out) ?_
  try simp only [pS]
  refine WL.nil ?_
  try simp only [pS]
  go_wp2
  rw [HC.out]
  refine bodyPost_ret (results_row1 (by rfl) _ _ B (⟨true, false, false, c, 0, slZ, slZ⟩ : Oc).cells (by rfl) (load_O (HB3.out.setRow _))) rfl ?_
  exact ⟨rfl, HK3.out.newRow HBw.out _⟩
set_option maxRecDepth 100000 in
set_option maxHeartbeats 2000000 in
theorem out_tri (u : Int) (se sl : Sl) (w : World) : Calls Try.prog 45 #[phTri u se sl] w (fun e w' => e = .returned (.agg (⟨false, true, false, cZ, u, se, sl⟩ : Oc).cells) ∧ Kept No w w') := by
  refine hideC fun C HC => ?_
  go_enter Try.func45, Try.ntmps45
  go_upto_region 0 with fail
  refine WL.start ?_
  refine wp_allocW 102 rfl ocZ.cells zero102 w.heap.size rfl (by kernel_rfl) ?_
  try simp only [pS]
  refine WL.nil ?_
  try simp only [pS]
  obtain ⟨w1, hw1⟩ : ∃ w1, w1 = w.alloc (.cells ocZ.cells 102) := ⟨_, rfl⟩
  rw [← hw1]
  have HB : Hid (Box w1 w.heap.size 102 ocZ.cells) := by rw [hw1]; exact Box.new _ _ _
  have HK : Hid (Kept No w w1) := by rw [hw1]; exact (Kept.refl No w).alloc _
  clear hw1
  obtain ⟨B, hB⟩ : ∃ B, B = w.heap.size := ⟨_, rfl⟩
  rw [← hB] at HB ⊢
  have HBw : Hid (w.heap.size ≤ B) := by show _ ≤ _; omega
  clear hB
  go_upto_region 1 with fail
  refine WL.start <| uK (phTri u se sl) <| WL.nil <| ?_
  try simp only [pS]
  go_upto_region 2 with fail
  refine WL.start <| uK (.tuple #[.agg cZ.cells, .bool false]) <| uK (.bool false) <| uK (.agg cZ.cells) <| WL.nil <| ?_
  try simp only [pS]
  go_upto_region 5 with fail
  refine WL.start <| uK (.tuple #[.agg #[.int .i64 u, se.v, sl.v], .bool true]) <| uK (.bool true) <| uK (.agg #[.int .i64 u, se.v, sl.v]) <| WL.nil <| ?_
  try simp only [pS]
  go_upto_region 6 with fail
  refine WL.start ?_
  refine wp_allocW 120 rfl (#[.int .i64 0, slZ.v, slZ.v]) zero120 w1.heap.size rfl (by kernel_rfl) ?_
  try simp only [pS]
  obtain ⟨w2, hw2⟩ : ∃ w2, w2 = w1.alloc (.cells (#[.int .i64 0, slZ.v, slZ.v]) 120) := ⟨_, rfl⟩
  rw [← hw2]
  have HV : Hid (Box w2 w1.heap.size 120 (#[.int .i64 0, slZ.v, slZ.v])) := by rw [hw2]; exact Box.new _ _ _
  have HB2 : Hid (Box w2 B 102 ocZ.cells) := by rw [hw2]; exact HB.out.alloc _
  have HK2 : Hid (Kept No w w2) := by rw [hw2]; exact HK.out.alloc _
  clear hw2
  obtain ⟨V, hV⟩ : ∃ V, V = w1.heap.size := ⟨_, rfl⟩
  rw [← hV] at HV ⊢
  have HVw : Hid (w.heap.size ≤ V ∧ B < V) := ⟨by have := HK.out.size; omega, by have := HB.out.lt; omega⟩
  clear hV HB HK
  refine uT 120 ⟨V, 0, none⟩ (.agg #[.int .i64 u, se.v, sl.v]) _ (store_T HV.out) ?_
  try simp only [pS]
  refine WL.nil ?_
  try simp only [pS]
  obtain ⟨w3, hw3⟩ : ∃ w3, w3 = w2.setRow V (#[.int .i64 u, se.v, sl.v]) := ⟨_, rfl⟩
  rw [← hw3]
  have HV3 : Hid (Box w3 V 120 (#[.int .i64 u, se.v, sl.v])) := by rw [hw3]; exact HV.out.setRow _
  have HB3 : Hid (Box w3 B 102 ocZ.cells) := by rw [hw3]; exact HB2.out.rowNe (by have := HVw.out; omega) _
  have HK3 : Hid (Kept No w w3) := by rw [hw3]; exact HK2.out.newRow HVw.out.1 _
  clear hw3 HV HB2 HK2
  go_upto_region 7 with fail
  refine WL.start <| uK (pV V 0) <| uL 44 ⟨V, 0, none⟩ (.agg #[.int .i64 u, se.v, sl.v]) (load_T HV3.out) <| uW (.agg (⟨false, true, false, cZ, u, se, sl⟩ : Oc).cells) (exec_build 102 _ rfl ((⟨false, true, false, cZ, u, se, sl⟩ : Oc).cells) (by kernel_rfl)) <| ?_
  try simp only [pS]
  refine uT 102 ⟨B, 0, none⟩ (.agg (⟨false, true, false, cZ, u, se, sl⟩ : Oc).cells) _ (store_O HB3.out) ?_
  try simp only [pS]
  refine WL.nil ?_
  try simp only [pS]
  go_wp2
  rw [HC.out]
  refine bodyPost_ret (results_row1 (by rfl) _ _ B (⟨false, true, false, cZ, u, se, sl⟩ : Oc).cells (by rfl) (load_O (HB3.out.setRow _))) rfl ?_
  exact ⟨rfl, HK3.out.newRow HBw.out _⟩
set_option maxRecDepth 100000 in
set_option maxHeartbeats 2000000 in
theorem out_worn  (w : World) : Calls Try.prog 45 #[phWorn] w (fun e w' => e = .returned (.agg (⟨false, false, true, cZ, 0, slZ, slZ⟩ : Oc).cells) ∧ Kept No w w') := by
  refine hideC fun C HC => ?_
  go_enter Try.func45, Try.ntmps45
  go_upto_region 0 with fail
  refine WL.start ?_
  refine wp_allocW 102 rfl ocZ.cells zero102 w.heap.size rfl (by kernel_rfl) ?_
  try simp only [pS]
  refine WL.nil ?_
  try simp only [pS]
  obtain ⟨w1, hw1⟩ : ∃ w1, w1 = w.alloc (.cells ocZ.cells 102) := ⟨_, rfl⟩
  rw [← hw1]
  have HB : Hid (Box w1 w.heap.size 102 ocZ.cells) := by rw [hw1]; exact Box.new _ _ _
  have HK : Hid (Kept No w w1) := by rw [hw1]; exact (Kept.refl No w).alloc _
  clear hw1
  obtain ⟨B, hB⟩ : ∃ B, B = w.heap.size := ⟨_, rfl⟩
  rw [← hB] at HB ⊢
  have HBw : Hid (w.heap.size ≤ B) := by show _ ≤ _; omega
  clear hB
  go_upto_region 1 with fail
  refine WL.start <| uK (phWorn) <| WL.nil <| ?_
  try simp only [pS]
  go_upto_region 2 with fail
  refine WL.start <| uK (.tuple #[.agg cZ.cells, .bool false]) <| uK (.bool false) <| uK (.agg cZ.cells) <| WL.nil <| ?_
  try simp only [pS]
  go_upto_region 5 with fail
  refine WL.start <| uK (.tuple #[.agg #[.int .i64 0, slZ.v, slZ.v], .bool false]) <| uK (.bool false) <| uK (.agg #[.int .i64 0, slZ.v, slZ.v]) <| WL.nil <| ?_
  try simp only [pS]
  go_upto_region 8 with fail
  refine WL.start <| uK (.tuple #[.agg #[], .bool true]) <| uK (.bool true) <| uK (.agg #[]) <| WL.nil <| ?_
  try simp only [pS]
  go_upto_region 9 with fail
  refine WL.start ?_
  refine wp_allocW 140 rfl (#[]) zero140 w1.heap.size rfl (by kernel_rfl) ?_
  try simp only [pS]
  obtain ⟨w2, hw2⟩ : ∃ w2, w2 = w1.alloc (.cells (#[]) 140) := ⟨_, rfl⟩
  rw [← hw2]
  have HV : Hid (Box w2 w1.heap.size 140 (#[])) := by rw [hw2]; exact Box.new _ _ _
  have HB2 : Hid (Box w2 B 102 ocZ.cells) := by rw [hw2]; exact HB.out.alloc _
  have HK2 : Hid (Kept No w w2) := by rw [hw2]; exact HK.out.alloc _
  clear hw2
  obtain ⟨V, hV⟩ : ∃ V, V = w1.heap.size := ⟨_, rfl⟩
  rw [← hV] at HV ⊢
  have HVw : Hid (w.heap.size ≤ V ∧ B < V) := ⟨by have := HK.out.size; omega, by have := HB.out.lt; omega⟩
  clear hV HB HK
  refine uT 140 ⟨V, 0, none⟩ (.agg #[]) _ (store_W HV.out) ?_
  try simp only [pS]
  refine WL.nil ?_
  try simp only [pS]
  obtain ⟨w3, hw3⟩ : ∃ w3, w3 = w2.setRow V (#[]) := ⟨_, rfl⟩
  rw [← hw3]
  have HV3 : Hid (Box w3 V 140 (#[])) := by rw [hw3]; exact HV.out.setRow _
  have HB3 : Hid (Box w3 B 102 ocZ.cells) := by rw [hw3]; exact HB2.out.rowNe (by have := HVw.out; omega) _
  have HK3 : Hid (Kept No w w3) := by rw [hw3]; exact HK2.out.newRow HVw.out.1 _
  clear hw3 HV HB2 HK2
  go_upto_region 10 with fail
  refine WL.start <| uW (.agg (⟨false, false, true, cZ, 0, slZ, slZ⟩ : Oc).cells) (exec_build 102 _ rfl ((⟨false, false, true, cZ, 0, slZ, slZ⟩ : Oc).cells) (by kernel_rfl)) <| ?_
  try simp only [pS]
  refine uT 102 ⟨B, 0, none⟩ (.agg (⟨false, false, true, cZ, 0, slZ, slZ⟩ : Oc).cells) _ (store_O HB3.out) ?_
  try simp only [pS]
  refine WL.nil ?_
  try simp only [pS]
  go_wp2
  rw [HC.out]
  refine bodyPost_ret (results_row1 (by rfl) _ _ B (⟨false, false, true, cZ, 0, slZ, slZ⟩ : Oc).cells (by rfl) (load_O (HB3.out.setRow _))) rfl ?_
  exact ⟨rfl, HK3.out.newRow HBw.out _⟩

end Go.Proofs.Ytpabpeppgpeaoaa
namespace Go.Proofs.Ytpabpeppgpeaoaa
open Go.RowKit Gt
set_option linter.unusedVariables false
set_option linter.unusedSimpArgs false

theorem results_row_tmp {fn : Func} {p u : Tmp} {t : TypeId} (h : fn.results = #[.cell p t, .tmp u]) (tmps : Array Value) (w : World) (g : Nat) (cs : Array Value) (hp : tmps.getD p undef = .pointer (some ⟨g, 0, none⟩)) (hrun : (loadVar t ⟨g, 0, none⟩).run Try.prog w = .ok (.agg cs) w) :
    (results fn tmps).run Try.prog w = .ok (.tuple #[.agg cs, tmps.getD u undef]) w := by
  rw [results_cell_tmp h, hp]
  simp [asAddr, hrun, Result.andThen]

theorem load_92 {w : World} {p : Nat} {v : Pv} (h : Box w p 94 v.cells) : (loadVar 92 ⟨p, 21, none⟩).run Try.prog w = .ok v.ph w := by
  have hagg : ∀ w : World, (isAgg 92).run Try.prog w = .ok false w := fun w => by kernel_rfl
  have hc : w.cell? ⟨p, 21, none⟩ = some v.ph := h.cell 21
  simp [loadVar, Sem.run_bind, hagg, run_load, hc, Result.andThen]
theorem zero28' : (Try.prog.info? 28).bind (·.zero) = some (.agg cZ.cells) := by kernel_rfl
theorem Oc.partC (o : Oc) : Part o.cs 3 o.c.cs := Part.mid _ _ _ rfl
theorem load_OC {w : World} {g : Nat} {o : Oc} (h : Box w g 102 o.cells) : (loadVar 28 ⟨g, 3, none⟩).run Try.prog w = .ok (.agg o.c.cells) w := run_load_part h o.partC Try.und28 rfl Try.size28
set_option maxRecDepth 100000 in
set_option maxHeartbeats 2000000 in
theorem decided_any (p : Nat) (v : Pv) (o : Oc) (w : World) (h : Box w p 94 v.cells) (hO : ∀ W, Calls Try.prog 45 #[v.ph] W (fun e w' => e = .returned (.agg o.cells) ∧ Kept No W w')) : Calls Try.prog 21 #[.pointer (some ⟨p, 0, none⟩)] w (fun e w' => e = .returned (.tuple #[.agg o.c.cells, .bool o.d]) ∧ Kept No w w') := by
  refine hideC fun C HC => ?_
  have HPW : Hid (Box w p 94 v.cells) := h
  have HO : Hid (∀ W, Calls Try.prog 45 #[v.ph] W (fun e w' => e = .returned (.agg o.cells) ∧ Kept No W w')) := hO
  clear h hO
  go_enter Try.func21, Try.ntmps21
  go_upto_region 0 with fail
  refine WL.start ?_
  refine wp_allocW 28 rfl cZ.cells zero28' w.heap.size rfl (by kernel_rfl) ?_
  try simp only [pS]
  refine uK (.bool false) <| WL.nil <| ?_
  try simp only [pS]
  obtain ⟨w1, hw1⟩ : ∃ w1, w1 = w.alloc (.cells cZ.cells 28) := ⟨_, rfl⟩
  rw [← hw1]
  have H2 : Hid (Box w1 w.heap.size 28 cZ.cells) := by rw [hw1]; exact Box.new _ _ _
  have HP : Hid (Box w1 p 94 v.cells) := by rw [hw1]; exact HPW.out.alloc _
  have HK : Hid (Kept No w w1) := by rw [hw1]; exact (Kept.refl No w).alloc _
  obtain ⟨B, hB⟩ : ∃ B, B = w.heap.size := ⟨_, rfl⟩
  rw [← hB] at H2 ⊢
  have HBw : Hid (w.heap.size ≤ B) := by show _ ≤ _; omega
  clear hw1 hB HPW
  go_upto_region 1 with fail
  refine WL.start <| uK (pV p 0) <| uK (pV p 0) <| uK (pV p 21) <| uL 92 ⟨p, 21, none⟩ (v.ph) (load_92 HP.out) <| ?_
  try simp only [pS]
  refine uC 45 #[v.ph] (HO.out w1) ?_
  rintro e w2 ⟨rfl, hk⟩
  have HK2 : Hid (Kept No w w2) := HK.out.then hk
  have H22 : Hid (Box w2 B 28 cZ.cells) := H2.out.kept hk (fun e => e)
  refine ⟨.agg o.cells, rfl, ?_⟩
  clear hk HK H2 HP
  try simp only [pS]
  refine wp_allocW 102 rfl ocZ.cells zero102 w2.heap.size rfl (by kernel_rfl) ?_
  try simp only [pS]
  obtain ⟨w3, hw3⟩ : ∃ w3, w3 = w2.alloc (.cells ocZ.cells 102) := ⟨_, rfl⟩
  rw [← hw3]
  have H4 : Hid (Box w3 w2.heap.size 102 ocZ.cells) := by rw [hw3]; exact Box.new _ _ _
  have H23 : Hid (Box w3 B 28 cZ.cells) := by rw [hw3]; exact H22.out.alloc _
  have HK3 : Hid (Kept No w w3) := by rw [hw3]; exact HK2.out.alloc _
  obtain ⟨B4, hB4⟩ : ∃ B4, B4 = w2.heap.size := ⟨_, rfl⟩
  rw [← hB4] at H4 ⊢
  have HB4 : Hid (w.heap.size ≤ B4 ∧ B < B4) := ⟨by have := HK2.out.size; omega, by have := H22.out.lt; omega⟩
  clear hw3 hB4 HK2 H22
  refine uT 102 ⟨B4, 0, none⟩ (.agg o.cells) _ (store_O H4.out) ?_
  try simp only [pS]
  refine WL.nil ?_
  try simp only [pS]
  obtain ⟨w4, hw4⟩ : ∃ w4, w4 = w3.setRow B4 o.cells := ⟨_, rfl⟩
  rw [← hw4]
  have H44 : Hid (Box w4 B4 102 o.cells) := by rw [hw4]; exact H4.out.setRow _
  have H24 : Hid (Box w4 B 28 cZ.cells) := by rw [hw4]; exact H23.out.rowNe (by have := HB4.out; omega) _
  have HK4 : Hid (Kept No w w4) := by rw [hw4]; exact HK3.out.newRow HB4.out.1 _
  clear hw4 H4 H23 HK3
  go_upto_region 2 with fail
  refine wp_region_held_drew (S := fun w' => Box w' B4 102 o.cells) rfl H44.out (fun hH => ?_)
  refine xV 0 10 (pV B4 3) hH <| xL 1 11 28 ⟨B4, 3, none⟩ (.agg o.c.cells) (fun _ hw => load_OC hw) hH <| xV 2 12 (pV B4 0) hH <| xL 3 13 4 ⟨B4, 0, none⟩ (.bool o.d) (fun _ hw => load_B (hw.cell 0)) hH <| ?_
  try simp only [pS]
  refine xS 4 28 ⟨B, 0, none⟩ (.agg o.c.cells) (store_C (w := w4.drew) H24.out rfl) (hH.rowNe (by have := HB4.out; omega) _) (fun hH => ?_)
  try simp only [pS]
  refine xV 5 3 (.bool o.d) hH ?_
  try simp only [pS]
  refine wpAnyH_done (by kernel_rfl) ?_ _
  try simp only [pS]
  go_wp2
  rw [HC.out]
  refine bodyPost_ret (results_row_tmp (by rfl) _ _ B o.c.cells (by rfl) (load_C (Box.setRow (w := w4.drew) H24.out _))) rfl ?_
  exact ⟨rfl, (HK4.out.drew).newRow HBw.out _⟩

end Go.Proofs.Ytpabpeppgpeaoaa
namespace Go.Proofs.Ytpabpeppgpeaoaa
open Go.RowKit Gt
set_option linter.unusedVariables false
set_option linter.unusedSimpArgs false

/-- The place of the best of the first k + 1, gone through from the left. -/
def bi (lt : Nat → Nat → Bool) : Nat → Nat
  | 0 => 0
  | k + 1 => if lt (bi lt k) (k + 1) then k + 1 else bi lt k
theorem bi_le (lt : Nat → Nat → Bool) : ∀ k, bi lt k ≤ k
  | 0 => Nat.le_refl _
  | k + 1 => by
    have := bi_le lt k
    unfold bi
    split <;> omega
theorem bi_yes {lt : Nat → Nat → Bool} {k : Nat} (h : lt (bi lt k) (k + 1) = true) : bi lt (k + 1) = k + 1 := if_pos h
theorem bi_no {lt : Nat → Nat → Bool} {k : Nat} (h : lt (bi lt k) (k + 1) = false) : bi lt (k + 1) = bi lt k := by
  show (if lt (bi lt k) (k + 1) then k + 1 else bi lt k) = _
  rw [h]; rfl



abbrev Vt := Gt.V.Vt
def vcs (v : Vt) : List Value := [.int .i64 v.n, .int .i64 v.b, .int .i64 v.k, .int .i64 v.cl, .int .i64 v.op, .string v.nm, .int .i64 v.f0, .int .i64 v.f1, .int .i64 v.g0, .int .i64 v.g1, .int .i64 v.sz]
def vcell (v : Vt) : Array Value := (vcs v).toArray
def vZ : Vt := ⟨0, 0, 0, 0, 0, ⟨#[]⟩, 0, 0, 0, 0, 0⟩
def vLess (a b : Vt) : Bool := decide (a.n < b.n) || (decide (a.n = b.n) && decide (a.b < b.b))
theorem vone (v : Vt) : (vcell v).all (·.oneCell') = true := by simp [vcell, vcs, Value.oneCell']
theorem zero153 : (Try.prog.info? 153).bind (·.zero) = some (.agg (vcell vZ)) := by kernel_rfl
theorem Try.und153 : Try.prog.underlying 153 = some (.struct (Try.prog.fieldsOf 153)) := by kernel_rfl
theorem Try.size153 : (Try.prog.info? 153).map (·.size) = some 11 := by kernel_rfl
theorem Try.und174 : Try.prog.underlying 174 = some (.slice (Try.prog.elem 174)) := by kernel_rfl
theorem Try.size174 : (Try.prog.info? (Try.prog.elem 174)).map (·.size) = some 11 := by kernel_rfl
theorem load_V {w : World} {g : Nat} {v : Vt} (h : Box w g 153 (vcell v)) : (loadVar 153 ⟨g, 0, none⟩).run Try.prog w = .ok (.agg (vcell v)) w := run_load_part h (Part.all _) Try.und153 rfl Try.size153
theorem store_V {w : World} {g : Nat} {v : Vt} {cur : Array Value} (h : Box w g 153 cur) (hl : cur.size = 11) : (storeVar 153 ⟨g, 0, none⟩ (.agg (vcell v))).run Try.prog w = .ok () (w.setRow g (vcell v)) :=
  run_storeVar_row w g 153 153 cur (vcell v) h Try.size153 (by rw [hl]; rfl) (vone v)
/-- A vote at a place. -/
def VAt (w : World) (b o : Nat) (v : Vt) : Prop := ∀ (j : Nat) u, (vcs v)[j]? = some u → w.cell? ⟨b, o + j, none⟩ = some u
theorem VAt.no {w w' : World} {b o : Nat} {v : Vt} (h : VAt w b o v) (hk : Kept No w w') : VAt w' b o v := fun j u e => hk.cell (h j u e) (fun e => e)
theorem load_VAt {w : World} {b o : Nat} {v : Vt} (h : VAt w b o v) : (loadVar 153 ⟨b, o, none⟩).run Try.prog w = .ok (.agg (vcell v)) w := by
  have hl : (loadCells ⟨b, o, none⟩ (vcs v).length).run Try.prog w = .ok (vcs v).toArray w :=
    run_loadCells_list (P := Try.prog) w ⟨b, o, none⟩ (vcs v) (fun j u e => by rw [addr_add]; exact h j u e)
  cases hq : Try.prog.info? 153 with
  | none => have := Try.size153; rw [hq] at this; cases this
  | some i =>
    have hs : i.size = (vcs v).length := by have := Try.size153; rw [hq] at this; simpa [vcs] using this
    have hagg : (isAgg 153).run Try.prog w = .ok true w := by
      unfold isAgg
      rw [Sem.run_bind, run_underlying Try.und153 w]
      rfl
    simp only [loadVar, Sem.run_bind, hagg, Result.andThen_ok, if_true]
    simp [sizeOf, typeInfo, hq, hs, hl, vcell, Result.andThen]
set_option maxRecDepth 100000 in
set_option maxHeartbeats 1000000 in
theorem tless_any (n c m d : Int) (w : World) : Calls Try.prog 94 #[.agg #[.int .i64 n, .int .i64 c], .agg #[.int .i64 m, .int .i64 d]] w (fun e w' => e = .returned (.bool (decide (n < m) || (decide (n = m) && decide (c < d)))) ∧ Kept No w w') := by
  have HE : Hid (∀ b : Bool, b = b) := fun _ => rfl
  by_cases hnm : n = m
  · subst hnm
    have hb : (n != n) = false := by simp
    go_enter Try.func94, Try.ntmps94
    go_wp2
    all_goals go_ret
    all_goals exact ⟨by simp, by repeat (first | exact Kept.refl _ _ | apply Kept.alloc)⟩
  · have hb : (n != m) = true := by simpa using hnm
    go_enter Try.func94, Try.ntmps94
    go_wp2
    all_goals go_ret
    all_goals exact ⟨by simp [hnm], by repeat (first | exact Kept.refl _ _ | apply Kept.alloc)⟩
theorem load_VS {w : World} {g : Nat} {v : Vt} (h : Box w g 153 (vcell v)) : (loadVar 39 ⟨g, 0, none⟩).run Try.prog w = .ok (.agg #[.int .i64 v.n, .int .i64 v.b]) w :=
  run_load_part (sub := [.int .i64 v.n, .int .i64 v.b]) h (fun j u e => by
    match j, e with
    | 0, e => exact e
    | 1, e => exact e) Try.und39 rfl Try.size39
set_option maxRecDepth 100000 in
set_option maxHeartbeats 1000000 in
theorem vless_any (a b : Vt) (w : World) : Calls Try.prog 93 #[.agg (vcell a), .agg (vcell b)] w (fun e w' => e = .returned (.bool (vLess a b)) ∧ Kept No w w') := by
  refine hideC fun C HC => ?_
  go_enter Try.func93, Try.ntmps93
  go_upto_region 0 with fail
  refine WL.start ?_
  refine uR (pV w.heap.size 0) (w.alloc (.cells (vcell a) 153)) (exec_box 153 _ rfl (vcell a) (by kernel_rfl)) ?_
  try simp only [pS]
  obtain ⟨wx, hwx⟩ : ∃ wx, wx = w.alloc (.cells (vcell a) 153) := ⟨_, rfl⟩
  rw [← hwx]
  have HAx : Hid (Box wx w.heap.size 153 (vcell a)) := by rw [hwx]; exact Box.new _ _ _
  have HKx : Hid (Kept No w wx) := by rw [hwx]; exact (Kept.refl No w).alloc _
  clear hwx
  refine uR (pV wx.heap.size 0) (wx.alloc (.cells (vcell b) 153)) (exec_box 153 _ rfl (vcell b) (by kernel_rfl)) ?_
  try simp only [pS]
  refine uK (.bool false) <| WL.nil <| ?_
  try simp only [pS]
  obtain ⟨w1, hw1⟩ : ∃ w1, w1 = wx.alloc (.cells (vcell b) 153) := ⟨_, rfl⟩
  rw [← hw1]
  have HA : Hid (Box w1 w.heap.size 153 (vcell a)) := by rw [hw1]; exact HAx.out.alloc _
  have HB : Hid (Box w1 wx.heap.size 153 (vcell b)) := by rw [hw1]; exact Box.new _ _ _
  have HK : Hid (Kept No w w1) := by rw [hw1]; exact HKx.out.alloc _
  clear hw1
  go_upto_region 1 with fail
  refine WL.start <| uK (pV w.heap.size 0) <| uL 39 ⟨w.heap.size, 0, none⟩ (.agg #[.int .i64 a.n, .int .i64 a.b]) (load_VS HA.out) <| uK (pV wx.heap.size 0) <| uL 39 ⟨wx.heap.size, 0, none⟩ (.agg #[.int .i64 b.n, .int .i64 b.b]) (load_VS HB.out) <| ?_
  try simp only [pS]
  refine uC 94 #[.agg #[.int .i64 a.n, .int .i64 a.b], .agg #[.int .i64 b.n, .int .i64 b.b]] (tless_any a.n a.b b.n b.b w1) ?_
  rintro e w2 ⟨rfl, hk⟩
  have HK2 : Hid (Kept No w w2) := HK.out.then hk
  refine ⟨.bool (vLess a b), rfl, ?_⟩
  clear hk
  try simp only [pS]
  refine uK (.bool (vLess a b)) <| WL.nil <| ?_
  try simp only [pS]
  go_wp2
  rw [HC.out]
  exact ⟨rfl, HK2.out⟩

end Go.Proofs.Ytpabpeppgpeaoaa
