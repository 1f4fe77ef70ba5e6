import Derived.Test.YtpabpeppgpeaoaaQ
namespace Go.Proofs.Ytpabpeppgpeaoaa
open Go.RowKit Gt
set_option linter.unusedVariables false
set_option linter.unusedSimpArgs false

/-- What a proposer tells of its end. -/
structure Oc where
  d : Bool
  t : Bool
  w : Bool
  c : Cm
  u : Int
  e : Sl
  l : Sl
def Oc.cs (o : Oc) : List Value := [.bool o.d, .bool o.t, .bool o.w] ++ (o.c.cs ++ [.int .i64 o.u, o.e.v, o.l.v])
def Oc.cells (o : Oc) : Array Value := o.cs.toArray
def ocZ : Oc := ⟨false, false, false, cZ, 0, slZ, slZ⟩
theorem Oc.one (o : Oc) : o.cells.all (·.oneCell') = true := by simp [Oc.cells, Oc.cs, Cm.cs, Sl.v, Value.oneCell']
theorem zero102 : (Try.prog.info? 102).bind (·.zero) = some (.agg ocZ.cells) := by kernel_rfl
theorem zero118 : (Try.prog.info? 118).bind (·.zero) = some (.agg cZ.cells) := by kernel_rfl
theorem zero120 : (Try.prog.info? 120).bind (·.zero) = some (.agg #[.int .i64 0, slZ.v, slZ.v]) := by kernel_rfl
theorem zero140 : (Try.prog.info? 140).bind (·.zero) = some (.agg #[]) := by kernel_rfl
theorem Try.und102 : Try.prog.underlying 102 = some (.struct (Try.prog.fieldsOf 102)) := by kernel_rfl
theorem Try.size102 : (Try.prog.info? 102).map (·.size) = some 15 := by kernel_rfl
theorem Try.size118 : (Try.prog.info? 118).map (·.size) = some 9 := by kernel_rfl
theorem Try.size120 : (Try.prog.info? 120).map (·.size) = some 3 := by kernel_rfl
theorem Try.size140 : (Try.prog.info? 140).map (·.size) = some 0 := by kernel_rfl
theorem Try.und44 : Try.prog.underlying 44 = some (.struct (Try.prog.fieldsOf 44)) := by kernel_rfl
theorem Try.size44 : (Try.prog.info? 44).map (·.size) = some 3 := by kernel_rfl
theorem load_O {w : World} {g : Nat} {o : Oc} (h : Box w g 102 o.cells) : (loadVar 102 ⟨g, 0, none⟩).run Try.prog w = .ok (.agg o.cells) w := run_load_part h (Part.all _) Try.und102 rfl Try.size102
theorem store_O {w : World} {g : Nat} {o : Oc} (h : Box w g 102 ocZ.cells) : (storeVar 102 ⟨g, 0, none⟩ (.agg o.cells)).run Try.prog w = .ok () (w.setRow g o.cells) :=
  run_storeVar_row w g 102 102 ocZ.cells o.cells h Try.size102 rfl o.one
theorem store_D {w : World} {g : Nat} {c : Cm} (h : Box w g 118 cZ.cells) : (storeVar 118 ⟨g, 0, none⟩ (.agg c.cells)).run Try.prog w = .ok () (w.setRow g c.cells) :=
  run_storeVar_row w g 118 118 cZ.cells c.cells h Try.size118 rfl c.one
theorem load_D {w : World} {g : Nat} {c : Cm} (h : Box w g 118 c.cells) : (loadVar 28 ⟨g, 0, none⟩).run Try.prog w = .ok (.agg c.cells) w := run_load_part h (Part.all _) Try.und28 rfl Try.size28
theorem store_T {w : World} {g : Nat} {u : Int} {e l : Sl} (h : Box w g 120 #[.int .i64 0, slZ.v, slZ.v]) : (storeVar 120 ⟨g, 0, none⟩ (.agg #[.int .i64 u, e.v, l.v])).run Try.prog w = .ok () (w.setRow g #[.int .i64 u, e.v, l.v]) :=
  run_storeVar_row w g 120 120 _ _ h Try.size120 rfl (by simp [Sl.v, Value.oneCell'])
theorem load_T {w : World} {g : Nat} {u : Int} {e l : Sl} (h : Box w g 120 #[.int .i64 u, e.v, l.v]) : (loadVar 44 ⟨g, 0, none⟩).run Try.prog w = .ok (.agg #[.int .i64 u, e.v, l.v]) w := run_load_part (cs := [.int .i64 u, e.v, l.v]) h (Part.all _) Try.und44 rfl Try.size44
theorem store_W {w : World} {g : Nat} (h : Box w g 140 #[]) : (storeVar 140 ⟨g, 0, none⟩ (.agg #[])).run Try.prog w = .ok () (w.setRow g #[]) :=
  run_storeVar_row w g 140 140 _ _ h Try.size140 rfl (by simp)
set_option maxRecDepth 100000 in
set_option maxHeartbeats 2000000 in
theorem out_nil  (w : World) : Calls Try.prog 45 #[.nilIface] w (fun e w' => e = .returned (.agg ocZ.cells) ∧ Kept No w w') := by
  refine hideC fun C HC => ?_
  go_enter Try.func45, Try.ntmps45
  go_upto_region 0 with fail
  refine WL.start ?_
  refine wp_allocW 102 rfl ocZ.cells zero102 w.heap.size rfl (by kernel_rfl) ?_
  try simp only [pS]
  refine WL.nil ?_
  try simp only [pS]
  obtain ⟨w1, hw1⟩ : ∃ w1, w1 = w.alloc (.cells ocZ.cells 102) := ⟨_, rfl⟩
  rw [← hw1]
  have HB : Hid (Box w1 w.heap.size 102 ocZ.cells) := by rw [hw1]; exact Box.new _ _ _
  have HK : Hid (Kept No w w1) := by rw [hw1]; exact (Kept.refl No w).alloc _
  clear hw1
  obtain ⟨B, hB⟩ : ∃ B, B = w.heap.size := ⟨_, rfl⟩
  rw [← hB] at HB ⊢
  have HBw : Hid (w.heap.size ≤ B) := by show _ ≤ _; omega
  clear hB
  go_upto_region 1 with fail
  refine WL.start <| uK (.nilIface) <| WL.nil <| ?_
  try simp only [pS]
  go_upto_region 2 with fail
  refine WL.start <| uK (.tuple #[.agg cZ.cells, .bool false]) <| uK (.bool false) <| uK (.agg cZ.cells) <| WL.nil <| ?_
  try simp only [pS]
  go_upto_region 5 with fail
  refine WL.start <| uK (.tuple #[.agg #[.int .i64 0, slZ.v, slZ.v], .bool false]) <| uK (.bool false) <| uK (.agg #[.int .i64 0, slZ.v, slZ.v]) <| WL.nil <| ?_
  try simp only [pS]
  go_upto_region 8 with fail
  refine WL.start <| uK (.tuple #[.agg #[], .bool false]) <| uK (.bool false) <| uK (.agg #[]) <| WL.nil <| ?_
  try simp only [pS]
  go_upto_region 11 with fail
  refine WL.start <| uW (.agg ocZ.cells) (exec_build 102 _ rfl (ocZ.cells) (by kernel_rfl)) <| ?_
  try simp only [pS]
  refine uT 102 ⟨B, 0, none⟩ (.agg ocZ.cells) _ (store_O HB.out) ?_
  try simp only [pS]
  refine WL.nil ?_
  try simp only [pS]
  go_wp2
  rw [HC.out]
  refine bodyPost_ret (results_row1 (by rfl) _ _ B ocZ.cells (by rfl) (load_O (HB.out.setRow _))) rfl ?_
  exact ⟨rfl, HK.out.newRow HBw.out _⟩
set_option maxRecDepth 100000 in
set_option maxHeartbeats 2000000 in
theorem out_pre (q t : Nat) (w : World) : Calls Try.prog 45 #[phPre q t] w (fun e w' => e = .returned (.agg ocZ.cells) ∧ Kept No w w') := by
  refine hideC fun C HC => ?_
  go_enter Try.func45, Try.ntmps45
  go_upto_region 0 with fail
  refine WL.start ?_
  refine wp_allocW 102 rfl ocZ.cells zero102 w.heap.size rfl (by kernel_rfl) ?_
  try simp only [pS]
  refine WL.nil ?_
  try simp only [pS]
  obtain ⟨w1, hw1⟩ : ∃ w1, w1 = w.alloc (.cells ocZ.cells 102) := ⟨_, rfl⟩
  rw [← hw1]
  have HB : Hid (Box w1 w.heap.size 102 ocZ.cells) := by rw [hw1]; exact Box.new _ _ _
  have HK : Hid (Kept No w w1) := by rw [hw1]; exact (Kept.refl No w).alloc _
  clear hw1
  obtain ⟨B, hB⟩ : ∃ B, B = w.heap.size := ⟨_, rfl⟩
  rw [← hB] at HB ⊢
  have HBw : Hid (w.heap.size ≤ B) := by show _ ≤ _; omega
  clear hB
  go_upto_region 1 with fail
  refine WL.start <| uK (phPre q t) <| WL.nil <| ?_
  try simp only [pS]
  go_upto_region 2 with fail
  refine WL.start <| uK (.tuple #[.agg cZ.cells, .bool false]) <| uK (.bool false) <| uK (.agg cZ.cells) <| WL.nil <| ?_
  try simp only [pS]
  go_upto_region 5 with fail
  refine WL.start <| uK (.tuple #[.agg #[.int .i64 0, slZ.v, slZ.v], .bool false]) <| uK (.bool false) <| uK (.agg #[.int .i64 0, slZ.v, slZ.v]) <| WL.nil <| ?_
  try simp only [pS]
  go_upto_region 8 with fail
  refine WL.start <| uK (.tuple #[.agg #[], .bool false]) <| uK (.bool false) <| uK (.agg #[]) <| WL.nil <| ?_
  try simp only [pS]
  go_upto_region 11 with fail
  refine WL.start <| uW (.agg ocZ.cells) (exec_build 102 _ rfl (ocZ.cells) (by kernel_rfl)) <| ?_
  try simp only [pS]
  refine uT 102 ⟨B, 0, none⟩ (.agg ocZ.cells) _ (store_O HB.out) ?_
  try simp only [pS]
  refine WL.nil ?_
  try simp only [pS]
  go_wp2
  rw [HC.out]
  refine bodyPost_ret (results_row1 (by rfl) _ _ B ocZ.cells (by rfl) (load_O (HB.out.setRow _))) rfl ?_
  exact ⟨rfl, HK.out.newRow HBw.out _⟩
set_option maxRecDepth 100000 in
set_option maxHeartbeats 2000000 in
theorem out_acc (q t : Nat) (w : World) : Calls Try.prog 45 #[phAcc q t] w (fun e w' => e = .returned (.agg ocZ.cells) ∧ Kept No w w') := by
  refine hideC fun C HC => ?_
  go_enter Try.func45, Try.ntmps45
  go_upto_region 0 with fail
  refine WL.start ?_
  refine wp_allocW 102 rfl ocZ.cells zero102 w.heap.size rfl (by kernel_rfl) ?_
  try simp only [pS]
  refine WL.nil ?_
  try simp only [pS]
  obtain ⟨w1, hw1⟩ : ∃ w1, w1 = w.alloc (.cells ocZ.cells 102) := ⟨_, rfl⟩
  rw [← hw1]
  have HB : Hid (Box w1 w.heap.size 102 ocZ.cells) := by rw [hw1]; exact Box.new _ _ _
  have HK : Hid (Kept No w w1) := by rw [hw1]; exact (Kept.refl No w).alloc _
  clear hw1
  obtain ⟨B, hB⟩ : ∃ B, B = w.heap.size := ⟨_, rfl⟩
  rw [← hB] at HB ⊢
  have HBw : Hid (w.heap.size ≤ B) := by show _ ≤ _; omega
  clear hB
  go_upto_region 1 with fail
  refine WL.start <| uK (phAcc q t) <| WL.nil <| ?_
  try simp only [pS]
  go_upto_region 2 with fail
  refine WL.start <| uK (.tuple #[.agg cZ.cells, .bool false]) <| uK (.bool false) <| uK (.agg cZ.cells) <| WL.nil <| ?_
  try simp only [pS]
  go_upto_region 5 with fail
  refine WL.start <| uK (.tuple #[.agg #[.int .i64 0, slZ.v, slZ.v], .bool false]) <| uK (.bool false) <| uK (.agg #[.int .i64 0, slZ.v, slZ.v]) <| WL.nil <| ?_
  try simp only [pS]
  go_upto_region 8 with fail
  refine WL.start <| uK (.tuple #[.agg #[], .bool false]) <| uK (.bool false) <| uK (.agg #[]) <| WL.nil <| ?_
  try simp only [pS]
  go_upto_region 11 with fail
  refine WL.start <| uW (.agg ocZ.cells) (exec_build 102 _ rfl (ocZ.cells) (by kernel_rfl)) <| ?_
  try simp only [pS]
  refine uT 102 ⟨B, 0, none⟩ (.agg ocZ.cells) _ (store_O HB.out) ?_
  try simp only [pS]
  refine WL.nil ?_
  try simp only [pS]
  go_wp2
  rw [HC.out]
  refine bodyPost_ret (results_row1 (by rfl) _ _ B ocZ.cells (by rfl) (load_O (HB.out.setRow _))) rfl ?_
  exact ⟨rfl, HK.out.newRow HBw.out _⟩
set_option maxRecDepth 100000 in
set_option maxHeartbeats 2000000 in
theorem out_dec (c : Cm) (w : World) : Calls Try.prog 45 #[phDec c] w (fun e w' => e = .returned (.agg (⟨true, false, false, c, 0, slZ, slZ⟩ : Oc).cells) ∧ Kept No w w') := by
  refine hideC fun C HC => ?_
  go_enter Try.func45, Try.ntmps45
  go_upto_region 0 with fail
  refine WL.start ?_
  refine wp_allocW 102 rfl ocZ.cells zero102 w.heap.size rfl (by kernel_rfl) ?_
  try simp only [pS]
  refine WL.nil ?_
  try simp only [pS]
  obtain ⟨w1, hw1⟩ : ∃ w1, w1 = w.alloc (.cells ocZ.cells 102) := ⟨_, rfl⟩
  rw [← hw1]
  have HB : Hid (Box w1 w.heap.size 102 ocZ.cells) := by rw [hw1]; exact Box.new _ _ _
  have HK : Hid (Kept No w w1) := by rw [hw1]; exact (Kept.refl No w).alloc _
  clear hw1
  obtain ⟨B, hB⟩ : ∃ B, B = w.heap.size := ⟨_, rfl⟩
  rw [← hB] at HB ⊢
  have HBw : Hid (w.heap.size ≤ B) := by show _ ≤ _; omega
  clear hB
  go_upto_region 1 with fail
  refine WL.start <| uK (phDec c) <| WL.nil <| ?_
  try simp only [pS]
  go_upto_region 2 with fail
  refine WL.start <| uK (.tuple #[.agg c.cells, .bool true]) <| uK (.bool true) <| uK (.agg c.cells) <| WL.nil <| ?_
  try simp only [pS]
  go_upto_region 3 with fail
  refine WL.start ?_
  refine wp_allocW 118 rfl (cZ.cells) zero118 w1.heap.size rfl (by kernel_rfl) ?_
  try simp only [pS]
  obtain ⟨w2, hw2⟩ : ∃ w2, w2 = w1.alloc (.cells (cZ.cells) 118) := ⟨_, rfl⟩
  rw [← hw2]
  have HV : Hid (Box w2 w1.heap.size 118 (cZ.cells)) := by rw [hw2]; exact Box.new _ _ _
  have HB2 : Hid (Box w2 B 102 ocZ.cells) := by rw [hw2]; exact HB.out.alloc _
  have HK2 : Hid (Kept No w w2) := by rw [hw2]; exact HK.out.alloc _
  clear hw2
  obtain ⟨V, hV⟩ : ∃ V, V = w1.heap.size := ⟨_, rfl⟩
  rw [← hV] at HV ⊢
  have HVw : Hid (w.heap.size ≤ V ∧ B < V) := ⟨by have := HK.out.size; omega, by have := HB.out.lt; omega⟩
  clear hV HB HK
  refine uT 118 ⟨V, 0, none⟩ (.agg c.cells) _ (store_D HV.out) ?_
  try simp only [pS]
  refine WL.nil ?_
  try simp only [pS]
  obtain ⟨w3, hw3⟩ : ∃ w3, w3 = w2.setRow V (c.cells) := ⟨_, rfl⟩
  rw [← hw3]
  have HV3 : Hid (Box w3 V 118 (c.cells)) := by rw [hw3]; exact HV.out.setRow _
  have HB3 : Hid (Box w3 B 102 ocZ.cells) := by rw [hw3]; exact HB2.out.rowNe (by have := HVw.out; omega) _
  have HK3 : Hid (Kept No w w3) := by rw [hw3]; exact HK2.out.newRow HVw.out.1 _
  clear hw3 HV HB2 HK2
  go_upto_region 4 with fail
  refine WL.start <| uK (pV V 0) <| uL 28 ⟨V, 0, none⟩ (.agg c.cells) (load_D HV3.out) <| uW (.agg (⟨true, false, false, c, 0, slZ, slZ⟩ : Oc).cells) (exec_build 102 _ rfl ((⟨true, false, false, c, 0, slZ, slZ⟩ : Oc).cells) (by kernel_rfl)) <| ?_
  try simp only [pS]
  refine uT 102 ⟨B, 0, none⟩ (.agg (⟨true, false, false, c, 0, slZ, slZ⟩ : Oc).cells) _ (store_O HB3.out) ?_
  try simp only [pS]
  refine WL.nil ?_
  try simp only [pS]
  go_wp2
  rw [HC.out]
  refine bodyPost_ret (results_row1 (by rfl) _ _ B (⟨true, false, false, c, 0, slZ, slZ⟩ : Oc).cells (by rfl) (load_O (HB3.out.setRow _))) rfl ?_
  exact ⟨rfl, HK3.out.newRow HBw.out _⟩
set_option maxRecDepth 100000 in
set_option maxHeartbeats 2000000 in
theorem out_tri (u : Int) (se sl : Sl) (w : World) : Calls Try.prog 45 #[phTri u se sl] w (fun e w' => e = .returned (.agg (⟨false, true, false, cZ, u, se, sl⟩ : Oc).cells) ∧ Kept No w w') := by
  refine hideC fun C HC => ?_
  go_enter Try.func45, Try.ntmps45
  go_upto_region 0 with fail
  refine WL.start ?_
  refine wp_allocW 102 rfl ocZ.cells zero102 w.heap.size rfl (by kernel_rfl) ?_
  try simp only [pS]
  refine WL.nil ?_
  try simp only [pS]
  obtain ⟨w1, hw1⟩ : ∃ w1, w1 = w.alloc (.cells ocZ.cells 102) := ⟨_, rfl⟩
  rw [← hw1]
  have HB : Hid (Box w1 w.heap.size 102 ocZ.cells) := by rw [hw1]; exact Box.new _ _ _
  have HK : Hid (Kept No w w1) := by rw [hw1]; exact (Kept.refl No w).alloc _
  clear hw1
  obtain ⟨B, hB⟩ : ∃ B, B = w.heap.size := ⟨_, rfl⟩
  rw [← hB] at HB ⊢
  have HBw : Hid (w.heap.size ≤ B) := by show _ ≤ _; omega
  clear hB
  go_upto_region 1 with fail
  refine WL.start <| uK (phTri u se sl) <| WL.nil <| ?_
  try simp only [pS]
  go_upto_region 2 with fail
  refine WL.start <| uK (.tuple #[.agg cZ.cells, .bool false]) <| uK (.bool false) <| uK (.agg cZ.cells) <| WL.nil <| ?_
  try simp only [pS]
  go_upto_region 5 with fail
  refine WL.start <| uK (.tuple #[.agg #[.int .i64 u, se.v, sl.v], .bool true]) <| uK (.bool true) <| uK (.agg #[.int .i64 u, se.v, sl.v]) <| WL.nil <| ?_
  try simp only [pS]
  go_upto_region 6 with fail
  refine WL.start ?_
  refine wp_allocW 120 rfl (#[.int .i64 0, slZ.v, slZ.v]) zero120 w1.heap.size rfl (by kernel_rfl) ?_
  try simp only [pS]
  obtain ⟨w2, hw2⟩ : ∃ w2, w2 = w1.alloc (.cells (#[.int .i64 0, slZ.v, slZ.v]) 120) := ⟨_, rfl⟩
  rw [← hw2]
  have HV : Hid (Box w2 w1.heap.size 120 (#[.int .i64 0, slZ.v, slZ.v])) := by rw [hw2]; exact Box.new _ _ _
  have HB2 : Hid (Box w2 B 102 ocZ.cells) := by rw [hw2]; exact HB.out.alloc _
  have HK2 : Hid (Kept No w w2) := by rw [hw2]; exact HK.out.alloc _
  clear hw2
  obtain ⟨V, hV⟩ : ∃ V, V = w1.heap.size := ⟨_, rfl⟩
  rw [← hV] at HV ⊢
  have HVw : Hid (w.heap.size ≤ V ∧ B < V) := ⟨by have := HK.out.size; omega, by have := HB.out.lt; omega⟩
  clear hV HB HK
  refine uT 120 ⟨V, 0, none⟩ (.agg #[.int .i64 u, se.v, sl.v]) _ (store_T HV.out) ?_
  try simp only [pS]
  refine WL.nil ?_
  try simp only [pS]
  obtain ⟨w3, hw3⟩ : ∃ w3, w3 = w2.setRow V (#[.int .i64 u, se.v, sl.v]) := ⟨_, rfl⟩
  rw [← hw3]
  have HV3 : Hid (Box w3 V 120 (#[.int .i64 u, se.v, sl.v])) := by rw [hw3]; exact HV.out.setRow _
  have HB3 : Hid (Box w3 B 102 ocZ.cells) := by rw [hw3]; exact HB2.out.rowNe (by have := HVw.out; omega) _
  have HK3 : Hid (Kept No w w3) := by rw [hw3]; exact HK2.out.newRow HVw.out.1 _
  clear hw3 HV HB2 HK2
  go_upto_region 7 with fail
  refine WL.start <| uK (pV V 0) <| uL 44 ⟨V, 0, none⟩ (.agg #[.int .i64 u, se.v, sl.v]) (load_T HV3.out) <| uW (.agg (⟨false, true, false, cZ, u, se, sl⟩ : Oc).cells) (exec_build 102 _ rfl ((⟨false, true, false, cZ, u, se, sl⟩ : Oc).cells) (by kernel_rfl)) <| ?_
  try simp only [pS]
  refine uT 102 ⟨B, 0, none⟩ (.agg (⟨false, true, false, cZ, u, se, sl⟩ : Oc).cells) _ (store_O HB3.out) ?_
  try simp only [pS]
  refine WL.nil ?_
  try simp only [pS]
  go_wp2
  rw [HC.out]
  refine bodyPost_ret (results_row1 (by rfl) _ _ B (⟨false, true, false, cZ, u, se, sl⟩ : Oc).cells (by rfl) (load_O (HB3.out.setRow _))) rfl ?_
  exact ⟨rfl, HK3.out.newRow HBw.out _⟩
set_option maxRecDepth 100000 in
set_option maxHeartbeats 2000000 in
theorem out_worn  (w : World) : Calls Try.prog 45 #[phWorn] w (fun e w' => e = .returned (.agg (⟨false, false, true, cZ, 0, slZ, slZ⟩ : Oc).cells) ∧ Kept No w w') := by
  refine hideC fun C HC => ?_
  go_enter Try.func45, Try.ntmps45
  go_upto_region 0 with fail
  refine WL.start ?_
  refine wp_allocW 102 rfl ocZ.cells zero102 w.heap.size rfl (by kernel_rfl) ?_
  try simp only [pS]
  refine WL.nil ?_
  try simp only [pS]
  obtain ⟨w1, hw1⟩ : ∃ w1, w1 = w.alloc (.cells ocZ.cells 102) := ⟨_, rfl⟩
  rw [← hw1]
  have HB : Hid (Box w1 w.heap.size 102 ocZ.cells) := by rw [hw1]; exact Box.new _ _ _
  have HK : Hid (Kept No w w1) := by rw [hw1]; exact (Kept.refl No w).alloc _
  clear hw1
  obtain ⟨B, hB⟩ : ∃ B, B = w.heap.size := ⟨_, rfl⟩
  rw [← hB] at HB ⊢
  have HBw : Hid (w.heap.size ≤ B) := by show _ ≤ _; omega
  clear hB
  go_upto_region 1 with fail
  refine WL.start <| uK (phWorn) <| WL.nil <| ?_
  try simp only [pS]
  go_upto_region 2 with fail
  refine WL.start <| uK (.tuple #[.agg cZ.cells, .bool false]) <| uK (.bool false) <| uK (.agg cZ.cells) <| WL.nil <| ?_
  try simp only [pS]
  go_upto_region 5 with fail
  refine WL.start <| uK (.tuple #[.agg #[.int .i64 0, slZ.v, slZ.v], .bool false]) <| uK (.bool false) <| uK (.agg #[.int .i64 0, slZ.v, slZ.v]) <| WL.nil <| ?_
  try simp only [pS]
  go_upto_region 8 with fail
  refine WL.start <| uK (.tuple #[.agg #[], .bool true]) <| uK (.bool true) <| uK (.agg #[]) <| WL.nil <| ?_
  try simp only [pS]
  go_upto_region 9 with fail
  refine WL.start ?_
  refine wp_allocW 140 rfl (#[]) zero140 w1.heap.size rfl (by kernel_rfl) ?_
  try simp only [pS]
  obtain ⟨w2, hw2⟩ : ∃ w2, w2 = w1.alloc (.cells (#[]) 140) := ⟨_, rfl⟩
  rw [← hw2]
  have HV : Hid (Box w2 w1.heap.size 140 (#[])) := by rw [hw2]; exact Box.new _ _ _
  have HB2 : Hid (Box w2 B 102 ocZ.cells) := by rw [hw2]; exact HB.out.alloc _
  have HK2 : Hid (Kept No w w2) := by rw [hw2]; exact HK.out.alloc _
  clear hw2
  obtain ⟨V, hV⟩ : ∃ V, V = w1.heap.size := ⟨_, rfl⟩
  rw [← hV] at HV ⊢
  have HVw : Hid (w.heap.size ≤ V ∧ B < V) := ⟨by have := HK.out.size; omega, by have := HB.out.lt; omega⟩
  clear hV HB HK
  refine uT 140 ⟨V, 0, none⟩ (.agg #[]) _ (store_W HV.out) ?_
  try simp only [pS]
  refine WL.nil ?_
  try simp only [pS]
  obtain ⟨w3, hw3⟩ : ∃ w3, w3 = w2.setRow V (#[]) := ⟨_, rfl⟩
  rw [← hw3]
  have HV3 : Hid (Box w3 V 140 (#[])) := by rw [hw3]; exact HV.out.setRow _
  have HB3 : Hid (Box w3 B 102 ocZ.cells) := by rw [hw3]; exact HB2.out.rowNe (by have := HVw.out; omega) _
  have HK3 : Hid (Kept No w w3) := by rw [hw3]; exact HK2.out.newRow HVw.out.1 _
  clear hw3 HV HB2 HK2
  go_upto_region 10 with fail
  refine WL.start <| uW (.agg (⟨false, false, true, cZ, 0, slZ, slZ⟩ : Oc).cells) (exec_build 102 _ rfl ((⟨false, false, true, cZ, 0, slZ, slZ⟩ : Oc).cells) (by kernel_rfl)) <| ?_
  try simp only [pS]
  refine uT 102 ⟨B, 0, none⟩ (.agg (⟨false, false, true, cZ, 0, slZ, slZ⟩ : Oc).cells) _ (store_O HB3.out) ?_
  try simp only [pS]
  refine WL.nil ?_
  try simp only [pS]
  go_wp2
  rw [HC.out]
  refine bodyPost_ret (results_row1 (by rfl) _ _ B (⟨false, false, true, cZ, 0, slZ, slZ⟩ : Oc).cells (by rfl) (load_O (HB3.out.setRow _))) rfl ?_
  exact ⟨rfl, HK3.out.newRow HBw.out _⟩

end Go.Proofs.Ytpabpeppgpeaoaa
