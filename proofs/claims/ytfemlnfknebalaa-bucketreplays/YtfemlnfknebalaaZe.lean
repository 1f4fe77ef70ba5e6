import Derived.Test.YtfemlnfknebalaaZd
namespace Go.Proofs.Ytfemlnfknebalaa
open Go.RowKit
set_option linter.unusedVariables false
set_option linter.unusedSimpArgs false
@[reducible] def oqZe0 : Oper := { dst := some 111, op := Op.load 54 (Operand.tmp 11), type := 54, pos := "ref.go:171", after := #[], guard := none }
@[reducible] def oqZe1 : Oper := { dst := some 112, op := Op.build 56 #[(1, Operand.tmp 111)], type := 56, pos := "ref.go:171", after := #[{ on := 0, ground := Ground.data }], guard := none }
@[reducible] def oqZe2 : Oper := { dst := some 113, op := Op.move (Operand.tmp 0), type := 22, pos := "ref.go:171", after := #[], guard := none }
@[reducible] def oqZe3 : Oper := { dst := some 114, op := Op.move (Operand.tmp 8), type := 3, pos := "ref.go:171", after := #[], guard := none }
@[reducible] def oqZe4 : Oper := { dst := some 115, op := Op.load 54 (Operand.tmp 11), type := 54, pos := "ref.go:171", after := #[], guard := none }
@[reducible] def oqZe5 : Oper := { dst := some 116, op := Op.buildSlice 22 1 #[(0, Operand.tmp 115)], type := 22, pos := "ref.go:171", after := #[{ on := 4, ground := Ground.data }], guard := none }
@[reducible] def oqZe6 : Oper := { dst := some 117, op := Op.call { callee := Callee.value (Operand.func 56), args := #[Operand.tmp 113, Operand.tmp 114, Operand.const (Value.int IntKind.i64 1), Operand.tmp 116], argTypes := #[22, 3, 3, 22] }, type := 22, pos := "ref.go:171", after := #[{ on := 2, ground := Ground.data }, { on := 3, ground := Ground.data }, { on := 5, ground := Ground.data }], guard := none }
@[reducible] def oqZe7 : Oper := { dst := none, op := Op.store 56 (Operand.tmp 6) (Operand.tmp 112), type := 0, pos := "ref.go:171", after := #[{ on := 1, ground := Ground.data }, { on := 6, ground := Ground.chain }, { on := 0, ground := Ground.phase }, { on := 1, ground := Ground.phase }, { on := 2, ground := Ground.textOnly Departure.lateStores }, { on := 3, ground := Ground.textOnly Departure.lateStores }, { on := 4, ground := Ground.textOnly Departure.lateStores }, { on := 5, ground := Ground.textOnly Departure.lateStores }, { on := 6, ground := Ground.textOnly Departure.lateStoresUnsure }], guard := none }
@[reducible] def oqZe8 : Oper := { dst := some 7, op := Op.assign (Operand.tmp 117), type := 22, pos := "ref.go:171", after := #[{ on := 6, ground := Ground.data }, { on := 7, ground := Ground.chain }, { on := 0, ground := Ground.phase }, { on := 1, ground := Ground.phase }, { on := 2, ground := Ground.phase }, { on := 3, ground := Ground.phase }, { on := 4, ground := Ground.phase }, { on := 5, ground := Ground.phase }, { on := 6, ground := Ground.phase }, { on := 7, ground := Ground.phase }], guard := none }

theorem rd_nil (w : World) : RdE w ⟨none, 0, 0⟩ [] := ⟨RowsAt.nil _ _ _, rfl, fun _ => rfl⟩
theorem rd_one {w : World} {g : Nat} {e : En} (h : Box w g 54 e.cells) : RdE w ⟨some ⟨g, 0, none⟩, 1, 1⟩ [e] := by
  refine ⟨fun i it hit => ?_, rfl, fun e => by cases e⟩
  cases i with
  | succ i => simp at hit
  | zero =>
    have e1 : e.cs = it := by simpa using hit
    subst e1
    refine ⟨g, 0, rfl, fun j v hv => ?_⟩
    rw [Nat.zero_mul, Nat.zero_add, h.cell]
    show e.cs.toArray[j]? = _
    rw [List.getElem?_toArray]
    exact hv
theorem set_same (es : List En) (k : Nat) : es.set k (eAt es k) = es := by
  by_cases h : k < es.length
  · have h1 := eAt_some h
    rw [List.getElem?_eq_getElem h] at h1
    rw [← Option.some.inj h1, List.set_getElem_self]
  · rw [List.set_eq_of_length_le (by omega)]
theorem mul40 {t : Nat} (h : t ≤ 3518437208883) : t * 40 ≤ 140737488355328 := by omega
set_option maxRecDepth 100000 in
set_option maxHeartbeats 4000000 in
theorem answered_no (a : Option Addr) (n cp : Nat) (es : List En) (c : Cm) (room : Int) (w : World) (he : RdE w ⟨a, n, cp⟩ es) (hnc : n ≤ cp) (hb : n + 1 ≤ 3518437208883) (hk1 : 1 ≤ c.k) (hk7 : c.k ≤ 7) (hq : pIs es c.nm = false) : Calls Try.prog 43 #[.slice a n cp, .agg (Cm.cells c), .int .i64 room] w (fun e w' => ∃ sx s : Sl, e = .returned (.tuple #[.agg (Av.cells ⟨(actR es c room).2.er, (actR es c room).2.e, sx⟩), s.v]) ∧ OwE w' w.heap.size sx (actR es c room).2.l ∧ RdE w' s (actR es c room).1 ∧ ((s = ⟨a, n, cp⟩ ∧ (actR es c room).1 = es) ∨ OwE w' w.heap.size s (actR es c room).1) ∧ s.l ≤ s.k ∧ Kept No w w') := by
  obtain ⟨C, hC⟩ : ∃ C : Ending → World → Prop, C = (fun e w' => ∃ sx s : Sl, e = .returned (.tuple #[.agg (Av.cells ⟨(actR es c room).2.er, (actR es c room).2.e, sx⟩), s.v]) ∧ OwE w' w.heap.size sx (actR es c room).2.l ∧ RdE w' s (actR es c room).1 ∧ ((s = ⟨a, n, cp⟩ ∧ (actR es c room).1 = es) ∨ OwE w' w.heap.size s (actR es c room).1) ∧ s.l ≤ s.k ∧ Kept No w w') := ⟨_, rfl⟩
  have HC : Hid (C = (fun e w' => ∃ sx s : Sl, e = .returned (.tuple #[.agg (Av.cells ⟨(actR es c room).2.er, (actR es c room).2.e, sx⟩), s.v]) ∧ OwE w' w.heap.size sx (actR es c room).2.l ∧ RdE w' s (actR es c room).1 ∧ ((s = ⟨a, n, cp⟩ ∧ (actR es c room).1 = es) ∨ OwE w' w.heap.size s (actR es c room).1) ∧ s.l ≤ s.k ∧ Kept No w w')) := hC
  rw [← hC]
  clear hC
  have HN : Hid (es.length = n) := he.len
  have HE : Hid (RdE w ⟨a, n, cp⟩ es) := he
  have hpl : plc es c.nm ≤ n := by have := plc_le es c.nm; rw [HN.out] at this; exact this
  have HPC : Hid (∀ W, Kept No w W → Calls Try.prog 47 #[.slice a n cp, .string c.nm] W (fun e w' => e = .returned (.tuple #[.int .i64 ((plc es c.nm : Nat) : Int), .bool false]) ∧ Kept No W w')) := fun W h => by
    have := place_any a n cp es c.nm W (he.no h) (by omega)
    rw [hq] at this
    exact this
  have HA : Hid (actR es c room = (if c.k == 4 then (es, (⟨0, enZ, es⟩ : An)) else if c.k == 1 then (if decide (room ≤ (es.length : Int)) then (es, ⟨103, enZ, []⟩) else (insL es (plc es c.nm) (newE c), ⟨0, newE c, []⟩)) else (es, ⟨102, enZ, []⟩))) := by
    show actR es c room = _
    unfold actR
    rw [hq]
    rfl
  have HSE : Hid (es.set (plc es c.nm) (eAt es (plc es c.nm)) = es) := set_same _ _
  clear he hq
  obtain ⟨p, hp⟩ : ∃ p, p = plc es c.nm := ⟨_, rfl⟩
  rw [← hp] at hpl HPC HA HSE
  clear hp
  generalize eAt es p = x at HSE
  have HF : Hid (Fr No w w []) := Fr.start _ _
  go_enter Try.func43, Try.ntmps43
  go_upto_region 0 with fail
  refine WL.start ?_
  refine wp_runW (.pointer (some ⟨w.heap.size, 0, none⟩)) (w.alloc (.cells (Cm.cells c) 29)) (exec_box 29 _ rfl (Cm.cells c) (by kernel_rfl)) (by kernel_rfl) ?_
  try simp only [pA, pB, p1, p2, p3]
  have HF : Hid (Fr No w (w.alloc (.cells (Cm.cells c) 29)) [(w.heap.size, 29, Cm.cells c)]) := HF.out.alloc _ _
  generalize w.alloc (.cells (Cm.cells c) 29) = wk2 at HF ⊢
  generalize w.heap.size = gk1 at HF ⊢
  refine wp_runW (.pointer (some ⟨wk2.heap.size, 0, none⟩)) (wk2.alloc (.cells (Av.cells avZ) 56)) (exec_alloc 56 rfl (Av.cells avZ) zero56) (by kernel_rfl) ?_
  try simp only [pA, pB, p1, p2, p3]
  have HF : Hid (Fr No w (wk2.alloc (.cells (Av.cells avZ) 56)) [(gk1, 29, Cm.cells c), (wk2.heap.size, 56, Av.cells avZ)]) := HF.out.alloc _ _
  generalize wk2.alloc (.cells (Av.cells avZ) 56) = wk4 at HF ⊢
  generalize wk2.heap.size = gk3 at HF ⊢
  refine tK (.slice none 0 0) ?_
  try simp only [pA, pB, p1, p2, p3]
  refine WL.nil ?_
  try simp only [pA, pB, p1, p2, p3]
  go_upto_region 1 with fail
  refine WL.start ?_
  refine tK (.pointer (some ⟨gk1, 0, none⟩)) ?_
  refine tW (.int .i64 c.k) (exec_load 3 _ rfl ⟨gk1, 0, none⟩ (by kernel_rfl) (.int .i64 c.k) (ld3 ((HF.out.box 0 _ _ _ rfl).cell 0))) ?_
  try simp only [pA, pB, p1, p2, p3]
  cases q1 : (c.k == 4)
  ·skip
   refine tW (.bool false) (exec_bin .eql 3 _ _ _ rfl (.int .i64 c.k) (.int .i64 4) (.bool false) (by kernel_rfl) (by kernel_rfl) (by kernel_rfl) (by rw [b_eql, q1]; try rfl)) ?_
   try simp only [pA, pB, p1, p2, p3]
   refine WL.nil ?_
   try simp only [pA, pB, p1, p2, p3]
   go_upto_region 3 with fail
   refine WL.start ?_
   refine tK (.slice a n cp) ?_
   refine tK (.pointer (some ⟨gk1, 3, none⟩)) ?_
   refine tW (.string c.nm) (exec_load 9 _ rfl ⟨gk1, 3, none⟩ (by kernel_rfl) (.string c.nm) (ld9 ((HF.out.box 0 _ _ _ rfl).cell 3))) ?_
   try simp only [pA, pB, p1, p2, p3]
   refine wp_callW 47 #[.slice a n cp, .string c.nm] (by kernel_rfl) _ (HPC.out _ HF.out.kept) (by kernel_rfl) ?_
   rintro e wk5 ⟨rfl, hk⟩
   have HF : Hid (Fr No w (wk5) [(gk1, 29, Cm.cells c), (gk3, 56, Av.cells avZ)]) := HF.out.no hk
   clear hk
   refine ⟨.tuple #[.int .i64 ((p : Nat) : Int), .bool false], rfl, ?_⟩
   try simp only [pA, pB, p1, p2, p3]
   refine tK (.tuple #[.int .i64 ((p : Nat) : Int), .bool false]) ?_
   refine tK (.int .i64 ((p : Nat) : Int)) ?_
   refine tK (.bool false) ?_
   refine tK (.int .i64 ((p : Nat) : Int)) ?_
   refine tK (.bool false) ?_
   try simp only [pA, pB, p1, p2, p3]
   refine WL.nil ?_
   try simp only [pA, pB, p1, p2, p3]
   go_upto_region 4 with fail
   refine WL.start ?_
   refine tK (.pointer (some ⟨gk1, 0, none⟩)) ?_
   refine tW (.int .i64 c.k) (exec_load 3 _ rfl ⟨gk1, 0, none⟩ (by kernel_rfl) (.int .i64 c.k) (ld3 ((HF.out.box 0 _ _ _ rfl).cell 0))) ?_
   try simp only [pA, pB, p1, p2, p3]
   cases q2 : (c.k == 1)
   ·skip
    refine tW (.bool false) (exec_bin .eql 3 _ _ _ rfl (.int .i64 c.k) (.int .i64 1) (.bool false) (by kernel_rfl) (by kernel_rfl) (by kernel_rfl) (by rw [b_eql, q2]; try rfl)) ?_
    try simp only [pA, pB, p1, p2, p3]
    refine WL.nil ?_
    try simp only [pA, pB, p1, p2, p3]
    go_upto_region 11 with fail
    refine WL.start ?_
    refine tK (.bool false) ?_
    refine tK (.bool true) ?_
    try simp only [pA, pB, p1, p2, p3]
    refine WL.nil ?_
    try simp only [pA, pB, p1, p2, p3]
    go_upto_region 12 with fail
    refine WL.start ?_
    refine tW (.agg (Av.cells ⟨102, enZ, ⟨none, 0, 0⟩⟩)) (exec_build 56 _ rfl (Av.cells ⟨102, enZ, ⟨none, 0, 0⟩⟩) (by kernel_rfl)) ?_
    refine tK (.slice a n cp) ?_
    try simp only [pA, pB, p1, p2, p3]
    refine wp_storeW 56 _ _ rfl ⟨gk3, 0, none⟩ (.agg (Av.cells ⟨102, enZ, ⟨none, 0, 0⟩⟩)) (by kernel_rfl) (by kernel_rfl) (wk5.setRow gk3 (Av.cells ⟨102, enZ, ⟨none, 0, 0⟩⟩)) (st56 (HF.out.box 1 _ _ _ rfl) rfl) (by kernel_rfl) ?_
    try simp only [pA, pB, p1, p2, p3]
    have HF : Hid (Fr No w (wk5.setRow gk3 (Av.cells ⟨102, enZ, ⟨none, 0, 0⟩⟩)) [(gk1, 29, Cm.cells c), (gk3, 56, Av.cells ⟨102, enZ, ⟨none, 0, 0⟩⟩)]) := HF.out.set 1 rfl _
    generalize wk5.setRow gk3 (Av.cells ⟨102, enZ, ⟨none, 0, 0⟩⟩) = wk6 at HF ⊢
    refine tK (.slice a n cp) ?_
    try simp only [pA, pB, p1, p2, p3]
    refine WL.nil ?_
    try simp only [pA, pB, p1, p2, p3]
    have hA := HA.out
    simp only [q1, q2, Bool.false_eq_true, if_true, if_false, ↓reduceIte] at hA
    go_wp2
    rw [HC.out]
    refine bodyPost_ret (results_row_tmp (by rfl) _ _ gk3 (Av.cells ⟨102, enZ, ⟨none, 0, 0⟩⟩) (by rfl) (ld56 (HF.out.box 1 _ _ _ rfl))) rfl ?_
    rw [hA]
    exact ⟨⟨none, 0, 0⟩, ⟨a, n, cp⟩, rfl, OwE.nil _ _, HE.out.no HF.out.kept, .inl ⟨rfl, rfl⟩, hnc, HF.out.kept⟩
   ·skip
    refine tW (.bool true) (exec_bin .eql 3 _ _ _ rfl (.int .i64 c.k) (.int .i64 1) (.bool true) (by kernel_rfl) (by kernel_rfl) (by kernel_rfl) (by rw [b_eql, q2]; try rfl)) ?_
    try simp only [pA, pB, p1, p2, p3]
    refine WL.nil ?_
    try simp only [pA, pB, p1, p2, p3]
    go_upto_region 5 with fail
    refine WL.start ?_
    refine tK (.bool false) ?_
    try simp only [pA, pB, p1, p2, p3]
    refine WL.nil ?_
    try simp only [pA, pB, p1, p2, p3]
    go_upto_region 7 with fail
    refine WL.start ?_
    refine tK (.slice a n cp) ?_
    refine tK (.int .i64 ((n : Nat) : Int)) ?_
    refine tK (.int .i64 room) ?_
    try simp only [pA, pB, p1, p2, p3]
    cases q3 : (decide (room ≤ ((n : Nat) : Int)))
    ·skip
     refine tW (.bool false) (exec_bin .geq 3 _ _ _ rfl (.int .i64 ((n : Nat) : Int)) (.int .i64 room) (.bool false) (by kernel_rfl) (by kernel_rfl) (by kernel_rfl) (by rw [b_geq, q3]; try rfl)) ?_
     try simp only [pA, pB, p1, p2, p3]
     refine WL.nil ?_
     try simp only [pA, pB, p1, p2, p3]
     go_upto_region 9 with fail
     refine WL.start ?_
     refine tK (.pointer (some ⟨gk1, 3, none⟩)) ?_
     refine tW (.string c.nm) (exec_load 9 _ rfl ⟨gk1, 3, none⟩ (by kernel_rfl) (.string c.nm) (ld9 ((HF.out.box 0 _ _ _ rfl).cell 3))) ?_
     refine tK (.pointer (some ⟨gk1, 1, none⟩)) ?_
     refine tW (.int .i64 c.cl) (exec_load 3 _ rfl ⟨gk1, 1, none⟩ (by kernel_rfl) (.int .i64 c.cl) (ld3 ((HF.out.box 0 _ _ _ rfl).cell 1))) ?_
     refine tK (.pointer (some ⟨gk1, 2, none⟩)) ?_
     refine tW (.int .i64 c.op) (exec_load 3 _ rfl ⟨gk1, 2, none⟩ (by kernel_rfl) (.int .i64 c.op) (ld3 ((HF.out.box 0 _ _ _ rfl).cell 2))) ?_
     refine tW (.agg (#[.int .i64 c.cl, .int .i64 c.op])) (exec_build 27 _ rfl (#[.int .i64 c.cl, .int .i64 c.op]) (by kernel_rfl)) ?_
     refine tW (.agg (En.cells ⟨c.nm, c.cl, c.op, 0⟩)) (exec_build 54 _ rfl (En.cells ⟨c.nm, c.cl, c.op, 0⟩) (by kernel_rfl)) ?_
     try simp only [pA, pB, p1, p2, p3]
     refine wp_runW (.pointer (some ⟨wk5.heap.size, 0, none⟩)) (wk5.alloc (.cells (En.cells enZ) 54)) (exec_alloc 54 rfl (En.cells enZ) zero54) (by kernel_rfl) ?_
     try simp only [pA, pB, p1, p2, p3]
     have HF : Hid (Fr No w (wk5.alloc (.cells (En.cells enZ) 54)) [(gk1, 29, Cm.cells c), (gk3, 56, Av.cells avZ), (wk5.heap.size, 54, En.cells enZ)]) := HF.out.alloc _ _
     generalize wk5.alloc (.cells (En.cells enZ) 54) = wk8 at HF ⊢
     generalize wk5.heap.size = gk7 at HF ⊢
     refine wp_storeW 54 _ _ rfl ⟨gk7, 0, none⟩ (.agg (En.cells ⟨c.nm, c.cl, c.op, 0⟩)) (by kernel_rfl) (by kernel_rfl) (wk8.setRow gk7 (En.cells ⟨c.nm, c.cl, c.op, 0⟩)) (st54 (HF.out.box 2 _ _ _ rfl) rfl) (by kernel_rfl) ?_
     try simp only [pA, pB, p1, p2, p3]
     have HF : Hid (Fr No w (wk8.setRow gk7 (En.cells ⟨c.nm, c.cl, c.op, 0⟩)) [(gk1, 29, Cm.cells c), (gk3, 56, Av.cells avZ), (gk7, 54, En.cells ⟨c.nm, c.cl, c.op, 0⟩)]) := HF.out.set 2 rfl _
     generalize wk8.setRow gk7 (En.cells ⟨c.nm, c.cl, c.op, 0⟩) = wk9 at HF ⊢
     refine WL.nil ?_
     try simp only [pA, pB, p1, p2, p3]
     go_upto_region 10 with fail
     refine wp_region_held_drew (S := fun w' => Box w' gk7 54 (En.cells ⟨c.nm, c.cl, c.op, 0⟩)) rfl (HF.out.box 2 _ _ _ rfl) (fun hH => ?_)
     have HF : Hid (Fr No w (wk9.drew) [(gk1, 29, Cm.cells c), (gk3, 56, Av.cells avZ), (gk7, 54, En.cells ⟨c.nm, c.cl, c.op, 0⟩)]) := HF.out.drew
     generalize wk9.drew = wk10 at HF hH ⊢
     refine aT (i := 0) (oi := { dst := some 50, op := Op.load 54 (Operand.tmp 10), type := 54, pos := "ref.go:149", after := #[], guard := none }) (v := .agg (En.cells ⟨c.nm, c.cl, c.op, 0⟩)) (fun w' hw => exec_load 54 _ rfl ⟨gk7, 0, none⟩ (by kernel_rfl) (.agg (En.cells ⟨c.nm, c.cl, c.op, 0⟩)) (ld54 hw)) hH ?_
     refine aT (i := 1) (oi := { dst := some 51, op := Op.build 56 #[(1, Operand.tmp 50)], type := 56, pos := "ref.go:149", after := #[{ on := 0, ground := Ground.data }], guard := none }) (v := .agg (Av.cells ⟨0, ⟨c.nm, c.cl, c.op, 0⟩, ⟨none, 0, 0⟩⟩)) (fun w' hw => exec_build 56 _ rfl (Av.cells ⟨0, ⟨c.nm, c.cl, c.op, 0⟩, ⟨none, 0, 0⟩⟩) (by kernel_rfl)) hH ?_
     refine aT (i := 2) (oi := { dst := some 52, op := Op.move (Operand.tmp 0), type := 22, pos := "ref.go:149", after := #[], guard := none }) (v := .slice a n cp) (fun _ _ => by kernel_rfl) hH ?_
     refine aT (i := 3) (oi := { dst := some 53, op := Op.move (Operand.tmp 8), type := 3, pos := "ref.go:149", after := #[], guard := none }) (v := .int .i64 ((p : Nat) : Int)) (fun _ _ => by kernel_rfl) hH ?_
     refine aT (i := 4) (oi := { dst := some 54, op := Op.load 54 (Operand.tmp 10), type := 54, pos := "ref.go:149", after := #[], guard := none }) (v := .agg (En.cells ⟨c.nm, c.cl, c.op, 0⟩)) (fun w' hw => exec_load 54 _ rfl ⟨gk7, 0, none⟩ (by kernel_rfl) (.agg (En.cells ⟨c.nm, c.cl, c.op, 0⟩)) (ld54 hw)) hH ?_
     try simp only [pA, pB, p1, p2, p3]
     refine any_step (i := 5) (o := { dst := some 55, op := Op.buildSlice 22 1 #[(0, Operand.tmp 54)], type := 22, pos := "ref.go:149", after := #[{ on := 4, ground := Ground.data }], guard := none }) rfl (by kernel_rfl) (by kernel_rfl) (exec_slice2 22 54 _ rfl (En.cells ⟨c.nm, c.cl, c.op, 0⟩) (.agg (En.cells ⟨c.nm, c.cl, c.op, 0⟩)) (by kernel_rfl) (slice1_en ⟨c.nm, c.cl, c.op, 0⟩ _)) ((hH.alloc _)) (fun hH => ?_)
     try simp only [pA, pB, p1, p2, p3]
     have HF : Hid (Fr No w (wk10.alloc (.cells (En.cells ⟨c.nm, c.cl, c.op, 0⟩) 54)) [(gk1, 29, Cm.cells c), (gk3, 56, Av.cells avZ), (gk7, 54, En.cells ⟨c.nm, c.cl, c.op, 0⟩), (wk10.heap.size, 54, En.cells ⟨c.nm, c.cl, c.op, 0⟩)]) := HF.out.alloc _ _
     generalize wk10.alloc (.cells (En.cells ⟨c.nm, c.cl, c.op, 0⟩) 54) = wk12 at HF hH ⊢
     generalize wk10.heap.size = gk11 at HF ⊢
     refine any_call (i := 6) (o := { dst := some 56, op := Op.call { callee := Callee.value (Operand.func 56), args := #[Operand.tmp 52, Operand.tmp 53, Operand.const (Value.int IntKind.i64 0), Operand.tmp 55], argTypes := #[22, 3, 3, 22] }, type := 22, pos := "ref.go:149", after := #[{ on := 2, ground := Ground.data }, { on := 3, ground := Ground.data }, { on := 5, ground := Ground.data }], guard := none }) rfl (by kernel_rfl) (by kernel_rfl) 56 #[.slice a n cp, .int .i64 ((p : Nat) : Int), .int .i64 0, .slice (some ⟨gk11, 0, none⟩) 1 1] (by kernel_rfl) _ (without_any a n cp p 0 (some ⟨gk11, 0, none⟩) 1 1 es [⟨c.nm, c.cl, c.op, 0⟩] _ (HE.out.no HF.out.kept) (rd_one (HF.out.box 3 _ _ _ rfl)) (by omega) hnc (mul40 (by omega))) ?_
     rintro e wk13 ⟨⟨ra, rn, rc⟩, rfl, hO, hk⟩
     have HR : Hid (OwE wk13 w.heap.size ⟨ra, rn, rc⟩ (es.take p ++ [⟨c.nm, c.cl, c.op, 0⟩] ++ es.drop (p + 0))) := hO.lower HF.out.kept.size
     have hH2 : Box wk13 gk7 54 (En.cells ⟨c.nm, c.cl, c.op, 0⟩) := (hH.kept hk (fun e => e))
     have HF : Hid (Fr No w (wk13) [(gk1, 29, Cm.cells c), (gk3, 56, Av.cells avZ), (gk7, 54, En.cells ⟨c.nm, c.cl, c.op, 0⟩), (gk11, 54, En.cells ⟨c.nm, c.cl, c.op, 0⟩)]) := HF.out.no hk
     clear hO hk
     refine ⟨.slice ra rn rc, rfl, hH2, fun hH => ?_⟩
     clear hH2
     try simp only [pA, pB, p1, p2, p3]
     refine any_store (i := 7) (o := { dst := none, op := Op.store 56 (Operand.tmp 6) (Operand.tmp 51), type := 0, pos := "ref.go:149", after := #[{ on := 1, ground := Ground.data }, { on := 6, ground := Ground.chain }, { on := 0, ground := Ground.phase }, { on := 1, ground := Ground.phase }, { on := 2, ground := Ground.textOnly Departure.lateStores }, { on := 3, ground := Ground.textOnly Departure.lateStores }, { on := 4, ground := Ground.textOnly Departure.lateStores }, { on := 5, ground := Ground.textOnly Departure.lateStores }, { on := 6, ground := Ground.textOnly Departure.lateStoresUnsure }], guard := none }) (w' := wk13.setRow gk3 (Av.cells ⟨0, ⟨c.nm, c.cl, c.op, 0⟩, ⟨none, 0, 0⟩⟩)) rfl (by kernel_rfl) (by kernel_rfl) 56 _ _ rfl ⟨gk3, 0, none⟩ (.agg (Av.cells ⟨0, ⟨c.nm, c.cl, c.op, 0⟩, ⟨none, 0, 0⟩⟩)) (by kernel_rfl) (by kernel_rfl) (st56 (HF.out.box 1 _ _ _ rfl) rfl) ((hH.rowNe (HF.out.ne 2 1 rfl rfl (by simp)) _)) (fun hH => ?_)
     try simp only [pA, pB, p1, p2, p3]
     have HR : Hid (OwE (wk13.setRow gk3 (Av.cells ⟨0, ⟨c.nm, c.cl, c.op, 0⟩, ⟨none, 0, 0⟩⟩)) w.heap.size ⟨ra, rn, rc⟩ (es.take p ++ [⟨c.nm, c.cl, c.op, 0⟩] ++ es.drop (p + 0))) := HR.out.kept (Kept.setRow _ _ _) (fun k h e => (HR.out.own.notBox (HF.out.box 1 _ _ _ rfl) (by decide)) ((show k = gk3 from e) ▸ h))
     have HF : Hid (Fr No w (wk13.setRow gk3 (Av.cells ⟨0, ⟨c.nm, c.cl, c.op, 0⟩, ⟨none, 0, 0⟩⟩)) [(gk1, 29, Cm.cells c), (gk3, 56, Av.cells ⟨0, ⟨c.nm, c.cl, c.op, 0⟩, ⟨none, 0, 0⟩⟩), (gk7, 54, En.cells ⟨c.nm, c.cl, c.op, 0⟩), (gk11, 54, En.cells ⟨c.nm, c.cl, c.op, 0⟩)]) := HF.out.set 1 rfl _
     generalize wk13.setRow gk3 (Av.cells ⟨0, ⟨c.nm, c.cl, c.op, 0⟩, ⟨none, 0, 0⟩⟩) = wk14 at HF HR hH ⊢
     refine aT (i := 8) (oi := { dst := some 7, op := Op.assign (Operand.tmp 56), type := 22, pos := "ref.go:149", after := #[{ on := 6, ground := Ground.data }, { on := 7, ground := Ground.chain }, { on := 0, ground := Ground.phase }, { on := 1, ground := Ground.phase }, { on := 2, ground := Ground.phase }, { on := 3, ground := Ground.phase }, { on := 4, ground := Ground.phase }, { on := 5, ground := Ground.phase }, { on := 6, ground := Ground.phase }, { on := 7, ground := Ground.phase }], guard := none }) (v := .slice ra rn rc) (fun _ _ => by kernel_rfl) hH ?_
     try simp only [pA, pB, p1, p2, p3]
     refine wpAnyH_done (by kernel_rfl) ?_ _
     try simp only [pA, pB, p1, p2, p3]
     clear hH
     have hA := HA.out
     simp only [q1, q2, Bool.false_eq_true, if_true, if_false, ↓reduceIte] at hA
     rw [HN.out, q3] at hA
     simp only [Bool.false_eq_true, if_true, if_false, ↓reduceIte] at hA
     rw [← out_ins] at hA
     go_wp2
     rw [HC.out]
     refine bodyPost_ret (results_row_tmp (by rfl) _ _ gk3 (Av.cells ⟨0, ⟨c.nm, c.cl, c.op, 0⟩, ⟨none, 0, 0⟩⟩) (by rfl) (ld56 (HF.out.box 1 _ _ _ rfl))) rfl ?_
     rw [hA]
     exact ⟨⟨none, 0, 0⟩, ⟨ra, rn, rc⟩, rfl, OwE.nil _ _, HR.out.rd, .inr HR.out, HR.out.le, HF.out.kept⟩
    ·skip
     refine tW (.bool true) (exec_bin .geq 3 _ _ _ rfl (.int .i64 ((n : Nat) : Int)) (.int .i64 room) (.bool true) (by kernel_rfl) (by kernel_rfl) (by kernel_rfl) (by rw [b_geq, q3]; try rfl)) ?_
     try simp only [pA, pB, p1, p2, p3]
     refine WL.nil ?_
     try simp only [pA, pB, p1, p2, p3]
     go_upto_region 8 with fail
     refine WL.start ?_
     refine tW (.agg (Av.cells ⟨103, enZ, ⟨none, 0, 0⟩⟩)) (exec_build 56 _ rfl (Av.cells ⟨103, enZ, ⟨none, 0, 0⟩⟩) (by kernel_rfl)) ?_
     refine tK (.slice a n cp) ?_
     try simp only [pA, pB, p1, p2, p3]
     refine wp_storeW 56 _ _ rfl ⟨gk3, 0, none⟩ (.agg (Av.cells ⟨103, enZ, ⟨none, 0, 0⟩⟩)) (by kernel_rfl) (by kernel_rfl) (wk5.setRow gk3 (Av.cells ⟨103, enZ, ⟨none, 0, 0⟩⟩)) (st56 (HF.out.box 1 _ _ _ rfl) rfl) (by kernel_rfl) ?_
     try simp only [pA, pB, p1, p2, p3]
     have HF : Hid (Fr No w (wk5.setRow gk3 (Av.cells ⟨103, enZ, ⟨none, 0, 0⟩⟩)) [(gk1, 29, Cm.cells c), (gk3, 56, Av.cells ⟨103, enZ, ⟨none, 0, 0⟩⟩)]) := HF.out.set 1 rfl _
     generalize wk5.setRow gk3 (Av.cells ⟨103, enZ, ⟨none, 0, 0⟩⟩) = wk15 at HF ⊢
     refine tK (.slice a n cp) ?_
     try simp only [pA, pB, p1, p2, p3]
     refine WL.nil ?_
     try simp only [pA, pB, p1, p2, p3]
     have hA := HA.out
     simp only [q1, q2, Bool.false_eq_true, if_true, if_false, ↓reduceIte] at hA
     rw [HN.out, q3] at hA
     simp only [Bool.false_eq_true, if_true, if_false, ↓reduceIte] at hA
     go_wp2
     rw [HC.out]
     refine bodyPost_ret (results_row_tmp (by rfl) _ _ gk3 (Av.cells ⟨103, enZ, ⟨none, 0, 0⟩⟩) (by rfl) (ld56 (HF.out.box 1 _ _ _ rfl))) rfl ?_
     rw [hA]
     exact ⟨⟨none, 0, 0⟩, ⟨a, n, cp⟩, rfl, OwE.nil _ _, HE.out.no HF.out.kept, .inl ⟨rfl, rfl⟩, hnc, HF.out.kept⟩
  ·skip
   refine tW (.bool true) (exec_bin .eql 3 _ _ _ rfl (.int .i64 c.k) (.int .i64 4) (.bool true) (by kernel_rfl) (by kernel_rfl) (by kernel_rfl) (by rw [b_eql, q1]; try rfl)) ?_
   try simp only [pA, pB, p1, p2, p3]
   refine WL.nil ?_
   try simp only [pA, pB, p1, p2, p3]
   go_upto_region 2 with fail
   refine WL.start ?_
   refine tK (.slice a n cp) ?_
   try simp only [pA, pB, p1, p2, p3]
   refine wp_callW 56 #[.slice a n cp, .int .i64 0, .int .i64 0, .slice none 0 0] (by kernel_rfl) _ (without_any a n cp 0 0 none 0 0 es [] _ (HE.out.no HF.out.kept) (rd_nil _) (by omega) hnc (mul40 (by omega))) (by kernel_rfl) ?_
   rintro e wk16 ⟨⟨ra, rn, rc⟩, rfl, hO, hk⟩
   have HR : Hid (OwE wk16 w.heap.size ⟨ra, rn, rc⟩ (es.take 0 ++ [] ++ es.drop (0 + 0))) := hO.lower HF.out.kept.size
   have HF : Hid (Fr No w (wk16) [(gk1, 29, Cm.cells c), (gk3, 56, Av.cells avZ)]) := HF.out.no hk
   clear hO hk
   refine ⟨.slice ra rn rc, rfl, ?_⟩
   try simp only [pA, pB, p1, p2, p3]
   refine tW (.agg (Av.cells ⟨0, enZ, ⟨ra, rn, rc⟩⟩)) (exec_build 56 _ rfl (Av.cells ⟨0, enZ, ⟨ra, rn, rc⟩⟩) (by kernel_rfl)) ?_
   refine tK (.slice a n cp) ?_
   try simp only [pA, pB, p1, p2, p3]
   refine wp_storeW 56 _ _ rfl ⟨gk3, 0, none⟩ (.agg (Av.cells ⟨0, enZ, ⟨ra, rn, rc⟩⟩)) (by kernel_rfl) (by kernel_rfl) (wk16.setRow gk3 (Av.cells ⟨0, enZ, ⟨ra, rn, rc⟩⟩)) (st56 (HF.out.box 1 _ _ _ rfl) rfl) (by kernel_rfl) ?_
   try simp only [pA, pB, p1, p2, p3]
   have HR : Hid (OwE (wk16.setRow gk3 (Av.cells ⟨0, enZ, ⟨ra, rn, rc⟩⟩)) w.heap.size ⟨ra, rn, rc⟩ (es.take 0 ++ [] ++ es.drop (0 + 0))) := HR.out.kept (Kept.setRow _ _ _) (fun k h e => (HR.out.own.notBox (HF.out.box 1 _ _ _ rfl) (by decide)) ((show k = gk3 from e) ▸ h))
   have HF : Hid (Fr No w (wk16.setRow gk3 (Av.cells ⟨0, enZ, ⟨ra, rn, rc⟩⟩)) [(gk1, 29, Cm.cells c), (gk3, 56, Av.cells ⟨0, enZ, ⟨ra, rn, rc⟩⟩)]) := HF.out.set 1 rfl _
   generalize wk16.setRow gk3 (Av.cells ⟨0, enZ, ⟨ra, rn, rc⟩⟩) = wk17 at HF HR ⊢
   refine tK (.slice a n cp) ?_
   try simp only [pA, pB, p1, p2, p3]
   refine WL.nil ?_
   try simp only [pA, pB, p1, p2, p3]
   have hA := HA.out
   simp only [q1, Bool.false_eq_true, if_true, if_false, ↓reduceIte] at hA
   have hL : OwE wk17 w.heap.size ⟨ra, rn, rc⟩ es := by have := HR.out; rw [out_all] at this; exact this
   go_wp2
   rw [HC.out]
   refine bodyPost_ret (results_row_tmp (by rfl) _ _ gk3 (Av.cells ⟨0, enZ, ⟨ra, rn, rc⟩⟩) (by rfl) (ld56 (HF.out.box 1 _ _ _ rfl))) rfl ?_
   rw [hA]
   exact ⟨⟨ra, rn, rc⟩, ⟨a, n, cp⟩, rfl, hL, HE.out.no HF.out.kept, .inl ⟨rfl, rfl⟩, hnc, HF.out.kept⟩
set_option maxRecDepth 100000 in
set_option maxHeartbeats 4000000 in
theorem answered_yes (a : Option Addr) (n cp : Nat) (es : List En) (c : Cm) (room : Int) (w : World) (he : RdE w ⟨a, n, cp⟩ es) (hnc : n ≤ cp) (hb : n + 1 ≤ 3518437208883) (hk1 : 1 ≤ c.k) (hk7 : c.k ≤ 7) (hq : pIs es c.nm = true) : Calls Try.prog 43 #[.slice a n cp, .agg (Cm.cells c), .int .i64 room] w (fun e w' => ∃ sx s : Sl, e = .returned (.tuple #[.agg (Av.cells ⟨(actR es c room).2.er, (actR es c room).2.e, sx⟩), s.v]) ∧ OwE w' w.heap.size sx (actR es c room).2.l ∧ RdE w' s (actR es c room).1 ∧ ((s = ⟨a, n, cp⟩ ∧ (actR es c room).1 = es) ∨ OwE w' w.heap.size s (actR es c room).1) ∧ s.l ≤ s.k ∧ Kept No w w') := by
  obtain ⟨C, hC⟩ : ∃ C : Ending → World → Prop, C = (fun e w' => ∃ sx s : Sl, e = .returned (.tuple #[.agg (Av.cells ⟨(actR es c room).2.er, (actR es c room).2.e, sx⟩), s.v]) ∧ OwE w' w.heap.size sx (actR es c room).2.l ∧ RdE w' s (actR es c room).1 ∧ ((s = ⟨a, n, cp⟩ ∧ (actR es c room).1 = es) ∨ OwE w' w.heap.size s (actR es c room).1) ∧ s.l ≤ s.k ∧ Kept No w w') := ⟨_, rfl⟩
  have HC : Hid (C = (fun e w' => ∃ sx s : Sl, e = .returned (.tuple #[.agg (Av.cells ⟨(actR es c room).2.er, (actR es c room).2.e, sx⟩), s.v]) ∧ OwE w' w.heap.size sx (actR es c room).2.l ∧ RdE w' s (actR es c room).1 ∧ ((s = ⟨a, n, cp⟩ ∧ (actR es c room).1 = es) ∨ OwE w' w.heap.size s (actR es c room).1) ∧ s.l ≤ s.k ∧ Kept No w w')) := hC
  rw [← hC]
  clear hC
  have HN : Hid (es.length = n) := he.len
  have HE : Hid (RdE w ⟨a, n, cp⟩ es) := he
  have hpl : plc es c.nm ≤ n := by have := plc_le es c.nm; rw [HN.out] at this; exact this
  have HPC : Hid (∀ W, Kept No w W → Calls Try.prog 47 #[.slice a n cp, .string c.nm] W (fun e w' => e = .returned (.tuple #[.int .i64 ((plc es c.nm : Nat) : Int), .bool true]) ∧ Kept No W w')) := fun W h => by
    have := place_any a n cp es c.nm W (he.no h) (by omega)
    rw [hq] at this
    exact this
  have hpn : plc es c.nm < n := by have := pIs_lt hq; rw [HN.out] at this; exact this
  obtain ⟨xb, xo, e0, hcx⟩ := Es.at he.row (i := plc es c.nm) (by rw [HN.out]; exact hpn)
  have e0 : a = some ⟨xb, xo, none⟩ := e0
  subst e0
  have HCX : Hid (∀ (j : Nat) v, (eAt es (plc es c.nm)).cs[j]? = some v → w.cell? ⟨xb, xo + plc es c.nm * 4 + j, none⟩ = some v) := hcx
  have HS : Hid (∀ y, (plc es c.nm < es.length → es.take (plc es c.nm) ++ [y] ++ es.drop (plc es c.nm + 1) = es.set (plc es c.nm) y)) := fun y h => out_set es _ y h
  clear hcx
  have HA : Hid (actR es c room = (if c.k == 4 then (es, (⟨0, enZ, es⟩ : An)) else if c.k == 1 then (es, ⟨101, eAt es (plc es c.nm), []⟩) else (if c.k == 3 then (es, ⟨0, eAt es (plc es c.nm), []⟩) else if c.k == 2 then (delL es (plc es c.nm), ⟨0, eAt es (plc es c.nm), []⟩) else (es.set (plc es c.nm) (chgS (eAt es (plc es c.nm)) c).1, (chgS (eAt es (plc es c.nm)) c).2)))) := by
    show actR es c room = _
    unfold actR
    rw [hq]
    rfl
  have HSE : Hid (es.set (plc es c.nm) (eAt es (plc es c.nm)) = es) := set_same _ _
  clear he hq
  obtain ⟨p, hp⟩ : ∃ p, p = plc es c.nm := ⟨_, rfl⟩
  rw [← hp] at hpl HPC hpn HCX HS HA HSE
  clear hp
  generalize eAt es p = x at HCX HA HSE
  have HF : Hid (Fr No w w []) := Fr.start _ _
  go_enter Try.func43, Try.ntmps43
  go_upto_region 0 with fail
  refine WL.start ?_
  refine wp_runW (.pointer (some ⟨w.heap.size, 0, none⟩)) (w.alloc (.cells (Cm.cells c) 29)) (exec_box 29 _ rfl (Cm.cells c) (by kernel_rfl)) (by kernel_rfl) ?_
  try simp only [pA, pB, p1, p2, p3]
  have HF : Hid (Fr No w (w.alloc (.cells (Cm.cells c) 29)) [(w.heap.size, 29, Cm.cells c)]) := HF.out.alloc _ _
  generalize w.alloc (.cells (Cm.cells c) 29) = wk2 at HF ⊢
  generalize w.heap.size = gk1 at HF ⊢
  refine wp_runW (.pointer (some ⟨wk2.heap.size, 0, none⟩)) (wk2.alloc (.cells (Av.cells avZ) 56)) (exec_alloc 56 rfl (Av.cells avZ) zero56) (by kernel_rfl) ?_
  try simp only [pA, pB, p1, p2, p3]
  have HF : Hid (Fr No w (wk2.alloc (.cells (Av.cells avZ) 56)) [(gk1, 29, Cm.cells c), (wk2.heap.size, 56, Av.cells avZ)]) := HF.out.alloc _ _
  generalize wk2.alloc (.cells (Av.cells avZ) 56) = wk4 at HF ⊢
  generalize wk2.heap.size = gk3 at HF ⊢
  refine tK (.slice none 0 0) ?_
  try simp only [pA, pB, p1, p2, p3]
  refine WL.nil ?_
  try simp only [pA, pB, p1, p2, p3]
  go_upto_region 1 with fail
  refine WL.start ?_
  refine tK (.pointer (some ⟨gk1, 0, none⟩)) ?_
  refine tW (.int .i64 c.k) (exec_load 3 _ rfl ⟨gk1, 0, none⟩ (by kernel_rfl) (.int .i64 c.k) (ld3 ((HF.out.box 0 _ _ _ rfl).cell 0))) ?_
  try simp only [pA, pB, p1, p2, p3]
  cases q1 : (c.k == 4)
  ·skip
   refine tW (.bool false) (exec_bin .eql 3 _ _ _ rfl (.int .i64 c.k) (.int .i64 4) (.bool false) (by kernel_rfl) (by kernel_rfl) (by kernel_rfl) (by rw [b_eql, q1]; try rfl)) ?_
   try simp only [pA, pB, p1, p2, p3]
   refine WL.nil ?_
   try simp only [pA, pB, p1, p2, p3]
   go_upto_region 3 with fail
   refine WL.start ?_
   refine tK (.slice (some ⟨xb, xo, none⟩) n cp) ?_
   refine tK (.pointer (some ⟨gk1, 3, none⟩)) ?_
   refine tW (.string c.nm) (exec_load 9 _ rfl ⟨gk1, 3, none⟩ (by kernel_rfl) (.string c.nm) (ld9 ((HF.out.box 0 _ _ _ rfl).cell 3))) ?_
   try simp only [pA, pB, p1, p2, p3]
   refine wp_callW 47 #[.slice (some ⟨xb, xo, none⟩) n cp, .string c.nm] (by kernel_rfl) _ (HPC.out _ HF.out.kept) (by kernel_rfl) ?_
   rintro e wk5 ⟨rfl, hk⟩
   have HF : Hid (Fr No w (wk5) [(gk1, 29, Cm.cells c), (gk3, 56, Av.cells avZ)]) := HF.out.no hk
   clear hk
   refine ⟨.tuple #[.int .i64 ((p : Nat) : Int), .bool true], rfl, ?_⟩
   try simp only [pA, pB, p1, p2, p3]
   refine tK (.tuple #[.int .i64 ((p : Nat) : Int), .bool true]) ?_
   refine tK (.int .i64 ((p : Nat) : Int)) ?_
   refine tK (.bool true) ?_
   refine tK (.int .i64 ((p : Nat) : Int)) ?_
   refine tK (.bool true) ?_
   try simp only [pA, pB, p1, p2, p3]
   refine WL.nil ?_
   try simp only [pA, pB, p1, p2, p3]
   go_upto_region 4 with fail
   refine WL.start ?_
   refine tK (.pointer (some ⟨gk1, 0, none⟩)) ?_
   refine tW (.int .i64 c.k) (exec_load 3 _ rfl ⟨gk1, 0, none⟩ (by kernel_rfl) (.int .i64 c.k) (ld3 ((HF.out.box 0 _ _ _ rfl).cell 0))) ?_
   try simp only [pA, pB, p1, p2, p3]
   cases q2 : (c.k == 1)
   ·skip
    refine tW (.bool false) (exec_bin .eql 3 _ _ _ rfl (.int .i64 c.k) (.int .i64 1) (.bool false) (by kernel_rfl) (by kernel_rfl) (by kernel_rfl) (by rw [b_eql, q2]; try rfl)) ?_
    try simp only [pA, pB, p1, p2, p3]
    refine WL.nil ?_
    try simp only [pA, pB, p1, p2, p3]
    go_upto_region 11 with fail
    refine WL.start ?_
    refine tK (.bool true) ?_
    refine tK (.bool false) ?_
    try simp only [pA, pB, p1, p2, p3]
    refine WL.nil ?_
    try simp only [pA, pB, p1, p2, p3]
    go_upto_region 13 with fail
    refine WL.start ?_
    refine tK (.slice (some ⟨xb, xo, none⟩) n cp) ?_
    refine tK (.int .i64 ((p : Nat) : Int)) ?_
    refine tW (.pointer (some ⟨xb, xo + p * 4, none⟩)) (exec_ixA 22 4 Try.und22e Try.size22e _ _ rfl xb xo n cp p (by kernel_rfl) (by kernel_rfl) hpn) ?_
    refine tW (.agg (En.cells x)) (exec_load 54 _ rfl ⟨xb, xo + p * 4, none⟩ (by kernel_rfl) (.agg (En.cells x)) (load_E (fun j v h => HF.out.kept.cell (HCX.out j v h) (fun e => e)))) ?_
    try simp only [pA, pB, p1, p2, p3]
    refine wp_runW (.pointer (some ⟨wk5.heap.size, 0, none⟩)) (wk5.alloc (.cells (En.cells enZ) 54)) (exec_alloc 54 rfl (En.cells enZ) zero54) (by kernel_rfl) ?_
    try simp only [pA, pB, p1, p2, p3]
    have HF : Hid (Fr No w (wk5.alloc (.cells (En.cells enZ) 54)) [(gk1, 29, Cm.cells c), (gk3, 56, Av.cells avZ), (wk5.heap.size, 54, En.cells enZ)]) := HF.out.alloc _ _
    generalize wk5.alloc (.cells (En.cells enZ) 54) = wk7 at HF ⊢
    generalize wk5.heap.size = gk6 at HF ⊢
    refine wp_storeW 54 _ _ rfl ⟨gk6, 0, none⟩ (.agg (En.cells x)) (by kernel_rfl) (by kernel_rfl) (wk7.setRow gk6 (En.cells x)) (st54 (HF.out.box 2 _ _ _ rfl) rfl) (by kernel_rfl) ?_
    try simp only [pA, pB, p1, p2, p3]
    have HF : Hid (Fr No w (wk7.setRow gk6 (En.cells x)) [(gk1, 29, Cm.cells c), (gk3, 56, Av.cells avZ), (gk6, 54, En.cells x)]) := HF.out.set 2 rfl _
    generalize wk7.setRow gk6 (En.cells x) = wk8 at HF ⊢
    refine WL.nil ?_
    try simp only [pA, pB, p1, p2, p3]
    go_upto_region 14 with fail
    refine WL.start ?_
    refine tK (.pointer (some ⟨gk1, 0, none⟩)) ?_
    refine tW (.int .i64 c.k) (exec_load 3 _ rfl ⟨gk1, 0, none⟩ (by kernel_rfl) (.int .i64 c.k) (ld3 ((HF.out.box 0 _ _ _ rfl).cell 0))) ?_
    try simp only [pA, pB, p1, p2, p3]
    refine WL.nil ?_
    try simp only [pA, pB, p1, p2, p3]
    go_upto_region 15 with fail
    refine WL.start ?_
    cases q3 : (c.k == 2)
    ·skip
     refine tW (.bool false) (exec_bin .eql 3 _ _ _ rfl (.int .i64 c.k) (.int .i64 2) (.bool false) (by kernel_rfl) (by kernel_rfl) (by kernel_rfl) (by rw [b_eql, q3]; try rfl)) ?_
     refine tK (.bool false) ?_
     try simp only [pA, pB, p1, p2, p3]
     refine WL.nil ?_
     try simp only [pA, pB, p1, p2, p3]
     go_upto_region 17 with fail
     refine WL.start ?_
     cases q4 : (c.k == 3)
     ·skip
      refine tW (.bool false) (exec_bin .eql 3 _ _ _ rfl (.int .i64 c.k) (.int .i64 3) (.bool false) (by kernel_rfl) (by kernel_rfl) (by kernel_rfl) (by rw [b_eql, q4]; try rfl)) ?_
      refine tK (.bool false) ?_
      try simp only [pA, pB, p1, p2, p3]
      refine WL.nil ?_
      try simp only [pA, pB, p1, p2, p3]
      go_upto_region 19 with fail
      refine WL.start ?_
      refine tK (.pointer (some ⟨gk6, 1, none⟩)) ?_
      refine tW (.agg (#[.int .i64 x.f0, .int .i64 x.f1])) (exec_load 27 _ rfl ⟨gk6, 1, none⟩ (by kernel_rfl) (.agg (#[.int .i64 x.f0, .int .i64 x.f1])) (ld27 (cs := En.cs x) (HF.out.box 2 _ _ _ rfl) rfl rfl)) ?_
      refine tK (.pointer (some ⟨gk1, 4, none⟩)) ?_
      refine tW (.agg (#[.int .i64 c.f0, .int .i64 c.f1])) (exec_load 27 _ rfl ⟨gk1, 4, none⟩ (by kernel_rfl) (.agg (#[.int .i64 c.f0, .int .i64 c.f1])) (ld27 (cs := Cm.cs c) (HF.out.box 0 _ _ _ rfl) rfl rfl)) ?_
      try simp only [pA, pB, p1, p2, p3]
      cases q5 : (eqF x.f0 x.f1 c.f0 c.f1)
      ·skip
       refine tW (.bool true) (exec_bin .neq 27 _ _ _ rfl (.agg (#[.int .i64 x.f0, .int .i64 x.f1])) (.agg (#[.int .i64 c.f0, .int .i64 c.f1])) (.bool true) (by kernel_rfl) (by kernel_rfl) (by kernel_rfl) (by rw [eqF_neq, q5]; try rfl)) ?_
       try simp only [pA, pB, p1, p2, p3]
       refine WL.nil ?_
       try simp only [pA, pB, p1, p2, p3]
       go_upto_region 20 with fail
       refine WL.start ?_
       refine tW (.agg (En.cells x)) (exec_load 54 _ rfl ⟨gk6, 0, none⟩ (by kernel_rfl) (.agg (En.cells x)) (ld54 (HF.out.box 2 _ _ _ rfl))) ?_
       refine tW (.agg (Av.cells ⟨104, x, ⟨none, 0, 0⟩⟩)) (exec_build 56 _ rfl (Av.cells ⟨104, x, ⟨none, 0, 0⟩⟩) (by kernel_rfl)) ?_
       refine tK (.slice (some ⟨xb, xo, none⟩) n cp) ?_
       try simp only [pA, pB, p1, p2, p3]
       refine wp_storeW 56 _ _ rfl ⟨gk3, 0, none⟩ (.agg (Av.cells ⟨104, x, ⟨none, 0, 0⟩⟩)) (by kernel_rfl) (by kernel_rfl) (wk8.setRow gk3 (Av.cells ⟨104, x, ⟨none, 0, 0⟩⟩)) (st56 (HF.out.box 1 _ _ _ rfl) rfl) (by kernel_rfl) ?_
       try simp only [pA, pB, p1, p2, p3]
       have HF : Hid (Fr No w (wk8.setRow gk3 (Av.cells ⟨104, x, ⟨none, 0, 0⟩⟩)) [(gk1, 29, Cm.cells c), (gk3, 56, Av.cells ⟨104, x, ⟨none, 0, 0⟩⟩), (gk6, 54, En.cells x)]) := HF.out.set 1 rfl _
       generalize wk8.setRow gk3 (Av.cells ⟨104, x, ⟨none, 0, 0⟩⟩) = wk9 at HF ⊢
       refine tK (.slice (some ⟨xb, xo, none⟩) n cp) ?_
       try simp only [pA, pB, p1, p2, p3]
       refine WL.nil ?_
       try simp only [pA, pB, p1, p2, p3]
       have hA := HA.out
       simp only [q1, q2, q3, q4, Bool.false_eq_true, if_true, if_false, ↓reduceIte] at hA
       unfold chgS at hA
       rw [q5] at hA
       simp only [Bool.false_eq_true, if_true, if_false, ↓reduceIte] at hA
       rw [HSE.out] at hA
       go_wp2
       rw [HC.out]
       refine bodyPost_ret (results_row_tmp (by rfl) _ _ gk3 (Av.cells ⟨104, x, ⟨none, 0, 0⟩⟩) (by rfl) (ld56 (HF.out.box 1 _ _ _ rfl))) rfl ?_
       rw [hA]
       exact ⟨⟨none, 0, 0⟩, ⟨(some ⟨xb, xo, none⟩), n, cp⟩, rfl, OwE.nil _ _, HE.out.no HF.out.kept, .inl ⟨rfl, rfl⟩, hnc, HF.out.kept⟩
      ·skip
       refine tW (.bool false) (exec_bin .neq 27 _ _ _ rfl (.agg (#[.int .i64 x.f0, .int .i64 x.f1])) (.agg (#[.int .i64 c.f0, .int .i64 c.f1])) (.bool false) (by kernel_rfl) (by kernel_rfl) (by kernel_rfl) (by rw [eqF_neq, q5]; try rfl)) ?_
       try simp only [pA, pB, p1, p2, p3]
       refine WL.nil ?_
       try simp only [pA, pB, p1, p2, p3]
       go_upto_region 21 with fail
       refine WL.start ?_
       refine tK (.pointer (some ⟨gk1, 0, none⟩)) ?_
       refine tW (.int .i64 c.k) (exec_load 3 _ rfl ⟨gk1, 0, none⟩ (by kernel_rfl) (.int .i64 c.k) (ld3 ((HF.out.box 0 _ _ _ rfl).cell 0))) ?_
       try simp only [pA, pB, p1, p2, p3]
       cases q6 : (c.k == 7)
       ·skip
        refine tW (.bool false) (exec_bin .eql 3 _ _ _ rfl (.int .i64 c.k) (.int .i64 7) (.bool false) (by kernel_rfl) (by kernel_rfl) (by kernel_rfl) (by rw [b_eql, q6]; try rfl)) ?_
        refine tK (.bool false) ?_
        try simp only [pA, pB, p1, p2, p3]
        refine WL.nil ?_
        try simp only [pA, pB, p1, p2, p3]
        go_upto_region 24 with fail
        refine WL.start ?_
        refine tK (.pointer (some ⟨gk1, 0, none⟩)) ?_
        refine tW (.int .i64 c.k) (exec_load 3 _ rfl ⟨gk1, 0, none⟩ (by kernel_rfl) (.int .i64 c.k) (ld3 ((HF.out.box 0 _ _ _ rfl).cell 0))) ?_
        try simp only [pA, pB, p1, p2, p3]
        cases q7 : (c.k == 5)
        ·skip
         refine tW (.bool false) (exec_bin .eql 3 _ _ _ rfl (.int .i64 c.k) (.int .i64 5) (.bool false) (by kernel_rfl) (by kernel_rfl) (by kernel_rfl) (by rw [b_eql, q7]; try rfl)) ?_
         refine tK (.bool false) ?_
         refine tK (.pointer (some ⟨gk1, 8, none⟩)) ?_
         refine tW (.int .i64 c.sz) (exec_load 3 _ rfl ⟨gk1, 8, none⟩ (by kernel_rfl) (.int .i64 c.sz) (ld3 ((HF.out.box 0 _ _ _ rfl).cell 8))) ?_
         refine tK (.pointer (some ⟨gk6, 3, none⟩)) ?_
         refine tW (.int .i64 x.sz) (exec_load 3 _ rfl ⟨gk6, 3, none⟩ (by kernel_rfl) (.int .i64 x.sz) (ld3 ((HF.out.box 2 _ _ _ rfl).cell 3))) ?_
         try simp only [pA, pB, p1, p2, p3]
         cases q8 : (decide (x.sz < c.sz))
         ·skip
          refine tW (.bool false) (exec_bin .gtr 3 _ _ _ rfl (.int .i64 c.sz) (.int .i64 x.sz) (.bool false) (by kernel_rfl) (by kernel_rfl) (by kernel_rfl) (by rw [b_gtr, q8]; try rfl)) ?_
          refine tK (.bool false) ?_
          refine tK (.bool false) ?_
          try simp only [pA, pB, p1, p2, p3]
          refine WL.nil ?_
          try simp only [pA, pB, p1, p2, p3]
          go_upto_region 26 with fail
          refine wp_region_held_drew (S := fun w' => Box w' gk6 54 (En.cells x)) rfl (HF.out.box 2 _ _ _ rfl) (fun hH => ?_)
          have HF : Hid (Fr No w (wk8.drew) [(gk1, 29, Cm.cells c), (gk3, 56, Av.cells avZ), (gk6, 54, En.cells x)]) := HF.out.drew
          generalize wk8.drew = wk10 at HF hH ⊢
          refine aT (i := 0) (oi := oqZe0) (v := .agg (En.cells x)) (fun w' hw => exec_load 54 _ rfl ⟨gk6, 0, none⟩ (by kernel_rfl) (.agg (En.cells x)) (ld54 hw)) hH ?_
          refine aT (i := 1) (oi := oqZe1) (v := .agg (Av.cells ⟨0, x, ⟨none, 0, 0⟩⟩)) (fun w' hw => exec_build 56 _ rfl (Av.cells ⟨0, x, ⟨none, 0, 0⟩⟩) (by kernel_rfl)) hH ?_
          refine aT (i := 2) (oi := oqZe2) (v := .slice (some ⟨xb, xo, none⟩) n cp) (fun _ _ => by kernel_rfl) hH ?_
          refine aT (i := 3) (oi := oqZe3) (v := .int .i64 ((p : Nat) : Int)) (fun _ _ => by kernel_rfl) hH ?_
          refine aT (i := 4) (oi := oqZe4) (v := .agg (En.cells x)) (fun w' hw => exec_load 54 _ rfl ⟨gk6, 0, none⟩ (by kernel_rfl) (.agg (En.cells x)) (ld54 hw)) hH ?_
          try simp only [pA, pB, p1, p2, p3]
          refine any_step (i := 5) (o := oqZe5) rfl (by kernel_rfl) (by kernel_rfl) (exec_slice2 22 54 _ rfl (En.cells x) (.agg (En.cells x)) (by kernel_rfl) (slice1_en x _)) ((hH.alloc _)) (fun hH => ?_)
          try simp only [pA, pB, p1, p2, p3]
          have HF : Hid (Fr No w (wk10.alloc (.cells (En.cells x) 54)) [(gk1, 29, Cm.cells c), (gk3, 56, Av.cells avZ), (gk6, 54, En.cells x), (wk10.heap.size, 54, En.cells x)]) := HF.out.alloc _ _
          generalize wk10.alloc (.cells (En.cells x) 54) = wk12 at HF hH ⊢
          generalize wk10.heap.size = gk11 at HF ⊢
          refine any_call (i := 6) (o := oqZe6) rfl (by kernel_rfl) (by kernel_rfl) 56 #[.slice (some ⟨xb, xo, none⟩) n cp, .int .i64 ((p : Nat) : Int), .int .i64 1, .slice (some ⟨gk11, 0, none⟩) 1 1] (by kernel_rfl) _ (without_any (some ⟨xb, xo, none⟩) n cp p 1 (some ⟨gk11, 0, none⟩) 1 1 es [x] _ (HE.out.no HF.out.kept) (rd_one (HF.out.box 3 _ _ _ rfl)) (by omega) hnc (mul40 (by omega))) ?_
          rintro e wk13 ⟨⟨ra, rn, rc⟩, rfl, hO, hk⟩
          have HR : Hid (OwE wk13 w.heap.size ⟨ra, rn, rc⟩ (es.take p ++ [x] ++ es.drop (p + 1))) := hO.lower HF.out.kept.size
          have hH2 : Box wk13 gk6 54 (En.cells x) := (hH.kept hk (fun e => e))
          have HF : Hid (Fr No w (wk13) [(gk1, 29, Cm.cells c), (gk3, 56, Av.cells avZ), (gk6, 54, En.cells x), (gk11, 54, En.cells x)]) := HF.out.no hk
          clear hO hk
          refine ⟨.slice ra rn rc, rfl, hH2, fun hH => ?_⟩
          clear hH2
          try simp only [pA, pB, p1, p2, p3]
          refine any_store (i := 7) (o := oqZe7) (w' := wk13.setRow gk3 (Av.cells ⟨0, x, ⟨none, 0, 0⟩⟩)) rfl (by kernel_rfl) (by kernel_rfl) 56 _ _ rfl ⟨gk3, 0, none⟩ (.agg (Av.cells ⟨0, x, ⟨none, 0, 0⟩⟩)) (by kernel_rfl) (by kernel_rfl) (st56 (HF.out.box 1 _ _ _ rfl) rfl) ((hH.rowNe (HF.out.ne 2 1 rfl rfl (by simp)) _)) (fun hH => ?_)
          try simp only [pA, pB, p1, p2, p3]
          have HR : Hid (OwE (wk13.setRow gk3 (Av.cells ⟨0, x, ⟨none, 0, 0⟩⟩)) w.heap.size ⟨ra, rn, rc⟩ (es.take p ++ [x] ++ es.drop (p + 1))) := HR.out.kept (Kept.setRow _ _ _) (fun k h e => (HR.out.own.notBox (HF.out.box 1 _ _ _ rfl) (by decide)) ((show k = gk3 from e) ▸ h))
          have HF : Hid (Fr No w (wk13.setRow gk3 (Av.cells ⟨0, x, ⟨none, 0, 0⟩⟩)) [(gk1, 29, Cm.cells c), (gk3, 56, Av.cells ⟨0, x, ⟨none, 0, 0⟩⟩), (gk6, 54, En.cells x), (gk11, 54, En.cells x)]) := HF.out.set 1 rfl _
          generalize wk13.setRow gk3 (Av.cells ⟨0, x, ⟨none, 0, 0⟩⟩) = wk14 at HF HR hH ⊢
          refine aT (i := 8) (oi := oqZe8) (v := .slice ra rn rc) (fun _ _ => by kernel_rfl) hH ?_
          try simp only [pA, pB, p1, p2, p3]
          refine wpAnyH_done (by kernel_rfl) ?_ _
          try simp only [pA, pB, p1, p2, p3]
          clear hH
          have hA := HA.out
          simp only [q1, q2, q3, q4, Bool.false_eq_true, if_true, if_false, ↓reduceIte] at hA
          unfold chgS at hA
          rw [q5] at hA
          simp only [Bool.false_eq_true, if_true, if_false, ↓reduceIte] at hA
          have hc : chgE x c = x := by
            have k4 : c.k ≠ 4 := beq_eq_false_iff_ne.1 q1
            have k1 : c.k ≠ 1 := beq_eq_false_iff_ne.1 q2
            have k3 : c.k ≠ 3 := beq_eq_false_iff_ne.1 q4
            have k2 : c.k ≠ 2 := beq_eq_false_iff_ne.1 q3
            have k7 : c.k ≠ 7 := beq_eq_false_iff_ne.1 q6
            have k5 : c.k ≠ 5 := beq_eq_false_iff_ne.1 q7
            have k6 : c.k = 6 := by omega
            unfold chgE
            rw [k6]
            show ({ x with sz := max x.sz c.sz } : En) = _
            rw [show max x.sz c.sz = x.sz by have := of_decide_eq_false q8; omega]
          rw [hc, ← HS.out _ (by rw [HN.out]; exact hpn)] at hA
          go_wp2
          rw [HC.out]
          refine bodyPost_ret (results_row_tmp (by rfl) _ _ gk3 (Av.cells ⟨0, x, ⟨none, 0, 0⟩⟩) (by rfl) (ld56 (HF.out.box 1 _ _ _ rfl))) rfl ?_
          rw [hA]
          exact ⟨⟨none, 0, 0⟩, ⟨ra, rn, rc⟩, rfl, OwE.nil _ _, HR.out.rd, .inr HR.out, HR.out.le, HF.out.kept⟩
         ·skip
          refine tW (.bool true) (exec_bin .gtr 3 _ _ _ rfl (.int .i64 c.sz) (.int .i64 x.sz) (.bool true) (by kernel_rfl) (by kernel_rfl) (by kernel_rfl) (by rw [b_gtr, q8]; try rfl)) ?_
          refine tK (.bool true) ?_
          refine tK (.bool true) ?_
          try simp only [pA, pB, p1, p2, p3]
          refine WL.nil ?_
          try simp only [pA, pB, p1, p2, p3]
          go_upto_region 25 with fail
          refine WL.start ?_
          refine tK (.pointer (some ⟨gk1, 8, none⟩)) ?_
          refine tW (.int .i64 c.sz) (exec_load 3 _ rfl ⟨gk1, 8, none⟩ (by kernel_rfl) (.int .i64 c.sz) (ld3 ((HF.out.box 0 _ _ _ rfl).cell 8))) ?_
          refine tK (.pointer (some ⟨gk6, 3, none⟩)) ?_
          try simp only [pA, pB, p1, p2, p3]
          refine wp_storeW 3 _ _ rfl ⟨gk6, 3, none⟩ (.int .i64 c.sz) (by kernel_rfl) (by kernel_rfl) (wk8.setRow gk6 (En.cells ⟨x.nm, x.f0, x.f1, c.sz⟩)) (run_store_at (cur := En.cs x) (vs := [.int .i64 c.sz]) (HF.out.box 2 _ _ _ rfl) rfl Try.size3 (by exact Nat.le_of_ble_eq_true rfl) (by simp [Value.oneCell'])) (by kernel_rfl) ?_
          try simp only [pA, pB, p1, p2, p3]
          have HF : Hid (Fr No w (wk8.setRow gk6 (En.cells ⟨x.nm, x.f0, x.f1, c.sz⟩)) [(gk1, 29, Cm.cells c), (gk3, 56, Av.cells avZ), (gk6, 54, En.cells ⟨x.nm, x.f0, x.f1, c.sz⟩)]) := HF.out.set 2 rfl _
          generalize wk8.setRow gk6 (En.cells ⟨x.nm, x.f0, x.f1, c.sz⟩) = wk15 at HF ⊢
          refine WL.nil ?_
          try simp only [pA, pB, p1, p2, p3]
          go_upto_region 26 with fail
          refine wp_region_held_drew (S := fun w' => Box w' gk6 54 (En.cells ⟨x.nm, x.f0, x.f1, c.sz⟩)) rfl (HF.out.box 2 _ _ _ rfl) (fun hH => ?_)
          have HF : Hid (Fr No w (wk15.drew) [(gk1, 29, Cm.cells c), (gk3, 56, Av.cells avZ), (gk6, 54, En.cells ⟨x.nm, x.f0, x.f1, c.sz⟩)]) := HF.out.drew
          generalize wk15.drew = wk16 at HF hH ⊢
          refine aT (i := 0) (oi := oqZe0) (v := .agg (En.cells ⟨x.nm, x.f0, x.f1, c.sz⟩)) (fun w' hw => exec_load 54 _ rfl ⟨gk6, 0, none⟩ (by kernel_rfl) (.agg (En.cells ⟨x.nm, x.f0, x.f1, c.sz⟩)) (ld54 hw)) hH ?_
          refine aT (i := 1) (oi := oqZe1) (v := .agg (Av.cells ⟨0, ⟨x.nm, x.f0, x.f1, c.sz⟩, ⟨none, 0, 0⟩⟩)) (fun w' hw => exec_build 56 _ rfl (Av.cells ⟨0, ⟨x.nm, x.f0, x.f1, c.sz⟩, ⟨none, 0, 0⟩⟩) (by kernel_rfl)) hH ?_
          refine aT (i := 2) (oi := oqZe2) (v := .slice (some ⟨xb, xo, none⟩) n cp) (fun _ _ => by kernel_rfl) hH ?_
          refine aT (i := 3) (oi := oqZe3) (v := .int .i64 ((p : Nat) : Int)) (fun _ _ => by kernel_rfl) hH ?_
          refine aT (i := 4) (oi := oqZe4) (v := .agg (En.cells ⟨x.nm, x.f0, x.f1, c.sz⟩)) (fun w' hw => exec_load 54 _ rfl ⟨gk6, 0, none⟩ (by kernel_rfl) (.agg (En.cells ⟨x.nm, x.f0, x.f1, c.sz⟩)) (ld54 hw)) hH ?_
          try simp only [pA, pB, p1, p2, p3]
          refine any_step (i := 5) (o := oqZe5) rfl (by kernel_rfl) (by kernel_rfl) (exec_slice2 22 54 _ rfl (En.cells ⟨x.nm, x.f0, x.f1, c.sz⟩) (.agg (En.cells ⟨x.nm, x.f0, x.f1, c.sz⟩)) (by kernel_rfl) (slice1_en ⟨x.nm, x.f0, x.f1, c.sz⟩ _)) ((hH.alloc _)) (fun hH => ?_)
          try simp only [pA, pB, p1, p2, p3]
          have HF : Hid (Fr No w (wk16.alloc (.cells (En.cells ⟨x.nm, x.f0, x.f1, c.sz⟩) 54)) [(gk1, 29, Cm.cells c), (gk3, 56, Av.cells avZ), (gk6, 54, En.cells ⟨x.nm, x.f0, x.f1, c.sz⟩), (wk16.heap.size, 54, En.cells ⟨x.nm, x.f0, x.f1, c.sz⟩)]) := HF.out.alloc _ _
          generalize wk16.alloc (.cells (En.cells ⟨x.nm, x.f0, x.f1, c.sz⟩) 54) = wk18 at HF hH ⊢
          generalize wk16.heap.size = gk17 at HF ⊢
          refine any_call (i := 6) (o := oqZe6) rfl (by kernel_rfl) (by kernel_rfl) 56 #[.slice (some ⟨xb, xo, none⟩) n cp, .int .i64 ((p : Nat) : Int), .int .i64 1, .slice (some ⟨gk17, 0, none⟩) 1 1] (by kernel_rfl) _ (without_any (some ⟨xb, xo, none⟩) n cp p 1 (some ⟨gk17, 0, none⟩) 1 1 es [⟨x.nm, x.f0, x.f1, c.sz⟩] _ (HE.out.no HF.out.kept) (rd_one (HF.out.box 3 _ _ _ rfl)) (by omega) hnc (mul40 (by omega))) ?_
          rintro e wk19 ⟨⟨ra, rn, rc⟩, rfl, hO, hk⟩
          have HR : Hid (OwE wk19 w.heap.size ⟨ra, rn, rc⟩ (es.take p ++ [⟨x.nm, x.f0, x.f1, c.sz⟩] ++ es.drop (p + 1))) := hO.lower HF.out.kept.size
          have hH2 : Box wk19 gk6 54 (En.cells ⟨x.nm, x.f0, x.f1, c.sz⟩) := (hH.kept hk (fun e => e))
          have HF : Hid (Fr No w (wk19) [(gk1, 29, Cm.cells c), (gk3, 56, Av.cells avZ), (gk6, 54, En.cells ⟨x.nm, x.f0, x.f1, c.sz⟩), (gk17, 54, En.cells ⟨x.nm, x.f0, x.f1, c.sz⟩)]) := HF.out.no hk
          clear hO hk
          refine ⟨.slice ra rn rc, rfl, hH2, fun hH => ?_⟩
          clear hH2
          try simp only [pA, pB, p1, p2, p3]
          refine any_store (i := 7) (o := oqZe7) (w' := wk19.setRow gk3 (Av.cells ⟨0, ⟨x.nm, x.f0, x.f1, c.sz⟩, ⟨none, 0, 0⟩⟩)) rfl (by kernel_rfl) (by kernel_rfl) 56 _ _ rfl ⟨gk3, 0, none⟩ (.agg (Av.cells ⟨0, ⟨x.nm, x.f0, x.f1, c.sz⟩, ⟨none, 0, 0⟩⟩)) (by kernel_rfl) (by kernel_rfl) (st56 (HF.out.box 1 _ _ _ rfl) rfl) ((hH.rowNe (HF.out.ne 2 1 rfl rfl (by simp)) _)) (fun hH => ?_)
          try simp only [pA, pB, p1, p2, p3]
          have HR : Hid (OwE (wk19.setRow gk3 (Av.cells ⟨0, ⟨x.nm, x.f0, x.f1, c.sz⟩, ⟨none, 0, 0⟩⟩)) w.heap.size ⟨ra, rn, rc⟩ (es.take p ++ [⟨x.nm, x.f0, x.f1, c.sz⟩] ++ es.drop (p + 1))) := HR.out.kept (Kept.setRow _ _ _) (fun k h e => (HR.out.own.notBox (HF.out.box 1 _ _ _ rfl) (by decide)) ((show k = gk3 from e) ▸ h))
          have HF : Hid (Fr No w (wk19.setRow gk3 (Av.cells ⟨0, ⟨x.nm, x.f0, x.f1, c.sz⟩, ⟨none, 0, 0⟩⟩)) [(gk1, 29, Cm.cells c), (gk3, 56, Av.cells ⟨0, ⟨x.nm, x.f0, x.f1, c.sz⟩, ⟨none, 0, 0⟩⟩), (gk6, 54, En.cells ⟨x.nm, x.f0, x.f1, c.sz⟩), (gk17, 54, En.cells ⟨x.nm, x.f0, x.f1, c.sz⟩)]) := HF.out.set 1 rfl _
          generalize wk19.setRow gk3 (Av.cells ⟨0, ⟨x.nm, x.f0, x.f1, c.sz⟩, ⟨none, 0, 0⟩⟩) = wk20 at HF HR hH ⊢
          refine aT (i := 8) (oi := oqZe8) (v := .slice ra rn rc) (fun _ _ => by kernel_rfl) hH ?_
          try simp only [pA, pB, p1, p2, p3]
          refine wpAnyH_done (by kernel_rfl) ?_ _
          try simp only [pA, pB, p1, p2, p3]
          clear hH
          have hA := HA.out
          simp only [q1, q2, q3, q4, Bool.false_eq_true, if_true, if_false, ↓reduceIte] at hA
          unfold chgS at hA
          rw [q5] at hA
          simp only [Bool.false_eq_true, if_true, if_false, ↓reduceIte] at hA
          have hc : chgE x c = ⟨x.nm, x.f0, x.f1, c.sz⟩ := by
            have k4 : c.k ≠ 4 := beq_eq_false_iff_ne.1 q1
            have k1 : c.k ≠ 1 := beq_eq_false_iff_ne.1 q2
            have k3 : c.k ≠ 3 := beq_eq_false_iff_ne.1 q4
            have k2 : c.k ≠ 2 := beq_eq_false_iff_ne.1 q3
            have k7 : c.k ≠ 7 := beq_eq_false_iff_ne.1 q6
            have k5 : c.k ≠ 5 := beq_eq_false_iff_ne.1 q7
            have k6 : c.k = 6 := by omega
            unfold chgE
            rw [k6]
            show ({ x with sz := max x.sz c.sz } : En) = _
            rw [show max x.sz c.sz = c.sz by have := of_decide_eq_true q8; omega]
          rw [hc, ← HS.out _ (by rw [HN.out]; exact hpn)] at hA
          go_wp2
          rw [HC.out]
          refine bodyPost_ret (results_row_tmp (by rfl) _ _ gk3 (Av.cells ⟨0, ⟨x.nm, x.f0, x.f1, c.sz⟩, ⟨none, 0, 0⟩⟩) (by rfl) (ld56 (HF.out.box 1 _ _ _ rfl))) rfl ?_
          rw [hA]
          exact ⟨⟨none, 0, 0⟩, ⟨ra, rn, rc⟩, rfl, OwE.nil _ _, HR.out.rd, .inr HR.out, HR.out.le, HF.out.kept⟩
        ·skip
         refine tW (.bool true) (exec_bin .eql 3 _ _ _ rfl (.int .i64 c.k) (.int .i64 5) (.bool true) (by kernel_rfl) (by kernel_rfl) (by kernel_rfl) (by rw [b_eql, q7]; try rfl)) ?_
         refine tK (.bool true) ?_
         refine sK ?_
         refine sK ?_
         refine sK ?_
         refine sK ?_
         refine sK ?_
         refine tK (.bool true) ?_
         refine tK (.bool true) ?_
         try simp only [pA, pB, p1, p2, p3]
         refine WL.nil ?_
         try simp only [pA, pB, p1, p2, p3]
         go_upto_region 25 with fail
         refine WL.start ?_
         refine tK (.pointer (some ⟨gk1, 8, none⟩)) ?_
         refine tW (.int .i64 c.sz) (exec_load 3 _ rfl ⟨gk1, 8, none⟩ (by kernel_rfl) (.int .i64 c.sz) (ld3 ((HF.out.box 0 _ _ _ rfl).cell 8))) ?_
         refine tK (.pointer (some ⟨gk6, 3, none⟩)) ?_
         try simp only [pA, pB, p1, p2, p3]
         refine wp_storeW 3 _ _ rfl ⟨gk6, 3, none⟩ (.int .i64 c.sz) (by kernel_rfl) (by kernel_rfl) (wk8.setRow gk6 (En.cells ⟨x.nm, x.f0, x.f1, c.sz⟩)) (run_store_at (cur := En.cs x) (vs := [.int .i64 c.sz]) (HF.out.box 2 _ _ _ rfl) rfl Try.size3 (by exact Nat.le_of_ble_eq_true rfl) (by simp [Value.oneCell'])) (by kernel_rfl) ?_
         try simp only [pA, pB, p1, p2, p3]
         have HF : Hid (Fr No w (wk8.setRow gk6 (En.cells ⟨x.nm, x.f0, x.f1, c.sz⟩)) [(gk1, 29, Cm.cells c), (gk3, 56, Av.cells avZ), (gk6, 54, En.cells ⟨x.nm, x.f0, x.f1, c.sz⟩)]) := HF.out.set 2 rfl _
         generalize wk8.setRow gk6 (En.cells ⟨x.nm, x.f0, x.f1, c.sz⟩) = wk21 at HF ⊢
         refine WL.nil ?_
         try simp only [pA, pB, p1, p2, p3]
         go_upto_region 26 with fail
         refine wp_region_held_drew (S := fun w' => Box w' gk6 54 (En.cells ⟨x.nm, x.f0, x.f1, c.sz⟩)) rfl (HF.out.box 2 _ _ _ rfl) (fun hH => ?_)
         have HF : Hid (Fr No w (wk21.drew) [(gk1, 29, Cm.cells c), (gk3, 56, Av.cells avZ), (gk6, 54, En.cells ⟨x.nm, x.f0, x.f1, c.sz⟩)]) := HF.out.drew
         generalize wk21.drew = wk22 at HF hH ⊢
         refine aT (i := 0) (oi := oqZe0) (v := .agg (En.cells ⟨x.nm, x.f0, x.f1, c.sz⟩)) (fun w' hw => exec_load 54 _ rfl ⟨gk6, 0, none⟩ (by kernel_rfl) (.agg (En.cells ⟨x.nm, x.f0, x.f1, c.sz⟩)) (ld54 hw)) hH ?_
         refine aT (i := 1) (oi := oqZe1) (v := .agg (Av.cells ⟨0, ⟨x.nm, x.f0, x.f1, c.sz⟩, ⟨none, 0, 0⟩⟩)) (fun w' hw => exec_build 56 _ rfl (Av.cells ⟨0, ⟨x.nm, x.f0, x.f1, c.sz⟩, ⟨none, 0, 0⟩⟩) (by kernel_rfl)) hH ?_
         refine aT (i := 2) (oi := oqZe2) (v := .slice (some ⟨xb, xo, none⟩) n cp) (fun _ _ => by kernel_rfl) hH ?_
         refine aT (i := 3) (oi := oqZe3) (v := .int .i64 ((p : Nat) : Int)) (fun _ _ => by kernel_rfl) hH ?_
         refine aT (i := 4) (oi := oqZe4) (v := .agg (En.cells ⟨x.nm, x.f0, x.f1, c.sz⟩)) (fun w' hw => exec_load 54 _ rfl ⟨gk6, 0, none⟩ (by kernel_rfl) (.agg (En.cells ⟨x.nm, x.f0, x.f1, c.sz⟩)) (ld54 hw)) hH ?_
         try simp only [pA, pB, p1, p2, p3]
         refine any_step (i := 5) (o := oqZe5) rfl (by kernel_rfl) (by kernel_rfl) (exec_slice2 22 54 _ rfl (En.cells ⟨x.nm, x.f0, x.f1, c.sz⟩) (.agg (En.cells ⟨x.nm, x.f0, x.f1, c.sz⟩)) (by kernel_rfl) (slice1_en ⟨x.nm, x.f0, x.f1, c.sz⟩ _)) ((hH.alloc _)) (fun hH => ?_)
         try simp only [pA, pB, p1, p2, p3]
         have HF : Hid (Fr No w (wk22.alloc (.cells (En.cells ⟨x.nm, x.f0, x.f1, c.sz⟩) 54)) [(gk1, 29, Cm.cells c), (gk3, 56, Av.cells avZ), (gk6, 54, En.cells ⟨x.nm, x.f0, x.f1, c.sz⟩), (wk22.heap.size, 54, En.cells ⟨x.nm, x.f0, x.f1, c.sz⟩)]) := HF.out.alloc _ _
         generalize wk22.alloc (.cells (En.cells ⟨x.nm, x.f0, x.f1, c.sz⟩) 54) = wk24 at HF hH ⊢
         generalize wk22.heap.size = gk23 at HF ⊢
         refine any_call (i := 6) (o := oqZe6) rfl (by kernel_rfl) (by kernel_rfl) 56 #[.slice (some ⟨xb, xo, none⟩) n cp, .int .i64 ((p : Nat) : Int), .int .i64 1, .slice (some ⟨gk23, 0, none⟩) 1 1] (by kernel_rfl) _ (without_any (some ⟨xb, xo, none⟩) n cp p 1 (some ⟨gk23, 0, none⟩) 1 1 es [⟨x.nm, x.f0, x.f1, c.sz⟩] _ (HE.out.no HF.out.kept) (rd_one (HF.out.box 3 _ _ _ rfl)) (by omega) hnc (mul40 (by omega))) ?_
         rintro e wk25 ⟨⟨ra, rn, rc⟩, rfl, hO, hk⟩
         have HR : Hid (OwE wk25 w.heap.size ⟨ra, rn, rc⟩ (es.take p ++ [⟨x.nm, x.f0, x.f1, c.sz⟩] ++ es.drop (p + 1))) := hO.lower HF.out.kept.size
         have hH2 : Box wk25 gk6 54 (En.cells ⟨x.nm, x.f0, x.f1, c.sz⟩) := (hH.kept hk (fun e => e))
         have HF : Hid (Fr No w (wk25) [(gk1, 29, Cm.cells c), (gk3, 56, Av.cells avZ), (gk6, 54, En.cells ⟨x.nm, x.f0, x.f1, c.sz⟩), (gk23, 54, En.cells ⟨x.nm, x.f0, x.f1, c.sz⟩)]) := HF.out.no hk
         clear hO hk
         refine ⟨.slice ra rn rc, rfl, hH2, fun hH => ?_⟩
         clear hH2
         try simp only [pA, pB, p1, p2, p3]
         refine any_store (i := 7) (o := oqZe7) (w' := wk25.setRow gk3 (Av.cells ⟨0, ⟨x.nm, x.f0, x.f1, c.sz⟩, ⟨none, 0, 0⟩⟩)) rfl (by kernel_rfl) (by kernel_rfl) 56 _ _ rfl ⟨gk3, 0, none⟩ (.agg (Av.cells ⟨0, ⟨x.nm, x.f0, x.f1, c.sz⟩, ⟨none, 0, 0⟩⟩)) (by kernel_rfl) (by kernel_rfl) (st56 (HF.out.box 1 _ _ _ rfl) rfl) ((hH.rowNe (HF.out.ne 2 1 rfl rfl (by simp)) _)) (fun hH => ?_)
         try simp only [pA, pB, p1, p2, p3]
         have HR : Hid (OwE (wk25.setRow gk3 (Av.cells ⟨0, ⟨x.nm, x.f0, x.f1, c.sz⟩, ⟨none, 0, 0⟩⟩)) w.heap.size ⟨ra, rn, rc⟩ (es.take p ++ [⟨x.nm, x.f0, x.f1, c.sz⟩] ++ es.drop (p + 1))) := HR.out.kept (Kept.setRow _ _ _) (fun k h e => (HR.out.own.notBox (HF.out.box 1 _ _ _ rfl) (by decide)) ((show k = gk3 from e) ▸ h))
         have HF : Hid (Fr No w (wk25.setRow gk3 (Av.cells ⟨0, ⟨x.nm, x.f0, x.f1, c.sz⟩, ⟨none, 0, 0⟩⟩)) [(gk1, 29, Cm.cells c), (gk3, 56, Av.cells ⟨0, ⟨x.nm, x.f0, x.f1, c.sz⟩, ⟨none, 0, 0⟩⟩), (gk6, 54, En.cells ⟨x.nm, x.f0, x.f1, c.sz⟩), (gk23, 54, En.cells ⟨x.nm, x.f0, x.f1, c.sz⟩)]) := HF.out.set 1 rfl _
         generalize wk25.setRow gk3 (Av.cells ⟨0, ⟨x.nm, x.f0, x.f1, c.sz⟩, ⟨none, 0, 0⟩⟩) = wk26 at HF HR hH ⊢
         refine aT (i := 8) (oi := oqZe8) (v := .slice ra rn rc) (fun _ _ => by kernel_rfl) hH ?_
         try simp only [pA, pB, p1, p2, p3]
         refine wpAnyH_done (by kernel_rfl) ?_ _
         try simp only [pA, pB, p1, p2, p3]
         clear hH
         have hA := HA.out
         simp only [q1, q2, q3, q4, Bool.false_eq_true, if_true, if_false, ↓reduceIte] at hA
         unfold chgS at hA
         rw [q5] at hA
         simp only [Bool.false_eq_true, if_true, if_false, ↓reduceIte] at hA
         have hc : chgE x c = ⟨x.nm, x.f0, x.f1, c.sz⟩ := by
           have k4 : c.k ≠ 4 := beq_eq_false_iff_ne.1 q1
           have k1 : c.k ≠ 1 := beq_eq_false_iff_ne.1 q2
           have k3 : c.k ≠ 3 := beq_eq_false_iff_ne.1 q4
           have k2 : c.k ≠ 2 := beq_eq_false_iff_ne.1 q3
           have k5 : c.k = 5 := beq_iff_eq.1 q7
           unfold chgE
           rw [k5]
           rfl
         rw [hc, ← HS.out _ (by rw [HN.out]; exact hpn)] at hA
         go_wp2
         rw [HC.out]
         refine bodyPost_ret (results_row_tmp (by rfl) _ _ gk3 (Av.cells ⟨0, ⟨x.nm, x.f0, x.f1, c.sz⟩, ⟨none, 0, 0⟩⟩) (by rfl) (ld56 (HF.out.box 1 _ _ _ rfl))) rfl ?_
         rw [hA]
         exact ⟨⟨none, 0, 0⟩, ⟨ra, rn, rc⟩, rfl, OwE.nil _ _, HR.out.rd, .inr HR.out, HR.out.le, HF.out.kept⟩
       ·skip
        refine tW (.bool true) (exec_bin .eql 3 _ _ _ rfl (.int .i64 c.k) (.int .i64 7) (.bool true) (by kernel_rfl) (by kernel_rfl) (by kernel_rfl) (by rw [b_eql, q6]; try rfl)) ?_
        refine tK (.bool true) ?_
        try simp only [pA, pB, p1, p2, p3]
        refine WL.nil ?_
        try simp only [pA, pB, p1, p2, p3]
        go_upto_region 22 with fail
        refine WL.start ?_
        refine tK (.pointer (some ⟨gk1, 6, none⟩)) ?_
        refine tW (.agg (#[.int .i64 c.g0, .int .i64 c.g1])) (exec_load 27 _ rfl ⟨gk1, 6, none⟩ (by kernel_rfl) (.agg (#[.int .i64 c.g0, .int .i64 c.g1])) (ld27 (cs := Cm.cs c) (HF.out.box 0 _ _ _ rfl) rfl rfl)) ?_
        refine tK (.pointer (some ⟨gk6, 1, none⟩)) ?_
        try simp only [pA, pB, p1, p2, p3]
        refine wp_storeW 27 _ _ rfl ⟨gk6, 1, none⟩ (.agg (#[.int .i64 c.g0, .int .i64 c.g1])) (by kernel_rfl) (by kernel_rfl) (wk8.setRow gk6 (En.cells ⟨x.nm, c.g0, c.g1, x.sz⟩)) (run_store_at (cur := En.cs x) (vs := [.int .i64 c.g0, .int .i64 c.g1]) (HF.out.box 2 _ _ _ rfl) rfl Try.size27 (by exact Nat.le_of_ble_eq_true rfl) (by simp [Value.oneCell'])) (by kernel_rfl) ?_
        try simp only [pA, pB, p1, p2, p3]
        have HF : Hid (Fr No w (wk8.setRow gk6 (En.cells ⟨x.nm, c.g0, c.g1, x.sz⟩)) [(gk1, 29, Cm.cells c), (gk3, 56, Av.cells avZ), (gk6, 54, En.cells ⟨x.nm, c.g0, c.g1, x.sz⟩)]) := HF.out.set 2 rfl _
        generalize wk8.setRow gk6 (En.cells ⟨x.nm, c.g0, c.g1, x.sz⟩) = wk27 at HF ⊢
        refine WL.nil ?_
        try simp only [pA, pB, p1, p2, p3]
        go_upto_region 23 with fail
        refine WL.start ?_
        refine tK (.pointer (some ⟨gk1, 8, none⟩)) ?_
        refine tW (.int .i64 c.sz) (exec_load 3 _ rfl ⟨gk1, 8, none⟩ (by kernel_rfl) (.int .i64 c.sz) (ld3 ((HF.out.box 0 _ _ _ rfl).cell 8))) ?_
        refine tK (.pointer (some ⟨gk6, 3, none⟩)) ?_
        try simp only [pA, pB, p1, p2, p3]
        refine wp_storeW 3 _ _ rfl ⟨gk6, 3, none⟩ (.int .i64 c.sz) (by kernel_rfl) (by kernel_rfl) (wk27.setRow gk6 (En.cells ⟨x.nm, c.g0, c.g1, c.sz⟩)) (run_store_at (cur := En.cs ⟨x.nm, c.g0, c.g1, x.sz⟩) (vs := [.int .i64 c.sz]) (HF.out.box 2 _ _ _ rfl) rfl Try.size3 (by exact Nat.le_of_ble_eq_true rfl) (by simp [Value.oneCell'])) (by kernel_rfl) ?_
        try simp only [pA, pB, p1, p2, p3]
        have HF : Hid (Fr No w (wk27.setRow gk6 (En.cells ⟨x.nm, c.g0, c.g1, c.sz⟩)) [(gk1, 29, Cm.cells c), (gk3, 56, Av.cells avZ), (gk6, 54, En.cells ⟨x.nm, c.g0, c.g1, c.sz⟩)]) := HF.out.set 2 rfl _
        generalize wk27.setRow gk6 (En.cells ⟨x.nm, c.g0, c.g1, c.sz⟩) = wk28 at HF ⊢
        refine WL.nil ?_
        try simp only [pA, pB, p1, p2, p3]
        go_upto_region 26 with fail
        refine wp_region_held_drew (S := fun w' => Box w' gk6 54 (En.cells ⟨x.nm, c.g0, c.g1, c.sz⟩)) rfl (HF.out.box 2 _ _ _ rfl) (fun hH => ?_)
        have HF : Hid (Fr No w (wk28.drew) [(gk1, 29, Cm.cells c), (gk3, 56, Av.cells avZ), (gk6, 54, En.cells ⟨x.nm, c.g0, c.g1, c.sz⟩)]) := HF.out.drew
        generalize wk28.drew = wk29 at HF hH ⊢
        refine aT (i := 0) (oi := oqZe0) (v := .agg (En.cells ⟨x.nm, c.g0, c.g1, c.sz⟩)) (fun w' hw => exec_load 54 _ rfl ⟨gk6, 0, none⟩ (by kernel_rfl) (.agg (En.cells ⟨x.nm, c.g0, c.g1, c.sz⟩)) (ld54 hw)) hH ?_
        refine aT (i := 1) (oi := oqZe1) (v := .agg (Av.cells ⟨0, ⟨x.nm, c.g0, c.g1, c.sz⟩, ⟨none, 0, 0⟩⟩)) (fun w' hw => exec_build 56 _ rfl (Av.cells ⟨0, ⟨x.nm, c.g0, c.g1, c.sz⟩, ⟨none, 0, 0⟩⟩) (by kernel_rfl)) hH ?_
        refine aT (i := 2) (oi := oqZe2) (v := .slice (some ⟨xb, xo, none⟩) n cp) (fun _ _ => by kernel_rfl) hH ?_
        refine aT (i := 3) (oi := oqZe3) (v := .int .i64 ((p : Nat) : Int)) (fun _ _ => by kernel_rfl) hH ?_
        refine aT (i := 4) (oi := oqZe4) (v := .agg (En.cells ⟨x.nm, c.g0, c.g1, c.sz⟩)) (fun w' hw => exec_load 54 _ rfl ⟨gk6, 0, none⟩ (by kernel_rfl) (.agg (En.cells ⟨x.nm, c.g0, c.g1, c.sz⟩)) (ld54 hw)) hH ?_
        try simp only [pA, pB, p1, p2, p3]
        refine any_step (i := 5) (o := oqZe5) rfl (by kernel_rfl) (by kernel_rfl) (exec_slice2 22 54 _ rfl (En.cells ⟨x.nm, c.g0, c.g1, c.sz⟩) (.agg (En.cells ⟨x.nm, c.g0, c.g1, c.sz⟩)) (by kernel_rfl) (slice1_en ⟨x.nm, c.g0, c.g1, c.sz⟩ _)) ((hH.alloc _)) (fun hH => ?_)
        try simp only [pA, pB, p1, p2, p3]
        have HF : Hid (Fr No w (wk29.alloc (.cells (En.cells ⟨x.nm, c.g0, c.g1, c.sz⟩) 54)) [(gk1, 29, Cm.cells c), (gk3, 56, Av.cells avZ), (gk6, 54, En.cells ⟨x.nm, c.g0, c.g1, c.sz⟩), (wk29.heap.size, 54, En.cells ⟨x.nm, c.g0, c.g1, c.sz⟩)]) := HF.out.alloc _ _
        generalize wk29.alloc (.cells (En.cells ⟨x.nm, c.g0, c.g1, c.sz⟩) 54) = wk31 at HF hH ⊢
        generalize wk29.heap.size = gk30 at HF ⊢
        refine any_call (i := 6) (o := oqZe6) rfl (by kernel_rfl) (by kernel_rfl) 56 #[.slice (some ⟨xb, xo, none⟩) n cp, .int .i64 ((p : Nat) : Int), .int .i64 1, .slice (some ⟨gk30, 0, none⟩) 1 1] (by kernel_rfl) _ (without_any (some ⟨xb, xo, none⟩) n cp p 1 (some ⟨gk30, 0, none⟩) 1 1 es [⟨x.nm, c.g0, c.g1, c.sz⟩] _ (HE.out.no HF.out.kept) (rd_one (HF.out.box 3 _ _ _ rfl)) (by omega) hnc (mul40 (by omega))) ?_
        rintro e wk32 ⟨⟨ra, rn, rc⟩, rfl, hO, hk⟩
        have HR : Hid (OwE wk32 w.heap.size ⟨ra, rn, rc⟩ (es.take p ++ [⟨x.nm, c.g0, c.g1, c.sz⟩] ++ es.drop (p + 1))) := hO.lower HF.out.kept.size
        have hH2 : Box wk32 gk6 54 (En.cells ⟨x.nm, c.g0, c.g1, c.sz⟩) := (hH.kept hk (fun e => e))
        have HF : Hid (Fr No w (wk32) [(gk1, 29, Cm.cells c), (gk3, 56, Av.cells avZ), (gk6, 54, En.cells ⟨x.nm, c.g0, c.g1, c.sz⟩), (gk30, 54, En.cells ⟨x.nm, c.g0, c.g1, c.sz⟩)]) := HF.out.no hk
        clear hO hk
        refine ⟨.slice ra rn rc, rfl, hH2, fun hH => ?_⟩
        clear hH2
        try simp only [pA, pB, p1, p2, p3]
        refine any_store (i := 7) (o := oqZe7) (w' := wk32.setRow gk3 (Av.cells ⟨0, ⟨x.nm, c.g0, c.g1, c.sz⟩, ⟨none, 0, 0⟩⟩)) rfl (by kernel_rfl) (by kernel_rfl) 56 _ _ rfl ⟨gk3, 0, none⟩ (.agg (Av.cells ⟨0, ⟨x.nm, c.g0, c.g1, c.sz⟩, ⟨none, 0, 0⟩⟩)) (by kernel_rfl) (by kernel_rfl) (st56 (HF.out.box 1 _ _ _ rfl) rfl) ((hH.rowNe (HF.out.ne 2 1 rfl rfl (by simp)) _)) (fun hH => ?_)
        try simp only [pA, pB, p1, p2, p3]
        have HR : Hid (OwE (wk32.setRow gk3 (Av.cells ⟨0, ⟨x.nm, c.g0, c.g1, c.sz⟩, ⟨none, 0, 0⟩⟩)) w.heap.size ⟨ra, rn, rc⟩ (es.take p ++ [⟨x.nm, c.g0, c.g1, c.sz⟩] ++ es.drop (p + 1))) := HR.out.kept (Kept.setRow _ _ _) (fun k h e => (HR.out.own.notBox (HF.out.box 1 _ _ _ rfl) (by decide)) ((show k = gk3 from e) ▸ h))
        have HF : Hid (Fr No w (wk32.setRow gk3 (Av.cells ⟨0, ⟨x.nm, c.g0, c.g1, c.sz⟩, ⟨none, 0, 0⟩⟩)) [(gk1, 29, Cm.cells c), (gk3, 56, Av.cells ⟨0, ⟨x.nm, c.g0, c.g1, c.sz⟩, ⟨none, 0, 0⟩⟩), (gk6, 54, En.cells ⟨x.nm, c.g0, c.g1, c.sz⟩), (gk30, 54, En.cells ⟨x.nm, c.g0, c.g1, c.sz⟩)]) := HF.out.set 1 rfl _
        generalize wk32.setRow gk3 (Av.cells ⟨0, ⟨x.nm, c.g0, c.g1, c.sz⟩, ⟨none, 0, 0⟩⟩) = wk33 at HF HR hH ⊢
        refine aT (i := 8) (oi := oqZe8) (v := .slice ra rn rc) (fun _ _ => by kernel_rfl) hH ?_
        try simp only [pA, pB, p1, p2, p3]
        refine wpAnyH_done (by kernel_rfl) ?_ _
        try simp only [pA, pB, p1, p2, p3]
        clear hH
        have hA := HA.out
        simp only [q1, q2, q3, q4, Bool.false_eq_true, if_true, if_false, ↓reduceIte] at hA
        unfold chgS at hA
        rw [q5] at hA
        simp only [Bool.false_eq_true, if_true, if_false, ↓reduceIte] at hA
        have hc : chgE x c = ⟨x.nm, c.g0, c.g1, c.sz⟩ := by
          have k4 : c.k ≠ 4 := beq_eq_false_iff_ne.1 q1
          have k1 : c.k ≠ 1 := beq_eq_false_iff_ne.1 q2
          have k3 : c.k ≠ 3 := beq_eq_false_iff_ne.1 q4
          have k2 : c.k ≠ 2 := beq_eq_false_iff_ne.1 q3
          have k7 : c.k = 7 := beq_iff_eq.1 q6
          unfold chgE
          rw [k7]
          rfl
        rw [hc, ← HS.out _ (by rw [HN.out]; exact hpn)] at hA
        go_wp2
        rw [HC.out]
        refine bodyPost_ret (results_row_tmp (by rfl) _ _ gk3 (Av.cells ⟨0, ⟨x.nm, c.g0, c.g1, c.sz⟩, ⟨none, 0, 0⟩⟩) (by rfl) (ld56 (HF.out.box 1 _ _ _ rfl))) rfl ?_
        rw [hA]
        exact ⟨⟨none, 0, 0⟩, ⟨ra, rn, rc⟩, rfl, OwE.nil _ _, HR.out.rd, .inr HR.out, HR.out.le, HF.out.kept⟩
     ·skip
      refine tW (.bool true) (exec_bin .eql 3 _ _ _ rfl (.int .i64 c.k) (.int .i64 3) (.bool true) (by kernel_rfl) (by kernel_rfl) (by kernel_rfl) (by rw [b_eql, q4]; try rfl)) ?_
      refine tK (.bool true) ?_
      try simp only [pA, pB, p1, p2, p3]
      refine WL.nil ?_
      try simp only [pA, pB, p1, p2, p3]
      go_upto_region 18 with fail
      refine WL.start ?_
      refine tW (.agg (En.cells x)) (exec_load 54 _ rfl ⟨gk6, 0, none⟩ (by kernel_rfl) (.agg (En.cells x)) (ld54 (HF.out.box 2 _ _ _ rfl))) ?_
      refine tW (.agg (Av.cells ⟨0, x, ⟨none, 0, 0⟩⟩)) (exec_build 56 _ rfl (Av.cells ⟨0, x, ⟨none, 0, 0⟩⟩) (by kernel_rfl)) ?_
      refine tK (.slice (some ⟨xb, xo, none⟩) n cp) ?_
      try simp only [pA, pB, p1, p2, p3]
      refine wp_storeW 56 _ _ rfl ⟨gk3, 0, none⟩ (.agg (Av.cells ⟨0, x, ⟨none, 0, 0⟩⟩)) (by kernel_rfl) (by kernel_rfl) (wk8.setRow gk3 (Av.cells ⟨0, x, ⟨none, 0, 0⟩⟩)) (st56 (HF.out.box 1 _ _ _ rfl) rfl) (by kernel_rfl) ?_
      try simp only [pA, pB, p1, p2, p3]
      have HF : Hid (Fr No w (wk8.setRow gk3 (Av.cells ⟨0, x, ⟨none, 0, 0⟩⟩)) [(gk1, 29, Cm.cells c), (gk3, 56, Av.cells ⟨0, x, ⟨none, 0, 0⟩⟩), (gk6, 54, En.cells x)]) := HF.out.set 1 rfl _
      generalize wk8.setRow gk3 (Av.cells ⟨0, x, ⟨none, 0, 0⟩⟩) = wk34 at HF ⊢
      refine tK (.slice (some ⟨xb, xo, none⟩) n cp) ?_
      try simp only [pA, pB, p1, p2, p3]
      refine WL.nil ?_
      try simp only [pA, pB, p1, p2, p3]
      have hA := HA.out
      simp only [q1, q2, q3, q4, Bool.false_eq_true, if_true, if_false, ↓reduceIte] at hA
      go_wp2
      rw [HC.out]
      refine bodyPost_ret (results_row_tmp (by rfl) _ _ gk3 (Av.cells ⟨0, x, ⟨none, 0, 0⟩⟩) (by rfl) (ld56 (HF.out.box 1 _ _ _ rfl))) rfl ?_
      rw [hA]
      exact ⟨⟨none, 0, 0⟩, ⟨(some ⟨xb, xo, none⟩), n, cp⟩, rfl, OwE.nil _ _, HE.out.no HF.out.kept, .inl ⟨rfl, rfl⟩, hnc, HF.out.kept⟩
    ·skip
     refine tW (.bool true) (exec_bin .eql 3 _ _ _ rfl (.int .i64 c.k) (.int .i64 2) (.bool true) (by kernel_rfl) (by kernel_rfl) (by kernel_rfl) (by rw [b_eql, q3]; try rfl)) ?_
     refine tK (.bool true) ?_
     try simp only [pA, pB, p1, p2, p3]
     refine WL.nil ?_
     try simp only [pA, pB, p1, p2, p3]
     cases q9 : (c.k == 3)
     ·skip
      go_upto_region 16 with fail
      refine wp_region_held_drew (S := fun w' => Box w' gk6 54 (En.cells x)) rfl (HF.out.box 2 _ _ _ rfl) (fun hH => ?_)
      have HF : Hid (Fr No w (wk8.drew) [(gk1, 29, Cm.cells c), (gk3, 56, Av.cells avZ), (gk6, 54, En.cells x)]) := HF.out.drew
      generalize wk8.drew = wk35 at HF hH ⊢
      refine aT (i := 0) (oi := { dst := some 69, op := Op.load 54 (Operand.tmp 11), type := 54, pos := "ref.go:157", after := #[], guard := none }) (v := .agg (En.cells x)) (fun w' hw => exec_load 54 _ rfl ⟨gk6, 0, none⟩ (by kernel_rfl) (.agg (En.cells x)) (ld54 hw)) hH ?_
      refine aT (i := 1) (oi := { dst := some 70, op := Op.build 56 #[(1, Operand.tmp 69)], type := 56, pos := "ref.go:157", after := #[{ on := 0, ground := Ground.data }], guard := none }) (v := .agg (Av.cells ⟨0, x, ⟨none, 0, 0⟩⟩)) (fun w' hw => exec_build 56 _ rfl (Av.cells ⟨0, x, ⟨none, 0, 0⟩⟩) (by kernel_rfl)) hH ?_
      refine aT (i := 2) (oi := { dst := some 71, op := Op.move (Operand.tmp 0), type := 22, pos := "ref.go:157", after := #[], guard := none }) (v := .slice (some ⟨xb, xo, none⟩) n cp) (fun _ _ => by kernel_rfl) hH ?_
      refine aT (i := 3) (oi := { dst := some 72, op := Op.move (Operand.tmp 8), type := 3, pos := "ref.go:157", after := #[], guard := none }) (v := .int .i64 ((p : Nat) : Int)) (fun _ _ => by kernel_rfl) hH ?_
      try simp only [pA, pB, p1, p2, p3]
      refine any_call (i := 4) (o := { dst := some 73, op := Op.call { callee := Callee.value (Operand.func 56), args := #[Operand.tmp 71, Operand.tmp 72, Operand.const (Value.int IntKind.i64 1), Operand.const (Value.slice none 0 0)], argTypes := #[22, 3, 3, 22] }, type := 22, pos := "ref.go:157", after := #[{ on := 2, ground := Ground.data }, { on := 3, ground := Ground.data }], guard := none }) rfl (by kernel_rfl) (by kernel_rfl) 56 #[.slice (some ⟨xb, xo, none⟩) n cp, .int .i64 ((p : Nat) : Int), .int .i64 1, .slice none 0 0] (by kernel_rfl) _ (without_any (some ⟨xb, xo, none⟩) n cp p 1 none 0 0 es [] _ (HE.out.no HF.out.kept) (rd_nil _) (by omega) hnc (mul40 (by omega))) ?_
      rintro e wk36 ⟨⟨ra, rn, rc⟩, rfl, hO, hk⟩
      have HR : Hid (OwE wk36 w.heap.size ⟨ra, rn, rc⟩ (es.take p ++ [] ++ es.drop (p + 1))) := hO.lower HF.out.kept.size
      have hH2 : Box wk36 gk6 54 (En.cells x) := (hH.kept hk (fun e => e))
      have HF : Hid (Fr No w (wk36) [(gk1, 29, Cm.cells c), (gk3, 56, Av.cells avZ), (gk6, 54, En.cells x)]) := HF.out.no hk
      clear hO hk
      refine ⟨.slice ra rn rc, rfl, hH2, fun hH => ?_⟩
      clear hH2
      try simp only [pA, pB, p1, p2, p3]
      refine any_store (i := 5) (o := { dst := none, op := Op.store 56 (Operand.tmp 6) (Operand.tmp 70), type := 0, pos := "ref.go:157", after := #[{ on := 1, ground := Ground.data }, { on := 4, ground := Ground.chain }, { on := 0, ground := Ground.phase }, { on := 1, ground := Ground.phase }, { on := 2, ground := Ground.textOnly Departure.lateStores }, { on := 3, ground := Ground.textOnly Departure.lateStores }, { on := 4, ground := Ground.textOnly Departure.lateStoresUnsure }], guard := none }) (w' := wk36.setRow gk3 (Av.cells ⟨0, x, ⟨none, 0, 0⟩⟩)) rfl (by kernel_rfl) (by kernel_rfl) 56 _ _ rfl ⟨gk3, 0, none⟩ (.agg (Av.cells ⟨0, x, ⟨none, 0, 0⟩⟩)) (by kernel_rfl) (by kernel_rfl) (st56 (HF.out.box 1 _ _ _ rfl) rfl) ((hH.rowNe (HF.out.ne 2 1 rfl rfl (by simp)) _)) (fun hH => ?_)
      try simp only [pA, pB, p1, p2, p3]
      have HR : Hid (OwE (wk36.setRow gk3 (Av.cells ⟨0, x, ⟨none, 0, 0⟩⟩)) w.heap.size ⟨ra, rn, rc⟩ (es.take p ++ [] ++ es.drop (p + 1))) := HR.out.kept (Kept.setRow _ _ _) (fun k h e => (HR.out.own.notBox (HF.out.box 1 _ _ _ rfl) (by decide)) ((show k = gk3 from e) ▸ h))
      have HF : Hid (Fr No w (wk36.setRow gk3 (Av.cells ⟨0, x, ⟨none, 0, 0⟩⟩)) [(gk1, 29, Cm.cells c), (gk3, 56, Av.cells ⟨0, x, ⟨none, 0, 0⟩⟩), (gk6, 54, En.cells x)]) := HF.out.set 1 rfl _
      generalize wk36.setRow gk3 (Av.cells ⟨0, x, ⟨none, 0, 0⟩⟩) = wk37 at HF HR hH ⊢
      refine aT (i := 6) (oi := { dst := some 7, op := Op.assign (Operand.tmp 73), type := 22, pos := "ref.go:157", after := #[{ on := 4, ground := Ground.data }, { on := 5, ground := Ground.chain }, { on := 0, ground := Ground.phase }, { on := 1, ground := Ground.phase }, { on := 2, ground := Ground.phase }, { on := 3, ground := Ground.phase }, { on := 4, ground := Ground.phase }, { on := 5, ground := Ground.phase }], guard := none }) (v := .slice ra rn rc) (fun _ _ => by kernel_rfl) hH ?_
      try simp only [pA, pB, p1, p2, p3]
      refine wpAnyH_done (by kernel_rfl) ?_ _
      try simp only [pA, pB, p1, p2, p3]
      clear hH
      have hA := HA.out
      simp only [q1, q2, q3, q9, Bool.false_eq_true, if_true, if_false, ↓reduceIte] at hA
      rw [← out_del] at hA
      go_wp2
      rw [HC.out]
      refine bodyPost_ret (results_row_tmp (by rfl) _ _ gk3 (Av.cells ⟨0, x, ⟨none, 0, 0⟩⟩) (by rfl) (ld56 (HF.out.box 1 _ _ _ rfl))) rfl ?_
      rw [hA]
      exact ⟨⟨none, 0, 0⟩, ⟨ra, rn, rc⟩, rfl, OwE.nil _ _, HR.out.rd, .inr HR.out, HR.out.le, HF.out.kept⟩
     ·skip
      have e2 : c.k = 2 := beq_iff_eq.1 q3
      have e3 : c.k = 3 := beq_iff_eq.1 q9
      omega
   ·skip
    refine tW (.bool true) (exec_bin .eql 3 _ _ _ rfl (.int .i64 c.k) (.int .i64 1) (.bool true) (by kernel_rfl) (by kernel_rfl) (by kernel_rfl) (by rw [b_eql, q2]; try rfl)) ?_
    try simp only [pA, pB, p1, p2, p3]
    refine WL.nil ?_
    try simp only [pA, pB, p1, p2, p3]
    go_upto_region 5 with fail
    refine WL.start ?_
    refine tK (.bool true) ?_
    try simp only [pA, pB, p1, p2, p3]
    refine WL.nil ?_
    try simp only [pA, pB, p1, p2, p3]
    go_upto_region 6 with fail
    refine WL.start ?_
    refine tK (.slice (some ⟨xb, xo, none⟩) n cp) ?_
    refine tK (.int .i64 ((p : Nat) : Int)) ?_
    refine tW (.pointer (some ⟨xb, xo + p * 4, none⟩)) (exec_ixA 22 4 Try.und22e Try.size22e _ _ rfl xb xo n cp p (by kernel_rfl) (by kernel_rfl) hpn) ?_
    refine tW (.agg (En.cells x)) (exec_load 54 _ rfl ⟨xb, xo + p * 4, none⟩ (by kernel_rfl) (.agg (En.cells x)) (load_E (fun j v h => HF.out.kept.cell (HCX.out j v h) (fun e => e)))) ?_
    refine tW (.agg (Av.cells ⟨101, x, ⟨none, 0, 0⟩⟩)) (exec_build 56 _ rfl (Av.cells ⟨101, x, ⟨none, 0, 0⟩⟩) (by kernel_rfl)) ?_
    refine tK (.slice (some ⟨xb, xo, none⟩) n cp) ?_
    try simp only [pA, pB, p1, p2, p3]
    refine wp_storeW 56 _ _ rfl ⟨gk3, 0, none⟩ (.agg (Av.cells ⟨101, x, ⟨none, 0, 0⟩⟩)) (by kernel_rfl) (by kernel_rfl) (wk5.setRow gk3 (Av.cells ⟨101, x, ⟨none, 0, 0⟩⟩)) (st56 (HF.out.box 1 _ _ _ rfl) rfl) (by kernel_rfl) ?_
    try simp only [pA, pB, p1, p2, p3]
    have HF : Hid (Fr No w (wk5.setRow gk3 (Av.cells ⟨101, x, ⟨none, 0, 0⟩⟩)) [(gk1, 29, Cm.cells c), (gk3, 56, Av.cells ⟨101, x, ⟨none, 0, 0⟩⟩)]) := HF.out.set 1 rfl _
    generalize wk5.setRow gk3 (Av.cells ⟨101, x, ⟨none, 0, 0⟩⟩) = wk38 at HF ⊢
    refine tK (.slice (some ⟨xb, xo, none⟩) n cp) ?_
    try simp only [pA, pB, p1, p2, p3]
    refine WL.nil ?_
    try simp only [pA, pB, p1, p2, p3]
    have hA := HA.out
    simp only [q1, q2, Bool.false_eq_true, if_true, if_false, ↓reduceIte] at hA
    go_wp2
    rw [HC.out]
    refine bodyPost_ret (results_row_tmp (by rfl) _ _ gk3 (Av.cells ⟨101, x, ⟨none, 0, 0⟩⟩) (by rfl) (ld56 (HF.out.box 1 _ _ _ rfl))) rfl ?_
    rw [hA]
    exact ⟨⟨none, 0, 0⟩, ⟨(some ⟨xb, xo, none⟩), n, cp⟩, rfl, OwE.nil _ _, HE.out.no HF.out.kept, .inl ⟨rfl, rfl⟩, hnc, HF.out.kept⟩
  ·skip
   refine tW (.bool true) (exec_bin .eql 3 _ _ _ rfl (.int .i64 c.k) (.int .i64 4) (.bool true) (by kernel_rfl) (by kernel_rfl) (by kernel_rfl) (by rw [b_eql, q1]; try rfl)) ?_
   try simp only [pA, pB, p1, p2, p3]
   refine WL.nil ?_
   try simp only [pA, pB, p1, p2, p3]
   go_upto_region 2 with fail
   refine WL.start ?_
   refine tK (.slice (some ⟨xb, xo, none⟩) n cp) ?_
   try simp only [pA, pB, p1, p2, p3]
   refine wp_callW 56 #[.slice (some ⟨xb, xo, none⟩) n cp, .int .i64 0, .int .i64 0, .slice none 0 0] (by kernel_rfl) _ (without_any (some ⟨xb, xo, none⟩) n cp 0 0 none 0 0 es [] _ (HE.out.no HF.out.kept) (rd_nil _) (by omega) hnc (mul40 (by omega))) (by kernel_rfl) ?_
   rintro e wk39 ⟨⟨ra, rn, rc⟩, rfl, hO, hk⟩
   have HR : Hid (OwE wk39 w.heap.size ⟨ra, rn, rc⟩ (es.take 0 ++ [] ++ es.drop (0 + 0))) := hO.lower HF.out.kept.size
   have HF : Hid (Fr No w (wk39) [(gk1, 29, Cm.cells c), (gk3, 56, Av.cells avZ)]) := HF.out.no hk
   clear hO hk
   refine ⟨.slice ra rn rc, rfl, ?_⟩
   try simp only [pA, pB, p1, p2, p3]
   refine tW (.agg (Av.cells ⟨0, enZ, ⟨ra, rn, rc⟩⟩)) (exec_build 56 _ rfl (Av.cells ⟨0, enZ, ⟨ra, rn, rc⟩⟩) (by kernel_rfl)) ?_
   refine tK (.slice (some ⟨xb, xo, none⟩) n cp) ?_
   try simp only [pA, pB, p1, p2, p3]
   refine wp_storeW 56 _ _ rfl ⟨gk3, 0, none⟩ (.agg (Av.cells ⟨0, enZ, ⟨ra, rn, rc⟩⟩)) (by kernel_rfl) (by kernel_rfl) (wk39.setRow gk3 (Av.cells ⟨0, enZ, ⟨ra, rn, rc⟩⟩)) (st56 (HF.out.box 1 _ _ _ rfl) rfl) (by kernel_rfl) ?_
   try simp only [pA, pB, p1, p2, p3]
   have HR : Hid (OwE (wk39.setRow gk3 (Av.cells ⟨0, enZ, ⟨ra, rn, rc⟩⟩)) w.heap.size ⟨ra, rn, rc⟩ (es.take 0 ++ [] ++ es.drop (0 + 0))) := HR.out.kept (Kept.setRow _ _ _) (fun k h e => (HR.out.own.notBox (HF.out.box 1 _ _ _ rfl) (by decide)) ((show k = gk3 from e) ▸ h))
   have HF : Hid (Fr No w (wk39.setRow gk3 (Av.cells ⟨0, enZ, ⟨ra, rn, rc⟩⟩)) [(gk1, 29, Cm.cells c), (gk3, 56, Av.cells ⟨0, enZ, ⟨ra, rn, rc⟩⟩)]) := HF.out.set 1 rfl _
   generalize wk39.setRow gk3 (Av.cells ⟨0, enZ, ⟨ra, rn, rc⟩⟩) = wk40 at HF HR ⊢
   refine tK (.slice (some ⟨xb, xo, none⟩) n cp) ?_
   try simp only [pA, pB, p1, p2, p3]
   refine WL.nil ?_
   try simp only [pA, pB, p1, p2, p3]
   have hA := HA.out
   simp only [q1, Bool.false_eq_true, if_true, if_false, ↓reduceIte] at hA
   have hL : OwE wk40 w.heap.size ⟨ra, rn, rc⟩ es := by have := HR.out; rw [out_all] at this; exact this
   go_wp2
   rw [HC.out]
   refine bodyPost_ret (results_row_tmp (by rfl) _ _ gk3 (Av.cells ⟨0, enZ, ⟨ra, rn, rc⟩⟩) (by rfl) (ld56 (HF.out.box 1 _ _ _ rfl))) rfl ?_
   rw [hA]
   exact ⟨⟨ra, rn, rc⟩, ⟨(some ⟨xb, xo, none⟩), n, cp⟩, rfl, hL, HE.out.no HF.out.kept, .inl ⟨rfl, rfl⟩, hnc, HF.out.kept⟩

end Go.Proofs.Ytfemlnfknebalaa
