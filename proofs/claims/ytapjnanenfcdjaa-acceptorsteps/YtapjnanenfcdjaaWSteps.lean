import Derived.Test.YtapjnanenfcdjaaP
namespace Go.Proofs.Ytapjnanenfcdjaa
open Go.RowKit
set_option linter.unusedVariables false
set_option linter.unusedSimpArgs false

set_option maxRecDepth 100000 in
set_option maxHeartbeats 16000000 in
theorem stepsWalk (i : In) (sa : Option Addr) (sn sc : Nat) (xs : List Sx) (w : World) (hl : xs.length = sn) (hbig : sn ≤ 140737488351232) (hR : RowsAt 12 w sa (xs.map Sx.cs)) :
    Calls Try.prog 3 #[.agg i.cells, .slice sa sn sc] w (fun e w' => e = .returned (.bool true) ∧ Kept No w w') := by
  have HL : Hid (xs.length = sn) := hl
  have HR : Hid (RowsAt 12 w sa (xs.map Sx.cs)) := hR
  clear hl hR
  obtain ⟨w1, hw1⟩ : ∃ w1, w1 = w.alloc (.cells i.cells 29) := ⟨_, rfl⟩
  obtain ⟨N, hN⟩ : ∃ N, N = w.heap.size := ⟨_, rfl⟩
  have HI : Hid (Box w1 N 29 (i.cells)) := by rw [hw1, hN]; exact Box.new _ _ _
  have HK : Hid (Kept No w w1) := by rw [hw1]; exact (Kept.refl No w).alloc _
  have HO : Hid (w.heap.size ≤ N) := by show _ ≤ _; omega
  have HLT : Hid (N < w1.heap.size) := HI.out.lt
  go_enter Try.func3, Try.ntmps3
  go_upto_region 1 with (refine wp_boxV rfl 29 _ rfl i.cells rfl w.heap.size rfl ?_)
  rw [← hw1, ← hN]
  clear hw1 hN
  refine WL.start ?_
  refine wp_callW (o := { dst := some 14, op := Op.call { callee := Callee.value (Operand.func 6), args := #[], argTypes := #[] }, type := 4, pos := "law.go:34", after := #[], guard := none }) 6 #[] (by kernel_rfl) _ (known_any _) (by kernel_rfl) ?_
  rintro e wk1 ⟨rfl, hk⟩
  have HI : Hid (Box wk1 (N) 29 (i.cells)) := HI.out.kept hk (fun e => e)
  have HK : Hid (Kept No w wk1) := HK.out.then hk
  have HLT : Hid (N < wk1.heap.size) := Nat.lt_of_lt_of_le HLT.out hk.size
  clear hk
  refine ⟨.bool true, rfl, ?_⟩
  try simp only [Act.put, List.setIfInBounds_toArray, List.set_cons_zero, List.set_cons_succ]
  refine wp_takeW (o := { dst := some 15, op := Op.unOp UnOp.not 4 (Operand.tmp 14), type := 4, pos := "law.go:34", after := #[{ on := 0, ground := Ground.data }], guard := none }) (.bool false) (by kernel_rfl) (by kernel_rfl) ?_
  try simp only [Act.put, List.setIfInBounds_toArray, List.set_cons_zero, List.set_cons_succ]
  refine WL.nil ?_
  try simp only [Act.put, List.setIfInBounds_toArray, List.set_cons_zero, List.set_cons_succ]
  go_upto_region 3 with fail
  refine wp_region_held_drew (S := fun w' => Box w' (N) 29 (i.cells)) rfl HI.out (fun hH => ?_)
  have HI : Hid (Box wk1.drew (N) 29 (i.cells)) := HI.out
  have HK : Hid (Kept No w wk1.drew) := HK.out.drew
  have HLT : Hid (N < wk1.drew.heap.size) := HLT.out
  generalize wk1.drew = wk2 at HI HK HLT hH ⊢
  refine any_take (i := 0) (oi := { dst := some 16, op := Op.load 29 (Operand.tmp 2), type := 29, pos := "law.go:37", after := #[], guard := none }) (v := .agg i.cells) rfl (by kernel_rfl) (by kernel_rfl) (by kernel_rfl) (fun _ _ _ h => h) (by kernel_rfl) (fun w' hw => exec_load 29 _ rfl ⟨N, 0, none⟩ (by kernel_rfl) (.agg i.cells) (load_I hw)) hH ?_
  try simp only [Act.put, List.setIfInBounds_toArray, List.set_cons_zero, List.set_cons_succ]
  refine any_call (i := 1) (o := { dst := some 17, op := Op.call { callee := Callee.value (Operand.func 8), args := #[], argTypes := #[] }, type := 35, pos := "law.go:37", after := #[], guard := none }) rfl (by kernel_rfl) (by kernel_rfl) 8 #[] (by kernel_rfl) _ (wide_any _) ?_
  rintro e wk4 ⟨wa3, rfl, hk⟩
  have HI : Hid (Box wk4 (N) 29 (i.cells)) := HI.out.kept hk (fun e => e)
  have HK : Hid (Kept No w wk4) := HK.out.then hk
  have HLT : Hid (N < wk4.heap.size) := Nat.lt_of_lt_of_le HLT.out hk.size
  clear hk
  refine ⟨.agg (wideC wa3), rfl, HI.out, fun hH => ?_⟩
  try simp only [Act.put, List.setIfInBounds_toArray, List.set_cons_zero, List.set_cons_succ]
  cases q1 : (instB i)
  · skip
    refine any_call (i := 2) (o := { dst := some 18, op := Op.call { callee := Callee.value (Operand.func 7), args := #[Operand.tmp 16, Operand.tmp 17], argTypes := #[29, 35] }, type := 4, pos := "law.go:37", after := #[{ on := 0, ground := Ground.data }, { on := 1, ground := Ground.data }, { on := 1, ground := Ground.chain }], guard := none }) rfl (by kernel_rfl) (by kernel_rfl) 7 #[.agg i.cells, .agg (wideC wa3)] (by kernel_rfl) _ (inst_any i wa3 _) ?_
    rintro e wk5 ⟨rfl, hk⟩
    have HI : Hid (Box wk5 (N) 29 (i.cells)) := HI.out.kept hk (fun e => e)
    have HK : Hid (Kept No w wk5) := HK.out.then hk
    have HLT : Hid (N < wk5.heap.size) := Nat.lt_of_lt_of_le HLT.out hk.size
    clear hk
    refine ⟨.bool false, by rw [q1], HI.out, fun hH => ?_⟩
    try simp only [Act.put, List.setIfInBounds_toArray, List.set_cons_zero, List.set_cons_succ]
    refine any_take (i := 3) (oi := { dst := some 19, op := Op.unOp UnOp.not 4 (Operand.tmp 18), type := 4, pos := "law.go:37", after := #[{ on := 2, ground := Ground.data }], guard := none }) (v := .bool true) rfl (by kernel_rfl) (by kernel_rfl) (by kernel_rfl) (fun _ _ _ h => h) (by kernel_rfl) (fun _ _ => by kernel_rfl) hH ?_
    try simp only [Act.put, List.setIfInBounds_toArray, List.set_cons_zero, List.set_cons_succ]
    refine wpAnyH_done (by kernel_rfl) ?_ _
    try simp only [Act.put, List.setIfInBounds_toArray, List.set_cons_zero, List.set_cons_succ]
    go_wp2
    go_ret
    exact ⟨rfl, HK.out⟩
  · skip
    refine any_call (i := 2) (o := { dst := some 18, op := Op.call { callee := Callee.value (Operand.func 7), args := #[Operand.tmp 16, Operand.tmp 17], argTypes := #[29, 35] }, type := 4, pos := "law.go:37", after := #[{ on := 0, ground := Ground.data }, { on := 1, ground := Ground.data }, { on := 1, ground := Ground.chain }], guard := none }) rfl (by kernel_rfl) (by kernel_rfl) 7 #[.agg i.cells, .agg (wideC wa3)] (by kernel_rfl) _ (inst_any i wa3 _) ?_
    rintro e wk6 ⟨rfl, hk⟩
    have HI : Hid (Box wk6 (N) 29 (i.cells)) := HI.out.kept hk (fun e => e)
    have HK : Hid (Kept No w wk6) := HK.out.then hk
    have HLT : Hid (N < wk6.heap.size) := Nat.lt_of_lt_of_le HLT.out hk.size
    clear hk
    refine ⟨.bool true, by rw [q1], HI.out, fun hH => ?_⟩
    try simp only [Act.put, List.setIfInBounds_toArray, List.set_cons_zero, List.set_cons_succ]
    refine any_take (i := 3) (oi := { dst := some 19, op := Op.unOp UnOp.not 4 (Operand.tmp 18), type := 4, pos := "law.go:37", after := #[{ on := 2, ground := Ground.data }], guard := none }) (v := .bool false) rfl (by kernel_rfl) (by kernel_rfl) (by kernel_rfl) (fun _ _ _ h => h) (by kernel_rfl) (fun _ _ => by kernel_rfl) hH ?_
    try simp only [Act.put, List.setIfInBounds_toArray, List.set_cons_zero, List.set_cons_succ]
    refine wpAnyH_done (by kernel_rfl) ?_ _
    try simp only [Act.put, List.setIfInBounds_toArray, List.set_cons_zero, List.set_cons_succ]
    go_upto_region 5 with fail
    refine WL.start ?_
    refine wp_takeW (o := { dst := some 20, op := Op.load 29 (Operand.tmp 2), type := 29, pos := "law.go:40", after := #[], guard := none }) (.agg i.cells) (exec_load 29 _ rfl ⟨N, 0, none⟩ (by kernel_rfl) (.agg i.cells) (load_I HI.out)) (by kernel_rfl) ?_
    try simp only [Act.put, List.setIfInBounds_toArray, List.set_cons_zero, List.set_cons_succ]
    refine wp_allocW (o := { dst := some 5, op := Op.alloc 29, type := 0, pos := "law.go:40", after := #[], guard := none }) 29 rfl (iZ.cells) zero29 wk6.heap.size rfl (by kernel_rfl) ?_
    try simp only [Act.put, List.setIfInBounds_toArray, List.set_cons_zero, List.set_cons_succ]
    have HA : Hid (Box (wk6.alloc (.cells (iZ.cells) 29)) wk6.heap.size 29 (iZ.cells)) := Box.new _ _ _
    have HI : Hid (Box (wk6.alloc (.cells (iZ.cells) 29)) (N) 29 (i.cells)) := HI.out.alloc _
    have HK : Hid (Kept No w (wk6.alloc (.cells (iZ.cells) 29))) := HK.out.alloc _
    have HO : Hid (w.heap.size ≤ N ∧ N < wk6.heap.size) := by
      have h := HO.out
      have l := HLT.out
      show _ ∧ _
      omega
    have HLT : Hid (wk6.heap.size < (wk6.alloc (.cells (iZ.cells) 29)).heap.size) := by show _ < _; simp
    generalize wk6.alloc (.cells (iZ.cells) 29) = wk7 at HI HA HK HLT ⊢
    generalize wk6.heap.size = A at HA HO HLT ⊢
    refine wp_storeW (o := { dst := none, op := Op.store 29 (Operand.tmp 5) (Operand.tmp 20), type := 0, pos := "law.go:40", after := #[{ on := 1, ground := Ground.data }, { on := 0, ground := Ground.data }, { on := 0, ground := Ground.phase }, { on := 1, ground := Ground.phase }], guard := none }) 29 _ _ rfl ⟨A, 0, none⟩ (.agg i.cells) (by kernel_rfl) (by kernel_rfl) _ (store_I HA.out rfl) (by kernel_rfl) ?_
    try simp only [Act.put, List.setIfInBounds_toArray, List.set_cons_zero, List.set_cons_succ]
    have HLT : Hid (A < (wk7.setRow A (i.cells)).heap.size) := by show _ < _; rw [setRow_size]; exact HLT.out
    have HI : Hid (Box (wk7.setRow A (i.cells)) (N) 29 (i.cells)) := HI.out.rowNe (by have := HO.out; omega) _
    have HA : Hid (Box (wk7.setRow A (i.cells)) (A) 29 (i.cells)) := HA.out.setRow _
    have HK : Hid (Kept No w (wk7.setRow A (i.cells))) := HK.out.newRow (by have := HO.out; omega) _
    generalize wk7.setRow A (i.cells) = wk8 at HI HA HK HLT ⊢
    refine WL.nil ?_
    try simp only [Act.put, List.setIfInBounds_toArray, List.set_cons_zero, List.set_cons_succ]
    have H0 : Hid (AtI w A wk8 (fun _ => True)) := ⟨_, HA.out, HK.out, HLT.out, trivial⟩
    have HOA : Hid (w.heap.size ≤ A) := by have := HO.out; show _ ≤ _; omega
    clear HI HA HK HLT HO
    go_wp2
    go_loopw [6] (fun vi wr => ∃ (k : Nat), vi = .int .i64 k ∧ k ≤ sn ∧ Hid (AtI w A wr (fun _ => True))) (fun k _ => sn - (intOf k).toNat)
    case atStart => exact ⟨0, by go_num, by omega, H0⟩
    case round =>
      obtain ⟨k, rfl, hk, HAt⟩ := hrel
      clear H0
      by_cases hlt : k < sn
      · have hlt' : (k : Int) < (sn : Int) := by omega
        have hkx : k < xs.length := by rw [HL.out]; exact hlt
        have hit : (xs.map Sx.cs)[k]? = some (xs[k].cs) := by simp [hkx]
        obtain ⟨sb, soff, rfl, -⟩ := HR.out k _ hit
        have HXC : Hid (∀ W, Kept No w W → ∀ (j : Nat) v, xs[k].cs[j]? = some v → W.cell? ⟨sb, soff + k * 12 + j, none⟩ = some v) := fun W hW => by
          obtain ⟨b, off, e, c⟩ := (HR.out.no hW) k _ hit
          cases e
          exact c
        generalize xs[k] = x at HXC
        clear hit hkx
        obtain ⟨at0, hA, hK, hLT, -⟩ := HAt.out
        have HA : Hid (Box wr A 29 (at0.cells)) := hA
        have HK : Hid (Kept No w wr) := hK
        have HLT : Hid (A < wr.heap.size) := hLT
        have HO : Hid (w.heap.size ≤ A) := HOA.out
        clear hA hK hLT HAt
        go_upto_region 9 with fail
        refine WL.start ?_
        refine wp_takeW (o := { dst := some 27, op := Op.move (Operand.tmp 1), type := 30, pos := "law.go:42", after := #[], guard := none }) (.slice (some ⟨sb, soff, none⟩) sn sc) (by kernel_rfl) (by kernel_rfl) ?_
        try simp only [Act.put, List.setIfInBounds_toArray, List.set_cons_zero, List.set_cons_succ]
        refine wp_takeW (o := { dst := some 28, op := Op.move (Operand.tmp 6), type := 3, pos := "law.go:42", after := #[], guard := none }) (.int .i64 k) (by kernel_rfl) (by kernel_rfl) ?_
        try simp only [Act.put, List.setIfInBounds_toArray, List.set_cons_zero, List.set_cons_succ]
        refine wp_takeW (o := { dst := some 29, op := Op.indexAddr 30 (Operand.tmp 27) (Operand.tmp 28), type := 0, pos := "law.go:42", after := #[{ on := 0, ground := Ground.data }, { on := 1, ground := Ground.data }], guard := none }) (.pointer (some ⟨sb, soff + k * 12, none⟩)) (exec_ixA 30 12 Try.und30e Try.size30e _ _ rfl sb soff sn sc k (by kernel_rfl) (by kernel_rfl) hlt) (by kernel_rfl) ?_
        try simp only [Act.put, List.setIfInBounds_toArray, List.set_cons_zero, List.set_cons_succ]
        refine wp_takeW (o := { dst := some 30, op := Op.load 38 (Operand.tmp 29), type := 38, pos := "law.go:42", after := #[{ on := 2, ground := Ground.data }], guard := none }) (.agg x.cells) (exec_load 38 _ rfl ⟨sb, soff + k * 12, none⟩ (by kernel_rfl) (.agg x.cells) (load_X (HXC.out _ HK.out))) (by kernel_rfl) ?_
        try simp only [Act.put, List.setIfInBounds_toArray, List.set_cons_zero, List.set_cons_succ]
        refine wp_allocW (o := { dst := some 7, op := Op.alloc 38, type := 0, pos := "law.go:42", after := #[], guard := none }) 38 rfl (sxZ.cells) zero38 wr.heap.size rfl (by kernel_rfl) ?_
        try simp only [Act.put, List.setIfInBounds_toArray, List.set_cons_zero, List.set_cons_succ]
        have HS : Hid (Box (wr.alloc (.cells (sxZ.cells) 38)) wr.heap.size 38 (sxZ.cells)) := Box.new _ _ _
        have HA : Hid (Box (wr.alloc (.cells (sxZ.cells) 38)) (A) 29 (at0.cells)) := HA.out.alloc _
        have HK : Hid (Kept No w (wr.alloc (.cells (sxZ.cells) 38))) := HK.out.alloc _
        have HO : Hid (w.heap.size ≤ A ∧ A < wr.heap.size) := by
          have h := HO.out
          have l := HLT.out
          show _ ∧ _
          omega
        have HLT : Hid (wr.heap.size < (wr.alloc (.cells (sxZ.cells) 38)).heap.size) := by show _ < _; simp
        generalize wr.alloc (.cells (sxZ.cells) 38) = wk9 at HA HS HK HLT ⊢
        generalize wr.heap.size = S7 at HS HO HLT ⊢
        refine wp_storeW (o := { dst := none, op := Op.store 38 (Operand.tmp 7) (Operand.tmp 30), type := 0, pos := "law.go:42", after := #[{ on := 4, ground := Ground.data }, { on := 3, ground := Ground.data }, { on := 0, ground := Ground.phase }, { on := 1, ground := Ground.phase }, { on := 2, ground := Ground.phase }, { on := 3, ground := Ground.phase }, { on := 4, ground := Ground.phase }], guard := none }) 38 _ _ rfl ⟨S7, 0, none⟩ (.agg x.cells) (by kernel_rfl) (by kernel_rfl) _ (store_X HS.out rfl) (by kernel_rfl) ?_
        try simp only [Act.put, List.setIfInBounds_toArray, List.set_cons_zero, List.set_cons_succ]
        have HLT : Hid (S7 < (wk9.setRow S7 (x.cells)).heap.size) := by show _ < _; rw [setRow_size]; exact HLT.out
        have HA : Hid (Box (wk9.setRow S7 (x.cells)) (A) 29 (at0.cells)) := HA.out.rowNe (by have := HO.out; omega) _
        have HS : Hid (Box (wk9.setRow S7 (x.cells)) (S7) 38 (x.cells)) := HS.out.setRow _
        have HK : Hid (Kept No w (wk9.setRow S7 (x.cells))) := HK.out.newRow (by have := HO.out; omega) _
        generalize wk9.setRow S7 (x.cells) = wk10 at HA HS HK HLT ⊢
        refine WL.nil ?_
        try simp only [Act.put, List.setIfInBounds_toArray, List.set_cons_zero, List.set_cons_succ]
        go_upto_region 10 with fail
        refine wp_region_held_drew (S := fun w' => Box w' (S7) 38 (x.cells)) rfl HS.out (fun hH => ?_)
        have HA : Hid (Box wk10.drew (A) 29 (at0.cells)) := HA.out
        have HS : Hid (Box wk10.drew (S7) 38 (x.cells)) := HS.out
        have HK : Hid (Kept No w wk10.drew) := HK.out.drew
        have HLT : Hid (S7 < wk10.drew.heap.size) := HLT.out
        generalize wk10.drew = wk11 at HA HS HK HLT hH ⊢
        refine any_take (i := 0) (oi := { dst := some 31, op := Op.fieldAddr 38 (Operand.tmp 7) 0, type := 0, pos := "law.go:43", after := #[], guard := none }) (v := .pointer (some ⟨S7, 0, none⟩)) rfl (by kernel_rfl) (by kernel_rfl) (by kernel_rfl) (fun _ _ _ h => h) (by kernel_rfl) (fun _ _ => by kernel_rfl) hH ?_
        try simp only [Act.put, List.setIfInBounds_toArray, List.set_cons_zero, List.set_cons_succ]
        refine any_take (i := 1) (oi := { dst := some 32, op := Op.load 3 (Operand.tmp 31), type := 3, pos := "law.go:43", after := #[{ on := 0, ground := Ground.data }], guard := none }) (v := .int .i64 x.k) rfl (by kernel_rfl) (by kernel_rfl) (by kernel_rfl) (fun _ _ _ h => h) (by kernel_rfl) (fun w' hw => exec_load 3 _ rfl ⟨S7, 0, none⟩ (by kernel_rfl) (.int .i64 x.k) (load_N (hw.cell 0))) hH ?_
        try simp only [Act.put, List.setIfInBounds_toArray, List.set_cons_zero, List.set_cons_succ]
        cases q2 : (x.k == 3)
        · skip
          refine any_take (i := 2) (oi := { dst := some 33, op := Op.binOp BinOp.neq 3 (Operand.tmp 32) (Operand.const (Value.int IntKind.i64 3)) 3, type := 4, pos := "law.go:43", after := #[{ on := 1, ground := Ground.data }], guard := none }) (v := .bool true) rfl (by kernel_rfl) (by kernel_rfl) (by kernel_rfl) (fun _ _ _ h => h) (by kernel_rfl) (fun w' hw => exec_bin .neq 3 _ _ _ rfl (.int .i64 x.k) (.int .i64 3) (.bool true) (by kernel_rfl) (by kernel_rfl) (by kernel_rfl) (by rw [neqN, q2]; try rfl)) hH ?_
          try simp only [Act.put, List.setIfInBounds_toArray, List.set_cons_zero, List.set_cons_succ]
          refine any_take (i := 3) (oi := { dst := some 34, op := Op.move (Operand.tmp 33), type := 4, pos := "law.go:43", after := #[{ on := 2, ground := Ground.data }], guard := none }) (v := .bool true) rfl (by kernel_rfl) (by kernel_rfl) (by kernel_rfl) (fun _ _ _ h => h) (by kernel_rfl) (fun _ _ => by kernel_rfl) hH ?_
          try simp only [Act.put, List.setIfInBounds_toArray, List.set_cons_zero, List.set_cons_succ]
          refine any_take (i := 4) (oi := { dst := some 35, op := Op.fieldAddr 38 (Operand.tmp 7) 1, type := 0, pos := "law.go:43", after := #[{ on := 3, ground := Ground.guard }], guard := some (3, true) }) (v := .pointer (some ⟨S7, 1, none⟩)) rfl (by kernel_rfl) (by kernel_rfl) (by kernel_rfl) (fun _ _ _ h => h) (by kernel_rfl) (fun _ _ => by kernel_rfl) hH ?_
          try simp only [Act.put, List.setIfInBounds_toArray, List.set_cons_zero, List.set_cons_succ]
          refine any_take (i := 5) (oi := { dst := some 36, op := Op.load 23 (Operand.tmp 35), type := 23, pos := "law.go:43", after := #[{ on := 4, ground := Ground.data }, { on := 3, ground := Ground.guard }], guard := some (3, true) }) (v := .agg #[.int .i64 x.b.n, .int .i64 x.b.c]) rfl (by kernel_rfl) (by kernel_rfl) (by kernel_rfl) (fun _ _ _ h => h) (by kernel_rfl) (fun w' hw => exec_load 23 _ rfl ⟨S7, 1, none⟩ (by kernel_rfl) (.agg #[.int .i64 x.b.n, .int .i64 x.b.c]) (load_S hw x.partB)) hH ?_
          try simp only [Act.put, List.setIfInBounds_toArray, List.set_cons_zero, List.set_cons_succ]
          cases q3 : (oneB x.b)
          · skip
            refine any_call (i := 6) (o := { dst := some 37, op := Op.call { callee := Callee.value (Operand.func 9), args := #[Operand.tmp 36], argTypes := #[23] }, type := 4, pos := "law.go:43", after := #[{ on := 5, ground := Ground.data }, { on := 3, ground := Ground.chain }, { on := 3, ground := Ground.guard }], guard := some (3, true) }) rfl (by kernel_rfl) (by kernel_rfl) 9 #[.agg #[.int .i64 x.b.n, .int .i64 x.b.c]] (by kernel_rfl) _ (one_any x.b.n x.b.c _) ?_
            rintro e wk12 ⟨rfl, hk⟩
            have HA : Hid (Box wk12 (A) 29 (at0.cells)) := HA.out.kept hk (fun e => e)
            have HS : Hid (Box wk12 (S7) 38 (x.cells)) := HS.out.kept hk (fun e => e)
            have HK : Hid (Kept No w wk12) := HK.out.then hk
            have HLT : Hid (S7 < wk12.heap.size) := Nat.lt_of_lt_of_le HLT.out hk.size
            clear hk
            refine ⟨.bool false, by rw [q3], HS.out, fun hH => ?_⟩
            try simp only [Act.put, List.setIfInBounds_toArray, List.set_cons_zero, List.set_cons_succ]
            refine any_take (i := 7) (oi := { dst := some 38, op := Op.unOp UnOp.not 4 (Operand.tmp 37), type := 4, pos := "law.go:43", after := #[{ on := 6, ground := Ground.data }, { on := 3, ground := Ground.guard }], guard := some (3, true) }) (v := .bool true) rfl (by kernel_rfl) (by kernel_rfl) (by kernel_rfl) (fun _ _ _ h => h) (by kernel_rfl) (fun _ _ => by kernel_rfl) hH ?_
            try simp only [Act.put, List.setIfInBounds_toArray, List.set_cons_zero, List.set_cons_succ]
            refine any_take (i := 8) (oi := { dst := some 39, op := Op.pick (Operand.tmp 34) (Operand.tmp 38) (Operand.const (Value.bool false)), type := 4, pos := "law.go:43", after := #[{ on := 3, ground := Ground.data }, { on := 7, ground := Ground.data }], guard := none }) (v := .bool true) rfl (by kernel_rfl) (by kernel_rfl) (by kernel_rfl) (fun _ _ _ h => h) (by kernel_rfl) (fun _ _ => by kernel_rfl) hH ?_
            try simp only [Act.put, List.setIfInBounds_toArray, List.set_cons_zero, List.set_cons_succ]
            refine any_take (i := 9) (oi := { dst := some 40, op := Op.move (Operand.tmp 39), type := 4, pos := "law.go:43", after := #[{ on := 8, ground := Ground.data }, { on := 6, ground := Ground.chain }], guard := none }) (v := .bool true) rfl (by kernel_rfl) (by kernel_rfl) (by kernel_rfl) (fun _ _ _ h => h) (by kernel_rfl) (fun _ _ => by kernel_rfl) hH ?_
            try simp only [Act.put, List.setIfInBounds_toArray, List.set_cons_zero, List.set_cons_succ]
            refine any_skip (i := 10) (oi := { dst := some 41, op := Op.fieldAddr 38 (Operand.tmp 7) 0, type := 0, pos := "law.go:43", after := #[{ on := 9, ground := Ground.guard }], guard := some (9, false) }) rfl (by kernel_rfl) (by kernel_rfl) (by kernel_rfl) (fun _ _ _ h => h) (by kernel_rfl) hH ?_
            try simp only [Act.put, List.setIfInBounds_toArray, List.set_cons_zero, List.set_cons_succ]
            refine any_skip (i := 11) (oi := { dst := some 42, op := Op.load 3 (Operand.tmp 41), type := 3, pos := "law.go:43", after := #[{ on := 10, ground := Ground.data }, { on := 9, ground := Ground.guard }], guard := some (9, false) }) rfl (by kernel_rfl) (by kernel_rfl) (by kernel_rfl) (fun _ _ _ h => h) (by kernel_rfl) hH ?_
            try simp only [Act.put, List.setIfInBounds_toArray, List.set_cons_zero, List.set_cons_succ]
            refine any_skip (i := 12) (oi := { dst := some 43, op := Op.binOp BinOp.neq 3 (Operand.tmp 42) (Operand.const (Value.int IntKind.i64 1)) 3, type := 4, pos := "law.go:43", after := #[{ on := 11, ground := Ground.data }, { on := 9, ground := Ground.guard }], guard := some (9, false) }) rfl (by kernel_rfl) (by kernel_rfl) (by kernel_rfl) (fun _ _ _ h => h) (by kernel_rfl) hH ?_
            try simp only [Act.put, List.setIfInBounds_toArray, List.set_cons_zero, List.set_cons_succ]
            refine any_skip (i := 13) (oi := { dst := some 44, op := Op.move (Operand.tmp 43), type := 4, pos := "law.go:43", after := #[{ on := 12, ground := Ground.data }, { on := 9, ground := Ground.chain }, { on := 9, ground := Ground.guard }], guard := some (9, false) }) rfl (by kernel_rfl) (by kernel_rfl) (by kernel_rfl) (fun _ _ _ h => h) (by kernel_rfl) hH ?_
            try simp only [Act.put, List.setIfInBounds_toArray, List.set_cons_zero, List.set_cons_succ]
            refine any_skip (i := 14) (oi := { dst := some 45, op := Op.fieldAddr 38 (Operand.tmp 7) 2, type := 0, pos := "law.go:43", after := #[{ on := 13, ground := Ground.guard }], guard := some (13, true) }) rfl (by kernel_rfl) (by kernel_rfl) (by kernel_rfl) (fun _ _ _ h => h) (by kernel_rfl) hH ?_
            try simp only [Act.put, List.setIfInBounds_toArray, List.set_cons_zero, List.set_cons_succ]
            refine any_skip (i := 15) (oi := { dst := some 46, op := Op.load 27 (Operand.tmp 45), type := 27, pos := "law.go:43", after := #[{ on := 14, ground := Ground.data }, { on := 13, ground := Ground.guard }], guard := some (13, true) }) rfl (by kernel_rfl) (by kernel_rfl) (by kernel_rfl) (fun _ _ _ h => h) (by kernel_rfl) hH ?_
            try simp only [Act.put, List.setIfInBounds_toArray, List.set_cons_zero, List.set_cons_succ]
            refine any_skip (i := 16) (oi := { dst := some 47, op := Op.call { callee := Callee.value (Operand.func 8), args := #[], argTypes := #[] }, type := 35, pos := "law.go:43", after := #[{ on := 13, ground := Ground.chain }, { on := 13, ground := Ground.guard }], guard := some (13, true) }) rfl (by kernel_rfl) (by kernel_rfl) (by kernel_rfl) (fun _ _ _ h => h) (by kernel_rfl) hH ?_
            try simp only [Act.put, List.setIfInBounds_toArray, List.set_cons_zero, List.set_cons_succ]
            refine any_skip (i := 17) (oi := { dst := some 48, op := Op.call { callee := Callee.value (Operand.func 10), args := #[Operand.tmp 46, Operand.tmp 47], argTypes := #[27, 35] }, type := 4, pos := "law.go:43", after := #[{ on := 15, ground := Ground.data }, { on := 16, ground := Ground.data }, { on := 16, ground := Ground.chain }, { on := 13, ground := Ground.guard }], guard := some (13, true) }) rfl (by kernel_rfl) (by kernel_rfl) (by kernel_rfl) (fun _ _ _ h => h) (by kernel_rfl) hH ?_
            try simp only [Act.put, List.setIfInBounds_toArray, List.set_cons_zero, List.set_cons_succ]
            refine any_skip (i := 18) (oi := { dst := some 49, op := Op.unOp UnOp.not 4 (Operand.tmp 48), type := 4, pos := "law.go:43", after := #[{ on := 17, ground := Ground.data }, { on := 13, ground := Ground.guard }], guard := some (13, true) }) rfl (by kernel_rfl) (by kernel_rfl) (by kernel_rfl) (fun _ _ _ h => h) (by kernel_rfl) hH ?_
            try simp only [Act.put, List.setIfInBounds_toArray, List.set_cons_zero, List.set_cons_succ]
            refine any_skip (i := 19) (oi := { dst := some 50, op := Op.pick (Operand.tmp 44) (Operand.tmp 49) (Operand.const (Value.bool false)), type := 4, pos := "law.go:43", after := #[{ on := 13, ground := Ground.data }, { on := 18, ground := Ground.data }, { on := 9, ground := Ground.guard }], guard := some (9, false) }) rfl (by kernel_rfl) (by kernel_rfl) (by kernel_rfl) (fun _ _ _ h => h) (by kernel_rfl) hH ?_
            try simp only [Act.put, List.setIfInBounds_toArray, List.set_cons_zero, List.set_cons_succ]
            refine any_take (i := 20) (oi := { dst := some 51, op := Op.pick (Operand.tmp 40) (Operand.const (Value.bool true)) (Operand.tmp 50), type := 4, pos := "law.go:43", after := #[{ on := 9, ground := Ground.data }, { on := 19, ground := Ground.data }], guard := none }) (v := .bool true) rfl (by kernel_rfl) (by kernel_rfl) (by kernel_rfl) (fun _ _ _ h => h) (by kernel_rfl) (fun _ _ => by kernel_rfl) hH ?_
            try simp only [Act.put, List.setIfInBounds_toArray, List.set_cons_zero, List.set_cons_succ]
            refine wpAnyH_done (by kernel_rfl) ?_ _
            try simp only [Act.put, List.setIfInBounds_toArray, List.set_cons_zero, List.set_cons_succ]
            have HF : Hid (AtI w A wk12 (fun _ => True)) := ⟨_, HA.out, HK.out, Nat.lt_of_le_of_lt (by have := HO.out; omega) HLT.out, trivial⟩
            go_wp2
            go_roundw
            case measure => simp [intOf]; omega
            case rel => exact ⟨k + 1, by go_num, by omega, HF⟩
          · skip
            refine any_call (i := 6) (o := { dst := some 37, op := Op.call { callee := Callee.value (Operand.func 9), args := #[Operand.tmp 36], argTypes := #[23] }, type := 4, pos := "law.go:43", after := #[{ on := 5, ground := Ground.data }, { on := 3, ground := Ground.chain }, { on := 3, ground := Ground.guard }], guard := some (3, true) }) rfl (by kernel_rfl) (by kernel_rfl) 9 #[.agg #[.int .i64 x.b.n, .int .i64 x.b.c]] (by kernel_rfl) _ (one_any x.b.n x.b.c _) ?_
            rintro e wk13 ⟨rfl, hk⟩
            have HA : Hid (Box wk13 (A) 29 (at0.cells)) := HA.out.kept hk (fun e => e)
            have HS : Hid (Box wk13 (S7) 38 (x.cells)) := HS.out.kept hk (fun e => e)
            have HK : Hid (Kept No w wk13) := HK.out.then hk
            have HLT : Hid (S7 < wk13.heap.size) := Nat.lt_of_lt_of_le HLT.out hk.size
            clear hk
            refine ⟨.bool true, by rw [q3], HS.out, fun hH => ?_⟩
            try simp only [Act.put, List.setIfInBounds_toArray, List.set_cons_zero, List.set_cons_succ]
            refine any_take (i := 7) (oi := { dst := some 38, op := Op.unOp UnOp.not 4 (Operand.tmp 37), type := 4, pos := "law.go:43", after := #[{ on := 6, ground := Ground.data }, { on := 3, ground := Ground.guard }], guard := some (3, true) }) (v := .bool false) rfl (by kernel_rfl) (by kernel_rfl) (by kernel_rfl) (fun _ _ _ h => h) (by kernel_rfl) (fun _ _ => by kernel_rfl) hH ?_
            try simp only [Act.put, List.setIfInBounds_toArray, List.set_cons_zero, List.set_cons_succ]
            refine any_take (i := 8) (oi := { dst := some 39, op := Op.pick (Operand.tmp 34) (Operand.tmp 38) (Operand.const (Value.bool false)), type := 4, pos := "law.go:43", after := #[{ on := 3, ground := Ground.data }, { on := 7, ground := Ground.data }], guard := none }) (v := .bool false) rfl (by kernel_rfl) (by kernel_rfl) (by kernel_rfl) (fun _ _ _ h => h) (by kernel_rfl) (fun _ _ => by kernel_rfl) hH ?_
            try simp only [Act.put, List.setIfInBounds_toArray, List.set_cons_zero, List.set_cons_succ]
            refine any_take (i := 9) (oi := { dst := some 40, op := Op.move (Operand.tmp 39), type := 4, pos := "law.go:43", after := #[{ on := 8, ground := Ground.data }, { on := 6, ground := Ground.chain }], guard := none }) (v := .bool false) rfl (by kernel_rfl) (by kernel_rfl) (by kernel_rfl) (fun _ _ _ h => h) (by kernel_rfl) (fun _ _ => by kernel_rfl) hH ?_
            try simp only [Act.put, List.setIfInBounds_toArray, List.set_cons_zero, List.set_cons_succ]
            refine any_take (i := 10) (oi := { dst := some 41, op := Op.fieldAddr 38 (Operand.tmp 7) 0, type := 0, pos := "law.go:43", after := #[{ on := 9, ground := Ground.guard }], guard := some (9, false) }) (v := .pointer (some ⟨S7, 0, none⟩)) rfl (by kernel_rfl) (by kernel_rfl) (by kernel_rfl) (fun _ _ _ h => h) (by kernel_rfl) (fun _ _ => by kernel_rfl) hH ?_
            try simp only [Act.put, List.setIfInBounds_toArray, List.set_cons_zero, List.set_cons_succ]
            refine any_take (i := 11) (oi := { dst := some 42, op := Op.load 3 (Operand.tmp 41), type := 3, pos := "law.go:43", after := #[{ on := 10, ground := Ground.data }, { on := 9, ground := Ground.guard }], guard := some (9, false) }) (v := .int .i64 x.k) rfl (by kernel_rfl) (by kernel_rfl) (by kernel_rfl) (fun _ _ _ h => h) (by kernel_rfl) (fun w' hw => exec_load 3 _ rfl ⟨S7, 0, none⟩ (by kernel_rfl) (.int .i64 x.k) (load_N (hw.cell 0))) hH ?_
            try simp only [Act.put, List.setIfInBounds_toArray, List.set_cons_zero, List.set_cons_succ]
            cases q4 : (x.k == 1)
            · skip
              refine any_take (i := 12) (oi := { dst := some 43, op := Op.binOp BinOp.neq 3 (Operand.tmp 42) (Operand.const (Value.int IntKind.i64 1)) 3, type := 4, pos := "law.go:43", after := #[{ on := 11, ground := Ground.data }, { on := 9, ground := Ground.guard }], guard := some (9, false) }) (v := .bool true) rfl (by kernel_rfl) (by kernel_rfl) (by kernel_rfl) (fun _ _ _ h => h) (by kernel_rfl) (fun w' hw => exec_bin .neq 3 _ _ _ rfl (.int .i64 x.k) (.int .i64 1) (.bool true) (by kernel_rfl) (by kernel_rfl) (by kernel_rfl) (by rw [neqN, q4]; try rfl)) hH ?_
              try simp only [Act.put, List.setIfInBounds_toArray, List.set_cons_zero, List.set_cons_succ]
              refine any_take (i := 13) (oi := { dst := some 44, op := Op.move (Operand.tmp 43), type := 4, pos := "law.go:43", after := #[{ on := 12, ground := Ground.data }, { on := 9, ground := Ground.chain }, { on := 9, ground := Ground.guard }], guard := some (9, false) }) (v := .bool true) rfl (by kernel_rfl) (by kernel_rfl) (by kernel_rfl) (fun _ _ _ h => h) (by kernel_rfl) (fun _ _ => by kernel_rfl) hH ?_
              try simp only [Act.put, List.setIfInBounds_toArray, List.set_cons_zero, List.set_cons_succ]
              refine any_take (i := 14) (oi := { dst := some 45, op := Op.fieldAddr 38 (Operand.tmp 7) 2, type := 0, pos := "law.go:43", after := #[{ on := 13, ground := Ground.guard }], guard := some (13, true) }) (v := .pointer (some ⟨S7, 3, none⟩)) rfl (by kernel_rfl) (by kernel_rfl) (by kernel_rfl) (fun _ _ _ h => h) (by kernel_rfl) (fun _ _ => by kernel_rfl) hH ?_
              try simp only [Act.put, List.setIfInBounds_toArray, List.set_cons_zero, List.set_cons_succ]
              refine any_take (i := 15) (oi := { dst := some 46, op := Op.load 27 (Operand.tmp 45), type := 27, pos := "law.go:43", after := #[{ on := 14, ground := Ground.data }, { on := 13, ground := Ground.guard }], guard := some (13, true) }) (v := .agg x.c.cells) rfl (by kernel_rfl) (by kernel_rfl) (by kernel_rfl) (fun _ _ _ h => h) (by kernel_rfl) (fun w' hw => exec_load 27 _ rfl ⟨S7, 3, none⟩ (by kernel_rfl) (.agg x.c.cells) (load_XC hw)) hH ?_
              try simp only [Act.put, List.setIfInBounds_toArray, List.set_cons_zero, List.set_cons_succ]
              refine any_call (i := 16) (o := { dst := some 47, op := Op.call { callee := Callee.value (Operand.func 8), args := #[], argTypes := #[] }, type := 35, pos := "law.go:43", after := #[{ on := 13, ground := Ground.chain }, { on := 13, ground := Ground.guard }], guard := some (13, true) }) rfl (by kernel_rfl) (by kernel_rfl) 8 #[] (by kernel_rfl) _ (wide_any _) ?_
              rintro e wk15 ⟨wa14, rfl, hk⟩
              have HA : Hid (Box wk15 (A) 29 (at0.cells)) := HA.out.kept hk (fun e => e)
              have HS : Hid (Box wk15 (S7) 38 (x.cells)) := HS.out.kept hk (fun e => e)
              have HK : Hid (Kept No w wk15) := HK.out.then hk
              have HLT : Hid (S7 < wk15.heap.size) := Nat.lt_of_lt_of_le HLT.out hk.size
              clear hk
              refine ⟨.agg (wideC wa14), rfl, HS.out, fun hH => ?_⟩
              try simp only [Act.put, List.setIfInBounds_toArray, List.set_cons_zero, List.set_cons_succ]
              cases q5 : (cmdB x.c)
              · skip
                refine any_call (i := 17) (o := { dst := some 48, op := Op.call { callee := Callee.value (Operand.func 10), args := #[Operand.tmp 46, Operand.tmp 47], argTypes := #[27, 35] }, type := 4, pos := "law.go:43", after := #[{ on := 15, ground := Ground.data }, { on := 16, ground := Ground.data }, { on := 16, ground := Ground.chain }, { on := 13, ground := Ground.guard }], guard := some (13, true) }) rfl (by kernel_rfl) (by kernel_rfl) 10 #[.agg x.c.cells, .agg (wideC wa14)] (by kernel_rfl) _ (cmd_any x.c wa14 _) ?_
                rintro e wk16 ⟨rfl, hk⟩
                have HA : Hid (Box wk16 (A) 29 (at0.cells)) := HA.out.kept hk (fun e => e)
                have HS : Hid (Box wk16 (S7) 38 (x.cells)) := HS.out.kept hk (fun e => e)
                have HK : Hid (Kept No w wk16) := HK.out.then hk
                have HLT : Hid (S7 < wk16.heap.size) := Nat.lt_of_lt_of_le HLT.out hk.size
                clear hk
                refine ⟨.bool false, by rw [q5], HS.out, fun hH => ?_⟩
                try simp only [Act.put, List.setIfInBounds_toArray, List.set_cons_zero, List.set_cons_succ]
                refine any_take (i := 18) (oi := { dst := some 49, op := Op.unOp UnOp.not 4 (Operand.tmp 48), type := 4, pos := "law.go:43", after := #[{ on := 17, ground := Ground.data }, { on := 13, ground := Ground.guard }], guard := some (13, true) }) (v := .bool true) rfl (by kernel_rfl) (by kernel_rfl) (by kernel_rfl) (fun _ _ _ h => h) (by kernel_rfl) (fun _ _ => by kernel_rfl) hH ?_
                try simp only [Act.put, List.setIfInBounds_toArray, List.set_cons_zero, List.set_cons_succ]
                refine any_take (i := 19) (oi := { dst := some 50, op := Op.pick (Operand.tmp 44) (Operand.tmp 49) (Operand.const (Value.bool false)), type := 4, pos := "law.go:43", after := #[{ on := 13, ground := Ground.data }, { on := 18, ground := Ground.data }, { on := 9, ground := Ground.guard }], guard := some (9, false) }) (v := .bool true) rfl (by kernel_rfl) (by kernel_rfl) (by kernel_rfl) (fun _ _ _ h => h) (by kernel_rfl) (fun _ _ => by kernel_rfl) hH ?_
                try simp only [Act.put, List.setIfInBounds_toArray, List.set_cons_zero, List.set_cons_succ]
                refine any_take (i := 20) (oi := { dst := some 51, op := Op.pick (Operand.tmp 40) (Operand.const (Value.bool true)) (Operand.tmp 50), type := 4, pos := "law.go:43", after := #[{ on := 9, ground := Ground.data }, { on := 19, ground := Ground.data }], guard := none }) (v := .bool true) rfl (by kernel_rfl) (by kernel_rfl) (by kernel_rfl) (fun _ _ _ h => h) (by kernel_rfl) (fun _ _ => by kernel_rfl) hH ?_
                try simp only [Act.put, List.setIfInBounds_toArray, List.set_cons_zero, List.set_cons_succ]
                refine wpAnyH_done (by kernel_rfl) ?_ _
                try simp only [Act.put, List.setIfInBounds_toArray, List.set_cons_zero, List.set_cons_succ]
                have HF : Hid (AtI w A wk16 (fun _ => True)) := ⟨_, HA.out, HK.out, Nat.lt_of_le_of_lt (by have := HO.out; omega) HLT.out, trivial⟩
                go_wp2
                go_roundw
                case measure => simp [intOf]; omega
                case rel => exact ⟨k + 1, by go_num, by omega, HF⟩
              · skip
                refine any_call (i := 17) (o := { dst := some 48, op := Op.call { callee := Callee.value (Operand.func 10), args := #[Operand.tmp 46, Operand.tmp 47], argTypes := #[27, 35] }, type := 4, pos := "law.go:43", after := #[{ on := 15, ground := Ground.data }, { on := 16, ground := Ground.data }, { on := 16, ground := Ground.chain }, { on := 13, ground := Ground.guard }], guard := some (13, true) }) rfl (by kernel_rfl) (by kernel_rfl) 10 #[.agg x.c.cells, .agg (wideC wa14)] (by kernel_rfl) _ (cmd_any x.c wa14 _) ?_
                rintro e wk17 ⟨rfl, hk⟩
                have HA : Hid (Box wk17 (A) 29 (at0.cells)) := HA.out.kept hk (fun e => e)
                have HS : Hid (Box wk17 (S7) 38 (x.cells)) := HS.out.kept hk (fun e => e)
                have HK : Hid (Kept No w wk17) := HK.out.then hk
                have HLT : Hid (S7 < wk17.heap.size) := Nat.lt_of_lt_of_le HLT.out hk.size
                clear hk
                refine ⟨.bool true, by rw [q5], HS.out, fun hH => ?_⟩
                try simp only [Act.put, List.setIfInBounds_toArray, List.set_cons_zero, List.set_cons_succ]
                refine any_take (i := 18) (oi := { dst := some 49, op := Op.unOp UnOp.not 4 (Operand.tmp 48), type := 4, pos := "law.go:43", after := #[{ on := 17, ground := Ground.data }, { on := 13, ground := Ground.guard }], guard := some (13, true) }) (v := .bool false) rfl (by kernel_rfl) (by kernel_rfl) (by kernel_rfl) (fun _ _ _ h => h) (by kernel_rfl) (fun _ _ => by kernel_rfl) hH ?_
                try simp only [Act.put, List.setIfInBounds_toArray, List.set_cons_zero, List.set_cons_succ]
                refine any_take (i := 19) (oi := { dst := some 50, op := Op.pick (Operand.tmp 44) (Operand.tmp 49) (Operand.const (Value.bool false)), type := 4, pos := "law.go:43", after := #[{ on := 13, ground := Ground.data }, { on := 18, ground := Ground.data }, { on := 9, ground := Ground.guard }], guard := some (9, false) }) (v := .bool false) rfl (by kernel_rfl) (by kernel_rfl) (by kernel_rfl) (fun _ _ _ h => h) (by kernel_rfl) (fun _ _ => by kernel_rfl) hH ?_
                try simp only [Act.put, List.setIfInBounds_toArray, List.set_cons_zero, List.set_cons_succ]
                refine any_take (i := 20) (oi := { dst := some 51, op := Op.pick (Operand.tmp 40) (Operand.const (Value.bool true)) (Operand.tmp 50), type := 4, pos := "law.go:43", after := #[{ on := 9, ground := Ground.data }, { on := 19, ground := Ground.data }], guard := none }) (v := .bool false) rfl (by kernel_rfl) (by kernel_rfl) (by kernel_rfl) (fun _ _ _ h => h) (by kernel_rfl) (fun _ _ => by kernel_rfl) hH ?_
                try simp only [Act.put, List.setIfInBounds_toArray, List.set_cons_zero, List.set_cons_succ]
                refine wpAnyH_done (by kernel_rfl) ?_ _
                try simp only [Act.put, List.setIfInBounds_toArray, List.set_cons_zero, List.set_cons_succ]
                go_upto_region 11 with fail
                refine WL.start ?_
                refine wp_allocW (o := { dst := some 8, op := Op.alloc 29, type := 0, pos := "law.go:46", after := #[], guard := none }) 29 rfl (iZ.cells) zero29 wk17.heap.size rfl (by kernel_rfl) ?_
                try simp only [Act.put, List.setIfInBounds_toArray, List.set_cons_zero, List.set_cons_succ]
                have HP8 : Hid (Box (wk17.alloc (.cells (iZ.cells) 29)) wk17.heap.size 29 (iZ.cells)) := Box.new _ _ _
                have HA : Hid (Box (wk17.alloc (.cells (iZ.cells) 29)) (A) 29 (at0.cells)) := HA.out.alloc _
                have HS : Hid (Box (wk17.alloc (.cells (iZ.cells) 29)) (S7) 38 (x.cells)) := HS.out.alloc _
                have HK : Hid (Kept No w (wk17.alloc (.cells (iZ.cells) 29))) := HK.out.alloc _
                have HO : Hid (w.heap.size ≤ A ∧ A < S7 ∧ S7 < wk17.heap.size) := by
                  have h := HO.out
                  have l := HLT.out
                  show _ ∧ _
                  omega
                have HLT : Hid (wk17.heap.size < (wk17.alloc (.cells (iZ.cells) 29)).heap.size) := by show _ < _; simp
                generalize wk17.alloc (.cells (iZ.cells) 29) = wk18 at HA HS HP8 HK HLT ⊢
                generalize wk17.heap.size = P8 at HP8 HO HLT ⊢
                refine wp_allocW (o := { dst := some 9, op := Op.alloc 29, type := 0, pos := "law.go:46", after := #[], guard := none }) 29 rfl (iZ.cells) zero29 wk18.heap.size rfl (by kernel_rfl) ?_
                try simp only [Act.put, List.setIfInBounds_toArray, List.set_cons_zero, List.set_cons_succ]
                have HP9 : Hid (Box (wk18.alloc (.cells (iZ.cells) 29)) wk18.heap.size 29 (iZ.cells)) := Box.new _ _ _
                have HA : Hid (Box (wk18.alloc (.cells (iZ.cells) 29)) (A) 29 (at0.cells)) := HA.out.alloc _
                have HS : Hid (Box (wk18.alloc (.cells (iZ.cells) 29)) (S7) 38 (x.cells)) := HS.out.alloc _
                have HP8 : Hid (Box (wk18.alloc (.cells (iZ.cells) 29)) (P8) 29 (iZ.cells)) := HP8.out.alloc _
                have HK : Hid (Kept No w (wk18.alloc (.cells (iZ.cells) 29))) := HK.out.alloc _
                have HO : Hid (w.heap.size ≤ A ∧ A < S7 ∧ S7 < P8 ∧ P8 < wk18.heap.size) := by
                  have h := HO.out
                  have l := HLT.out
                  show _ ∧ _
                  omega
                have HLT : Hid (wk18.heap.size < (wk18.alloc (.cells (iZ.cells) 29)).heap.size) := by show _ < _; simp
                generalize wk18.alloc (.cells (iZ.cells) 29) = wk19 at HA HS HP8 HP9 HK HLT ⊢
                generalize wk18.heap.size = P9 at HP9 HO HLT ⊢
                refine WL.nil ?_
                try simp only [Act.put, List.setIfInBounds_toArray, List.set_cons_zero, List.set_cons_succ]
                go_upto_region 12 with fail
                refine WL.start ?_
                refine wp_allocW (o := { dst := some 10, op := Op.alloc 52, type := 0, pos := "law.go:47", after := #[], guard := none }) 52 rfl (mZ.cells) zero52 wk19.heap.size rfl (by kernel_rfl) ?_
                try simp only [Act.put, List.setIfInBounds_toArray, List.set_cons_zero, List.set_cons_succ]
                have HP10 : Hid (Box (wk19.alloc (.cells (mZ.cells) 52)) wk19.heap.size 52 (mZ.cells)) := Box.new _ _ _
                have HA : Hid (Box (wk19.alloc (.cells (mZ.cells) 52)) (A) 29 (at0.cells)) := HA.out.alloc _
                have HS : Hid (Box (wk19.alloc (.cells (mZ.cells) 52)) (S7) 38 (x.cells)) := HS.out.alloc _
                have HP8 : Hid (Box (wk19.alloc (.cells (mZ.cells) 52)) (P8) 29 (iZ.cells)) := HP8.out.alloc _
                have HP9 : Hid (Box (wk19.alloc (.cells (mZ.cells) 52)) (P9) 29 (iZ.cells)) := HP9.out.alloc _
                have HK : Hid (Kept No w (wk19.alloc (.cells (mZ.cells) 52))) := HK.out.alloc _
                have HO : Hid (w.heap.size ≤ A ∧ A < S7 ∧ S7 < P8 ∧ P8 < P9 ∧ P9 < wk19.heap.size) := by
                  have h := HO.out
                  have l := HLT.out
                  show _ ∧ _
                  omega
                have HLT : Hid (wk19.heap.size < (wk19.alloc (.cells (mZ.cells) 52)).heap.size) := by show _ < _; simp
                generalize wk19.alloc (.cells (mZ.cells) 52) = wk20 at HA HS HP8 HP9 HP10 HK HLT ⊢
                generalize wk19.heap.size = P10 at HP10 HO HLT ⊢
                refine wp_allocW (o := { dst := some 11, op := Op.alloc 52, type := 0, pos := "law.go:47", after := #[], guard := none }) 52 rfl (mZ.cells) zero52 wk20.heap.size rfl (by kernel_rfl) ?_
                try simp only [Act.put, List.setIfInBounds_toArray, List.set_cons_zero, List.set_cons_succ]
                have HP11 : Hid (Box (wk20.alloc (.cells (mZ.cells) 52)) wk20.heap.size 52 (mZ.cells)) := Box.new _ _ _
                have HA : Hid (Box (wk20.alloc (.cells (mZ.cells) 52)) (A) 29 (at0.cells)) := HA.out.alloc _
                have HS : Hid (Box (wk20.alloc (.cells (mZ.cells) 52)) (S7) 38 (x.cells)) := HS.out.alloc _
                have HP8 : Hid (Box (wk20.alloc (.cells (mZ.cells) 52)) (P8) 29 (iZ.cells)) := HP8.out.alloc _
                have HP9 : Hid (Box (wk20.alloc (.cells (mZ.cells) 52)) (P9) 29 (iZ.cells)) := HP9.out.alloc _
                have HP10 : Hid (Box (wk20.alloc (.cells (mZ.cells) 52)) (P10) 52 (mZ.cells)) := HP10.out.alloc _
                have HK : Hid (Kept No w (wk20.alloc (.cells (mZ.cells) 52))) := HK.out.alloc _
                have HO : Hid (w.heap.size ≤ A ∧ A < S7 ∧ S7 < P8 ∧ P8 < P9 ∧ P9 < P10 ∧ P10 < wk20.heap.size) := by
                  have h := HO.out
                  have l := HLT.out
                  show _ ∧ _
                  omega
                have HLT : Hid (wk20.heap.size < (wk20.alloc (.cells (mZ.cells) 52)).heap.size) := by show _ < _; simp
                generalize wk20.alloc (.cells (mZ.cells) 52) = wk21 at HA HS HP8 HP9 HP10 HP11 HK HLT ⊢
                generalize wk20.heap.size = P11 at HP11 HO HLT ⊢
                refine WL.nil ?_
                try simp only [Act.put, List.setIfInBounds_toArray, List.set_cons_zero, List.set_cons_succ]
                go_upto_region 14 with fail
                refine WL.start ?_
                refine wp_takeW (o := { dst := some 52, op := Op.fieldAddr 38 (Operand.tmp 7) 0, type := 0, pos := "law.go:49", after := #[], guard := none }) (.pointer (some ⟨S7, 0, none⟩)) (by kernel_rfl) (by kernel_rfl) ?_
                try simp only [Act.put, List.setIfInBounds_toArray, List.set_cons_zero, List.set_cons_succ]
                refine wp_takeW (o := { dst := some 53, op := Op.load 3 (Operand.tmp 52), type := 3, pos := "law.go:49", after := #[{ on := 0, ground := Ground.data }], guard := none }) (.int .i64 x.k) (exec_load 3 _ rfl ⟨S7, 0, none⟩ (by kernel_rfl) (.int .i64 x.k) (load_N (HS.out.cell 0))) (by kernel_rfl) ?_
                try simp only [Act.put, List.setIfInBounds_toArray, List.set_cons_zero, List.set_cons_succ]
                refine WL.nil ?_
                try simp only [Act.put, List.setIfInBounds_toArray, List.set_cons_zero, List.set_cons_succ]
                go_upto_region 15 with fail
                refine WL.start ?_
                refine wp_takeW (o := { dst := some 55, op := Op.binOp BinOp.eql 3 (Operand.tmp 53) (Operand.const (Value.int IntKind.i64 1)) 3, type := 4, pos := "law.go:50", after := #[], guard := none }) (.bool false) (exec_bin .eql 3 _ _ _ rfl (.int .i64 x.k) (.int .i64 1) (.bool false) (by kernel_rfl) (by kernel_rfl) (by kernel_rfl) (by rw [eqlN, q4]; try rfl)) (by kernel_rfl) ?_
                try simp only [Act.put, List.setIfInBounds_toArray, List.set_cons_zero, List.set_cons_succ]
                refine wp_takeW (o := { dst := some 54, op := Op.assign (Operand.tmp 55), type := 4, pos := "law.go:50", after := #[{ on := 0, ground := Ground.data }], guard := none }) (.bool false) (by kernel_rfl) (by kernel_rfl) ?_
                try simp only [Act.put, List.setIfInBounds_toArray, List.set_cons_zero, List.set_cons_succ]
                refine WL.nil ?_
                try simp only [Act.put, List.setIfInBounds_toArray, List.set_cons_zero, List.set_cons_succ]
                go_upto_region 18 with fail
                refine WL.start ?_
                cases q6 : (x.k == 2)
                · skip
                  refine wp_takeW (o := { dst := some 73, op := Op.binOp BinOp.eql 3 (Operand.tmp 53) (Operand.const (Value.int IntKind.i64 2)) 3, type := 4, pos := "law.go:53", after := #[], guard := none }) (.bool false) (exec_bin .eql 3 _ _ _ rfl (.int .i64 x.k) (.int .i64 2) (.bool false) (by kernel_rfl) (by kernel_rfl) (by kernel_rfl) (by rw [eqlN, q6]; try rfl)) (by kernel_rfl) ?_
                  try simp only [Act.put, List.setIfInBounds_toArray, List.set_cons_zero, List.set_cons_succ]
                  refine wp_takeW (o := { dst := some 72, op := Op.assign (Operand.tmp 73), type := 4, pos := "law.go:53", after := #[{ on := 0, ground := Ground.data }], guard := none }) (.bool false) (by kernel_rfl) (by kernel_rfl) ?_
                  try simp only [Act.put, List.setIfInBounds_toArray, List.set_cons_zero, List.set_cons_succ]
                  refine WL.nil ?_
                  try simp only [Act.put, List.setIfInBounds_toArray, List.set_cons_zero, List.set_cons_succ]
                  go_upto_region 21 with fail
                  refine WL.start ?_
                  refine wp_takeW (o := { dst := some 95, op := Op.binOp BinOp.eql 3 (Operand.tmp 53) (Operand.const (Value.int IntKind.i64 3)) 3, type := 4, pos := "law.go:56", after := #[], guard := none }) (.bool false) (exec_bin .eql 3 _ _ _ rfl (.int .i64 x.k) (.int .i64 3) (.bool false) (by kernel_rfl) (by kernel_rfl) (by kernel_rfl) (by rw [eqlN, q2]; try rfl)) (by kernel_rfl) ?_
                  try simp only [Act.put, List.setIfInBounds_toArray, List.set_cons_zero, List.set_cons_succ]
                  refine wp_takeW (o := { dst := some 94, op := Op.assign (Operand.tmp 95), type := 4, pos := "law.go:56", after := #[{ on := 0, ground := Ground.data }], guard := none }) (.bool false) (by kernel_rfl) (by kernel_rfl) ?_
                  try simp only [Act.put, List.setIfInBounds_toArray, List.set_cons_zero, List.set_cons_succ]
                  refine WL.nil ?_
                  try simp only [Act.put, List.setIfInBounds_toArray, List.set_cons_zero, List.set_cons_succ]
                  go_upto_region 24 with fail
                  refine WL.start ?_
                  refine wp_takeW (o := { dst := some 110, op := Op.load 29 (Operand.tmp 8), type := 29, pos := "law.go:60", after := #[], guard := none }) (.agg iZ.cells) (exec_load 29 _ rfl ⟨P8, 0, none⟩ (by kernel_rfl) (.agg iZ.cells) (load_I HP8.out)) (by kernel_rfl) ?_
                  try simp only [Act.put, List.setIfInBounds_toArray, List.set_cons_zero, List.set_cons_succ]
                  refine wp_takeW (o := { dst := some 111, op := Op.load 29 (Operand.tmp 9), type := 29, pos := "law.go:60", after := #[], guard := none }) (.agg iZ.cells) (exec_load 29 _ rfl ⟨P9, 0, none⟩ (by kernel_rfl) (.agg iZ.cells) (load_I HP9.out)) (by kernel_rfl) ?_
                  try simp only [Act.put, List.setIfInBounds_toArray, List.set_cons_zero, List.set_cons_succ]
                  refine wp_takeW (o := { dst := some 112, op := Op.binOp BinOp.neq 29 (Operand.tmp 110) (Operand.tmp 111) 29, type := 4, pos := "law.go:60", after := #[{ on := 0, ground := Ground.data }, { on := 1, ground := Ground.data }], guard := none }) (.bool false) (exec_bin .neq 29 _ _ _ rfl (.agg iZ.cells) (.agg iZ.cells) (.bool false) (by kernel_rfl) (by kernel_rfl) (guard_I _ (.inr rfl) _ _ _ _ _) (by rw [neqI, eqI_refl]; rfl)) (by kernel_rfl) ?_
                  try simp only [Act.put, List.setIfInBounds_toArray, List.set_cons_zero, List.set_cons_succ]
                  refine wp_takeW (o := { dst := some 113, op := Op.move (Operand.tmp 112), type := 4, pos := "law.go:60", after := #[{ on := 2, ground := Ground.data }], guard := none }) (.bool false) (by kernel_rfl) (by kernel_rfl) ?_
                  try simp only [Act.put, List.setIfInBounds_toArray, List.set_cons_zero, List.set_cons_succ]
                  refine wp_takeW (o := { dst := some 114, op := Op.move (Operand.tmp 12), type := 4, pos := "law.go:60", after := #[{ on := 3, ground := Ground.guard }], guard := some (3, false) }) (.bool false) (by kernel_rfl) (by kernel_rfl) ?_
                  try simp only [Act.put, List.setIfInBounds_toArray, List.set_cons_zero, List.set_cons_succ]
                  refine wp_takeW (o := { dst := some 115, op := Op.move (Operand.tmp 13), type := 4, pos := "law.go:60", after := #[{ on := 3, ground := Ground.guard }], guard := some (3, false) }) (.bool false) (by kernel_rfl) (by kernel_rfl) ?_
                  try simp only [Act.put, List.setIfInBounds_toArray, List.set_cons_zero, List.set_cons_succ]
                  refine wp_takeW (o := { dst := some 116, op := Op.binOp BinOp.neq 4 (Operand.tmp 114) (Operand.tmp 115) 4, type := 4, pos := "law.go:60", after := #[{ on := 4, ground := Ground.data }, { on := 5, ground := Ground.data }, { on := 3, ground := Ground.guard }], guard := some (3, false) }) (.bool false) (exec_bin .neq 4 _ _ _ rfl (.bool false) (.bool false) (.bool false) (by kernel_rfl) (by kernel_rfl) (by kernel_rfl) (by rw [neqB, show (false == false) = true from rfl]; first | rfl | simp)) (by kernel_rfl) ?_
                  try simp only [Act.put, List.setIfInBounds_toArray, List.set_cons_zero, List.set_cons_succ]
                  refine wp_takeW (o := { dst := some 117, op := Op.pick (Operand.tmp 113) (Operand.const (Value.bool true)) (Operand.tmp 116), type := 4, pos := "law.go:60", after := #[{ on := 3, ground := Ground.data }, { on := 6, ground := Ground.data }], guard := none }) (.bool false) (by kernel_rfl) (by kernel_rfl) ?_
                  try simp only [Act.put, List.setIfInBounds_toArray, List.set_cons_zero, List.set_cons_succ]
                  refine wp_takeW (o := { dst := some 118, op := Op.move (Operand.tmp 117), type := 4, pos := "law.go:60", after := #[{ on := 7, ground := Ground.data }, { on := 3, ground := Ground.chain }], guard := none }) (.bool false) (by kernel_rfl) (by kernel_rfl) ?_
                  try simp only [Act.put, List.setIfInBounds_toArray, List.set_cons_zero, List.set_cons_succ]
                  refine wp_takeW (o := { dst := some 119, op := Op.load 52 (Operand.tmp 10), type := 52, pos := "law.go:60", after := #[{ on := 8, ground := Ground.guard }], guard := some (8, false) }) (.agg (mZ.cells)) (exec_load 52 _ rfl ⟨P10, 0, none⟩ (by kernel_rfl) (.agg (mZ.cells)) (load_M HP10.out)) (by kernel_rfl) ?_
                  try simp only [Act.put, List.setIfInBounds_toArray, List.set_cons_zero, List.set_cons_succ]
                  refine wp_takeW (o := { dst := some 120, op := Op.load 52 (Operand.tmp 11), type := 52, pos := "law.go:60", after := #[{ on := 8, ground := Ground.guard }], guard := some (8, false) }) (.agg (mZ.cells)) (exec_load 52 _ rfl ⟨P11, 0, none⟩ (by kernel_rfl) (.agg (mZ.cells)) (load_M HP11.out)) (by kernel_rfl) ?_
                  try simp only [Act.put, List.setIfInBounds_toArray, List.set_cons_zero, List.set_cons_succ]
                  refine wp_callW (o := { dst := some 121, op := Op.call { callee := Callee.value (Operand.func 17), args := #[Operand.tmp 119, Operand.tmp 120], argTypes := #[52, 52] }, type := 4, pos := "law.go:60", after := #[{ on := 9, ground := Ground.data }, { on := 10, ground := Ground.data }, { on := 8, ground := Ground.chain }, { on := 8, ground := Ground.guard }], guard := some (8, false) }) 17 #[.agg (mZ.cells), .agg (mZ.cells)] (by kernel_rfl) _ (same_any _ _) (by kernel_rfl) ?_
                  rintro e wk22 ⟨rfl, hk⟩
                  have HA : Hid (Box wk22 (A) 29 (at0.cells)) := HA.out.kept hk (fun e => e)
                  have HS : Hid (Box wk22 (S7) 38 (x.cells)) := HS.out.kept hk (fun e => e)
                  have HP8 : Hid (Box wk22 (P8) 29 (iZ.cells)) := HP8.out.kept hk (fun e => e)
                  have HP9 : Hid (Box wk22 (P9) 29 (iZ.cells)) := HP9.out.kept hk (fun e => e)
                  have HP10 : Hid (Box wk22 (P10) 52 (mZ.cells)) := HP10.out.kept hk (fun e => e)
                  have HP11 : Hid (Box wk22 (P11) 52 (mZ.cells)) := HP11.out.kept hk (fun e => e)
                  have HK : Hid (Kept No w wk22) := HK.out.then hk
                  have HLT : Hid (P11 < wk22.heap.size) := Nat.lt_of_lt_of_le HLT.out hk.size
                  clear hk
                  refine ⟨.bool true, rfl, ?_⟩
                  try simp only [Act.put, List.setIfInBounds_toArray, List.set_cons_zero, List.set_cons_succ]
                  refine wp_takeW (o := { dst := some 122, op := Op.unOp UnOp.not 4 (Operand.tmp 121), type := 4, pos := "law.go:60", after := #[{ on := 11, ground := Ground.data }, { on := 8, ground := Ground.guard }], guard := some (8, false) }) (.bool false) (by kernel_rfl) (by kernel_rfl) ?_
                  try simp only [Act.put, List.setIfInBounds_toArray, List.set_cons_zero, List.set_cons_succ]
                  refine wp_takeW (o := { dst := some 123, op := Op.pick (Operand.tmp 118) (Operand.const (Value.bool true)) (Operand.tmp 122), type := 4, pos := "law.go:60", after := #[{ on := 8, ground := Ground.data }, { on := 12, ground := Ground.data }], guard := none }) (.bool false) (by kernel_rfl) (by kernel_rfl) ?_
                  try simp only [Act.put, List.setIfInBounds_toArray, List.set_cons_zero, List.set_cons_succ]
                  refine WL.nil ?_
                  try simp only [Act.put, List.setIfInBounds_toArray, List.set_cons_zero, List.set_cons_succ]
                  go_upto_region 26 with fail
                  refine WL.start ?_
                  refine wp_takeW (o := { dst := some 124, op := Op.load 29 (Operand.tmp 9), type := 29, pos := "law.go:63", after := #[], guard := none }) (.agg iZ.cells) (exec_load 29 _ rfl ⟨P9, 0, none⟩ (by kernel_rfl) (.agg iZ.cells) (load_I HP9.out)) (by kernel_rfl) ?_
                  try simp only [Act.put, List.setIfInBounds_toArray, List.set_cons_zero, List.set_cons_succ]
                  refine wp_storeW (o := { dst := none, op := Op.store 29 (Operand.tmp 5) (Operand.tmp 124), type := 0, pos := "law.go:63", after := #[{ on := 0, ground := Ground.data }, { on := 0, ground := Ground.phase }], guard := none }) 29 _ _ rfl ⟨A, 0, none⟩ (.agg iZ.cells) (by kernel_rfl) (by kernel_rfl) _ (store_I HA.out rfl) (by kernel_rfl) ?_
                  try simp only [Act.put, List.setIfInBounds_toArray, List.set_cons_zero, List.set_cons_succ]
                  have HLT : Hid (P11 < (wk22.setRow A (iZ.cells)).heap.size) := by show _ < _; rw [setRow_size]; exact HLT.out
                  have HA : Hid (Box (wk22.setRow A (iZ.cells)) (A) 29 (iZ.cells)) := HA.out.setRow _
                  have HS : Hid (Box (wk22.setRow A (iZ.cells)) (S7) 38 (x.cells)) := HS.out.rowNe (by have := HO.out; omega) _
                  have HP8 : Hid (Box (wk22.setRow A (iZ.cells)) (P8) 29 (iZ.cells)) := HP8.out.rowNe (by have := HO.out; omega) _
                  have HP9 : Hid (Box (wk22.setRow A (iZ.cells)) (P9) 29 (iZ.cells)) := HP9.out.rowNe (by have := HO.out; omega) _
                  have HP10 : Hid (Box (wk22.setRow A (iZ.cells)) (P10) 52 (mZ.cells)) := HP10.out.rowNe (by have := HO.out; omega) _
                  have HP11 : Hid (Box (wk22.setRow A (iZ.cells)) (P11) 52 (mZ.cells)) := HP11.out.rowNe (by have := HO.out; omega) _
                  have HK : Hid (Kept No w (wk22.setRow A (iZ.cells))) := HK.out.newRow (by have := HO.out; omega) _
                  generalize wk22.setRow A (iZ.cells) = wk23 at HA HS HP8 HP9 HP10 HP11 HK HLT ⊢
                  refine WL.nil ?_
                  try simp only [Act.put, List.setIfInBounds_toArray, List.set_cons_zero, List.set_cons_succ]
                  have HF : Hid (AtI w A wk23 (fun _ => True)) := ⟨_, HA.out, HK.out, Nat.lt_of_le_of_lt (by have := HO.out; omega) HLT.out, trivial⟩
                  go_wp2
                  go_roundw
                  case measure => simp [intOf]; omega
                  case rel => exact ⟨k + 1, by go_num, by omega, HF⟩
                · skip
                  refine wp_takeW (o := { dst := some 73, op := Op.binOp BinOp.eql 3 (Operand.tmp 53) (Operand.const (Value.int IntKind.i64 2)) 3, type := 4, pos := "law.go:53", after := #[], guard := none }) (.bool true) (exec_bin .eql 3 _ _ _ rfl (.int .i64 x.k) (.int .i64 2) (.bool true) (by kernel_rfl) (by kernel_rfl) (by kernel_rfl) (by rw [eqlN, q6]; try rfl)) (by kernel_rfl) ?_
                  try simp only [Act.put, List.setIfInBounds_toArray, List.set_cons_zero, List.set_cons_succ]
                  refine wp_takeW (o := { dst := some 72, op := Op.assign (Operand.tmp 73), type := 4, pos := "law.go:53", after := #[{ on := 0, ground := Ground.data }], guard := none }) (.bool true) (by kernel_rfl) (by kernel_rfl) ?_
                  try simp only [Act.put, List.setIfInBounds_toArray, List.set_cons_zero, List.set_cons_succ]
                  refine WL.nil ?_
                  try simp only [Act.put, List.setIfInBounds_toArray, List.set_cons_zero, List.set_cons_succ]
                  go_upto_region 19 with fail
                  refine WL.start ?_
                  refine wp_takeW (o := { dst := some 75, op := Op.load 29 (Operand.tmp 5), type := 29, pos := "law.go:54", after := #[], guard := none }) (.agg at0.cells) (exec_load 29 _ rfl ⟨A, 0, none⟩ (by kernel_rfl) (.agg at0.cells) (load_I HA.out)) (by kernel_rfl) ?_
                  try simp only [Act.put, List.setIfInBounds_toArray, List.set_cons_zero, List.set_cons_succ]
                  refine wp_takeW (o := { dst := some 76, op := Op.fieldAddr 38 (Operand.tmp 7) 1, type := 0, pos := "law.go:54", after := #[], guard := none }) (.pointer (some ⟨S7, 1, none⟩)) (by kernel_rfl) (by kernel_rfl) ?_
                  try simp only [Act.put, List.setIfInBounds_toArray, List.set_cons_zero, List.set_cons_succ]
                  refine wp_takeW (o := { dst := some 77, op := Op.load 23 (Operand.tmp 76), type := 23, pos := "law.go:54", after := #[{ on := 1, ground := Ground.data }], guard := none }) (.agg #[.int .i64 x.b.n, .int .i64 x.b.c]) (exec_load 23 _ rfl ⟨S7, 1, none⟩ (by kernel_rfl) (.agg #[.int .i64 x.b.n, .int .i64 x.b.c]) (load_S HS.out x.partB)) (by kernel_rfl) ?_
                  try simp only [Act.put, List.setIfInBounds_toArray, List.set_cons_zero, List.set_cons_succ]
                  refine wp_takeW (o := { dst := some 78, op := Op.fieldAddr 38 (Operand.tmp 7) 2, type := 0, pos := "law.go:54", after := #[], guard := none }) (.pointer (some ⟨S7, 3, none⟩)) (by kernel_rfl) (by kernel_rfl) ?_
                  try simp only [Act.put, List.setIfInBounds_toArray, List.set_cons_zero, List.set_cons_succ]
                  refine wp_takeW (o := { dst := some 79, op := Op.load 27 (Operand.tmp 78), type := 27, pos := "law.go:54", after := #[{ on := 3, ground := Ground.data }], guard := none }) (.agg x.c.cells) (exec_load 27 _ rfl ⟨S7, 3, none⟩ (by kernel_rfl) (.agg x.c.cells) (load_XC HS.out)) (by kernel_rfl) ?_
                  try simp only [Act.put, List.setIfInBounds_toArray, List.set_cons_zero, List.set_cons_succ]
                  refine wp_callW (o := { dst := some 80, op := Op.call { callee := Callee.value (Operand.func 13), args := #[Operand.tmp 75, Operand.tmp 77, Operand.tmp 79], argTypes := #[29, 23, 27] }, type := 53, pos := "law.go:54", after := #[{ on := 0, ground := Ground.data }, { on := 2, ground := Ground.data }, { on := 4, ground := Ground.data }], guard := none }) 13 #[.agg at0.cells, .agg #[.int .i64 x.b.n, .int .i64 x.b.c], .agg x.c.cells] (by kernel_rfl) _ (acc_any at0 x.b x.c _) (by kernel_rfl) ?_
                  rintro e wk24 ⟨rfl, hk⟩
                  have HA : Hid (Box wk24 (A) 29 (at0.cells)) := HA.out.kept hk (fun e => e)
                  have HS : Hid (Box wk24 (S7) 38 (x.cells)) := HS.out.kept hk (fun e => e)
                  have HP8 : Hid (Box wk24 (P8) 29 (iZ.cells)) := HP8.out.kept hk (fun e => e)
                  have HP9 : Hid (Box wk24 (P9) 29 (iZ.cells)) := HP9.out.kept hk (fun e => e)
                  have HP10 : Hid (Box wk24 (P10) 52 (mZ.cells)) := HP10.out.kept hk (fun e => e)
                  have HP11 : Hid (Box wk24 (P11) 52 (mZ.cells)) := HP11.out.kept hk (fun e => e)
                  have HK : Hid (Kept No w wk24) := HK.out.then hk
                  have HLT : Hid (P11 < wk24.heap.size) := Nat.lt_of_lt_of_le HLT.out hk.size
                  clear hk
                  refine ⟨.tuple #[.agg (accI at0 x.b x.c).cells, .agg (accM at0 x.b).cells, .bool (accB at0 x.b x.c)], rfl, ?_⟩
                  try simp only [Act.put, List.setIfInBounds_toArray, List.set_cons_zero, List.set_cons_succ]
                  refine wp_takeW (o := { dst := some 74, op := Op.move (Operand.tmp 80), type := 53, pos := "law.go:54", after := #[{ on := 5, ground := Ground.data }], guard := none }) (.tuple #[.agg (accI at0 x.b x.c).cells, .agg (accM at0 x.b).cells, .bool (accB at0 x.b x.c)]) (by kernel_rfl) (by kernel_rfl) ?_
                  try simp only [Act.put, List.setIfInBounds_toArray, List.set_cons_zero, List.set_cons_succ]
                  refine wp_takeW (o := { dst := some 81, op := Op.extract (Operand.tmp 74) 0, type := 29, pos := "law.go:54", after := #[{ on := 6, ground := Ground.data }], guard := none }) (.agg (accI at0 x.b x.c).cells) (by kernel_rfl) (by kernel_rfl) ?_
                  try simp only [Act.put, List.setIfInBounds_toArray, List.set_cons_zero, List.set_cons_succ]
                  refine wp_takeW (o := { dst := some 82, op := Op.extract (Operand.tmp 74) 1, type := 52, pos := "law.go:54", after := #[{ on := 6, ground := Ground.data }, { on := 10, ground := Ground.gcOnly Departure.lateStores }], guard := none }) (.agg (accM at0 x.b).cells) (by kernel_rfl) (by kernel_rfl) ?_
                  try simp only [Act.put, List.setIfInBounds_toArray, List.set_cons_zero, List.set_cons_succ]
                  refine wp_takeW (o := { dst := some 83, op := Op.extract (Operand.tmp 74) 2, type := 4, pos := "law.go:54", after := #[{ on := 6, ground := Ground.data }, { on := 11, ground := Ground.gcOnly Departure.lateStores }], guard := none }) (.bool (accB at0 x.b x.c)) (by kernel_rfl) (by kernel_rfl) ?_
                  try simp only [Act.put, List.setIfInBounds_toArray, List.set_cons_zero, List.set_cons_succ]
                  refine wp_storeW (o := { dst := none, op := Op.store 29 (Operand.tmp 8) (Operand.tmp 81), type := 0, pos := "law.go:54", after := #[{ on := 7, ground := Ground.data }, { on := 5, ground := Ground.chain }, { on := 0, ground := Ground.phase }, { on := 1, ground := Ground.phase }, { on := 2, ground := Ground.phase }, { on := 3, ground := Ground.phase }, { on := 4, ground := Ground.phase }, { on := 5, ground := Ground.phase }, { on := 6, ground := Ground.phase }, { on := 7, ground := Ground.phase }, { on := 8, ground := Ground.textOnly Departure.lateStores }, { on := 9, ground := Ground.textOnly Departure.lateStores }], guard := none }) 29 _ _ rfl ⟨P8, 0, none⟩ (.agg (accI at0 x.b x.c).cells) (by kernel_rfl) (by kernel_rfl) _ (store_I HP8.out rfl) (by kernel_rfl) ?_
                  try simp only [Act.put, List.setIfInBounds_toArray, List.set_cons_zero, List.set_cons_succ]
                  have HLT : Hid (P11 < (wk24.setRow P8 ((accI at0 x.b x.c).cells)).heap.size) := by show _ < _; rw [setRow_size]; exact HLT.out
                  have HA : Hid (Box (wk24.setRow P8 ((accI at0 x.b x.c).cells)) (A) 29 (at0.cells)) := HA.out.rowNe (by have := HO.out; omega) _
                  have HS : Hid (Box (wk24.setRow P8 ((accI at0 x.b x.c).cells)) (S7) 38 (x.cells)) := HS.out.rowNe (by have := HO.out; omega) _
                  have HP8 : Hid (Box (wk24.setRow P8 ((accI at0 x.b x.c).cells)) (P8) 29 ((accI at0 x.b x.c).cells)) := HP8.out.setRow _
                  have HP9 : Hid (Box (wk24.setRow P8 ((accI at0 x.b x.c).cells)) (P9) 29 (iZ.cells)) := HP9.out.rowNe (by have := HO.out; omega) _
                  have HP10 : Hid (Box (wk24.setRow P8 ((accI at0 x.b x.c).cells)) (P10) 52 (mZ.cells)) := HP10.out.rowNe (by have := HO.out; omega) _
                  have HP11 : Hid (Box (wk24.setRow P8 ((accI at0 x.b x.c).cells)) (P11) 52 (mZ.cells)) := HP11.out.rowNe (by have := HO.out; omega) _
                  have HK : Hid (Kept No w (wk24.setRow P8 ((accI at0 x.b x.c).cells))) := HK.out.newRow (by have := HO.out; omega) _
                  generalize wk24.setRow P8 ((accI at0 x.b x.c).cells) = wk25 at HA HS HP8 HP9 HP10 HP11 HK HLT ⊢
                  refine wp_storeW (o := { dst := none, op := Op.store 52 (Operand.tmp 10) (Operand.tmp 82), type := 0, pos := "law.go:54", after := #[{ on := 8, ground := Ground.data }, { on := 10, ground := Ground.chain }, { on := 0, ground := Ground.phase }, { on := 1, ground := Ground.phase }, { on := 2, ground := Ground.phase }, { on := 3, ground := Ground.phase }, { on := 4, ground := Ground.phase }, { on := 5, ground := Ground.phase }, { on := 6, ground := Ground.phase }, { on := 7, ground := Ground.phase }, { on := 8, ground := Ground.phase }, { on := 9, ground := Ground.textOnly Departure.lateStores }, { on := 10, ground := Ground.phase }], guard := none }) 52 _ _ rfl ⟨P10, 0, none⟩ (.agg (accM at0 x.b).cells) (by kernel_rfl) (by kernel_rfl) _ (store_M HP10.out rfl) (by kernel_rfl) ?_
                  try simp only [Act.put, List.setIfInBounds_toArray, List.set_cons_zero, List.set_cons_succ]
                  have HLT : Hid (P11 < (wk25.setRow P10 ((accM at0 x.b).cells)).heap.size) := by show _ < _; rw [setRow_size]; exact HLT.out
                  have HA : Hid (Box (wk25.setRow P10 ((accM at0 x.b).cells)) (A) 29 (at0.cells)) := HA.out.rowNe (by have := HO.out; omega) _
                  have HS : Hid (Box (wk25.setRow P10 ((accM at0 x.b).cells)) (S7) 38 (x.cells)) := HS.out.rowNe (by have := HO.out; omega) _
                  have HP8 : Hid (Box (wk25.setRow P10 ((accM at0 x.b).cells)) (P8) 29 ((accI at0 x.b x.c).cells)) := HP8.out.rowNe (by have := HO.out; omega) _
                  have HP9 : Hid (Box (wk25.setRow P10 ((accM at0 x.b).cells)) (P9) 29 (iZ.cells)) := HP9.out.rowNe (by have := HO.out; omega) _
                  have HP10 : Hid (Box (wk25.setRow P10 ((accM at0 x.b).cells)) (P10) 52 ((accM at0 x.b).cells)) := HP10.out.setRow _
                  have HP11 : Hid (Box (wk25.setRow P10 ((accM at0 x.b).cells)) (P11) 52 (mZ.cells)) := HP11.out.rowNe (by have := HO.out; omega) _
                  have HK : Hid (Kept No w (wk25.setRow P10 ((accM at0 x.b).cells))) := HK.out.newRow (by have := HO.out; omega) _
                  generalize wk25.setRow P10 ((accM at0 x.b).cells) = wk26 at HA HS HP8 HP9 HP10 HP11 HK HLT ⊢
                  refine wp_takeW (o := { dst := some 12, op := Op.assign (Operand.tmp 83), type := 4, pos := "law.go:54", after := #[{ on := 9, ground := Ground.data }, { on := 11, ground := Ground.chain }, { on := 0, ground := Ground.phase }, { on := 1, ground := Ground.phase }, { on := 2, ground := Ground.phase }, { on := 3, ground := Ground.phase }, { on := 4, ground := Ground.phase }, { on := 5, ground := Ground.phase }, { on := 6, ground := Ground.phase }, { on := 7, ground := Ground.phase }, { on := 8, ground := Ground.phase }, { on := 9, ground := Ground.phase }, { on := 10, ground := Ground.phase }, { on := 11, ground := Ground.phase }], guard := none }) (.bool (accB at0 x.b x.c)) (by kernel_rfl) (by kernel_rfl) ?_
                  try simp only [Act.put, List.setIfInBounds_toArray, List.set_cons_zero, List.set_cons_succ]
                  refine WL.nil ?_
                  try simp only [Act.put, List.setIfInBounds_toArray, List.set_cons_zero, List.set_cons_succ]
                  go_upto_region 20 with fail
                  refine WL.start ?_
                  refine wp_takeW (o := { dst := some 85, op := Op.load 29 (Operand.tmp 5), type := 29, pos := "law.go:55", after := #[], guard := none }) (.agg at0.cells) (exec_load 29 _ rfl ⟨A, 0, none⟩ (by kernel_rfl) (.agg at0.cells) (load_I HA.out)) (by kernel_rfl) ?_
                  try simp only [Act.put, List.setIfInBounds_toArray, List.set_cons_zero, List.set_cons_succ]
                  refine wp_takeW (o := { dst := some 86, op := Op.fieldAddr 38 (Operand.tmp 7) 1, type := 0, pos := "law.go:55", after := #[], guard := none }) (.pointer (some ⟨S7, 1, none⟩)) (by kernel_rfl) (by kernel_rfl) ?_
                  try simp only [Act.put, List.setIfInBounds_toArray, List.set_cons_zero, List.set_cons_succ]
                  refine wp_takeW (o := { dst := some 87, op := Op.load 23 (Operand.tmp 86), type := 23, pos := "law.go:55", after := #[{ on := 1, ground := Ground.data }], guard := none }) (.agg #[.int .i64 x.b.n, .int .i64 x.b.c]) (exec_load 23 _ rfl ⟨S7, 1, none⟩ (by kernel_rfl) (.agg #[.int .i64 x.b.n, .int .i64 x.b.c]) (load_S HS.out x.partB)) (by kernel_rfl) ?_
                  try simp only [Act.put, List.setIfInBounds_toArray, List.set_cons_zero, List.set_cons_succ]
                  refine wp_takeW (o := { dst := some 88, op := Op.fieldAddr 38 (Operand.tmp 7) 2, type := 0, pos := "law.go:55", after := #[], guard := none }) (.pointer (some ⟨S7, 3, none⟩)) (by kernel_rfl) (by kernel_rfl) ?_
                  try simp only [Act.put, List.setIfInBounds_toArray, List.set_cons_zero, List.set_cons_succ]
                  refine wp_takeW (o := { dst := some 89, op := Op.load 27 (Operand.tmp 88), type := 27, pos := "law.go:55", after := #[{ on := 3, ground := Ground.data }], guard := none }) (.agg x.c.cells) (exec_load 27 _ rfl ⟨S7, 3, none⟩ (by kernel_rfl) (.agg x.c.cells) (load_XC HS.out)) (by kernel_rfl) ?_
                  try simp only [Act.put, List.setIfInBounds_toArray, List.set_cons_zero, List.set_cons_succ]
                  refine wp_callW (o := { dst := some 90, op := Op.call { callee := Callee.value (Operand.func 14), args := #[Operand.tmp 85, Operand.tmp 87, Operand.tmp 89], argTypes := #[29, 23, 27] }, type := 53, pos := "law.go:55", after := #[{ on := 0, ground := Ground.data }, { on := 2, ground := Ground.data }, { on := 4, ground := Ground.data }], guard := none }) 14 #[.agg at0.cells, .agg #[.int .i64 x.b.n, .int .i64 x.b.c], .agg x.c.cells] (by kernel_rfl) _ (racc_any at0 x.b x.c _) (by kernel_rfl) ?_
                  rintro e wk27 ⟨rfl, hk⟩
                  have HA : Hid (Box wk27 (A) 29 (at0.cells)) := HA.out.kept hk (fun e => e)
                  have HS : Hid (Box wk27 (S7) 38 (x.cells)) := HS.out.kept hk (fun e => e)
                  have HP8 : Hid (Box wk27 (P8) 29 ((accI at0 x.b x.c).cells)) := HP8.out.kept hk (fun e => e)
                  have HP9 : Hid (Box wk27 (P9) 29 (iZ.cells)) := HP9.out.kept hk (fun e => e)
                  have HP10 : Hid (Box wk27 (P10) 52 ((accM at0 x.b).cells)) := HP10.out.kept hk (fun e => e)
                  have HP11 : Hid (Box wk27 (P11) 52 (mZ.cells)) := HP11.out.kept hk (fun e => e)
                  have HK : Hid (Kept No w wk27) := HK.out.then hk
                  have HLT : Hid (P11 < wk27.heap.size) := Nat.lt_of_lt_of_le HLT.out hk.size
                  clear hk
                  refine ⟨.tuple #[.agg (accI at0 x.b x.c).cells, .agg (accM at0 x.b).cells, .bool (accBr at0 x.b x.c)], rfl, ?_⟩
                  try simp only [Act.put, List.setIfInBounds_toArray, List.set_cons_zero, List.set_cons_succ]
                  refine wp_takeW (o := { dst := some 84, op := Op.move (Operand.tmp 90), type := 53, pos := "law.go:55", after := #[{ on := 5, ground := Ground.data }], guard := none }) (.tuple #[.agg (accI at0 x.b x.c).cells, .agg (accM at0 x.b).cells, .bool (accBr at0 x.b x.c)]) (by kernel_rfl) (by kernel_rfl) ?_
                  try simp only [Act.put, List.setIfInBounds_toArray, List.set_cons_zero, List.set_cons_succ]
                  refine wp_takeW (o := { dst := some 91, op := Op.extract (Operand.tmp 84) 0, type := 29, pos := "law.go:55", after := #[{ on := 6, ground := Ground.data }], guard := none }) (.agg (accI at0 x.b x.c).cells) (by kernel_rfl) (by kernel_rfl) ?_
                  try simp only [Act.put, List.setIfInBounds_toArray, List.set_cons_zero, List.set_cons_succ]
                  refine wp_takeW (o := { dst := some 92, op := Op.extract (Operand.tmp 84) 1, type := 52, pos := "law.go:55", after := #[{ on := 6, ground := Ground.data }, { on := 10, ground := Ground.gcOnly Departure.lateStores }], guard := none }) (.agg (accM at0 x.b).cells) (by kernel_rfl) (by kernel_rfl) ?_
                  try simp only [Act.put, List.setIfInBounds_toArray, List.set_cons_zero, List.set_cons_succ]
                  refine wp_takeW (o := { dst := some 93, op := Op.extract (Operand.tmp 84) 2, type := 4, pos := "law.go:55", after := #[{ on := 6, ground := Ground.data }, { on := 11, ground := Ground.gcOnly Departure.lateStores }], guard := none }) (.bool (accBr at0 x.b x.c)) (by kernel_rfl) (by kernel_rfl) ?_
                  try simp only [Act.put, List.setIfInBounds_toArray, List.set_cons_zero, List.set_cons_succ]
                  refine wp_storeW (o := { dst := none, op := Op.store 29 (Operand.tmp 9) (Operand.tmp 91), type := 0, pos := "law.go:55", after := #[{ on := 7, ground := Ground.data }, { on := 5, ground := Ground.chain }, { on := 0, ground := Ground.phase }, { on := 1, ground := Ground.phase }, { on := 2, ground := Ground.phase }, { on := 3, ground := Ground.phase }, { on := 4, ground := Ground.phase }, { on := 5, ground := Ground.phase }, { on := 6, ground := Ground.phase }, { on := 7, ground := Ground.phase }, { on := 8, ground := Ground.textOnly Departure.lateStores }, { on := 9, ground := Ground.textOnly Departure.lateStores }], guard := none }) 29 _ _ rfl ⟨P9, 0, none⟩ (.agg (accI at0 x.b x.c).cells) (by kernel_rfl) (by kernel_rfl) _ (store_I HP9.out rfl) (by kernel_rfl) ?_
                  try simp only [Act.put, List.setIfInBounds_toArray, List.set_cons_zero, List.set_cons_succ]
                  have HLT : Hid (P11 < (wk27.setRow P9 ((accI at0 x.b x.c).cells)).heap.size) := by show _ < _; rw [setRow_size]; exact HLT.out
                  have HA : Hid (Box (wk27.setRow P9 ((accI at0 x.b x.c).cells)) (A) 29 (at0.cells)) := HA.out.rowNe (by have := HO.out; omega) _
                  have HS : Hid (Box (wk27.setRow P9 ((accI at0 x.b x.c).cells)) (S7) 38 (x.cells)) := HS.out.rowNe (by have := HO.out; omega) _
                  have HP8 : Hid (Box (wk27.setRow P9 ((accI at0 x.b x.c).cells)) (P8) 29 ((accI at0 x.b x.c).cells)) := HP8.out.rowNe (by have := HO.out; omega) _
                  have HP9 : Hid (Box (wk27.setRow P9 ((accI at0 x.b x.c).cells)) (P9) 29 ((accI at0 x.b x.c).cells)) := HP9.out.setRow _
                  have HP10 : Hid (Box (wk27.setRow P9 ((accI at0 x.b x.c).cells)) (P10) 52 ((accM at0 x.b).cells)) := HP10.out.rowNe (by have := HO.out; omega) _
                  have HP11 : Hid (Box (wk27.setRow P9 ((accI at0 x.b x.c).cells)) (P11) 52 (mZ.cells)) := HP11.out.rowNe (by have := HO.out; omega) _
                  have HK : Hid (Kept No w (wk27.setRow P9 ((accI at0 x.b x.c).cells))) := HK.out.newRow (by have := HO.out; omega) _
                  generalize wk27.setRow P9 ((accI at0 x.b x.c).cells) = wk28 at HA HS HP8 HP9 HP10 HP11 HK HLT ⊢
                  refine wp_storeW (o := { dst := none, op := Op.store 52 (Operand.tmp 11) (Operand.tmp 92), type := 0, pos := "law.go:55", after := #[{ on := 8, ground := Ground.data }, { on := 10, ground := Ground.chain }, { on := 0, ground := Ground.phase }, { on := 1, ground := Ground.phase }, { on := 2, ground := Ground.phase }, { on := 3, ground := Ground.phase }, { on := 4, ground := Ground.phase }, { on := 5, ground := Ground.phase }, { on := 6, ground := Ground.phase }, { on := 7, ground := Ground.phase }, { on := 8, ground := Ground.phase }, { on := 9, ground := Ground.textOnly Departure.lateStores }, { on := 10, ground := Ground.phase }], guard := none }) 52 _ _ rfl ⟨P11, 0, none⟩ (.agg (accM at0 x.b).cells) (by kernel_rfl) (by kernel_rfl) _ (store_M HP11.out rfl) (by kernel_rfl) ?_
                  try simp only [Act.put, List.setIfInBounds_toArray, List.set_cons_zero, List.set_cons_succ]
                  have HLT : Hid (P11 < (wk28.setRow P11 ((accM at0 x.b).cells)).heap.size) := by show _ < _; rw [setRow_size]; exact HLT.out
                  have HA : Hid (Box (wk28.setRow P11 ((accM at0 x.b).cells)) (A) 29 (at0.cells)) := HA.out.rowNe (by have := HO.out; omega) _
                  have HS : Hid (Box (wk28.setRow P11 ((accM at0 x.b).cells)) (S7) 38 (x.cells)) := HS.out.rowNe (by have := HO.out; omega) _
                  have HP8 : Hid (Box (wk28.setRow P11 ((accM at0 x.b).cells)) (P8) 29 ((accI at0 x.b x.c).cells)) := HP8.out.rowNe (by have := HO.out; omega) _
                  have HP9 : Hid (Box (wk28.setRow P11 ((accM at0 x.b).cells)) (P9) 29 ((accI at0 x.b x.c).cells)) := HP9.out.rowNe (by have := HO.out; omega) _
                  have HP10 : Hid (Box (wk28.setRow P11 ((accM at0 x.b).cells)) (P10) 52 ((accM at0 x.b).cells)) := HP10.out.rowNe (by have := HO.out; omega) _
                  have HP11 : Hid (Box (wk28.setRow P11 ((accM at0 x.b).cells)) (P11) 52 ((accM at0 x.b).cells)) := HP11.out.setRow _
                  have HK : Hid (Kept No w (wk28.setRow P11 ((accM at0 x.b).cells))) := HK.out.newRow (by have := HO.out; omega) _
                  generalize wk28.setRow P11 ((accM at0 x.b).cells) = wk29 at HA HS HP8 HP9 HP10 HP11 HK HLT ⊢
                  refine wp_takeW (o := { dst := some 13, op := Op.assign (Operand.tmp 93), type := 4, pos := "law.go:55", after := #[{ on := 9, ground := Ground.data }, { on := 11, ground := Ground.chain }, { on := 0, ground := Ground.phase }, { on := 1, ground := Ground.phase }, { on := 2, ground := Ground.phase }, { on := 3, ground := Ground.phase }, { on := 4, ground := Ground.phase }, { on := 5, ground := Ground.phase }, { on := 6, ground := Ground.phase }, { on := 7, ground := Ground.phase }, { on := 8, ground := Ground.phase }, { on := 9, ground := Ground.phase }, { on := 10, ground := Ground.phase }, { on := 11, ground := Ground.phase }], guard := none }) (.bool (accBr at0 x.b x.c)) (by kernel_rfl) (by kernel_rfl) ?_
                  try simp only [Act.put, List.setIfInBounds_toArray, List.set_cons_zero, List.set_cons_succ]
                  refine WL.nil ?_
                  try simp only [Act.put, List.setIfInBounds_toArray, List.set_cons_zero, List.set_cons_succ]
                  go_upto_region 24 with fail
                  refine WL.start ?_
                  refine wp_takeW (o := { dst := some 110, op := Op.load 29 (Operand.tmp 8), type := 29, pos := "law.go:60", after := #[], guard := none }) (.agg ((accI at0 x.b x.c).cells)) (exec_load 29 _ rfl ⟨P8, 0, none⟩ (by kernel_rfl) (.agg ((accI at0 x.b x.c).cells)) (load_I HP8.out)) (by kernel_rfl) ?_
                  try simp only [Act.put, List.setIfInBounds_toArray, List.set_cons_zero, List.set_cons_succ]
                  refine wp_takeW (o := { dst := some 111, op := Op.load 29 (Operand.tmp 9), type := 29, pos := "law.go:60", after := #[], guard := none }) (.agg ((accI at0 x.b x.c).cells)) (exec_load 29 _ rfl ⟨P9, 0, none⟩ (by kernel_rfl) (.agg ((accI at0 x.b x.c).cells)) (load_I HP9.out)) (by kernel_rfl) ?_
                  try simp only [Act.put, List.setIfInBounds_toArray, List.set_cons_zero, List.set_cons_succ]
                  refine wp_takeW (o := { dst := some 112, op := Op.binOp BinOp.neq 29 (Operand.tmp 110) (Operand.tmp 111) 29, type := 4, pos := "law.go:60", after := #[{ on := 0, ground := Ground.data }, { on := 1, ground := Ground.data }], guard := none }) (.bool false) (exec_bin .neq 29 _ _ _ rfl (.agg ((accI at0 x.b x.c).cells)) (.agg ((accI at0 x.b x.c).cells)) (.bool false) (by kernel_rfl) (by kernel_rfl) (guard_I _ (.inr rfl) _ _ _ _ _) (by rw [neqI, eqI_refl]; rfl)) (by kernel_rfl) ?_
                  try simp only [Act.put, List.setIfInBounds_toArray, List.set_cons_zero, List.set_cons_succ]
                  refine wp_takeW (o := { dst := some 113, op := Op.move (Operand.tmp 112), type := 4, pos := "law.go:60", after := #[{ on := 2, ground := Ground.data }], guard := none }) (.bool false) (by kernel_rfl) (by kernel_rfl) ?_
                  try simp only [Act.put, List.setIfInBounds_toArray, List.set_cons_zero, List.set_cons_succ]
                  refine wp_takeW (o := { dst := some 114, op := Op.move (Operand.tmp 12), type := 4, pos := "law.go:60", after := #[{ on := 3, ground := Ground.guard }], guard := some (3, false) }) (.bool (accB at0 x.b x.c)) (by kernel_rfl) (by kernel_rfl) ?_
                  try simp only [Act.put, List.setIfInBounds_toArray, List.set_cons_zero, List.set_cons_succ]
                  refine wp_takeW (o := { dst := some 115, op := Op.move (Operand.tmp 13), type := 4, pos := "law.go:60", after := #[{ on := 3, ground := Ground.guard }], guard := some (3, false) }) (.bool (accBr at0 x.b x.c)) (by kernel_rfl) (by kernel_rfl) ?_
                  try simp only [Act.put, List.setIfInBounds_toArray, List.set_cons_zero, List.set_cons_succ]
                  refine wp_takeW (o := { dst := some 116, op := Op.binOp BinOp.neq 4 (Operand.tmp 114) (Operand.tmp 115) 4, type := 4, pos := "law.go:60", after := #[{ on := 4, ground := Ground.data }, { on := 5, ground := Ground.data }, { on := 3, ground := Ground.guard }], guard := some (3, false) }) (.bool false) (exec_bin .neq 4 _ _ _ rfl (.bool (accB at0 x.b x.c)) (.bool (accBr at0 x.b x.c)) (.bool false) (by kernel_rfl) (by kernel_rfl) (by kernel_rfl) (by rw [neqB, accB_eq]; first | rfl | simp)) (by kernel_rfl) ?_
                  try simp only [Act.put, List.setIfInBounds_toArray, List.set_cons_zero, List.set_cons_succ]
                  refine wp_takeW (o := { dst := some 117, op := Op.pick (Operand.tmp 113) (Operand.const (Value.bool true)) (Operand.tmp 116), type := 4, pos := "law.go:60", after := #[{ on := 3, ground := Ground.data }, { on := 6, ground := Ground.data }], guard := none }) (.bool false) (by kernel_rfl) (by kernel_rfl) ?_
                  try simp only [Act.put, List.setIfInBounds_toArray, List.set_cons_zero, List.set_cons_succ]
                  refine wp_takeW (o := { dst := some 118, op := Op.move (Operand.tmp 117), type := 4, pos := "law.go:60", after := #[{ on := 7, ground := Ground.data }, { on := 3, ground := Ground.chain }], guard := none }) (.bool false) (by kernel_rfl) (by kernel_rfl) ?_
                  try simp only [Act.put, List.setIfInBounds_toArray, List.set_cons_zero, List.set_cons_succ]
                  refine wp_takeW (o := { dst := some 119, op := Op.load 52 (Operand.tmp 10), type := 52, pos := "law.go:60", after := #[{ on := 8, ground := Ground.guard }], guard := some (8, false) }) (.agg ((accM at0 x.b).cells)) (exec_load 52 _ rfl ⟨P10, 0, none⟩ (by kernel_rfl) (.agg ((accM at0 x.b).cells)) (load_M HP10.out)) (by kernel_rfl) ?_
                  try simp only [Act.put, List.setIfInBounds_toArray, List.set_cons_zero, List.set_cons_succ]
                  refine wp_takeW (o := { dst := some 120, op := Op.load 52 (Operand.tmp 11), type := 52, pos := "law.go:60", after := #[{ on := 8, ground := Ground.guard }], guard := some (8, false) }) (.agg ((accM at0 x.b).cells)) (exec_load 52 _ rfl ⟨P11, 0, none⟩ (by kernel_rfl) (.agg ((accM at0 x.b).cells)) (load_M HP11.out)) (by kernel_rfl) ?_
                  try simp only [Act.put, List.setIfInBounds_toArray, List.set_cons_zero, List.set_cons_succ]
                  refine wp_callW (o := { dst := some 121, op := Op.call { callee := Callee.value (Operand.func 17), args := #[Operand.tmp 119, Operand.tmp 120], argTypes := #[52, 52] }, type := 4, pos := "law.go:60", after := #[{ on := 9, ground := Ground.data }, { on := 10, ground := Ground.data }, { on := 8, ground := Ground.chain }, { on := 8, ground := Ground.guard }], guard := some (8, false) }) 17 #[.agg ((accM at0 x.b).cells), .agg ((accM at0 x.b).cells)] (by kernel_rfl) _ (same_any _ _) (by kernel_rfl) ?_
                  rintro e wk30 ⟨rfl, hk⟩
                  have HA : Hid (Box wk30 (A) 29 (at0.cells)) := HA.out.kept hk (fun e => e)
                  have HS : Hid (Box wk30 (S7) 38 (x.cells)) := HS.out.kept hk (fun e => e)
                  have HP8 : Hid (Box wk30 (P8) 29 ((accI at0 x.b x.c).cells)) := HP8.out.kept hk (fun e => e)
                  have HP9 : Hid (Box wk30 (P9) 29 ((accI at0 x.b x.c).cells)) := HP9.out.kept hk (fun e => e)
                  have HP10 : Hid (Box wk30 (P10) 52 ((accM at0 x.b).cells)) := HP10.out.kept hk (fun e => e)
                  have HP11 : Hid (Box wk30 (P11) 52 ((accM at0 x.b).cells)) := HP11.out.kept hk (fun e => e)
                  have HK : Hid (Kept No w wk30) := HK.out.then hk
                  have HLT : Hid (P11 < wk30.heap.size) := Nat.lt_of_lt_of_le HLT.out hk.size
                  clear hk
                  refine ⟨.bool true, rfl, ?_⟩
                  try simp only [Act.put, List.setIfInBounds_toArray, List.set_cons_zero, List.set_cons_succ]
                  refine wp_takeW (o := { dst := some 122, op := Op.unOp UnOp.not 4 (Operand.tmp 121), type := 4, pos := "law.go:60", after := #[{ on := 11, ground := Ground.data }, { on := 8, ground := Ground.guard }], guard := some (8, false) }) (.bool false) (by kernel_rfl) (by kernel_rfl) ?_
                  try simp only [Act.put, List.setIfInBounds_toArray, List.set_cons_zero, List.set_cons_succ]
                  refine wp_takeW (o := { dst := some 123, op := Op.pick (Operand.tmp 118) (Operand.const (Value.bool true)) (Operand.tmp 122), type := 4, pos := "law.go:60", after := #[{ on := 8, ground := Ground.data }, { on := 12, ground := Ground.data }], guard := none }) (.bool false) (by kernel_rfl) (by kernel_rfl) ?_
                  try simp only [Act.put, List.setIfInBounds_toArray, List.set_cons_zero, List.set_cons_succ]
                  refine WL.nil ?_
                  try simp only [Act.put, List.setIfInBounds_toArray, List.set_cons_zero, List.set_cons_succ]
                  go_upto_region 26 with fail
                  refine WL.start ?_
                  refine wp_takeW (o := { dst := some 124, op := Op.load 29 (Operand.tmp 9), type := 29, pos := "law.go:63", after := #[], guard := none }) (.agg ((accI at0 x.b x.c).cells)) (exec_load 29 _ rfl ⟨P9, 0, none⟩ (by kernel_rfl) (.agg ((accI at0 x.b x.c).cells)) (load_I HP9.out)) (by kernel_rfl) ?_
                  try simp only [Act.put, List.setIfInBounds_toArray, List.set_cons_zero, List.set_cons_succ]
                  refine wp_storeW (o := { dst := none, op := Op.store 29 (Operand.tmp 5) (Operand.tmp 124), type := 0, pos := "law.go:63", after := #[{ on := 0, ground := Ground.data }, { on := 0, ground := Ground.phase }], guard := none }) 29 _ _ rfl ⟨A, 0, none⟩ (.agg ((accI at0 x.b x.c).cells)) (by kernel_rfl) (by kernel_rfl) _ (store_I HA.out rfl) (by kernel_rfl) ?_
                  try simp only [Act.put, List.setIfInBounds_toArray, List.set_cons_zero, List.set_cons_succ]
                  have HLT : Hid (P11 < (wk30.setRow A (((accI at0 x.b x.c).cells))).heap.size) := by show _ < _; rw [setRow_size]; exact HLT.out
                  have HA : Hid (Box (wk30.setRow A (((accI at0 x.b x.c).cells))) (A) 29 (((accI at0 x.b x.c).cells))) := HA.out.setRow _
                  have HS : Hid (Box (wk30.setRow A (((accI at0 x.b x.c).cells))) (S7) 38 (x.cells)) := HS.out.rowNe (by have := HO.out; omega) _
                  have HP8 : Hid (Box (wk30.setRow A (((accI at0 x.b x.c).cells))) (P8) 29 ((accI at0 x.b x.c).cells)) := HP8.out.rowNe (by have := HO.out; omega) _
                  have HP9 : Hid (Box (wk30.setRow A (((accI at0 x.b x.c).cells))) (P9) 29 ((accI at0 x.b x.c).cells)) := HP9.out.rowNe (by have := HO.out; omega) _
                  have HP10 : Hid (Box (wk30.setRow A (((accI at0 x.b x.c).cells))) (P10) 52 ((accM at0 x.b).cells)) := HP10.out.rowNe (by have := HO.out; omega) _
                  have HP11 : Hid (Box (wk30.setRow A (((accI at0 x.b x.c).cells))) (P11) 52 ((accM at0 x.b).cells)) := HP11.out.rowNe (by have := HO.out; omega) _
                  have HK : Hid (Kept No w (wk30.setRow A (((accI at0 x.b x.c).cells)))) := HK.out.newRow (by have := HO.out; omega) _
                  generalize wk30.setRow A (((accI at0 x.b x.c).cells)) = wk31 at HA HS HP8 HP9 HP10 HP11 HK HLT ⊢
                  refine WL.nil ?_
                  try simp only [Act.put, List.setIfInBounds_toArray, List.set_cons_zero, List.set_cons_succ]
                  have HF : Hid (AtI w A wk31 (fun _ => True)) := ⟨_, HA.out, HK.out, Nat.lt_of_le_of_lt (by have := HO.out; omega) HLT.out, trivial⟩
                  go_wp2
                  go_roundw
                  case measure => simp [intOf]; omega
                  case rel => exact ⟨k + 1, by go_num, by omega, HF⟩
            · skip
              refine any_take (i := 12) (oi := { dst := some 43, op := Op.binOp BinOp.neq 3 (Operand.tmp 42) (Operand.const (Value.int IntKind.i64 1)) 3, type := 4, pos := "law.go:43", after := #[{ on := 11, ground := Ground.data }, { on := 9, ground := Ground.guard }], guard := some (9, false) }) (v := .bool false) rfl (by kernel_rfl) (by kernel_rfl) (by kernel_rfl) (fun _ _ _ h => h) (by kernel_rfl) (fun w' hw => exec_bin .neq 3 _ _ _ rfl (.int .i64 x.k) (.int .i64 1) (.bool false) (by kernel_rfl) (by kernel_rfl) (by kernel_rfl) (by rw [neqN, q4]; try rfl)) hH ?_
              try simp only [Act.put, List.setIfInBounds_toArray, List.set_cons_zero, List.set_cons_succ]
              refine any_take (i := 13) (oi := { dst := some 44, op := Op.move (Operand.tmp 43), type := 4, pos := "law.go:43", after := #[{ on := 12, ground := Ground.data }, { on := 9, ground := Ground.chain }, { on := 9, ground := Ground.guard }], guard := some (9, false) }) (v := .bool false) rfl (by kernel_rfl) (by kernel_rfl) (by kernel_rfl) (fun _ _ _ h => h) (by kernel_rfl) (fun _ _ => by kernel_rfl) hH ?_
              try simp only [Act.put, List.setIfInBounds_toArray, List.set_cons_zero, List.set_cons_succ]
              refine any_skip (i := 14) (oi := { dst := some 45, op := Op.fieldAddr 38 (Operand.tmp 7) 2, type := 0, pos := "law.go:43", after := #[{ on := 13, ground := Ground.guard }], guard := some (13, true) }) rfl (by kernel_rfl) (by kernel_rfl) (by kernel_rfl) (fun _ _ _ h => h) (by kernel_rfl) hH ?_
              try simp only [Act.put, List.setIfInBounds_toArray, List.set_cons_zero, List.set_cons_succ]
              refine any_skip (i := 15) (oi := { dst := some 46, op := Op.load 27 (Operand.tmp 45), type := 27, pos := "law.go:43", after := #[{ on := 14, ground := Ground.data }, { on := 13, ground := Ground.guard }], guard := some (13, true) }) rfl (by kernel_rfl) (by kernel_rfl) (by kernel_rfl) (fun _ _ _ h => h) (by kernel_rfl) hH ?_
              try simp only [Act.put, List.setIfInBounds_toArray, List.set_cons_zero, List.set_cons_succ]
              refine any_skip (i := 16) (oi := { dst := some 47, op := Op.call { callee := Callee.value (Operand.func 8), args := #[], argTypes := #[] }, type := 35, pos := "law.go:43", after := #[{ on := 13, ground := Ground.chain }, { on := 13, ground := Ground.guard }], guard := some (13, true) }) rfl (by kernel_rfl) (by kernel_rfl) (by kernel_rfl) (fun _ _ _ h => h) (by kernel_rfl) hH ?_
              try simp only [Act.put, List.setIfInBounds_toArray, List.set_cons_zero, List.set_cons_succ]
              refine any_skip (i := 17) (oi := { dst := some 48, op := Op.call { callee := Callee.value (Operand.func 10), args := #[Operand.tmp 46, Operand.tmp 47], argTypes := #[27, 35] }, type := 4, pos := "law.go:43", after := #[{ on := 15, ground := Ground.data }, { on := 16, ground := Ground.data }, { on := 16, ground := Ground.chain }, { on := 13, ground := Ground.guard }], guard := some (13, true) }) rfl (by kernel_rfl) (by kernel_rfl) (by kernel_rfl) (fun _ _ _ h => h) (by kernel_rfl) hH ?_
              try simp only [Act.put, List.setIfInBounds_toArray, List.set_cons_zero, List.set_cons_succ]
              refine any_skip (i := 18) (oi := { dst := some 49, op := Op.unOp UnOp.not 4 (Operand.tmp 48), type := 4, pos := "law.go:43", after := #[{ on := 17, ground := Ground.data }, { on := 13, ground := Ground.guard }], guard := some (13, true) }) rfl (by kernel_rfl) (by kernel_rfl) (by kernel_rfl) (fun _ _ _ h => h) (by kernel_rfl) hH ?_
              try simp only [Act.put, List.setIfInBounds_toArray, List.set_cons_zero, List.set_cons_succ]
              refine any_take (i := 19) (oi := { dst := some 50, op := Op.pick (Operand.tmp 44) (Operand.tmp 49) (Operand.const (Value.bool false)), type := 4, pos := "law.go:43", after := #[{ on := 13, ground := Ground.data }, { on := 18, ground := Ground.data }, { on := 9, ground := Ground.guard }], guard := some (9, false) }) (v := .bool false) rfl (by kernel_rfl) (by kernel_rfl) (by kernel_rfl) (fun _ _ _ h => h) (by kernel_rfl) (fun _ _ => by kernel_rfl) hH ?_
              try simp only [Act.put, List.setIfInBounds_toArray, List.set_cons_zero, List.set_cons_succ]
              refine any_take (i := 20) (oi := { dst := some 51, op := Op.pick (Operand.tmp 40) (Operand.const (Value.bool true)) (Operand.tmp 50), type := 4, pos := "law.go:43", after := #[{ on := 9, ground := Ground.data }, { on := 19, ground := Ground.data }], guard := none }) (v := .bool false) rfl (by kernel_rfl) (by kernel_rfl) (by kernel_rfl) (fun _ _ _ h => h) (by kernel_rfl) (fun _ _ => by kernel_rfl) hH ?_
              try simp only [Act.put, List.setIfInBounds_toArray, List.set_cons_zero, List.set_cons_succ]
              refine wpAnyH_done (by kernel_rfl) ?_ _
              try simp only [Act.put, List.setIfInBounds_toArray, List.set_cons_zero, List.set_cons_succ]
              go_upto_region 11 with fail
              refine WL.start ?_
              refine wp_allocW (o := { dst := some 8, op := Op.alloc 29, type := 0, pos := "law.go:46", after := #[], guard := none }) 29 rfl (iZ.cells) zero29 wk13.heap.size rfl (by kernel_rfl) ?_
              try simp only [Act.put, List.setIfInBounds_toArray, List.set_cons_zero, List.set_cons_succ]
              have HP8 : Hid (Box (wk13.alloc (.cells (iZ.cells) 29)) wk13.heap.size 29 (iZ.cells)) := Box.new _ _ _
              have HA : Hid (Box (wk13.alloc (.cells (iZ.cells) 29)) (A) 29 (at0.cells)) := HA.out.alloc _
              have HS : Hid (Box (wk13.alloc (.cells (iZ.cells) 29)) (S7) 38 (x.cells)) := HS.out.alloc _
              have HK : Hid (Kept No w (wk13.alloc (.cells (iZ.cells) 29))) := HK.out.alloc _
              have HO : Hid (w.heap.size ≤ A ∧ A < S7 ∧ S7 < wk13.heap.size) := by
                have h := HO.out
                have l := HLT.out
                show _ ∧ _
                omega
              have HLT : Hid (wk13.heap.size < (wk13.alloc (.cells (iZ.cells) 29)).heap.size) := by show _ < _; simp
              generalize wk13.alloc (.cells (iZ.cells) 29) = wk32 at HA HS HP8 HK HLT ⊢
              generalize wk13.heap.size = P8 at HP8 HO HLT ⊢
              refine wp_allocW (o := { dst := some 9, op := Op.alloc 29, type := 0, pos := "law.go:46", after := #[], guard := none }) 29 rfl (iZ.cells) zero29 wk32.heap.size rfl (by kernel_rfl) ?_
              try simp only [Act.put, List.setIfInBounds_toArray, List.set_cons_zero, List.set_cons_succ]
              have HP9 : Hid (Box (wk32.alloc (.cells (iZ.cells) 29)) wk32.heap.size 29 (iZ.cells)) := Box.new _ _ _
              have HA : Hid (Box (wk32.alloc (.cells (iZ.cells) 29)) (A) 29 (at0.cells)) := HA.out.alloc _
              have HS : Hid (Box (wk32.alloc (.cells (iZ.cells) 29)) (S7) 38 (x.cells)) := HS.out.alloc _
              have HP8 : Hid (Box (wk32.alloc (.cells (iZ.cells) 29)) (P8) 29 (iZ.cells)) := HP8.out.alloc _
              have HK : Hid (Kept No w (wk32.alloc (.cells (iZ.cells) 29))) := HK.out.alloc _
              have HO : Hid (w.heap.size ≤ A ∧ A < S7 ∧ S7 < P8 ∧ P8 < wk32.heap.size) := by
                have h := HO.out
                have l := HLT.out
                show _ ∧ _
                omega
              have HLT : Hid (wk32.heap.size < (wk32.alloc (.cells (iZ.cells) 29)).heap.size) := by show _ < _; simp
              generalize wk32.alloc (.cells (iZ.cells) 29) = wk33 at HA HS HP8 HP9 HK HLT ⊢
              generalize wk32.heap.size = P9 at HP9 HO HLT ⊢
              refine WL.nil ?_
              try simp only [Act.put, List.setIfInBounds_toArray, List.set_cons_zero, List.set_cons_succ]
              go_upto_region 12 with fail
              refine WL.start ?_
              refine wp_allocW (o := { dst := some 10, op := Op.alloc 52, type := 0, pos := "law.go:47", after := #[], guard := none }) 52 rfl (mZ.cells) zero52 wk33.heap.size rfl (by kernel_rfl) ?_
              try simp only [Act.put, List.setIfInBounds_toArray, List.set_cons_zero, List.set_cons_succ]
              have HP10 : Hid (Box (wk33.alloc (.cells (mZ.cells) 52)) wk33.heap.size 52 (mZ.cells)) := Box.new _ _ _
              have HA : Hid (Box (wk33.alloc (.cells (mZ.cells) 52)) (A) 29 (at0.cells)) := HA.out.alloc _
              have HS : Hid (Box (wk33.alloc (.cells (mZ.cells) 52)) (S7) 38 (x.cells)) := HS.out.alloc _
              have HP8 : Hid (Box (wk33.alloc (.cells (mZ.cells) 52)) (P8) 29 (iZ.cells)) := HP8.out.alloc _
              have HP9 : Hid (Box (wk33.alloc (.cells (mZ.cells) 52)) (P9) 29 (iZ.cells)) := HP9.out.alloc _
              have HK : Hid (Kept No w (wk33.alloc (.cells (mZ.cells) 52))) := HK.out.alloc _
              have HO : Hid (w.heap.size ≤ A ∧ A < S7 ∧ S7 < P8 ∧ P8 < P9 ∧ P9 < wk33.heap.size) := by
                have h := HO.out
                have l := HLT.out
                show _ ∧ _
                omega
              have HLT : Hid (wk33.heap.size < (wk33.alloc (.cells (mZ.cells) 52)).heap.size) := by show _ < _; simp
              generalize wk33.alloc (.cells (mZ.cells) 52) = wk34 at HA HS HP8 HP9 HP10 HK HLT ⊢
              generalize wk33.heap.size = P10 at HP10 HO HLT ⊢
              refine wp_allocW (o := { dst := some 11, op := Op.alloc 52, type := 0, pos := "law.go:47", after := #[], guard := none }) 52 rfl (mZ.cells) zero52 wk34.heap.size rfl (by kernel_rfl) ?_
              try simp only [Act.put, List.setIfInBounds_toArray, List.set_cons_zero, List.set_cons_succ]
              have HP11 : Hid (Box (wk34.alloc (.cells (mZ.cells) 52)) wk34.heap.size 52 (mZ.cells)) := Box.new _ _ _
              have HA : Hid (Box (wk34.alloc (.cells (mZ.cells) 52)) (A) 29 (at0.cells)) := HA.out.alloc _
              have HS : Hid (Box (wk34.alloc (.cells (mZ.cells) 52)) (S7) 38 (x.cells)) := HS.out.alloc _
              have HP8 : Hid (Box (wk34.alloc (.cells (mZ.cells) 52)) (P8) 29 (iZ.cells)) := HP8.out.alloc _
              have HP9 : Hid (Box (wk34.alloc (.cells (mZ.cells) 52)) (P9) 29 (iZ.cells)) := HP9.out.alloc _
              have HP10 : Hid (Box (wk34.alloc (.cells (mZ.cells) 52)) (P10) 52 (mZ.cells)) := HP10.out.alloc _
              have HK : Hid (Kept No w (wk34.alloc (.cells (mZ.cells) 52))) := HK.out.alloc _
              have HO : Hid (w.heap.size ≤ A ∧ A < S7 ∧ S7 < P8 ∧ P8 < P9 ∧ P9 < P10 ∧ P10 < wk34.heap.size) := by
                have h := HO.out
                have l := HLT.out
                show _ ∧ _
                omega
              have HLT : Hid (wk34.heap.size < (wk34.alloc (.cells (mZ.cells) 52)).heap.size) := by show _ < _; simp
              generalize wk34.alloc (.cells (mZ.cells) 52) = wk35 at HA HS HP8 HP9 HP10 HP11 HK HLT ⊢
              generalize wk34.heap.size = P11 at HP11 HO HLT ⊢
              refine WL.nil ?_
              try simp only [Act.put, List.setIfInBounds_toArray, List.set_cons_zero, List.set_cons_succ]
              go_upto_region 14 with fail
              refine WL.start ?_
              refine wp_takeW (o := { dst := some 52, op := Op.fieldAddr 38 (Operand.tmp 7) 0, type := 0, pos := "law.go:49", after := #[], guard := none }) (.pointer (some ⟨S7, 0, none⟩)) (by kernel_rfl) (by kernel_rfl) ?_
              try simp only [Act.put, List.setIfInBounds_toArray, List.set_cons_zero, List.set_cons_succ]
              refine wp_takeW (o := { dst := some 53, op := Op.load 3 (Operand.tmp 52), type := 3, pos := "law.go:49", after := #[{ on := 0, ground := Ground.data }], guard := none }) (.int .i64 x.k) (exec_load 3 _ rfl ⟨S7, 0, none⟩ (by kernel_rfl) (.int .i64 x.k) (load_N (HS.out.cell 0))) (by kernel_rfl) ?_
              try simp only [Act.put, List.setIfInBounds_toArray, List.set_cons_zero, List.set_cons_succ]
              refine WL.nil ?_
              try simp only [Act.put, List.setIfInBounds_toArray, List.set_cons_zero, List.set_cons_succ]
              go_upto_region 15 with fail
              refine WL.start ?_
              refine wp_takeW (o := { dst := some 55, op := Op.binOp BinOp.eql 3 (Operand.tmp 53) (Operand.const (Value.int IntKind.i64 1)) 3, type := 4, pos := "law.go:50", after := #[], guard := none }) (.bool true) (exec_bin .eql 3 _ _ _ rfl (.int .i64 x.k) (.int .i64 1) (.bool true) (by kernel_rfl) (by kernel_rfl) (by kernel_rfl) (by rw [eqlN, q4]; try rfl)) (by kernel_rfl) ?_
              try simp only [Act.put, List.setIfInBounds_toArray, List.set_cons_zero, List.set_cons_succ]
              refine wp_takeW (o := { dst := some 54, op := Op.assign (Operand.tmp 55), type := 4, pos := "law.go:50", after := #[{ on := 0, ground := Ground.data }], guard := none }) (.bool true) (by kernel_rfl) (by kernel_rfl) ?_
              try simp only [Act.put, List.setIfInBounds_toArray, List.set_cons_zero, List.set_cons_succ]
              refine WL.nil ?_
              try simp only [Act.put, List.setIfInBounds_toArray, List.set_cons_zero, List.set_cons_succ]
              go_upto_region 16 with fail
              refine WL.start ?_
              refine wp_takeW (o := { dst := some 57, op := Op.load 29 (Operand.tmp 5), type := 29, pos := "law.go:51", after := #[], guard := none }) (.agg at0.cells) (exec_load 29 _ rfl ⟨A, 0, none⟩ (by kernel_rfl) (.agg at0.cells) (load_I HA.out)) (by kernel_rfl) ?_
              try simp only [Act.put, List.setIfInBounds_toArray, List.set_cons_zero, List.set_cons_succ]
              refine wp_takeW (o := { dst := some 58, op := Op.fieldAddr 38 (Operand.tmp 7) 1, type := 0, pos := "law.go:51", after := #[], guard := none }) (.pointer (some ⟨S7, 1, none⟩)) (by kernel_rfl) (by kernel_rfl) ?_
              try simp only [Act.put, List.setIfInBounds_toArray, List.set_cons_zero, List.set_cons_succ]
              refine wp_takeW (o := { dst := some 59, op := Op.load 23 (Operand.tmp 58), type := 23, pos := "law.go:51", after := #[{ on := 1, ground := Ground.data }], guard := none }) (.agg #[.int .i64 x.b.n, .int .i64 x.b.c]) (exec_load 23 _ rfl ⟨S7, 1, none⟩ (by kernel_rfl) (.agg #[.int .i64 x.b.n, .int .i64 x.b.c]) (load_S HS.out x.partB)) (by kernel_rfl) ?_
              try simp only [Act.put, List.setIfInBounds_toArray, List.set_cons_zero, List.set_cons_succ]
              refine wp_callW (o := { dst := some 60, op := Op.call { callee := Callee.value (Operand.func 11), args := #[Operand.tmp 57, Operand.tmp 59], argTypes := #[29, 23] }, type := 53, pos := "law.go:51", after := #[{ on := 0, ground := Ground.data }, { on := 2, ground := Ground.data }], guard := none }) 11 #[.agg at0.cells, .agg #[.int .i64 x.b.n, .int .i64 x.b.c]] (by kernel_rfl) _ (prep_any at0 x.b _) (by kernel_rfl) ?_
              rintro e wk36 ⟨rfl, hk⟩
              have HA : Hid (Box wk36 (A) 29 (at0.cells)) := HA.out.kept hk (fun e => e)
              have HS : Hid (Box wk36 (S7) 38 (x.cells)) := HS.out.kept hk (fun e => e)
              have HP8 : Hid (Box wk36 (P8) 29 (iZ.cells)) := HP8.out.kept hk (fun e => e)
              have HP9 : Hid (Box wk36 (P9) 29 (iZ.cells)) := HP9.out.kept hk (fun e => e)
              have HP10 : Hid (Box wk36 (P10) 52 (mZ.cells)) := HP10.out.kept hk (fun e => e)
              have HP11 : Hid (Box wk36 (P11) 52 (mZ.cells)) := HP11.out.kept hk (fun e => e)
              have HK : Hid (Kept No w wk36) := HK.out.then hk
              have HLT : Hid (P11 < wk36.heap.size) := Nat.lt_of_lt_of_le HLT.out hk.size
              clear hk
              refine ⟨.tuple #[.agg (prepI at0 x.b).cells, .agg (prepM at0 x.b).cells, .bool (prepB at0 x.b)], rfl, ?_⟩
              try simp only [Act.put, List.setIfInBounds_toArray, List.set_cons_zero, List.set_cons_succ]
              refine wp_takeW (o := { dst := some 56, op := Op.move (Operand.tmp 60), type := 53, pos := "law.go:51", after := #[{ on := 3, ground := Ground.data }], guard := none }) (.tuple #[.agg (prepI at0 x.b).cells, .agg (prepM at0 x.b).cells, .bool (prepB at0 x.b)]) (by kernel_rfl) (by kernel_rfl) ?_
              try simp only [Act.put, List.setIfInBounds_toArray, List.set_cons_zero, List.set_cons_succ]
              refine wp_takeW (o := { dst := some 61, op := Op.extract (Operand.tmp 56) 0, type := 29, pos := "law.go:51", after := #[{ on := 4, ground := Ground.data }], guard := none }) (.agg (prepI at0 x.b).cells) (by kernel_rfl) (by kernel_rfl) ?_
              try simp only [Act.put, List.setIfInBounds_toArray, List.set_cons_zero, List.set_cons_succ]
              refine wp_takeW (o := { dst := some 62, op := Op.extract (Operand.tmp 56) 1, type := 52, pos := "law.go:51", after := #[{ on := 4, ground := Ground.data }, { on := 8, ground := Ground.gcOnly Departure.lateStores }], guard := none }) (.agg (prepM at0 x.b).cells) (by kernel_rfl) (by kernel_rfl) ?_
              try simp only [Act.put, List.setIfInBounds_toArray, List.set_cons_zero, List.set_cons_succ]
              refine wp_takeW (o := { dst := some 63, op := Op.extract (Operand.tmp 56) 2, type := 4, pos := "law.go:51", after := #[{ on := 4, ground := Ground.data }, { on := 9, ground := Ground.gcOnly Departure.lateStores }], guard := none }) (.bool (prepB at0 x.b)) (by kernel_rfl) (by kernel_rfl) ?_
              try simp only [Act.put, List.setIfInBounds_toArray, List.set_cons_zero, List.set_cons_succ]
              refine wp_storeW (o := { dst := none, op := Op.store 29 (Operand.tmp 8) (Operand.tmp 61), type := 0, pos := "law.go:51", after := #[{ on := 5, ground := Ground.data }, { on := 3, ground := Ground.chain }, { on := 0, ground := Ground.phase }, { on := 1, ground := Ground.phase }, { on := 2, ground := Ground.phase }, { on := 3, ground := Ground.phase }, { on := 4, ground := Ground.phase }, { on := 5, ground := Ground.phase }, { on := 6, ground := Ground.textOnly Departure.lateStores }, { on := 7, ground := Ground.textOnly Departure.lateStores }], guard := none }) 29 _ _ rfl ⟨P8, 0, none⟩ (.agg (prepI at0 x.b).cells) (by kernel_rfl) (by kernel_rfl) _ (store_I HP8.out rfl) (by kernel_rfl) ?_
              try simp only [Act.put, List.setIfInBounds_toArray, List.set_cons_zero, List.set_cons_succ]
              have HLT : Hid (P11 < (wk36.setRow P8 ((prepI at0 x.b).cells)).heap.size) := by show _ < _; rw [setRow_size]; exact HLT.out
              have HA : Hid (Box (wk36.setRow P8 ((prepI at0 x.b).cells)) (A) 29 (at0.cells)) := HA.out.rowNe (by have := HO.out; omega) _
              have HS : Hid (Box (wk36.setRow P8 ((prepI at0 x.b).cells)) (S7) 38 (x.cells)) := HS.out.rowNe (by have := HO.out; omega) _
              have HP8 : Hid (Box (wk36.setRow P8 ((prepI at0 x.b).cells)) (P8) 29 ((prepI at0 x.b).cells)) := HP8.out.setRow _
              have HP9 : Hid (Box (wk36.setRow P8 ((prepI at0 x.b).cells)) (P9) 29 (iZ.cells)) := HP9.out.rowNe (by have := HO.out; omega) _
              have HP10 : Hid (Box (wk36.setRow P8 ((prepI at0 x.b).cells)) (P10) 52 (mZ.cells)) := HP10.out.rowNe (by have := HO.out; omega) _
              have HP11 : Hid (Box (wk36.setRow P8 ((prepI at0 x.b).cells)) (P11) 52 (mZ.cells)) := HP11.out.rowNe (by have := HO.out; omega) _
              have HK : Hid (Kept No w (wk36.setRow P8 ((prepI at0 x.b).cells))) := HK.out.newRow (by have := HO.out; omega) _
              generalize wk36.setRow P8 ((prepI at0 x.b).cells) = wk37 at HA HS HP8 HP9 HP10 HP11 HK HLT ⊢
              refine wp_storeW (o := { dst := none, op := Op.store 52 (Operand.tmp 10) (Operand.tmp 62), type := 0, pos := "law.go:51", after := #[{ on := 6, ground := Ground.data }, { on := 8, ground := Ground.chain }, { on := 0, ground := Ground.phase }, { on := 1, ground := Ground.phase }, { on := 2, ground := Ground.phase }, { on := 3, ground := Ground.phase }, { on := 4, ground := Ground.phase }, { on := 5, ground := Ground.phase }, { on := 6, ground := Ground.phase }, { on := 7, ground := Ground.textOnly Departure.lateStores }, { on := 8, ground := Ground.phase }], guard := none }) 52 _ _ rfl ⟨P10, 0, none⟩ (.agg (prepM at0 x.b).cells) (by kernel_rfl) (by kernel_rfl) _ (store_M HP10.out rfl) (by kernel_rfl) ?_
              try simp only [Act.put, List.setIfInBounds_toArray, List.set_cons_zero, List.set_cons_succ]
              have HLT : Hid (P11 < (wk37.setRow P10 ((prepM at0 x.b).cells)).heap.size) := by show _ < _; rw [setRow_size]; exact HLT.out
              have HA : Hid (Box (wk37.setRow P10 ((prepM at0 x.b).cells)) (A) 29 (at0.cells)) := HA.out.rowNe (by have := HO.out; omega) _
              have HS : Hid (Box (wk37.setRow P10 ((prepM at0 x.b).cells)) (S7) 38 (x.cells)) := HS.out.rowNe (by have := HO.out; omega) _
              have HP8 : Hid (Box (wk37.setRow P10 ((prepM at0 x.b).cells)) (P8) 29 ((prepI at0 x.b).cells)) := HP8.out.rowNe (by have := HO.out; omega) _
              have HP9 : Hid (Box (wk37.setRow P10 ((prepM at0 x.b).cells)) (P9) 29 (iZ.cells)) := HP9.out.rowNe (by have := HO.out; omega) _
              have HP10 : Hid (Box (wk37.setRow P10 ((prepM at0 x.b).cells)) (P10) 52 ((prepM at0 x.b).cells)) := HP10.out.setRow _
              have HP11 : Hid (Box (wk37.setRow P10 ((prepM at0 x.b).cells)) (P11) 52 (mZ.cells)) := HP11.out.rowNe (by have := HO.out; omega) _
              have HK : Hid (Kept No w (wk37.setRow P10 ((prepM at0 x.b).cells))) := HK.out.newRow (by have := HO.out; omega) _
              generalize wk37.setRow P10 ((prepM at0 x.b).cells) = wk38 at HA HS HP8 HP9 HP10 HP11 HK HLT ⊢
              refine wp_takeW (o := { dst := some 12, op := Op.assign (Operand.tmp 63), type := 4, pos := "law.go:51", after := #[{ on := 7, ground := Ground.data }, { on := 9, ground := Ground.chain }, { on := 0, ground := Ground.phase }, { on := 1, ground := Ground.phase }, { on := 2, ground := Ground.phase }, { on := 3, ground := Ground.phase }, { on := 4, ground := Ground.phase }, { on := 5, ground := Ground.phase }, { on := 6, ground := Ground.phase }, { on := 7, ground := Ground.phase }, { on := 8, ground := Ground.phase }, { on := 9, ground := Ground.phase }], guard := none }) (.bool (prepB at0 x.b)) (by kernel_rfl) (by kernel_rfl) ?_
              try simp only [Act.put, List.setIfInBounds_toArray, List.set_cons_zero, List.set_cons_succ]
              refine WL.nil ?_
              try simp only [Act.put, List.setIfInBounds_toArray, List.set_cons_zero, List.set_cons_succ]
              go_upto_region 17 with fail
              refine WL.start ?_
              refine wp_takeW (o := { dst := some 65, op := Op.load 29 (Operand.tmp 5), type := 29, pos := "law.go:52", after := #[], guard := none }) (.agg at0.cells) (exec_load 29 _ rfl ⟨A, 0, none⟩ (by kernel_rfl) (.agg at0.cells) (load_I HA.out)) (by kernel_rfl) ?_
              try simp only [Act.put, List.setIfInBounds_toArray, List.set_cons_zero, List.set_cons_succ]
              refine wp_takeW (o := { dst := some 66, op := Op.fieldAddr 38 (Operand.tmp 7) 1, type := 0, pos := "law.go:52", after := #[], guard := none }) (.pointer (some ⟨S7, 1, none⟩)) (by kernel_rfl) (by kernel_rfl) ?_
              try simp only [Act.put, List.setIfInBounds_toArray, List.set_cons_zero, List.set_cons_succ]
              refine wp_takeW (o := { dst := some 67, op := Op.load 23 (Operand.tmp 66), type := 23, pos := "law.go:52", after := #[{ on := 1, ground := Ground.data }], guard := none }) (.agg #[.int .i64 x.b.n, .int .i64 x.b.c]) (exec_load 23 _ rfl ⟨S7, 1, none⟩ (by kernel_rfl) (.agg #[.int .i64 x.b.n, .int .i64 x.b.c]) (load_S HS.out x.partB)) (by kernel_rfl) ?_
              try simp only [Act.put, List.setIfInBounds_toArray, List.set_cons_zero, List.set_cons_succ]
              refine wp_callW (o := { dst := some 68, op := Op.call { callee := Callee.value (Operand.func 12), args := #[Operand.tmp 65, Operand.tmp 67], argTypes := #[29, 23] }, type := 53, pos := "law.go:52", after := #[{ on := 0, ground := Ground.data }, { on := 2, ground := Ground.data }], guard := none }) 12 #[.agg at0.cells, .agg #[.int .i64 x.b.n, .int .i64 x.b.c]] (by kernel_rfl) _ (rprep_any at0 x.b _) (by kernel_rfl) ?_
              rintro e wk39 ⟨rfl, hk⟩
              have HA : Hid (Box wk39 (A) 29 (at0.cells)) := HA.out.kept hk (fun e => e)
              have HS : Hid (Box wk39 (S7) 38 (x.cells)) := HS.out.kept hk (fun e => e)
              have HP8 : Hid (Box wk39 (P8) 29 ((prepI at0 x.b).cells)) := HP8.out.kept hk (fun e => e)
              have HP9 : Hid (Box wk39 (P9) 29 (iZ.cells)) := HP9.out.kept hk (fun e => e)
              have HP10 : Hid (Box wk39 (P10) 52 ((prepM at0 x.b).cells)) := HP10.out.kept hk (fun e => e)
              have HP11 : Hid (Box wk39 (P11) 52 (mZ.cells)) := HP11.out.kept hk (fun e => e)
              have HK : Hid (Kept No w wk39) := HK.out.then hk
              have HLT : Hid (P11 < wk39.heap.size) := Nat.lt_of_lt_of_le HLT.out hk.size
              clear hk
              refine ⟨.tuple #[.agg (prepI at0 x.b).cells, .agg (prepM at0 x.b).cells, .bool (prepBr at0 x.b)], rfl, ?_⟩
              try simp only [Act.put, List.setIfInBounds_toArray, List.set_cons_zero, List.set_cons_succ]
              refine wp_takeW (o := { dst := some 64, op := Op.move (Operand.tmp 68), type := 53, pos := "law.go:52", after := #[{ on := 3, ground := Ground.data }], guard := none }) (.tuple #[.agg (prepI at0 x.b).cells, .agg (prepM at0 x.b).cells, .bool (prepBr at0 x.b)]) (by kernel_rfl) (by kernel_rfl) ?_
              try simp only [Act.put, List.setIfInBounds_toArray, List.set_cons_zero, List.set_cons_succ]
              refine wp_takeW (o := { dst := some 69, op := Op.extract (Operand.tmp 64) 0, type := 29, pos := "law.go:52", after := #[{ on := 4, ground := Ground.data }], guard := none }) (.agg (prepI at0 x.b).cells) (by kernel_rfl) (by kernel_rfl) ?_
              try simp only [Act.put, List.setIfInBounds_toArray, List.set_cons_zero, List.set_cons_succ]
              refine wp_takeW (o := { dst := some 70, op := Op.extract (Operand.tmp 64) 1, type := 52, pos := "law.go:52", after := #[{ on := 4, ground := Ground.data }, { on := 8, ground := Ground.gcOnly Departure.lateStores }], guard := none }) (.agg (prepM at0 x.b).cells) (by kernel_rfl) (by kernel_rfl) ?_
              try simp only [Act.put, List.setIfInBounds_toArray, List.set_cons_zero, List.set_cons_succ]
              refine wp_takeW (o := { dst := some 71, op := Op.extract (Operand.tmp 64) 2, type := 4, pos := "law.go:52", after := #[{ on := 4, ground := Ground.data }, { on := 9, ground := Ground.gcOnly Departure.lateStores }], guard := none }) (.bool (prepBr at0 x.b)) (by kernel_rfl) (by kernel_rfl) ?_
              try simp only [Act.put, List.setIfInBounds_toArray, List.set_cons_zero, List.set_cons_succ]
              refine wp_storeW (o := { dst := none, op := Op.store 29 (Operand.tmp 9) (Operand.tmp 69), type := 0, pos := "law.go:52", after := #[{ on := 5, ground := Ground.data }, { on := 3, ground := Ground.chain }, { on := 0, ground := Ground.phase }, { on := 1, ground := Ground.phase }, { on := 2, ground := Ground.phase }, { on := 3, ground := Ground.phase }, { on := 4, ground := Ground.phase }, { on := 5, ground := Ground.phase }, { on := 6, ground := Ground.textOnly Departure.lateStores }, { on := 7, ground := Ground.textOnly Departure.lateStores }], guard := none }) 29 _ _ rfl ⟨P9, 0, none⟩ (.agg (prepI at0 x.b).cells) (by kernel_rfl) (by kernel_rfl) _ (store_I HP9.out rfl) (by kernel_rfl) ?_
              try simp only [Act.put, List.setIfInBounds_toArray, List.set_cons_zero, List.set_cons_succ]
              have HLT : Hid (P11 < (wk39.setRow P9 ((prepI at0 x.b).cells)).heap.size) := by show _ < _; rw [setRow_size]; exact HLT.out
              have HA : Hid (Box (wk39.setRow P9 ((prepI at0 x.b).cells)) (A) 29 (at0.cells)) := HA.out.rowNe (by have := HO.out; omega) _
              have HS : Hid (Box (wk39.setRow P9 ((prepI at0 x.b).cells)) (S7) 38 (x.cells)) := HS.out.rowNe (by have := HO.out; omega) _
              have HP8 : Hid (Box (wk39.setRow P9 ((prepI at0 x.b).cells)) (P8) 29 ((prepI at0 x.b).cells)) := HP8.out.rowNe (by have := HO.out; omega) _
              have HP9 : Hid (Box (wk39.setRow P9 ((prepI at0 x.b).cells)) (P9) 29 ((prepI at0 x.b).cells)) := HP9.out.setRow _
              have HP10 : Hid (Box (wk39.setRow P9 ((prepI at0 x.b).cells)) (P10) 52 ((prepM at0 x.b).cells)) := HP10.out.rowNe (by have := HO.out; omega) _
              have HP11 : Hid (Box (wk39.setRow P9 ((prepI at0 x.b).cells)) (P11) 52 (mZ.cells)) := HP11.out.rowNe (by have := HO.out; omega) _
              have HK : Hid (Kept No w (wk39.setRow P9 ((prepI at0 x.b).cells))) := HK.out.newRow (by have := HO.out; omega) _
              generalize wk39.setRow P9 ((prepI at0 x.b).cells) = wk40 at HA HS HP8 HP9 HP10 HP11 HK HLT ⊢
              refine wp_storeW (o := { dst := none, op := Op.store 52 (Operand.tmp 11) (Operand.tmp 70), type := 0, pos := "law.go:52", after := #[{ on := 6, ground := Ground.data }, { on := 8, ground := Ground.chain }, { on := 0, ground := Ground.phase }, { on := 1, ground := Ground.phase }, { on := 2, ground := Ground.phase }, { on := 3, ground := Ground.phase }, { on := 4, ground := Ground.phase }, { on := 5, ground := Ground.phase }, { on := 6, ground := Ground.phase }, { on := 7, ground := Ground.textOnly Departure.lateStores }, { on := 8, ground := Ground.phase }], guard := none }) 52 _ _ rfl ⟨P11, 0, none⟩ (.agg (prepM at0 x.b).cells) (by kernel_rfl) (by kernel_rfl) _ (store_M HP11.out rfl) (by kernel_rfl) ?_
              try simp only [Act.put, List.setIfInBounds_toArray, List.set_cons_zero, List.set_cons_succ]
              have HLT : Hid (P11 < (wk40.setRow P11 ((prepM at0 x.b).cells)).heap.size) := by show _ < _; rw [setRow_size]; exact HLT.out
              have HA : Hid (Box (wk40.setRow P11 ((prepM at0 x.b).cells)) (A) 29 (at0.cells)) := HA.out.rowNe (by have := HO.out; omega) _
              have HS : Hid (Box (wk40.setRow P11 ((prepM at0 x.b).cells)) (S7) 38 (x.cells)) := HS.out.rowNe (by have := HO.out; omega) _
              have HP8 : Hid (Box (wk40.setRow P11 ((prepM at0 x.b).cells)) (P8) 29 ((prepI at0 x.b).cells)) := HP8.out.rowNe (by have := HO.out; omega) _
              have HP9 : Hid (Box (wk40.setRow P11 ((prepM at0 x.b).cells)) (P9) 29 ((prepI at0 x.b).cells)) := HP9.out.rowNe (by have := HO.out; omega) _
              have HP10 : Hid (Box (wk40.setRow P11 ((prepM at0 x.b).cells)) (P10) 52 ((prepM at0 x.b).cells)) := HP10.out.rowNe (by have := HO.out; omega) _
              have HP11 : Hid (Box (wk40.setRow P11 ((prepM at0 x.b).cells)) (P11) 52 ((prepM at0 x.b).cells)) := HP11.out.setRow _
              have HK : Hid (Kept No w (wk40.setRow P11 ((prepM at0 x.b).cells))) := HK.out.newRow (by have := HO.out; omega) _
              generalize wk40.setRow P11 ((prepM at0 x.b).cells) = wk41 at HA HS HP8 HP9 HP10 HP11 HK HLT ⊢
              refine wp_takeW (o := { dst := some 13, op := Op.assign (Operand.tmp 71), type := 4, pos := "law.go:52", after := #[{ on := 7, ground := Ground.data }, { on := 9, ground := Ground.chain }, { on := 0, ground := Ground.phase }, { on := 1, ground := Ground.phase }, { on := 2, ground := Ground.phase }, { on := 3, ground := Ground.phase }, { on := 4, ground := Ground.phase }, { on := 5, ground := Ground.phase }, { on := 6, ground := Ground.phase }, { on := 7, ground := Ground.phase }, { on := 8, ground := Ground.phase }, { on := 9, ground := Ground.phase }], guard := none }) (.bool (prepBr at0 x.b)) (by kernel_rfl) (by kernel_rfl) ?_
              try simp only [Act.put, List.setIfInBounds_toArray, List.set_cons_zero, List.set_cons_succ]
              refine WL.nil ?_
              try simp only [Act.put, List.setIfInBounds_toArray, List.set_cons_zero, List.set_cons_succ]
              go_upto_region 24 with fail
              refine WL.start ?_
              refine wp_takeW (o := { dst := some 110, op := Op.load 29 (Operand.tmp 8), type := 29, pos := "law.go:60", after := #[], guard := none }) (.agg ((prepI at0 x.b).cells)) (exec_load 29 _ rfl ⟨P8, 0, none⟩ (by kernel_rfl) (.agg ((prepI at0 x.b).cells)) (load_I HP8.out)) (by kernel_rfl) ?_
              try simp only [Act.put, List.setIfInBounds_toArray, List.set_cons_zero, List.set_cons_succ]
              refine wp_takeW (o := { dst := some 111, op := Op.load 29 (Operand.tmp 9), type := 29, pos := "law.go:60", after := #[], guard := none }) (.agg ((prepI at0 x.b).cells)) (exec_load 29 _ rfl ⟨P9, 0, none⟩ (by kernel_rfl) (.agg ((prepI at0 x.b).cells)) (load_I HP9.out)) (by kernel_rfl) ?_
              try simp only [Act.put, List.setIfInBounds_toArray, List.set_cons_zero, List.set_cons_succ]
              refine wp_takeW (o := { dst := some 112, op := Op.binOp BinOp.neq 29 (Operand.tmp 110) (Operand.tmp 111) 29, type := 4, pos := "law.go:60", after := #[{ on := 0, ground := Ground.data }, { on := 1, ground := Ground.data }], guard := none }) (.bool false) (exec_bin .neq 29 _ _ _ rfl (.agg ((prepI at0 x.b).cells)) (.agg ((prepI at0 x.b).cells)) (.bool false) (by kernel_rfl) (by kernel_rfl) (guard_I _ (.inr rfl) _ _ _ _ _) (by rw [neqI, eqI_refl]; rfl)) (by kernel_rfl) ?_
              try simp only [Act.put, List.setIfInBounds_toArray, List.set_cons_zero, List.set_cons_succ]
              refine wp_takeW (o := { dst := some 113, op := Op.move (Operand.tmp 112), type := 4, pos := "law.go:60", after := #[{ on := 2, ground := Ground.data }], guard := none }) (.bool false) (by kernel_rfl) (by kernel_rfl) ?_
              try simp only [Act.put, List.setIfInBounds_toArray, List.set_cons_zero, List.set_cons_succ]
              refine wp_takeW (o := { dst := some 114, op := Op.move (Operand.tmp 12), type := 4, pos := "law.go:60", after := #[{ on := 3, ground := Ground.guard }], guard := some (3, false) }) (.bool (prepB at0 x.b)) (by kernel_rfl) (by kernel_rfl) ?_
              try simp only [Act.put, List.setIfInBounds_toArray, List.set_cons_zero, List.set_cons_succ]
              refine wp_takeW (o := { dst := some 115, op := Op.move (Operand.tmp 13), type := 4, pos := "law.go:60", after := #[{ on := 3, ground := Ground.guard }], guard := some (3, false) }) (.bool (prepBr at0 x.b)) (by kernel_rfl) (by kernel_rfl) ?_
              try simp only [Act.put, List.setIfInBounds_toArray, List.set_cons_zero, List.set_cons_succ]
              refine wp_takeW (o := { dst := some 116, op := Op.binOp BinOp.neq 4 (Operand.tmp 114) (Operand.tmp 115) 4, type := 4, pos := "law.go:60", after := #[{ on := 4, ground := Ground.data }, { on := 5, ground := Ground.data }, { on := 3, ground := Ground.guard }], guard := some (3, false) }) (.bool false) (exec_bin .neq 4 _ _ _ rfl (.bool (prepB at0 x.b)) (.bool (prepBr at0 x.b)) (.bool false) (by kernel_rfl) (by kernel_rfl) (by kernel_rfl) (by rw [neqB, prepB_eq]; first | rfl | simp)) (by kernel_rfl) ?_
              try simp only [Act.put, List.setIfInBounds_toArray, List.set_cons_zero, List.set_cons_succ]
              refine wp_takeW (o := { dst := some 117, op := Op.pick (Operand.tmp 113) (Operand.const (Value.bool true)) (Operand.tmp 116), type := 4, pos := "law.go:60", after := #[{ on := 3, ground := Ground.data }, { on := 6, ground := Ground.data }], guard := none }) (.bool false) (by kernel_rfl) (by kernel_rfl) ?_
              try simp only [Act.put, List.setIfInBounds_toArray, List.set_cons_zero, List.set_cons_succ]
              refine wp_takeW (o := { dst := some 118, op := Op.move (Operand.tmp 117), type := 4, pos := "law.go:60", after := #[{ on := 7, ground := Ground.data }, { on := 3, ground := Ground.chain }], guard := none }) (.bool false) (by kernel_rfl) (by kernel_rfl) ?_
              try simp only [Act.put, List.setIfInBounds_toArray, List.set_cons_zero, List.set_cons_succ]
              refine wp_takeW (o := { dst := some 119, op := Op.load 52 (Operand.tmp 10), type := 52, pos := "law.go:60", after := #[{ on := 8, ground := Ground.guard }], guard := some (8, false) }) (.agg ((prepM at0 x.b).cells)) (exec_load 52 _ rfl ⟨P10, 0, none⟩ (by kernel_rfl) (.agg ((prepM at0 x.b).cells)) (load_M HP10.out)) (by kernel_rfl) ?_
              try simp only [Act.put, List.setIfInBounds_toArray, List.set_cons_zero, List.set_cons_succ]
              refine wp_takeW (o := { dst := some 120, op := Op.load 52 (Operand.tmp 11), type := 52, pos := "law.go:60", after := #[{ on := 8, ground := Ground.guard }], guard := some (8, false) }) (.agg ((prepM at0 x.b).cells)) (exec_load 52 _ rfl ⟨P11, 0, none⟩ (by kernel_rfl) (.agg ((prepM at0 x.b).cells)) (load_M HP11.out)) (by kernel_rfl) ?_
              try simp only [Act.put, List.setIfInBounds_toArray, List.set_cons_zero, List.set_cons_succ]
              refine wp_callW (o := { dst := some 121, op := Op.call { callee := Callee.value (Operand.func 17), args := #[Operand.tmp 119, Operand.tmp 120], argTypes := #[52, 52] }, type := 4, pos := "law.go:60", after := #[{ on := 9, ground := Ground.data }, { on := 10, ground := Ground.data }, { on := 8, ground := Ground.chain }, { on := 8, ground := Ground.guard }], guard := some (8, false) }) 17 #[.agg ((prepM at0 x.b).cells), .agg ((prepM at0 x.b).cells)] (by kernel_rfl) _ (same_any _ _) (by kernel_rfl) ?_
              rintro e wk42 ⟨rfl, hk⟩
              have HA : Hid (Box wk42 (A) 29 (at0.cells)) := HA.out.kept hk (fun e => e)
              have HS : Hid (Box wk42 (S7) 38 (x.cells)) := HS.out.kept hk (fun e => e)
              have HP8 : Hid (Box wk42 (P8) 29 ((prepI at0 x.b).cells)) := HP8.out.kept hk (fun e => e)
              have HP9 : Hid (Box wk42 (P9) 29 ((prepI at0 x.b).cells)) := HP9.out.kept hk (fun e => e)
              have HP10 : Hid (Box wk42 (P10) 52 ((prepM at0 x.b).cells)) := HP10.out.kept hk (fun e => e)
              have HP11 : Hid (Box wk42 (P11) 52 ((prepM at0 x.b).cells)) := HP11.out.kept hk (fun e => e)
              have HK : Hid (Kept No w wk42) := HK.out.then hk
              have HLT : Hid (P11 < wk42.heap.size) := Nat.lt_of_lt_of_le HLT.out hk.size
              clear hk
              refine ⟨.bool true, rfl, ?_⟩
              try simp only [Act.put, List.setIfInBounds_toArray, List.set_cons_zero, List.set_cons_succ]
              refine wp_takeW (o := { dst := some 122, op := Op.unOp UnOp.not 4 (Operand.tmp 121), type := 4, pos := "law.go:60", after := #[{ on := 11, ground := Ground.data }, { on := 8, ground := Ground.guard }], guard := some (8, false) }) (.bool false) (by kernel_rfl) (by kernel_rfl) ?_
              try simp only [Act.put, List.setIfInBounds_toArray, List.set_cons_zero, List.set_cons_succ]
              refine wp_takeW (o := { dst := some 123, op := Op.pick (Operand.tmp 118) (Operand.const (Value.bool true)) (Operand.tmp 122), type := 4, pos := "law.go:60", after := #[{ on := 8, ground := Ground.data }, { on := 12, ground := Ground.data }], guard := none }) (.bool false) (by kernel_rfl) (by kernel_rfl) ?_
              try simp only [Act.put, List.setIfInBounds_toArray, List.set_cons_zero, List.set_cons_succ]
              refine WL.nil ?_
              try simp only [Act.put, List.setIfInBounds_toArray, List.set_cons_zero, List.set_cons_succ]
              go_upto_region 26 with fail
              refine WL.start ?_
              refine wp_takeW (o := { dst := some 124, op := Op.load 29 (Operand.tmp 9), type := 29, pos := "law.go:63", after := #[], guard := none }) (.agg ((prepI at0 x.b).cells)) (exec_load 29 _ rfl ⟨P9, 0, none⟩ (by kernel_rfl) (.agg ((prepI at0 x.b).cells)) (load_I HP9.out)) (by kernel_rfl) ?_
              try simp only [Act.put, List.setIfInBounds_toArray, List.set_cons_zero, List.set_cons_succ]
              refine wp_storeW (o := { dst := none, op := Op.store 29 (Operand.tmp 5) (Operand.tmp 124), type := 0, pos := "law.go:63", after := #[{ on := 0, ground := Ground.data }, { on := 0, ground := Ground.phase }], guard := none }) 29 _ _ rfl ⟨A, 0, none⟩ (.agg ((prepI at0 x.b).cells)) (by kernel_rfl) (by kernel_rfl) _ (store_I HA.out rfl) (by kernel_rfl) ?_
              try simp only [Act.put, List.setIfInBounds_toArray, List.set_cons_zero, List.set_cons_succ]
              have HLT : Hid (P11 < (wk42.setRow A (((prepI at0 x.b).cells))).heap.size) := by show _ < _; rw [setRow_size]; exact HLT.out
              have HA : Hid (Box (wk42.setRow A (((prepI at0 x.b).cells))) (A) 29 (((prepI at0 x.b).cells))) := HA.out.setRow _
              have HS : Hid (Box (wk42.setRow A (((prepI at0 x.b).cells))) (S7) 38 (x.cells)) := HS.out.rowNe (by have := HO.out; omega) _
              have HP8 : Hid (Box (wk42.setRow A (((prepI at0 x.b).cells))) (P8) 29 ((prepI at0 x.b).cells)) := HP8.out.rowNe (by have := HO.out; omega) _
              have HP9 : Hid (Box (wk42.setRow A (((prepI at0 x.b).cells))) (P9) 29 ((prepI at0 x.b).cells)) := HP9.out.rowNe (by have := HO.out; omega) _
              have HP10 : Hid (Box (wk42.setRow A (((prepI at0 x.b).cells))) (P10) 52 ((prepM at0 x.b).cells)) := HP10.out.rowNe (by have := HO.out; omega) _
              have HP11 : Hid (Box (wk42.setRow A (((prepI at0 x.b).cells))) (P11) 52 ((prepM at0 x.b).cells)) := HP11.out.rowNe (by have := HO.out; omega) _
              have HK : Hid (Kept No w (wk42.setRow A (((prepI at0 x.b).cells)))) := HK.out.newRow (by have := HO.out; omega) _
              generalize wk42.setRow A (((prepI at0 x.b).cells)) = wk43 at HA HS HP8 HP9 HP10 HP11 HK HLT ⊢
              refine WL.nil ?_
              try simp only [Act.put, List.setIfInBounds_toArray, List.set_cons_zero, List.set_cons_succ]
              have HF : Hid (AtI w A wk43 (fun _ => True)) := ⟨_, HA.out, HK.out, Nat.lt_of_le_of_lt (by have := HO.out; omega) HLT.out, trivial⟩
              go_wp2
              go_roundw
              case measure => simp [intOf]; omega
              case rel => exact ⟨k + 1, by go_num, by omega, HF⟩
        · skip
          refine any_take (i := 2) (oi := { dst := some 33, op := Op.binOp BinOp.neq 3 (Operand.tmp 32) (Operand.const (Value.int IntKind.i64 3)) 3, type := 4, pos := "law.go:43", after := #[{ on := 1, ground := Ground.data }], guard := none }) (v := .bool false) rfl (by kernel_rfl) (by kernel_rfl) (by kernel_rfl) (fun _ _ _ h => h) (by kernel_rfl) (fun w' hw => exec_bin .neq 3 _ _ _ rfl (.int .i64 x.k) (.int .i64 3) (.bool false) (by kernel_rfl) (by kernel_rfl) (by kernel_rfl) (by rw [neqN, q2]; try rfl)) hH ?_
          try simp only [Act.put, List.setIfInBounds_toArray, List.set_cons_zero, List.set_cons_succ]
          refine any_take (i := 3) (oi := { dst := some 34, op := Op.move (Operand.tmp 33), type := 4, pos := "law.go:43", after := #[{ on := 2, ground := Ground.data }], guard := none }) (v := .bool false) rfl (by kernel_rfl) (by kernel_rfl) (by kernel_rfl) (fun _ _ _ h => h) (by kernel_rfl) (fun _ _ => by kernel_rfl) hH ?_
          try simp only [Act.put, List.setIfInBounds_toArray, List.set_cons_zero, List.set_cons_succ]
          refine any_skip (i := 4) (oi := { dst := some 35, op := Op.fieldAddr 38 (Operand.tmp 7) 1, type := 0, pos := "law.go:43", after := #[{ on := 3, ground := Ground.guard }], guard := some (3, true) }) rfl (by kernel_rfl) (by kernel_rfl) (by kernel_rfl) (fun _ _ _ h => h) (by kernel_rfl) hH ?_
          try simp only [Act.put, List.setIfInBounds_toArray, List.set_cons_zero, List.set_cons_succ]
          refine any_skip (i := 5) (oi := { dst := some 36, op := Op.load 23 (Operand.tmp 35), type := 23, pos := "law.go:43", after := #[{ on := 4, ground := Ground.data }, { on := 3, ground := Ground.guard }], guard := some (3, true) }) rfl (by kernel_rfl) (by kernel_rfl) (by kernel_rfl) (fun _ _ _ h => h) (by kernel_rfl) hH ?_
          try simp only [Act.put, List.setIfInBounds_toArray, List.set_cons_zero, List.set_cons_succ]
          refine any_skip (i := 6) (oi := { dst := some 37, op := Op.call { callee := Callee.value (Operand.func 9), args := #[Operand.tmp 36], argTypes := #[23] }, type := 4, pos := "law.go:43", after := #[{ on := 5, ground := Ground.data }, { on := 3, ground := Ground.chain }, { on := 3, ground := Ground.guard }], guard := some (3, true) }) rfl (by kernel_rfl) (by kernel_rfl) (by kernel_rfl) (fun _ _ _ h => h) (by kernel_rfl) hH ?_
          try simp only [Act.put, List.setIfInBounds_toArray, List.set_cons_zero, List.set_cons_succ]
          refine any_skip (i := 7) (oi := { dst := some 38, op := Op.unOp UnOp.not 4 (Operand.tmp 37), type := 4, pos := "law.go:43", after := #[{ on := 6, ground := Ground.data }, { on := 3, ground := Ground.guard }], guard := some (3, true) }) rfl (by kernel_rfl) (by kernel_rfl) (by kernel_rfl) (fun _ _ _ h => h) (by kernel_rfl) hH ?_
          try simp only [Act.put, List.setIfInBounds_toArray, List.set_cons_zero, List.set_cons_succ]
          refine any_take (i := 8) (oi := { dst := some 39, op := Op.pick (Operand.tmp 34) (Operand.tmp 38) (Operand.const (Value.bool false)), type := 4, pos := "law.go:43", after := #[{ on := 3, ground := Ground.data }, { on := 7, ground := Ground.data }], guard := none }) (v := .bool false) rfl (by kernel_rfl) (by kernel_rfl) (by kernel_rfl) (fun _ _ _ h => h) (by kernel_rfl) (fun _ _ => by kernel_rfl) hH ?_
          try simp only [Act.put, List.setIfInBounds_toArray, List.set_cons_zero, List.set_cons_succ]
          refine any_take (i := 9) (oi := { dst := some 40, op := Op.move (Operand.tmp 39), type := 4, pos := "law.go:43", after := #[{ on := 8, ground := Ground.data }, { on := 6, ground := Ground.chain }], guard := none }) (v := .bool false) rfl (by kernel_rfl) (by kernel_rfl) (by kernel_rfl) (fun _ _ _ h => h) (by kernel_rfl) (fun _ _ => by kernel_rfl) hH ?_
          try simp only [Act.put, List.setIfInBounds_toArray, List.set_cons_zero, List.set_cons_succ]
          refine any_take (i := 10) (oi := { dst := some 41, op := Op.fieldAddr 38 (Operand.tmp 7) 0, type := 0, pos := "law.go:43", after := #[{ on := 9, ground := Ground.guard }], guard := some (9, false) }) (v := .pointer (some ⟨S7, 0, none⟩)) rfl (by kernel_rfl) (by kernel_rfl) (by kernel_rfl) (fun _ _ _ h => h) (by kernel_rfl) (fun _ _ => by kernel_rfl) hH ?_
          try simp only [Act.put, List.setIfInBounds_toArray, List.set_cons_zero, List.set_cons_succ]
          refine any_take (i := 11) (oi := { dst := some 42, op := Op.load 3 (Operand.tmp 41), type := 3, pos := "law.go:43", after := #[{ on := 10, ground := Ground.data }, { on := 9, ground := Ground.guard }], guard := some (9, false) }) (v := .int .i64 x.k) rfl (by kernel_rfl) (by kernel_rfl) (by kernel_rfl) (fun _ _ _ h => h) (by kernel_rfl) (fun w' hw => exec_load 3 _ rfl ⟨S7, 0, none⟩ (by kernel_rfl) (.int .i64 x.k) (load_N (hw.cell 0))) hH ?_
          try simp only [Act.put, List.setIfInBounds_toArray, List.set_cons_zero, List.set_cons_succ]
          cases q7 : (x.k == 1)
          · skip
            refine any_take (i := 12) (oi := { dst := some 43, op := Op.binOp BinOp.neq 3 (Operand.tmp 42) (Operand.const (Value.int IntKind.i64 1)) 3, type := 4, pos := "law.go:43", after := #[{ on := 11, ground := Ground.data }, { on := 9, ground := Ground.guard }], guard := some (9, false) }) (v := .bool true) rfl (by kernel_rfl) (by kernel_rfl) (by kernel_rfl) (fun _ _ _ h => h) (by kernel_rfl) (fun w' hw => exec_bin .neq 3 _ _ _ rfl (.int .i64 x.k) (.int .i64 1) (.bool true) (by kernel_rfl) (by kernel_rfl) (by kernel_rfl) (by rw [neqN, q7]; try rfl)) hH ?_
            try simp only [Act.put, List.setIfInBounds_toArray, List.set_cons_zero, List.set_cons_succ]
            refine any_take (i := 13) (oi := { dst := some 44, op := Op.move (Operand.tmp 43), type := 4, pos := "law.go:43", after := #[{ on := 12, ground := Ground.data }, { on := 9, ground := Ground.chain }, { on := 9, ground := Ground.guard }], guard := some (9, false) }) (v := .bool true) rfl (by kernel_rfl) (by kernel_rfl) (by kernel_rfl) (fun _ _ _ h => h) (by kernel_rfl) (fun _ _ => by kernel_rfl) hH ?_
            try simp only [Act.put, List.setIfInBounds_toArray, List.set_cons_zero, List.set_cons_succ]
            refine any_take (i := 14) (oi := { dst := some 45, op := Op.fieldAddr 38 (Operand.tmp 7) 2, type := 0, pos := "law.go:43", after := #[{ on := 13, ground := Ground.guard }], guard := some (13, true) }) (v := .pointer (some ⟨S7, 3, none⟩)) rfl (by kernel_rfl) (by kernel_rfl) (by kernel_rfl) (fun _ _ _ h => h) (by kernel_rfl) (fun _ _ => by kernel_rfl) hH ?_
            try simp only [Act.put, List.setIfInBounds_toArray, List.set_cons_zero, List.set_cons_succ]
            refine any_take (i := 15) (oi := { dst := some 46, op := Op.load 27 (Operand.tmp 45), type := 27, pos := "law.go:43", after := #[{ on := 14, ground := Ground.data }, { on := 13, ground := Ground.guard }], guard := some (13, true) }) (v := .agg x.c.cells) rfl (by kernel_rfl) (by kernel_rfl) (by kernel_rfl) (fun _ _ _ h => h) (by kernel_rfl) (fun w' hw => exec_load 27 _ rfl ⟨S7, 3, none⟩ (by kernel_rfl) (.agg x.c.cells) (load_XC hw)) hH ?_
            try simp only [Act.put, List.setIfInBounds_toArray, List.set_cons_zero, List.set_cons_succ]
            refine any_call (i := 16) (o := { dst := some 47, op := Op.call { callee := Callee.value (Operand.func 8), args := #[], argTypes := #[] }, type := 35, pos := "law.go:43", after := #[{ on := 13, ground := Ground.chain }, { on := 13, ground := Ground.guard }], guard := some (13, true) }) rfl (by kernel_rfl) (by kernel_rfl) 8 #[] (by kernel_rfl) _ (wide_any _) ?_
            rintro e wk45 ⟨wa44, rfl, hk⟩
            have HA : Hid (Box wk45 (A) 29 (at0.cells)) := HA.out.kept hk (fun e => e)
            have HS : Hid (Box wk45 (S7) 38 (x.cells)) := HS.out.kept hk (fun e => e)
            have HK : Hid (Kept No w wk45) := HK.out.then hk
            have HLT : Hid (S7 < wk45.heap.size) := Nat.lt_of_lt_of_le HLT.out hk.size
            clear hk
            refine ⟨.agg (wideC wa44), rfl, HS.out, fun hH => ?_⟩
            try simp only [Act.put, List.setIfInBounds_toArray, List.set_cons_zero, List.set_cons_succ]
            cases q8 : (cmdB x.c)
            · skip
              refine any_call (i := 17) (o := { dst := some 48, op := Op.call { callee := Callee.value (Operand.func 10), args := #[Operand.tmp 46, Operand.tmp 47], argTypes := #[27, 35] }, type := 4, pos := "law.go:43", after := #[{ on := 15, ground := Ground.data }, { on := 16, ground := Ground.data }, { on := 16, ground := Ground.chain }, { on := 13, ground := Ground.guard }], guard := some (13, true) }) rfl (by kernel_rfl) (by kernel_rfl) 10 #[.agg x.c.cells, .agg (wideC wa44)] (by kernel_rfl) _ (cmd_any x.c wa44 _) ?_
              rintro e wk46 ⟨rfl, hk⟩
              have HA : Hid (Box wk46 (A) 29 (at0.cells)) := HA.out.kept hk (fun e => e)
              have HS : Hid (Box wk46 (S7) 38 (x.cells)) := HS.out.kept hk (fun e => e)
              have HK : Hid (Kept No w wk46) := HK.out.then hk
              have HLT : Hid (S7 < wk46.heap.size) := Nat.lt_of_lt_of_le HLT.out hk.size
              clear hk
              refine ⟨.bool false, by rw [q8], HS.out, fun hH => ?_⟩
              try simp only [Act.put, List.setIfInBounds_toArray, List.set_cons_zero, List.set_cons_succ]
              refine any_take (i := 18) (oi := { dst := some 49, op := Op.unOp UnOp.not 4 (Operand.tmp 48), type := 4, pos := "law.go:43", after := #[{ on := 17, ground := Ground.data }, { on := 13, ground := Ground.guard }], guard := some (13, true) }) (v := .bool true) rfl (by kernel_rfl) (by kernel_rfl) (by kernel_rfl) (fun _ _ _ h => h) (by kernel_rfl) (fun _ _ => by kernel_rfl) hH ?_
              try simp only [Act.put, List.setIfInBounds_toArray, List.set_cons_zero, List.set_cons_succ]
              refine any_take (i := 19) (oi := { dst := some 50, op := Op.pick (Operand.tmp 44) (Operand.tmp 49) (Operand.const (Value.bool false)), type := 4, pos := "law.go:43", after := #[{ on := 13, ground := Ground.data }, { on := 18, ground := Ground.data }, { on := 9, ground := Ground.guard }], guard := some (9, false) }) (v := .bool true) rfl (by kernel_rfl) (by kernel_rfl) (by kernel_rfl) (fun _ _ _ h => h) (by kernel_rfl) (fun _ _ => by kernel_rfl) hH ?_
              try simp only [Act.put, List.setIfInBounds_toArray, List.set_cons_zero, List.set_cons_succ]
              refine any_take (i := 20) (oi := { dst := some 51, op := Op.pick (Operand.tmp 40) (Operand.const (Value.bool true)) (Operand.tmp 50), type := 4, pos := "law.go:43", after := #[{ on := 9, ground := Ground.data }, { on := 19, ground := Ground.data }], guard := none }) (v := .bool true) rfl (by kernel_rfl) (by kernel_rfl) (by kernel_rfl) (fun _ _ _ h => h) (by kernel_rfl) (fun _ _ => by kernel_rfl) hH ?_
              try simp only [Act.put, List.setIfInBounds_toArray, List.set_cons_zero, List.set_cons_succ]
              refine wpAnyH_done (by kernel_rfl) ?_ _
              try simp only [Act.put, List.setIfInBounds_toArray, List.set_cons_zero, List.set_cons_succ]
              have HF : Hid (AtI w A wk46 (fun _ => True)) := ⟨_, HA.out, HK.out, Nat.lt_of_le_of_lt (by have := HO.out; omega) HLT.out, trivial⟩
              go_wp2
              go_roundw
              case measure => simp [intOf]; omega
              case rel => exact ⟨k + 1, by go_num, by omega, HF⟩
            · skip
              refine any_call (i := 17) (o := { dst := some 48, op := Op.call { callee := Callee.value (Operand.func 10), args := #[Operand.tmp 46, Operand.tmp 47], argTypes := #[27, 35] }, type := 4, pos := "law.go:43", after := #[{ on := 15, ground := Ground.data }, { on := 16, ground := Ground.data }, { on := 16, ground := Ground.chain }, { on := 13, ground := Ground.guard }], guard := some (13, true) }) rfl (by kernel_rfl) (by kernel_rfl) 10 #[.agg x.c.cells, .agg (wideC wa44)] (by kernel_rfl) _ (cmd_any x.c wa44 _) ?_
              rintro e wk47 ⟨rfl, hk⟩
              have HA : Hid (Box wk47 (A) 29 (at0.cells)) := HA.out.kept hk (fun e => e)
              have HS : Hid (Box wk47 (S7) 38 (x.cells)) := HS.out.kept hk (fun e => e)
              have HK : Hid (Kept No w wk47) := HK.out.then hk
              have HLT : Hid (S7 < wk47.heap.size) := Nat.lt_of_lt_of_le HLT.out hk.size
              clear hk
              refine ⟨.bool true, by rw [q8], HS.out, fun hH => ?_⟩
              try simp only [Act.put, List.setIfInBounds_toArray, List.set_cons_zero, List.set_cons_succ]
              refine any_take (i := 18) (oi := { dst := some 49, op := Op.unOp UnOp.not 4 (Operand.tmp 48), type := 4, pos := "law.go:43", after := #[{ on := 17, ground := Ground.data }, { on := 13, ground := Ground.guard }], guard := some (13, true) }) (v := .bool false) rfl (by kernel_rfl) (by kernel_rfl) (by kernel_rfl) (fun _ _ _ h => h) (by kernel_rfl) (fun _ _ => by kernel_rfl) hH ?_
              try simp only [Act.put, List.setIfInBounds_toArray, List.set_cons_zero, List.set_cons_succ]
              refine any_take (i := 19) (oi := { dst := some 50, op := Op.pick (Operand.tmp 44) (Operand.tmp 49) (Operand.const (Value.bool false)), type := 4, pos := "law.go:43", after := #[{ on := 13, ground := Ground.data }, { on := 18, ground := Ground.data }, { on := 9, ground := Ground.guard }], guard := some (9, false) }) (v := .bool false) rfl (by kernel_rfl) (by kernel_rfl) (by kernel_rfl) (fun _ _ _ h => h) (by kernel_rfl) (fun _ _ => by kernel_rfl) hH ?_
              try simp only [Act.put, List.setIfInBounds_toArray, List.set_cons_zero, List.set_cons_succ]
              refine any_take (i := 20) (oi := { dst := some 51, op := Op.pick (Operand.tmp 40) (Operand.const (Value.bool true)) (Operand.tmp 50), type := 4, pos := "law.go:43", after := #[{ on := 9, ground := Ground.data }, { on := 19, ground := Ground.data }], guard := none }) (v := .bool false) rfl (by kernel_rfl) (by kernel_rfl) (by kernel_rfl) (fun _ _ _ h => h) (by kernel_rfl) (fun _ _ => by kernel_rfl) hH ?_
              try simp only [Act.put, List.setIfInBounds_toArray, List.set_cons_zero, List.set_cons_succ]
              refine wpAnyH_done (by kernel_rfl) ?_ _
              try simp only [Act.put, List.setIfInBounds_toArray, List.set_cons_zero, List.set_cons_succ]
              go_upto_region 11 with fail
              refine WL.start ?_
              refine wp_allocW (o := { dst := some 8, op := Op.alloc 29, type := 0, pos := "law.go:46", after := #[], guard := none }) 29 rfl (iZ.cells) zero29 wk47.heap.size rfl (by kernel_rfl) ?_
              try simp only [Act.put, List.setIfInBounds_toArray, List.set_cons_zero, List.set_cons_succ]
              have HP8 : Hid (Box (wk47.alloc (.cells (iZ.cells) 29)) wk47.heap.size 29 (iZ.cells)) := Box.new _ _ _
              have HA : Hid (Box (wk47.alloc (.cells (iZ.cells) 29)) (A) 29 (at0.cells)) := HA.out.alloc _
              have HS : Hid (Box (wk47.alloc (.cells (iZ.cells) 29)) (S7) 38 (x.cells)) := HS.out.alloc _
              have HK : Hid (Kept No w (wk47.alloc (.cells (iZ.cells) 29))) := HK.out.alloc _
              have HO : Hid (w.heap.size ≤ A ∧ A < S7 ∧ S7 < wk47.heap.size) := by
                have h := HO.out
                have l := HLT.out
                show _ ∧ _
                omega
              have HLT : Hid (wk47.heap.size < (wk47.alloc (.cells (iZ.cells) 29)).heap.size) := by show _ < _; simp
              generalize wk47.alloc (.cells (iZ.cells) 29) = wk48 at HA HS HP8 HK HLT ⊢
              generalize wk47.heap.size = P8 at HP8 HO HLT ⊢
              refine wp_allocW (o := { dst := some 9, op := Op.alloc 29, type := 0, pos := "law.go:46", after := #[], guard := none }) 29 rfl (iZ.cells) zero29 wk48.heap.size rfl (by kernel_rfl) ?_
              try simp only [Act.put, List.setIfInBounds_toArray, List.set_cons_zero, List.set_cons_succ]
              have HP9 : Hid (Box (wk48.alloc (.cells (iZ.cells) 29)) wk48.heap.size 29 (iZ.cells)) := Box.new _ _ _
              have HA : Hid (Box (wk48.alloc (.cells (iZ.cells) 29)) (A) 29 (at0.cells)) := HA.out.alloc _
              have HS : Hid (Box (wk48.alloc (.cells (iZ.cells) 29)) (S7) 38 (x.cells)) := HS.out.alloc _
              have HP8 : Hid (Box (wk48.alloc (.cells (iZ.cells) 29)) (P8) 29 (iZ.cells)) := HP8.out.alloc _
              have HK : Hid (Kept No w (wk48.alloc (.cells (iZ.cells) 29))) := HK.out.alloc _
              have HO : Hid (w.heap.size ≤ A ∧ A < S7 ∧ S7 < P8 ∧ P8 < wk48.heap.size) := by
                have h := HO.out
                have l := HLT.out
                show _ ∧ _
                omega
              have HLT : Hid (wk48.heap.size < (wk48.alloc (.cells (iZ.cells) 29)).heap.size) := by show _ < _; simp
              generalize wk48.alloc (.cells (iZ.cells) 29) = wk49 at HA HS HP8 HP9 HK HLT ⊢
              generalize wk48.heap.size = P9 at HP9 HO HLT ⊢
              refine WL.nil ?_
              try simp only [Act.put, List.setIfInBounds_toArray, List.set_cons_zero, List.set_cons_succ]
              go_upto_region 12 with fail
              refine WL.start ?_
              refine wp_allocW (o := { dst := some 10, op := Op.alloc 52, type := 0, pos := "law.go:47", after := #[], guard := none }) 52 rfl (mZ.cells) zero52 wk49.heap.size rfl (by kernel_rfl) ?_
              try simp only [Act.put, List.setIfInBounds_toArray, List.set_cons_zero, List.set_cons_succ]
              have HP10 : Hid (Box (wk49.alloc (.cells (mZ.cells) 52)) wk49.heap.size 52 (mZ.cells)) := Box.new _ _ _
              have HA : Hid (Box (wk49.alloc (.cells (mZ.cells) 52)) (A) 29 (at0.cells)) := HA.out.alloc _
              have HS : Hid (Box (wk49.alloc (.cells (mZ.cells) 52)) (S7) 38 (x.cells)) := HS.out.alloc _
              have HP8 : Hid (Box (wk49.alloc (.cells (mZ.cells) 52)) (P8) 29 (iZ.cells)) := HP8.out.alloc _
              have HP9 : Hid (Box (wk49.alloc (.cells (mZ.cells) 52)) (P9) 29 (iZ.cells)) := HP9.out.alloc _
              have HK : Hid (Kept No w (wk49.alloc (.cells (mZ.cells) 52))) := HK.out.alloc _
              have HO : Hid (w.heap.size ≤ A ∧ A < S7 ∧ S7 < P8 ∧ P8 < P9 ∧ P9 < wk49.heap.size) := by
                have h := HO.out
                have l := HLT.out
                show _ ∧ _
                omega
              have HLT : Hid (wk49.heap.size < (wk49.alloc (.cells (mZ.cells) 52)).heap.size) := by show _ < _; simp
              generalize wk49.alloc (.cells (mZ.cells) 52) = wk50 at HA HS HP8 HP9 HP10 HK HLT ⊢
              generalize wk49.heap.size = P10 at HP10 HO HLT ⊢
              refine wp_allocW (o := { dst := some 11, op := Op.alloc 52, type := 0, pos := "law.go:47", after := #[], guard := none }) 52 rfl (mZ.cells) zero52 wk50.heap.size rfl (by kernel_rfl) ?_
              try simp only [Act.put, List.setIfInBounds_toArray, List.set_cons_zero, List.set_cons_succ]
              have HP11 : Hid (Box (wk50.alloc (.cells (mZ.cells) 52)) wk50.heap.size 52 (mZ.cells)) := Box.new _ _ _
              have HA : Hid (Box (wk50.alloc (.cells (mZ.cells) 52)) (A) 29 (at0.cells)) := HA.out.alloc _
              have HS : Hid (Box (wk50.alloc (.cells (mZ.cells) 52)) (S7) 38 (x.cells)) := HS.out.alloc _
              have HP8 : Hid (Box (wk50.alloc (.cells (mZ.cells) 52)) (P8) 29 (iZ.cells)) := HP8.out.alloc _
              have HP9 : Hid (Box (wk50.alloc (.cells (mZ.cells) 52)) (P9) 29 (iZ.cells)) := HP9.out.alloc _
              have HP10 : Hid (Box (wk50.alloc (.cells (mZ.cells) 52)) (P10) 52 (mZ.cells)) := HP10.out.alloc _
              have HK : Hid (Kept No w (wk50.alloc (.cells (mZ.cells) 52))) := HK.out.alloc _
              have HO : Hid (w.heap.size ≤ A ∧ A < S7 ∧ S7 < P8 ∧ P8 < P9 ∧ P9 < P10 ∧ P10 < wk50.heap.size) := by
                have h := HO.out
                have l := HLT.out
                show _ ∧ _
                omega
              have HLT : Hid (wk50.heap.size < (wk50.alloc (.cells (mZ.cells) 52)).heap.size) := by show _ < _; simp
              generalize wk50.alloc (.cells (mZ.cells) 52) = wk51 at HA HS HP8 HP9 HP10 HP11 HK HLT ⊢
              generalize wk50.heap.size = P11 at HP11 HO HLT ⊢
              refine WL.nil ?_
              try simp only [Act.put, List.setIfInBounds_toArray, List.set_cons_zero, List.set_cons_succ]
              go_upto_region 14 with fail
              refine WL.start ?_
              refine wp_takeW (o := { dst := some 52, op := Op.fieldAddr 38 (Operand.tmp 7) 0, type := 0, pos := "law.go:49", after := #[], guard := none }) (.pointer (some ⟨S7, 0, none⟩)) (by kernel_rfl) (by kernel_rfl) ?_
              try simp only [Act.put, List.setIfInBounds_toArray, List.set_cons_zero, List.set_cons_succ]
              refine wp_takeW (o := { dst := some 53, op := Op.load 3 (Operand.tmp 52), type := 3, pos := "law.go:49", after := #[{ on := 0, ground := Ground.data }], guard := none }) (.int .i64 x.k) (exec_load 3 _ rfl ⟨S7, 0, none⟩ (by kernel_rfl) (.int .i64 x.k) (load_N (HS.out.cell 0))) (by kernel_rfl) ?_
              try simp only [Act.put, List.setIfInBounds_toArray, List.set_cons_zero, List.set_cons_succ]
              refine WL.nil ?_
              try simp only [Act.put, List.setIfInBounds_toArray, List.set_cons_zero, List.set_cons_succ]
              go_upto_region 15 with fail
              refine WL.start ?_
              refine wp_takeW (o := { dst := some 55, op := Op.binOp BinOp.eql 3 (Operand.tmp 53) (Operand.const (Value.int IntKind.i64 1)) 3, type := 4, pos := "law.go:50", after := #[], guard := none }) (.bool false) (exec_bin .eql 3 _ _ _ rfl (.int .i64 x.k) (.int .i64 1) (.bool false) (by kernel_rfl) (by kernel_rfl) (by kernel_rfl) (by rw [eqlN, q7]; try rfl)) (by kernel_rfl) ?_
              try simp only [Act.put, List.setIfInBounds_toArray, List.set_cons_zero, List.set_cons_succ]
              refine wp_takeW (o := { dst := some 54, op := Op.assign (Operand.tmp 55), type := 4, pos := "law.go:50", after := #[{ on := 0, ground := Ground.data }], guard := none }) (.bool false) (by kernel_rfl) (by kernel_rfl) ?_
              try simp only [Act.put, List.setIfInBounds_toArray, List.set_cons_zero, List.set_cons_succ]
              refine WL.nil ?_
              try simp only [Act.put, List.setIfInBounds_toArray, List.set_cons_zero, List.set_cons_succ]
              go_upto_region 18 with fail
              refine WL.start ?_
              cases q9 : (x.k == 2)
              · skip
                refine wp_takeW (o := { dst := some 73, op := Op.binOp BinOp.eql 3 (Operand.tmp 53) (Operand.const (Value.int IntKind.i64 2)) 3, type := 4, pos := "law.go:53", after := #[], guard := none }) (.bool false) (exec_bin .eql 3 _ _ _ rfl (.int .i64 x.k) (.int .i64 2) (.bool false) (by kernel_rfl) (by kernel_rfl) (by kernel_rfl) (by rw [eqlN, q9]; try rfl)) (by kernel_rfl) ?_
                try simp only [Act.put, List.setIfInBounds_toArray, List.set_cons_zero, List.set_cons_succ]
                refine wp_takeW (o := { dst := some 72, op := Op.assign (Operand.tmp 73), type := 4, pos := "law.go:53", after := #[{ on := 0, ground := Ground.data }], guard := none }) (.bool false) (by kernel_rfl) (by kernel_rfl) ?_
                try simp only [Act.put, List.setIfInBounds_toArray, List.set_cons_zero, List.set_cons_succ]
                refine WL.nil ?_
                try simp only [Act.put, List.setIfInBounds_toArray, List.set_cons_zero, List.set_cons_succ]
                go_upto_region 21 with fail
                refine WL.start ?_
                refine wp_takeW (o := { dst := some 95, op := Op.binOp BinOp.eql 3 (Operand.tmp 53) (Operand.const (Value.int IntKind.i64 3)) 3, type := 4, pos := "law.go:56", after := #[], guard := none }) (.bool true) (exec_bin .eql 3 _ _ _ rfl (.int .i64 x.k) (.int .i64 3) (.bool true) (by kernel_rfl) (by kernel_rfl) (by kernel_rfl) (by rw [eqlN, q2]; try rfl)) (by kernel_rfl) ?_
                try simp only [Act.put, List.setIfInBounds_toArray, List.set_cons_zero, List.set_cons_succ]
                refine wp_takeW (o := { dst := some 94, op := Op.assign (Operand.tmp 95), type := 4, pos := "law.go:56", after := #[{ on := 0, ground := Ground.data }], guard := none }) (.bool true) (by kernel_rfl) (by kernel_rfl) ?_
                try simp only [Act.put, List.setIfInBounds_toArray, List.set_cons_zero, List.set_cons_succ]
                refine WL.nil ?_
                try simp only [Act.put, List.setIfInBounds_toArray, List.set_cons_zero, List.set_cons_succ]
                go_upto_region 22 with fail
                refine WL.start ?_
                refine wp_takeW (o := { dst := some 97, op := Op.load 29 (Operand.tmp 5), type := 29, pos := "law.go:57", after := #[], guard := none }) (.agg at0.cells) (exec_load 29 _ rfl ⟨A, 0, none⟩ (by kernel_rfl) (.agg at0.cells) (load_I HA.out)) (by kernel_rfl) ?_
                try simp only [Act.put, List.setIfInBounds_toArray, List.set_cons_zero, List.set_cons_succ]
                refine wp_takeW (o := { dst := some 98, op := Op.fieldAddr 38 (Operand.tmp 7) 2, type := 0, pos := "law.go:57", after := #[], guard := none }) (.pointer (some ⟨S7, 3, none⟩)) (by kernel_rfl) (by kernel_rfl) ?_
                try simp only [Act.put, List.setIfInBounds_toArray, List.set_cons_zero, List.set_cons_succ]
                refine wp_takeW (o := { dst := some 99, op := Op.load 27 (Operand.tmp 98), type := 27, pos := "law.go:57", after := #[{ on := 1, ground := Ground.data }], guard := none }) (.agg x.c.cells) (exec_load 27 _ rfl ⟨S7, 3, none⟩ (by kernel_rfl) (.agg x.c.cells) (load_XC HS.out)) (by kernel_rfl) ?_
                try simp only [Act.put, List.setIfInBounds_toArray, List.set_cons_zero, List.set_cons_succ]
                refine wp_callW (o := { dst := some 100, op := Op.call { callee := Callee.value (Operand.func 15), args := #[Operand.tmp 97, Operand.tmp 99], argTypes := #[29, 27] }, type := 56, pos := "law.go:57", after := #[{ on := 0, ground := Ground.data }, { on := 2, ground := Ground.data }], guard := none }) 15 #[.agg at0.cells, .agg x.c.cells] (by kernel_rfl) _ (lrn_any at0 x.c _) (by kernel_rfl) ?_
                rintro e wk52 ⟨rfl, hk⟩
                have HA : Hid (Box wk52 (A) 29 (at0.cells)) := HA.out.kept hk (fun e => e)
                have HS : Hid (Box wk52 (S7) 38 (x.cells)) := HS.out.kept hk (fun e => e)
                have HP8 : Hid (Box wk52 (P8) 29 (iZ.cells)) := HP8.out.kept hk (fun e => e)
                have HP9 : Hid (Box wk52 (P9) 29 (iZ.cells)) := HP9.out.kept hk (fun e => e)
                have HP10 : Hid (Box wk52 (P10) 52 (mZ.cells)) := HP10.out.kept hk (fun e => e)
                have HP11 : Hid (Box wk52 (P11) 52 (mZ.cells)) := HP11.out.kept hk (fun e => e)
                have HK : Hid (Kept No w wk52) := HK.out.then hk
                have HLT : Hid (P11 < wk52.heap.size) := Nat.lt_of_lt_of_le HLT.out hk.size
                clear hk
                refine ⟨.tuple #[.agg (lrnI at0 x.c).cells, .bool (lrnB at0 x.c)], rfl, ?_⟩
                try simp only [Act.put, List.setIfInBounds_toArray, List.set_cons_zero, List.set_cons_succ]
                refine wp_takeW (o := { dst := some 96, op := Op.move (Operand.tmp 100), type := 56, pos := "law.go:57", after := #[{ on := 3, ground := Ground.data }], guard := none }) (.tuple #[.agg (lrnI at0 x.c).cells, .bool (lrnB at0 x.c)]) (by kernel_rfl) (by kernel_rfl) ?_
                try simp only [Act.put, List.setIfInBounds_toArray, List.set_cons_zero, List.set_cons_succ]
                refine wp_takeW (o := { dst := some 101, op := Op.extract (Operand.tmp 96) 0, type := 29, pos := "law.go:57", after := #[{ on := 4, ground := Ground.data }], guard := none }) (.agg (lrnI at0 x.c).cells) (by kernel_rfl) (by kernel_rfl) ?_
                try simp only [Act.put, List.setIfInBounds_toArray, List.set_cons_zero, List.set_cons_succ]
                refine wp_takeW (o := { dst := some 102, op := Op.extract (Operand.tmp 96) 1, type := 4, pos := "law.go:57", after := #[{ on := 4, ground := Ground.data }, { on := 7, ground := Ground.gcOnly Departure.lateStores }], guard := none }) (.bool (lrnB at0 x.c)) (by kernel_rfl) (by kernel_rfl) ?_
                try simp only [Act.put, List.setIfInBounds_toArray, List.set_cons_zero, List.set_cons_succ]
                refine wp_storeW (o := { dst := none, op := Op.store 29 (Operand.tmp 8) (Operand.tmp 101), type := 0, pos := "law.go:57", after := #[{ on := 5, ground := Ground.data }, { on := 3, ground := Ground.chain }, { on := 0, ground := Ground.phase }, { on := 1, ground := Ground.phase }, { on := 2, ground := Ground.phase }, { on := 3, ground := Ground.phase }, { on := 4, ground := Ground.phase }, { on := 5, ground := Ground.phase }, { on := 6, ground := Ground.textOnly Departure.lateStores }], guard := none }) 29 _ _ rfl ⟨P8, 0, none⟩ (.agg (lrnI at0 x.c).cells) (by kernel_rfl) (by kernel_rfl) _ (store_I HP8.out rfl) (by kernel_rfl) ?_
                try simp only [Act.put, List.setIfInBounds_toArray, List.set_cons_zero, List.set_cons_succ]
                have HLT : Hid (P11 < (wk52.setRow P8 ((lrnI at0 x.c).cells)).heap.size) := by show _ < _; rw [setRow_size]; exact HLT.out
                have HA : Hid (Box (wk52.setRow P8 ((lrnI at0 x.c).cells)) (A) 29 (at0.cells)) := HA.out.rowNe (by have := HO.out; omega) _
                have HS : Hid (Box (wk52.setRow P8 ((lrnI at0 x.c).cells)) (S7) 38 (x.cells)) := HS.out.rowNe (by have := HO.out; omega) _
                have HP8 : Hid (Box (wk52.setRow P8 ((lrnI at0 x.c).cells)) (P8) 29 ((lrnI at0 x.c).cells)) := HP8.out.setRow _
                have HP9 : Hid (Box (wk52.setRow P8 ((lrnI at0 x.c).cells)) (P9) 29 (iZ.cells)) := HP9.out.rowNe (by have := HO.out; omega) _
                have HP10 : Hid (Box (wk52.setRow P8 ((lrnI at0 x.c).cells)) (P10) 52 (mZ.cells)) := HP10.out.rowNe (by have := HO.out; omega) _
                have HP11 : Hid (Box (wk52.setRow P8 ((lrnI at0 x.c).cells)) (P11) 52 (mZ.cells)) := HP11.out.rowNe (by have := HO.out; omega) _
                have HK : Hid (Kept No w (wk52.setRow P8 ((lrnI at0 x.c).cells))) := HK.out.newRow (by have := HO.out; omega) _
                generalize wk52.setRow P8 ((lrnI at0 x.c).cells) = wk53 at HA HS HP8 HP9 HP10 HP11 HK HLT ⊢
                refine wp_takeW (o := { dst := some 12, op := Op.assign (Operand.tmp 102), type := 4, pos := "law.go:57", after := #[{ on := 6, ground := Ground.data }, { on := 7, ground := Ground.chain }, { on := 0, ground := Ground.phase }, { on := 1, ground := Ground.phase }, { on := 2, ground := Ground.phase }, { on := 3, ground := Ground.phase }, { on := 4, ground := Ground.phase }, { on := 5, ground := Ground.phase }, { on := 6, ground := Ground.phase }, { on := 7, ground := Ground.phase }], guard := none }) (.bool (lrnB at0 x.c)) (by kernel_rfl) (by kernel_rfl) ?_
                try simp only [Act.put, List.setIfInBounds_toArray, List.set_cons_zero, List.set_cons_succ]
                refine WL.nil ?_
                try simp only [Act.put, List.setIfInBounds_toArray, List.set_cons_zero, List.set_cons_succ]
                go_upto_region 23 with fail
                refine WL.start ?_
                refine wp_takeW (o := { dst := some 104, op := Op.load 29 (Operand.tmp 5), type := 29, pos := "law.go:58", after := #[], guard := none }) (.agg at0.cells) (exec_load 29 _ rfl ⟨A, 0, none⟩ (by kernel_rfl) (.agg at0.cells) (load_I HA.out)) (by kernel_rfl) ?_
                try simp only [Act.put, List.setIfInBounds_toArray, List.set_cons_zero, List.set_cons_succ]
                refine wp_takeW (o := { dst := some 105, op := Op.fieldAddr 38 (Operand.tmp 7) 2, type := 0, pos := "law.go:58", after := #[], guard := none }) (.pointer (some ⟨S7, 3, none⟩)) (by kernel_rfl) (by kernel_rfl) ?_
                try simp only [Act.put, List.setIfInBounds_toArray, List.set_cons_zero, List.set_cons_succ]
                refine wp_takeW (o := { dst := some 106, op := Op.load 27 (Operand.tmp 105), type := 27, pos := "law.go:58", after := #[{ on := 1, ground := Ground.data }], guard := none }) (.agg x.c.cells) (exec_load 27 _ rfl ⟨S7, 3, none⟩ (by kernel_rfl) (.agg x.c.cells) (load_XC HS.out)) (by kernel_rfl) ?_
                try simp only [Act.put, List.setIfInBounds_toArray, List.set_cons_zero, List.set_cons_succ]
                refine wp_callW (o := { dst := some 107, op := Op.call { callee := Callee.value (Operand.func 16), args := #[Operand.tmp 104, Operand.tmp 106], argTypes := #[29, 27] }, type := 56, pos := "law.go:58", after := #[{ on := 0, ground := Ground.data }, { on := 2, ground := Ground.data }], guard := none }) 16 #[.agg at0.cells, .agg x.c.cells] (by kernel_rfl) _ (rlrn_any at0 x.c _) (by kernel_rfl) ?_
                rintro e wk54 ⟨rfl, hk⟩
                have HA : Hid (Box wk54 (A) 29 (at0.cells)) := HA.out.kept hk (fun e => e)
                have HS : Hid (Box wk54 (S7) 38 (x.cells)) := HS.out.kept hk (fun e => e)
                have HP8 : Hid (Box wk54 (P8) 29 ((lrnI at0 x.c).cells)) := HP8.out.kept hk (fun e => e)
                have HP9 : Hid (Box wk54 (P9) 29 (iZ.cells)) := HP9.out.kept hk (fun e => e)
                have HP10 : Hid (Box wk54 (P10) 52 (mZ.cells)) := HP10.out.kept hk (fun e => e)
                have HP11 : Hid (Box wk54 (P11) 52 (mZ.cells)) := HP11.out.kept hk (fun e => e)
                have HK : Hid (Kept No w wk54) := HK.out.then hk
                have HLT : Hid (P11 < wk54.heap.size) := Nat.lt_of_lt_of_le HLT.out hk.size
                clear hk
                refine ⟨.tuple #[.agg (lrnI at0 x.c).cells, .bool (!at0.d)], rfl, ?_⟩
                try simp only [Act.put, List.setIfInBounds_toArray, List.set_cons_zero, List.set_cons_succ]
                refine wp_takeW (o := { dst := some 103, op := Op.move (Operand.tmp 107), type := 56, pos := "law.go:58", after := #[{ on := 3, ground := Ground.data }], guard := none }) (.tuple #[.agg (lrnI at0 x.c).cells, .bool (!at0.d)]) (by kernel_rfl) (by kernel_rfl) ?_
                try simp only [Act.put, List.setIfInBounds_toArray, List.set_cons_zero, List.set_cons_succ]
                refine wp_takeW (o := { dst := some 108, op := Op.extract (Operand.tmp 103) 0, type := 29, pos := "law.go:58", after := #[{ on := 4, ground := Ground.data }], guard := none }) (.agg (lrnI at0 x.c).cells) (by kernel_rfl) (by kernel_rfl) ?_
                try simp only [Act.put, List.setIfInBounds_toArray, List.set_cons_zero, List.set_cons_succ]
                refine wp_takeW (o := { dst := some 109, op := Op.extract (Operand.tmp 103) 1, type := 4, pos := "law.go:58", after := #[{ on := 4, ground := Ground.data }, { on := 7, ground := Ground.gcOnly Departure.lateStores }], guard := none }) (.bool (!at0.d)) (by kernel_rfl) (by kernel_rfl) ?_
                try simp only [Act.put, List.setIfInBounds_toArray, List.set_cons_zero, List.set_cons_succ]
                refine wp_storeW (o := { dst := none, op := Op.store 29 (Operand.tmp 9) (Operand.tmp 108), type := 0, pos := "law.go:58", after := #[{ on := 5, ground := Ground.data }, { on := 3, ground := Ground.chain }, { on := 0, ground := Ground.phase }, { on := 1, ground := Ground.phase }, { on := 2, ground := Ground.phase }, { on := 3, ground := Ground.phase }, { on := 4, ground := Ground.phase }, { on := 5, ground := Ground.phase }, { on := 6, ground := Ground.textOnly Departure.lateStores }], guard := none }) 29 _ _ rfl ⟨P9, 0, none⟩ (.agg (lrnI at0 x.c).cells) (by kernel_rfl) (by kernel_rfl) _ (store_I HP9.out rfl) (by kernel_rfl) ?_
                try simp only [Act.put, List.setIfInBounds_toArray, List.set_cons_zero, List.set_cons_succ]
                have HLT : Hid (P11 < (wk54.setRow P9 ((lrnI at0 x.c).cells)).heap.size) := by show _ < _; rw [setRow_size]; exact HLT.out
                have HA : Hid (Box (wk54.setRow P9 ((lrnI at0 x.c).cells)) (A) 29 (at0.cells)) := HA.out.rowNe (by have := HO.out; omega) _
                have HS : Hid (Box (wk54.setRow P9 ((lrnI at0 x.c).cells)) (S7) 38 (x.cells)) := HS.out.rowNe (by have := HO.out; omega) _
                have HP8 : Hid (Box (wk54.setRow P9 ((lrnI at0 x.c).cells)) (P8) 29 ((lrnI at0 x.c).cells)) := HP8.out.rowNe (by have := HO.out; omega) _
                have HP9 : Hid (Box (wk54.setRow P9 ((lrnI at0 x.c).cells)) (P9) 29 ((lrnI at0 x.c).cells)) := HP9.out.setRow _
                have HP10 : Hid (Box (wk54.setRow P9 ((lrnI at0 x.c).cells)) (P10) 52 (mZ.cells)) := HP10.out.rowNe (by have := HO.out; omega) _
                have HP11 : Hid (Box (wk54.setRow P9 ((lrnI at0 x.c).cells)) (P11) 52 (mZ.cells)) := HP11.out.rowNe (by have := HO.out; omega) _
                have HK : Hid (Kept No w (wk54.setRow P9 ((lrnI at0 x.c).cells))) := HK.out.newRow (by have := HO.out; omega) _
                generalize wk54.setRow P9 ((lrnI at0 x.c).cells) = wk55 at HA HS HP8 HP9 HP10 HP11 HK HLT ⊢
                refine wp_takeW (o := { dst := some 13, op := Op.assign (Operand.tmp 109), type := 4, pos := "law.go:58", after := #[{ on := 6, ground := Ground.data }, { on := 7, ground := Ground.chain }, { on := 0, ground := Ground.phase }, { on := 1, ground := Ground.phase }, { on := 2, ground := Ground.phase }, { on := 3, ground := Ground.phase }, { on := 4, ground := Ground.phase }, { on := 5, ground := Ground.phase }, { on := 6, ground := Ground.phase }, { on := 7, ground := Ground.phase }], guard := none }) (.bool (!at0.d)) (by kernel_rfl) (by kernel_rfl) ?_
                try simp only [Act.put, List.setIfInBounds_toArray, List.set_cons_zero, List.set_cons_succ]
                refine WL.nil ?_
                try simp only [Act.put, List.setIfInBounds_toArray, List.set_cons_zero, List.set_cons_succ]
                go_upto_region 24 with fail
                refine WL.start ?_
                refine wp_takeW (o := { dst := some 110, op := Op.load 29 (Operand.tmp 8), type := 29, pos := "law.go:60", after := #[], guard := none }) (.agg ((lrnI at0 x.c).cells)) (exec_load 29 _ rfl ⟨P8, 0, none⟩ (by kernel_rfl) (.agg ((lrnI at0 x.c).cells)) (load_I HP8.out)) (by kernel_rfl) ?_
                try simp only [Act.put, List.setIfInBounds_toArray, List.set_cons_zero, List.set_cons_succ]
                refine wp_takeW (o := { dst := some 111, op := Op.load 29 (Operand.tmp 9), type := 29, pos := "law.go:60", after := #[], guard := none }) (.agg ((lrnI at0 x.c).cells)) (exec_load 29 _ rfl ⟨P9, 0, none⟩ (by kernel_rfl) (.agg ((lrnI at0 x.c).cells)) (load_I HP9.out)) (by kernel_rfl) ?_
                try simp only [Act.put, List.setIfInBounds_toArray, List.set_cons_zero, List.set_cons_succ]
                refine wp_takeW (o := { dst := some 112, op := Op.binOp BinOp.neq 29 (Operand.tmp 110) (Operand.tmp 111) 29, type := 4, pos := "law.go:60", after := #[{ on := 0, ground := Ground.data }, { on := 1, ground := Ground.data }], guard := none }) (.bool false) (exec_bin .neq 29 _ _ _ rfl (.agg ((lrnI at0 x.c).cells)) (.agg ((lrnI at0 x.c).cells)) (.bool false) (by kernel_rfl) (by kernel_rfl) (guard_I _ (.inr rfl) _ _ _ _ _) (by rw [neqI, eqI_refl]; rfl)) (by kernel_rfl) ?_
                try simp only [Act.put, List.setIfInBounds_toArray, List.set_cons_zero, List.set_cons_succ]
                refine wp_takeW (o := { dst := some 113, op := Op.move (Operand.tmp 112), type := 4, pos := "law.go:60", after := #[{ on := 2, ground := Ground.data }], guard := none }) (.bool false) (by kernel_rfl) (by kernel_rfl) ?_
                try simp only [Act.put, List.setIfInBounds_toArray, List.set_cons_zero, List.set_cons_succ]
                refine wp_takeW (o := { dst := some 114, op := Op.move (Operand.tmp 12), type := 4, pos := "law.go:60", after := #[{ on := 3, ground := Ground.guard }], guard := some (3, false) }) (.bool (lrnB at0 x.c)) (by kernel_rfl) (by kernel_rfl) ?_
                try simp only [Act.put, List.setIfInBounds_toArray, List.set_cons_zero, List.set_cons_succ]
                refine wp_takeW (o := { dst := some 115, op := Op.move (Operand.tmp 13), type := 4, pos := "law.go:60", after := #[{ on := 3, ground := Ground.guard }], guard := some (3, false) }) (.bool (!at0.d)) (by kernel_rfl) (by kernel_rfl) ?_
                try simp only [Act.put, List.setIfInBounds_toArray, List.set_cons_zero, List.set_cons_succ]
                refine wp_takeW (o := { dst := some 116, op := Op.binOp BinOp.neq 4 (Operand.tmp 114) (Operand.tmp 115) 4, type := 4, pos := "law.go:60", after := #[{ on := 4, ground := Ground.data }, { on := 5, ground := Ground.data }, { on := 3, ground := Ground.guard }], guard := some (3, false) }) (.bool false) (exec_bin .neq 4 _ _ _ rfl (.bool (lrnB at0 x.c)) (.bool (!at0.d)) (.bool false) (by kernel_rfl) (by kernel_rfl) (by kernel_rfl) (by rw [neqB, lrnB_eq]; first | rfl | simp)) (by kernel_rfl) ?_
                try simp only [Act.put, List.setIfInBounds_toArray, List.set_cons_zero, List.set_cons_succ]
                refine wp_takeW (o := { dst := some 117, op := Op.pick (Operand.tmp 113) (Operand.const (Value.bool true)) (Operand.tmp 116), type := 4, pos := "law.go:60", after := #[{ on := 3, ground := Ground.data }, { on := 6, ground := Ground.data }], guard := none }) (.bool false) (by kernel_rfl) (by kernel_rfl) ?_
                try simp only [Act.put, List.setIfInBounds_toArray, List.set_cons_zero, List.set_cons_succ]
                refine wp_takeW (o := { dst := some 118, op := Op.move (Operand.tmp 117), type := 4, pos := "law.go:60", after := #[{ on := 7, ground := Ground.data }, { on := 3, ground := Ground.chain }], guard := none }) (.bool false) (by kernel_rfl) (by kernel_rfl) ?_
                try simp only [Act.put, List.setIfInBounds_toArray, List.set_cons_zero, List.set_cons_succ]
                refine wp_takeW (o := { dst := some 119, op := Op.load 52 (Operand.tmp 10), type := 52, pos := "law.go:60", after := #[{ on := 8, ground := Ground.guard }], guard := some (8, false) }) (.agg (mZ.cells)) (exec_load 52 _ rfl ⟨P10, 0, none⟩ (by kernel_rfl) (.agg (mZ.cells)) (load_M HP10.out)) (by kernel_rfl) ?_
                try simp only [Act.put, List.setIfInBounds_toArray, List.set_cons_zero, List.set_cons_succ]
                refine wp_takeW (o := { dst := some 120, op := Op.load 52 (Operand.tmp 11), type := 52, pos := "law.go:60", after := #[{ on := 8, ground := Ground.guard }], guard := some (8, false) }) (.agg (mZ.cells)) (exec_load 52 _ rfl ⟨P11, 0, none⟩ (by kernel_rfl) (.agg (mZ.cells)) (load_M HP11.out)) (by kernel_rfl) ?_
                try simp only [Act.put, List.setIfInBounds_toArray, List.set_cons_zero, List.set_cons_succ]
                refine wp_callW (o := { dst := some 121, op := Op.call { callee := Callee.value (Operand.func 17), args := #[Operand.tmp 119, Operand.tmp 120], argTypes := #[52, 52] }, type := 4, pos := "law.go:60", after := #[{ on := 9, ground := Ground.data }, { on := 10, ground := Ground.data }, { on := 8, ground := Ground.chain }, { on := 8, ground := Ground.guard }], guard := some (8, false) }) 17 #[.agg (mZ.cells), .agg (mZ.cells)] (by kernel_rfl) _ (same_any _ _) (by kernel_rfl) ?_
                rintro e wk56 ⟨rfl, hk⟩
                have HA : Hid (Box wk56 (A) 29 (at0.cells)) := HA.out.kept hk (fun e => e)
                have HS : Hid (Box wk56 (S7) 38 (x.cells)) := HS.out.kept hk (fun e => e)
                have HP8 : Hid (Box wk56 (P8) 29 ((lrnI at0 x.c).cells)) := HP8.out.kept hk (fun e => e)
                have HP9 : Hid (Box wk56 (P9) 29 ((lrnI at0 x.c).cells)) := HP9.out.kept hk (fun e => e)
                have HP10 : Hid (Box wk56 (P10) 52 (mZ.cells)) := HP10.out.kept hk (fun e => e)
                have HP11 : Hid (Box wk56 (P11) 52 (mZ.cells)) := HP11.out.kept hk (fun e => e)
                have HK : Hid (Kept No w wk56) := HK.out.then hk
                have HLT : Hid (P11 < wk56.heap.size) := Nat.lt_of_lt_of_le HLT.out hk.size
                clear hk
                refine ⟨.bool true, rfl, ?_⟩
                try simp only [Act.put, List.setIfInBounds_toArray, List.set_cons_zero, List.set_cons_succ]
                refine wp_takeW (o := { dst := some 122, op := Op.unOp UnOp.not 4 (Operand.tmp 121), type := 4, pos := "law.go:60", after := #[{ on := 11, ground := Ground.data }, { on := 8, ground := Ground.guard }], guard := some (8, false) }) (.bool false) (by kernel_rfl) (by kernel_rfl) ?_
                try simp only [Act.put, List.setIfInBounds_toArray, List.set_cons_zero, List.set_cons_succ]
                refine wp_takeW (o := { dst := some 123, op := Op.pick (Operand.tmp 118) (Operand.const (Value.bool true)) (Operand.tmp 122), type := 4, pos := "law.go:60", after := #[{ on := 8, ground := Ground.data }, { on := 12, ground := Ground.data }], guard := none }) (.bool false) (by kernel_rfl) (by kernel_rfl) ?_
                try simp only [Act.put, List.setIfInBounds_toArray, List.set_cons_zero, List.set_cons_succ]
                refine WL.nil ?_
                try simp only [Act.put, List.setIfInBounds_toArray, List.set_cons_zero, List.set_cons_succ]
                go_upto_region 26 with fail
                refine WL.start ?_
                refine wp_takeW (o := { dst := some 124, op := Op.load 29 (Operand.tmp 9), type := 29, pos := "law.go:63", after := #[], guard := none }) (.agg ((lrnI at0 x.c).cells)) (exec_load 29 _ rfl ⟨P9, 0, none⟩ (by kernel_rfl) (.agg ((lrnI at0 x.c).cells)) (load_I HP9.out)) (by kernel_rfl) ?_
                try simp only [Act.put, List.setIfInBounds_toArray, List.set_cons_zero, List.set_cons_succ]
                refine wp_storeW (o := { dst := none, op := Op.store 29 (Operand.tmp 5) (Operand.tmp 124), type := 0, pos := "law.go:63", after := #[{ on := 0, ground := Ground.data }, { on := 0, ground := Ground.phase }], guard := none }) 29 _ _ rfl ⟨A, 0, none⟩ (.agg ((lrnI at0 x.c).cells)) (by kernel_rfl) (by kernel_rfl) _ (store_I HA.out rfl) (by kernel_rfl) ?_
                try simp only [Act.put, List.setIfInBounds_toArray, List.set_cons_zero, List.set_cons_succ]
                have HLT : Hid (P11 < (wk56.setRow A (((lrnI at0 x.c).cells))).heap.size) := by show _ < _; rw [setRow_size]; exact HLT.out
                have HA : Hid (Box (wk56.setRow A (((lrnI at0 x.c).cells))) (A) 29 (((lrnI at0 x.c).cells))) := HA.out.setRow _
                have HS : Hid (Box (wk56.setRow A (((lrnI at0 x.c).cells))) (S7) 38 (x.cells)) := HS.out.rowNe (by have := HO.out; omega) _
                have HP8 : Hid (Box (wk56.setRow A (((lrnI at0 x.c).cells))) (P8) 29 ((lrnI at0 x.c).cells)) := HP8.out.rowNe (by have := HO.out; omega) _
                have HP9 : Hid (Box (wk56.setRow A (((lrnI at0 x.c).cells))) (P9) 29 ((lrnI at0 x.c).cells)) := HP9.out.rowNe (by have := HO.out; omega) _
                have HP10 : Hid (Box (wk56.setRow A (((lrnI at0 x.c).cells))) (P10) 52 (mZ.cells)) := HP10.out.rowNe (by have := HO.out; omega) _
                have HP11 : Hid (Box (wk56.setRow A (((lrnI at0 x.c).cells))) (P11) 52 (mZ.cells)) := HP11.out.rowNe (by have := HO.out; omega) _
                have HK : Hid (Kept No w (wk56.setRow A (((lrnI at0 x.c).cells)))) := HK.out.newRow (by have := HO.out; omega) _
                generalize wk56.setRow A (((lrnI at0 x.c).cells)) = wk57 at HA HS HP8 HP9 HP10 HP11 HK HLT ⊢
                refine WL.nil ?_
                try simp only [Act.put, List.setIfInBounds_toArray, List.set_cons_zero, List.set_cons_succ]
                have HF : Hid (AtI w A wk57 (fun _ => True)) := ⟨_, HA.out, HK.out, Nat.lt_of_le_of_lt (by have := HO.out; omega) HLT.out, trivial⟩
                go_wp2
                go_roundw
                case measure => simp [intOf]; omega
                case rel => exact ⟨k + 1, by go_num, by omega, HF⟩
              · skip
                refine wp_takeW (o := { dst := some 73, op := Op.binOp BinOp.eql 3 (Operand.tmp 53) (Operand.const (Value.int IntKind.i64 2)) 3, type := 4, pos := "law.go:53", after := #[], guard := none }) (.bool true) (exec_bin .eql 3 _ _ _ rfl (.int .i64 x.k) (.int .i64 2) (.bool true) (by kernel_rfl) (by kernel_rfl) (by kernel_rfl) (by rw [eqlN, q9]; try rfl)) (by kernel_rfl) ?_
                try simp only [Act.put, List.setIfInBounds_toArray, List.set_cons_zero, List.set_cons_succ]
                refine wp_takeW (o := { dst := some 72, op := Op.assign (Operand.tmp 73), type := 4, pos := "law.go:53", after := #[{ on := 0, ground := Ground.data }], guard := none }) (.bool true) (by kernel_rfl) (by kernel_rfl) ?_
                try simp only [Act.put, List.setIfInBounds_toArray, List.set_cons_zero, List.set_cons_succ]
                refine WL.nil ?_
                try simp only [Act.put, List.setIfInBounds_toArray, List.set_cons_zero, List.set_cons_succ]
                go_upto_region 19 with fail
                refine WL.start ?_
                refine wp_takeW (o := { dst := some 75, op := Op.load 29 (Operand.tmp 5), type := 29, pos := "law.go:54", after := #[], guard := none }) (.agg at0.cells) (exec_load 29 _ rfl ⟨A, 0, none⟩ (by kernel_rfl) (.agg at0.cells) (load_I HA.out)) (by kernel_rfl) ?_
                try simp only [Act.put, List.setIfInBounds_toArray, List.set_cons_zero, List.set_cons_succ]
                refine wp_takeW (o := { dst := some 76, op := Op.fieldAddr 38 (Operand.tmp 7) 1, type := 0, pos := "law.go:54", after := #[], guard := none }) (.pointer (some ⟨S7, 1, none⟩)) (by kernel_rfl) (by kernel_rfl) ?_
                try simp only [Act.put, List.setIfInBounds_toArray, List.set_cons_zero, List.set_cons_succ]
                refine wp_takeW (o := { dst := some 77, op := Op.load 23 (Operand.tmp 76), type := 23, pos := "law.go:54", after := #[{ on := 1, ground := Ground.data }], guard := none }) (.agg #[.int .i64 x.b.n, .int .i64 x.b.c]) (exec_load 23 _ rfl ⟨S7, 1, none⟩ (by kernel_rfl) (.agg #[.int .i64 x.b.n, .int .i64 x.b.c]) (load_S HS.out x.partB)) (by kernel_rfl) ?_
                try simp only [Act.put, List.setIfInBounds_toArray, List.set_cons_zero, List.set_cons_succ]
                refine wp_takeW (o := { dst := some 78, op := Op.fieldAddr 38 (Operand.tmp 7) 2, type := 0, pos := "law.go:54", after := #[], guard := none }) (.pointer (some ⟨S7, 3, none⟩)) (by kernel_rfl) (by kernel_rfl) ?_
                try simp only [Act.put, List.setIfInBounds_toArray, List.set_cons_zero, List.set_cons_succ]
                refine wp_takeW (o := { dst := some 79, op := Op.load 27 (Operand.tmp 78), type := 27, pos := "law.go:54", after := #[{ on := 3, ground := Ground.data }], guard := none }) (.agg x.c.cells) (exec_load 27 _ rfl ⟨S7, 3, none⟩ (by kernel_rfl) (.agg x.c.cells) (load_XC HS.out)) (by kernel_rfl) ?_
                try simp only [Act.put, List.setIfInBounds_toArray, List.set_cons_zero, List.set_cons_succ]
                refine wp_callW (o := { dst := some 80, op := Op.call { callee := Callee.value (Operand.func 13), args := #[Operand.tmp 75, Operand.tmp 77, Operand.tmp 79], argTypes := #[29, 23, 27] }, type := 53, pos := "law.go:54", after := #[{ on := 0, ground := Ground.data }, { on := 2, ground := Ground.data }, { on := 4, ground := Ground.data }], guard := none }) 13 #[.agg at0.cells, .agg #[.int .i64 x.b.n, .int .i64 x.b.c], .agg x.c.cells] (by kernel_rfl) _ (acc_any at0 x.b x.c _) (by kernel_rfl) ?_
                rintro e wk58 ⟨rfl, hk⟩
                have HA : Hid (Box wk58 (A) 29 (at0.cells)) := HA.out.kept hk (fun e => e)
                have HS : Hid (Box wk58 (S7) 38 (x.cells)) := HS.out.kept hk (fun e => e)
                have HP8 : Hid (Box wk58 (P8) 29 (iZ.cells)) := HP8.out.kept hk (fun e => e)
                have HP9 : Hid (Box wk58 (P9) 29 (iZ.cells)) := HP9.out.kept hk (fun e => e)
                have HP10 : Hid (Box wk58 (P10) 52 (mZ.cells)) := HP10.out.kept hk (fun e => e)
                have HP11 : Hid (Box wk58 (P11) 52 (mZ.cells)) := HP11.out.kept hk (fun e => e)
                have HK : Hid (Kept No w wk58) := HK.out.then hk
                have HLT : Hid (P11 < wk58.heap.size) := Nat.lt_of_lt_of_le HLT.out hk.size
                clear hk
                refine ⟨.tuple #[.agg (accI at0 x.b x.c).cells, .agg (accM at0 x.b).cells, .bool (accB at0 x.b x.c)], rfl, ?_⟩
                try simp only [Act.put, List.setIfInBounds_toArray, List.set_cons_zero, List.set_cons_succ]
                refine wp_takeW (o := { dst := some 74, op := Op.move (Operand.tmp 80), type := 53, pos := "law.go:54", after := #[{ on := 5, ground := Ground.data }], guard := none }) (.tuple #[.agg (accI at0 x.b x.c).cells, .agg (accM at0 x.b).cells, .bool (accB at0 x.b x.c)]) (by kernel_rfl) (by kernel_rfl) ?_
                try simp only [Act.put, List.setIfInBounds_toArray, List.set_cons_zero, List.set_cons_succ]
                refine wp_takeW (o := { dst := some 81, op := Op.extract (Operand.tmp 74) 0, type := 29, pos := "law.go:54", after := #[{ on := 6, ground := Ground.data }], guard := none }) (.agg (accI at0 x.b x.c).cells) (by kernel_rfl) (by kernel_rfl) ?_
                try simp only [Act.put, List.setIfInBounds_toArray, List.set_cons_zero, List.set_cons_succ]
                refine wp_takeW (o := { dst := some 82, op := Op.extract (Operand.tmp 74) 1, type := 52, pos := "law.go:54", after := #[{ on := 6, ground := Ground.data }, { on := 10, ground := Ground.gcOnly Departure.lateStores }], guard := none }) (.agg (accM at0 x.b).cells) (by kernel_rfl) (by kernel_rfl) ?_
                try simp only [Act.put, List.setIfInBounds_toArray, List.set_cons_zero, List.set_cons_succ]
                refine wp_takeW (o := { dst := some 83, op := Op.extract (Operand.tmp 74) 2, type := 4, pos := "law.go:54", after := #[{ on := 6, ground := Ground.data }, { on := 11, ground := Ground.gcOnly Departure.lateStores }], guard := none }) (.bool (accB at0 x.b x.c)) (by kernel_rfl) (by kernel_rfl) ?_
                try simp only [Act.put, List.setIfInBounds_toArray, List.set_cons_zero, List.set_cons_succ]
                refine wp_storeW (o := { dst := none, op := Op.store 29 (Operand.tmp 8) (Operand.tmp 81), type := 0, pos := "law.go:54", after := #[{ on := 7, ground := Ground.data }, { on := 5, ground := Ground.chain }, { on := 0, ground := Ground.phase }, { on := 1, ground := Ground.phase }, { on := 2, ground := Ground.phase }, { on := 3, ground := Ground.phase }, { on := 4, ground := Ground.phase }, { on := 5, ground := Ground.phase }, { on := 6, ground := Ground.phase }, { on := 7, ground := Ground.phase }, { on := 8, ground := Ground.textOnly Departure.lateStores }, { on := 9, ground := Ground.textOnly Departure.lateStores }], guard := none }) 29 _ _ rfl ⟨P8, 0, none⟩ (.agg (accI at0 x.b x.c).cells) (by kernel_rfl) (by kernel_rfl) _ (store_I HP8.out rfl) (by kernel_rfl) ?_
                try simp only [Act.put, List.setIfInBounds_toArray, List.set_cons_zero, List.set_cons_succ]
                have HLT : Hid (P11 < (wk58.setRow P8 ((accI at0 x.b x.c).cells)).heap.size) := by show _ < _; rw [setRow_size]; exact HLT.out
                have HA : Hid (Box (wk58.setRow P8 ((accI at0 x.b x.c).cells)) (A) 29 (at0.cells)) := HA.out.rowNe (by have := HO.out; omega) _
                have HS : Hid (Box (wk58.setRow P8 ((accI at0 x.b x.c).cells)) (S7) 38 (x.cells)) := HS.out.rowNe (by have := HO.out; omega) _
                have HP8 : Hid (Box (wk58.setRow P8 ((accI at0 x.b x.c).cells)) (P8) 29 ((accI at0 x.b x.c).cells)) := HP8.out.setRow _
                have HP9 : Hid (Box (wk58.setRow P8 ((accI at0 x.b x.c).cells)) (P9) 29 (iZ.cells)) := HP9.out.rowNe (by have := HO.out; omega) _
                have HP10 : Hid (Box (wk58.setRow P8 ((accI at0 x.b x.c).cells)) (P10) 52 (mZ.cells)) := HP10.out.rowNe (by have := HO.out; omega) _
                have HP11 : Hid (Box (wk58.setRow P8 ((accI at0 x.b x.c).cells)) (P11) 52 (mZ.cells)) := HP11.out.rowNe (by have := HO.out; omega) _
                have HK : Hid (Kept No w (wk58.setRow P8 ((accI at0 x.b x.c).cells))) := HK.out.newRow (by have := HO.out; omega) _
                generalize wk58.setRow P8 ((accI at0 x.b x.c).cells) = wk59 at HA HS HP8 HP9 HP10 HP11 HK HLT ⊢
                refine wp_storeW (o := { dst := none, op := Op.store 52 (Operand.tmp 10) (Operand.tmp 82), type := 0, pos := "law.go:54", after := #[{ on := 8, ground := Ground.data }, { on := 10, ground := Ground.chain }, { on := 0, ground := Ground.phase }, { on := 1, ground := Ground.phase }, { on := 2, ground := Ground.phase }, { on := 3, ground := Ground.phase }, { on := 4, ground := Ground.phase }, { on := 5, ground := Ground.phase }, { on := 6, ground := Ground.phase }, { on := 7, ground := Ground.phase }, { on := 8, ground := Ground.phase }, { on := 9, ground := Ground.textOnly Departure.lateStores }, { on := 10, ground := Ground.phase }], guard := none }) 52 _ _ rfl ⟨P10, 0, none⟩ (.agg (accM at0 x.b).cells) (by kernel_rfl) (by kernel_rfl) _ (store_M HP10.out rfl) (by kernel_rfl) ?_
                try simp only [Act.put, List.setIfInBounds_toArray, List.set_cons_zero, List.set_cons_succ]
                have HLT : Hid (P11 < (wk59.setRow P10 ((accM at0 x.b).cells)).heap.size) := by show _ < _; rw [setRow_size]; exact HLT.out
                have HA : Hid (Box (wk59.setRow P10 ((accM at0 x.b).cells)) (A) 29 (at0.cells)) := HA.out.rowNe (by have := HO.out; omega) _
                have HS : Hid (Box (wk59.setRow P10 ((accM at0 x.b).cells)) (S7) 38 (x.cells)) := HS.out.rowNe (by have := HO.out; omega) _
                have HP8 : Hid (Box (wk59.setRow P10 ((accM at0 x.b).cells)) (P8) 29 ((accI at0 x.b x.c).cells)) := HP8.out.rowNe (by have := HO.out; omega) _
                have HP9 : Hid (Box (wk59.setRow P10 ((accM at0 x.b).cells)) (P9) 29 (iZ.cells)) := HP9.out.rowNe (by have := HO.out; omega) _
                have HP10 : Hid (Box (wk59.setRow P10 ((accM at0 x.b).cells)) (P10) 52 ((accM at0 x.b).cells)) := HP10.out.setRow _
                have HP11 : Hid (Box (wk59.setRow P10 ((accM at0 x.b).cells)) (P11) 52 (mZ.cells)) := HP11.out.rowNe (by have := HO.out; omega) _
                have HK : Hid (Kept No w (wk59.setRow P10 ((accM at0 x.b).cells))) := HK.out.newRow (by have := HO.out; omega) _
                generalize wk59.setRow P10 ((accM at0 x.b).cells) = wk60 at HA HS HP8 HP9 HP10 HP11 HK HLT ⊢
                refine wp_takeW (o := { dst := some 12, op := Op.assign (Operand.tmp 83), type := 4, pos := "law.go:54", after := #[{ on := 9, ground := Ground.data }, { on := 11, ground := Ground.chain }, { on := 0, ground := Ground.phase }, { on := 1, ground := Ground.phase }, { on := 2, ground := Ground.phase }, { on := 3, ground := Ground.phase }, { on := 4, ground := Ground.phase }, { on := 5, ground := Ground.phase }, { on := 6, ground := Ground.phase }, { on := 7, ground := Ground.phase }, { on := 8, ground := Ground.phase }, { on := 9, ground := Ground.phase }, { on := 10, ground := Ground.phase }, { on := 11, ground := Ground.phase }], guard := none }) (.bool (accB at0 x.b x.c)) (by kernel_rfl) (by kernel_rfl) ?_
                try simp only [Act.put, List.setIfInBounds_toArray, List.set_cons_zero, List.set_cons_succ]
                refine WL.nil ?_
                try simp only [Act.put, List.setIfInBounds_toArray, List.set_cons_zero, List.set_cons_succ]
                go_upto_region 20 with fail
                refine WL.start ?_
                refine wp_takeW (o := { dst := some 85, op := Op.load 29 (Operand.tmp 5), type := 29, pos := "law.go:55", after := #[], guard := none }) (.agg at0.cells) (exec_load 29 _ rfl ⟨A, 0, none⟩ (by kernel_rfl) (.agg at0.cells) (load_I HA.out)) (by kernel_rfl) ?_
                try simp only [Act.put, List.setIfInBounds_toArray, List.set_cons_zero, List.set_cons_succ]
                refine wp_takeW (o := { dst := some 86, op := Op.fieldAddr 38 (Operand.tmp 7) 1, type := 0, pos := "law.go:55", after := #[], guard := none }) (.pointer (some ⟨S7, 1, none⟩)) (by kernel_rfl) (by kernel_rfl) ?_
                try simp only [Act.put, List.setIfInBounds_toArray, List.set_cons_zero, List.set_cons_succ]
                refine wp_takeW (o := { dst := some 87, op := Op.load 23 (Operand.tmp 86), type := 23, pos := "law.go:55", after := #[{ on := 1, ground := Ground.data }], guard := none }) (.agg #[.int .i64 x.b.n, .int .i64 x.b.c]) (exec_load 23 _ rfl ⟨S7, 1, none⟩ (by kernel_rfl) (.agg #[.int .i64 x.b.n, .int .i64 x.b.c]) (load_S HS.out x.partB)) (by kernel_rfl) ?_
                try simp only [Act.put, List.setIfInBounds_toArray, List.set_cons_zero, List.set_cons_succ]
                refine wp_takeW (o := { dst := some 88, op := Op.fieldAddr 38 (Operand.tmp 7) 2, type := 0, pos := "law.go:55", after := #[], guard := none }) (.pointer (some ⟨S7, 3, none⟩)) (by kernel_rfl) (by kernel_rfl) ?_
                try simp only [Act.put, List.setIfInBounds_toArray, List.set_cons_zero, List.set_cons_succ]
                refine wp_takeW (o := { dst := some 89, op := Op.load 27 (Operand.tmp 88), type := 27, pos := "law.go:55", after := #[{ on := 3, ground := Ground.data }], guard := none }) (.agg x.c.cells) (exec_load 27 _ rfl ⟨S7, 3, none⟩ (by kernel_rfl) (.agg x.c.cells) (load_XC HS.out)) (by kernel_rfl) ?_
                try simp only [Act.put, List.setIfInBounds_toArray, List.set_cons_zero, List.set_cons_succ]
                refine wp_callW (o := { dst := some 90, op := Op.call { callee := Callee.value (Operand.func 14), args := #[Operand.tmp 85, Operand.tmp 87, Operand.tmp 89], argTypes := #[29, 23, 27] }, type := 53, pos := "law.go:55", after := #[{ on := 0, ground := Ground.data }, { on := 2, ground := Ground.data }, { on := 4, ground := Ground.data }], guard := none }) 14 #[.agg at0.cells, .agg #[.int .i64 x.b.n, .int .i64 x.b.c], .agg x.c.cells] (by kernel_rfl) _ (racc_any at0 x.b x.c _) (by kernel_rfl) ?_
                rintro e wk61 ⟨rfl, hk⟩
                have HA : Hid (Box wk61 (A) 29 (at0.cells)) := HA.out.kept hk (fun e => e)
                have HS : Hid (Box wk61 (S7) 38 (x.cells)) := HS.out.kept hk (fun e => e)
                have HP8 : Hid (Box wk61 (P8) 29 ((accI at0 x.b x.c).cells)) := HP8.out.kept hk (fun e => e)
                have HP9 : Hid (Box wk61 (P9) 29 (iZ.cells)) := HP9.out.kept hk (fun e => e)
                have HP10 : Hid (Box wk61 (P10) 52 ((accM at0 x.b).cells)) := HP10.out.kept hk (fun e => e)
                have HP11 : Hid (Box wk61 (P11) 52 (mZ.cells)) := HP11.out.kept hk (fun e => e)
                have HK : Hid (Kept No w wk61) := HK.out.then hk
                have HLT : Hid (P11 < wk61.heap.size) := Nat.lt_of_lt_of_le HLT.out hk.size
                clear hk
                refine ⟨.tuple #[.agg (accI at0 x.b x.c).cells, .agg (accM at0 x.b).cells, .bool (accBr at0 x.b x.c)], rfl, ?_⟩
                try simp only [Act.put, List.setIfInBounds_toArray, List.set_cons_zero, List.set_cons_succ]
                refine wp_takeW (o := { dst := some 84, op := Op.move (Operand.tmp 90), type := 53, pos := "law.go:55", after := #[{ on := 5, ground := Ground.data }], guard := none }) (.tuple #[.agg (accI at0 x.b x.c).cells, .agg (accM at0 x.b).cells, .bool (accBr at0 x.b x.c)]) (by kernel_rfl) (by kernel_rfl) ?_
                try simp only [Act.put, List.setIfInBounds_toArray, List.set_cons_zero, List.set_cons_succ]
                refine wp_takeW (o := { dst := some 91, op := Op.extract (Operand.tmp 84) 0, type := 29, pos := "law.go:55", after := #[{ on := 6, ground := Ground.data }], guard := none }) (.agg (accI at0 x.b x.c).cells) (by kernel_rfl) (by kernel_rfl) ?_
                try simp only [Act.put, List.setIfInBounds_toArray, List.set_cons_zero, List.set_cons_succ]
                refine wp_takeW (o := { dst := some 92, op := Op.extract (Operand.tmp 84) 1, type := 52, pos := "law.go:55", after := #[{ on := 6, ground := Ground.data }, { on := 10, ground := Ground.gcOnly Departure.lateStores }], guard := none }) (.agg (accM at0 x.b).cells) (by kernel_rfl) (by kernel_rfl) ?_
                try simp only [Act.put, List.setIfInBounds_toArray, List.set_cons_zero, List.set_cons_succ]
                refine wp_takeW (o := { dst := some 93, op := Op.extract (Operand.tmp 84) 2, type := 4, pos := "law.go:55", after := #[{ on := 6, ground := Ground.data }, { on := 11, ground := Ground.gcOnly Departure.lateStores }], guard := none }) (.bool (accBr at0 x.b x.c)) (by kernel_rfl) (by kernel_rfl) ?_
                try simp only [Act.put, List.setIfInBounds_toArray, List.set_cons_zero, List.set_cons_succ]
                refine wp_storeW (o := { dst := none, op := Op.store 29 (Operand.tmp 9) (Operand.tmp 91), type := 0, pos := "law.go:55", after := #[{ on := 7, ground := Ground.data }, { on := 5, ground := Ground.chain }, { on := 0, ground := Ground.phase }, { on := 1, ground := Ground.phase }, { on := 2, ground := Ground.phase }, { on := 3, ground := Ground.phase }, { on := 4, ground := Ground.phase }, { on := 5, ground := Ground.phase }, { on := 6, ground := Ground.phase }, { on := 7, ground := Ground.phase }, { on := 8, ground := Ground.textOnly Departure.lateStores }, { on := 9, ground := Ground.textOnly Departure.lateStores }], guard := none }) 29 _ _ rfl ⟨P9, 0, none⟩ (.agg (accI at0 x.b x.c).cells) (by kernel_rfl) (by kernel_rfl) _ (store_I HP9.out rfl) (by kernel_rfl) ?_
                try simp only [Act.put, List.setIfInBounds_toArray, List.set_cons_zero, List.set_cons_succ]
                have HLT : Hid (P11 < (wk61.setRow P9 ((accI at0 x.b x.c).cells)).heap.size) := by show _ < _; rw [setRow_size]; exact HLT.out
                have HA : Hid (Box (wk61.setRow P9 ((accI at0 x.b x.c).cells)) (A) 29 (at0.cells)) := HA.out.rowNe (by have := HO.out; omega) _
                have HS : Hid (Box (wk61.setRow P9 ((accI at0 x.b x.c).cells)) (S7) 38 (x.cells)) := HS.out.rowNe (by have := HO.out; omega) _
                have HP8 : Hid (Box (wk61.setRow P9 ((accI at0 x.b x.c).cells)) (P8) 29 ((accI at0 x.b x.c).cells)) := HP8.out.rowNe (by have := HO.out; omega) _
                have HP9 : Hid (Box (wk61.setRow P9 ((accI at0 x.b x.c).cells)) (P9) 29 ((accI at0 x.b x.c).cells)) := HP9.out.setRow _
                have HP10 : Hid (Box (wk61.setRow P9 ((accI at0 x.b x.c).cells)) (P10) 52 ((accM at0 x.b).cells)) := HP10.out.rowNe (by have := HO.out; omega) _
                have HP11 : Hid (Box (wk61.setRow P9 ((accI at0 x.b x.c).cells)) (P11) 52 (mZ.cells)) := HP11.out.rowNe (by have := HO.out; omega) _
                have HK : Hid (Kept No w (wk61.setRow P9 ((accI at0 x.b x.c).cells))) := HK.out.newRow (by have := HO.out; omega) _
                generalize wk61.setRow P9 ((accI at0 x.b x.c).cells) = wk62 at HA HS HP8 HP9 HP10 HP11 HK HLT ⊢
                refine wp_storeW (o := { dst := none, op := Op.store 52 (Operand.tmp 11) (Operand.tmp 92), type := 0, pos := "law.go:55", after := #[{ on := 8, ground := Ground.data }, { on := 10, ground := Ground.chain }, { on := 0, ground := Ground.phase }, { on := 1, ground := Ground.phase }, { on := 2, ground := Ground.phase }, { on := 3, ground := Ground.phase }, { on := 4, ground := Ground.phase }, { on := 5, ground := Ground.phase }, { on := 6, ground := Ground.phase }, { on := 7, ground := Ground.phase }, { on := 8, ground := Ground.phase }, { on := 9, ground := Ground.textOnly Departure.lateStores }, { on := 10, ground := Ground.phase }], guard := none }) 52 _ _ rfl ⟨P11, 0, none⟩ (.agg (accM at0 x.b).cells) (by kernel_rfl) (by kernel_rfl) _ (store_M HP11.out rfl) (by kernel_rfl) ?_
                try simp only [Act.put, List.setIfInBounds_toArray, List.set_cons_zero, List.set_cons_succ]
                have HLT : Hid (P11 < (wk62.setRow P11 ((accM at0 x.b).cells)).heap.size) := by show _ < _; rw [setRow_size]; exact HLT.out
                have HA : Hid (Box (wk62.setRow P11 ((accM at0 x.b).cells)) (A) 29 (at0.cells)) := HA.out.rowNe (by have := HO.out; omega) _
                have HS : Hid (Box (wk62.setRow P11 ((accM at0 x.b).cells)) (S7) 38 (x.cells)) := HS.out.rowNe (by have := HO.out; omega) _
                have HP8 : Hid (Box (wk62.setRow P11 ((accM at0 x.b).cells)) (P8) 29 ((accI at0 x.b x.c).cells)) := HP8.out.rowNe (by have := HO.out; omega) _
                have HP9 : Hid (Box (wk62.setRow P11 ((accM at0 x.b).cells)) (P9) 29 ((accI at0 x.b x.c).cells)) := HP9.out.rowNe (by have := HO.out; omega) _
                have HP10 : Hid (Box (wk62.setRow P11 ((accM at0 x.b).cells)) (P10) 52 ((accM at0 x.b).cells)) := HP10.out.rowNe (by have := HO.out; omega) _
                have HP11 : Hid (Box (wk62.setRow P11 ((accM at0 x.b).cells)) (P11) 52 ((accM at0 x.b).cells)) := HP11.out.setRow _
                have HK : Hid (Kept No w (wk62.setRow P11 ((accM at0 x.b).cells))) := HK.out.newRow (by have := HO.out; omega) _
                generalize wk62.setRow P11 ((accM at0 x.b).cells) = wk63 at HA HS HP8 HP9 HP10 HP11 HK HLT ⊢
                refine wp_takeW (o := { dst := some 13, op := Op.assign (Operand.tmp 93), type := 4, pos := "law.go:55", after := #[{ on := 9, ground := Ground.data }, { on := 11, ground := Ground.chain }, { on := 0, ground := Ground.phase }, { on := 1, ground := Ground.phase }, { on := 2, ground := Ground.phase }, { on := 3, ground := Ground.phase }, { on := 4, ground := Ground.phase }, { on := 5, ground := Ground.phase }, { on := 6, ground := Ground.phase }, { on := 7, ground := Ground.phase }, { on := 8, ground := Ground.phase }, { on := 9, ground := Ground.phase }, { on := 10, ground := Ground.phase }, { on := 11, ground := Ground.phase }], guard := none }) (.bool (accBr at0 x.b x.c)) (by kernel_rfl) (by kernel_rfl) ?_
                try simp only [Act.put, List.setIfInBounds_toArray, List.set_cons_zero, List.set_cons_succ]
                refine WL.nil ?_
                try simp only [Act.put, List.setIfInBounds_toArray, List.set_cons_zero, List.set_cons_succ]
                go_upto_region 24 with fail
                refine WL.start ?_
                refine wp_takeW (o := { dst := some 110, op := Op.load 29 (Operand.tmp 8), type := 29, pos := "law.go:60", after := #[], guard := none }) (.agg ((accI at0 x.b x.c).cells)) (exec_load 29 _ rfl ⟨P8, 0, none⟩ (by kernel_rfl) (.agg ((accI at0 x.b x.c).cells)) (load_I HP8.out)) (by kernel_rfl) ?_
                try simp only [Act.put, List.setIfInBounds_toArray, List.set_cons_zero, List.set_cons_succ]
                refine wp_takeW (o := { dst := some 111, op := Op.load 29 (Operand.tmp 9), type := 29, pos := "law.go:60", after := #[], guard := none }) (.agg ((accI at0 x.b x.c).cells)) (exec_load 29 _ rfl ⟨P9, 0, none⟩ (by kernel_rfl) (.agg ((accI at0 x.b x.c).cells)) (load_I HP9.out)) (by kernel_rfl) ?_
                try simp only [Act.put, List.setIfInBounds_toArray, List.set_cons_zero, List.set_cons_succ]
                refine wp_takeW (o := { dst := some 112, op := Op.binOp BinOp.neq 29 (Operand.tmp 110) (Operand.tmp 111) 29, type := 4, pos := "law.go:60", after := #[{ on := 0, ground := Ground.data }, { on := 1, ground := Ground.data }], guard := none }) (.bool false) (exec_bin .neq 29 _ _ _ rfl (.agg ((accI at0 x.b x.c).cells)) (.agg ((accI at0 x.b x.c).cells)) (.bool false) (by kernel_rfl) (by kernel_rfl) (guard_I _ (.inr rfl) _ _ _ _ _) (by rw [neqI, eqI_refl]; rfl)) (by kernel_rfl) ?_
                try simp only [Act.put, List.setIfInBounds_toArray, List.set_cons_zero, List.set_cons_succ]
                refine wp_takeW (o := { dst := some 113, op := Op.move (Operand.tmp 112), type := 4, pos := "law.go:60", after := #[{ on := 2, ground := Ground.data }], guard := none }) (.bool false) (by kernel_rfl) (by kernel_rfl) ?_
                try simp only [Act.put, List.setIfInBounds_toArray, List.set_cons_zero, List.set_cons_succ]
                refine wp_takeW (o := { dst := some 114, op := Op.move (Operand.tmp 12), type := 4, pos := "law.go:60", after := #[{ on := 3, ground := Ground.guard }], guard := some (3, false) }) (.bool (accB at0 x.b x.c)) (by kernel_rfl) (by kernel_rfl) ?_
                try simp only [Act.put, List.setIfInBounds_toArray, List.set_cons_zero, List.set_cons_succ]
                refine wp_takeW (o := { dst := some 115, op := Op.move (Operand.tmp 13), type := 4, pos := "law.go:60", after := #[{ on := 3, ground := Ground.guard }], guard := some (3, false) }) (.bool (accBr at0 x.b x.c)) (by kernel_rfl) (by kernel_rfl) ?_
                try simp only [Act.put, List.setIfInBounds_toArray, List.set_cons_zero, List.set_cons_succ]
                refine wp_takeW (o := { dst := some 116, op := Op.binOp BinOp.neq 4 (Operand.tmp 114) (Operand.tmp 115) 4, type := 4, pos := "law.go:60", after := #[{ on := 4, ground := Ground.data }, { on := 5, ground := Ground.data }, { on := 3, ground := Ground.guard }], guard := some (3, false) }) (.bool false) (exec_bin .neq 4 _ _ _ rfl (.bool (accB at0 x.b x.c)) (.bool (accBr at0 x.b x.c)) (.bool false) (by kernel_rfl) (by kernel_rfl) (by kernel_rfl) (by rw [neqB, accB_eq]; first | rfl | simp)) (by kernel_rfl) ?_
                try simp only [Act.put, List.setIfInBounds_toArray, List.set_cons_zero, List.set_cons_succ]
                refine wp_takeW (o := { dst := some 117, op := Op.pick (Operand.tmp 113) (Operand.const (Value.bool true)) (Operand.tmp 116), type := 4, pos := "law.go:60", after := #[{ on := 3, ground := Ground.data }, { on := 6, ground := Ground.data }], guard := none }) (.bool false) (by kernel_rfl) (by kernel_rfl) ?_
                try simp only [Act.put, List.setIfInBounds_toArray, List.set_cons_zero, List.set_cons_succ]
                refine wp_takeW (o := { dst := some 118, op := Op.move (Operand.tmp 117), type := 4, pos := "law.go:60", after := #[{ on := 7, ground := Ground.data }, { on := 3, ground := Ground.chain }], guard := none }) (.bool false) (by kernel_rfl) (by kernel_rfl) ?_
                try simp only [Act.put, List.setIfInBounds_toArray, List.set_cons_zero, List.set_cons_succ]
                refine wp_takeW (o := { dst := some 119, op := Op.load 52 (Operand.tmp 10), type := 52, pos := "law.go:60", after := #[{ on := 8, ground := Ground.guard }], guard := some (8, false) }) (.agg ((accM at0 x.b).cells)) (exec_load 52 _ rfl ⟨P10, 0, none⟩ (by kernel_rfl) (.agg ((accM at0 x.b).cells)) (load_M HP10.out)) (by kernel_rfl) ?_
                try simp only [Act.put, List.setIfInBounds_toArray, List.set_cons_zero, List.set_cons_succ]
                refine wp_takeW (o := { dst := some 120, op := Op.load 52 (Operand.tmp 11), type := 52, pos := "law.go:60", after := #[{ on := 8, ground := Ground.guard }], guard := some (8, false) }) (.agg ((accM at0 x.b).cells)) (exec_load 52 _ rfl ⟨P11, 0, none⟩ (by kernel_rfl) (.agg ((accM at0 x.b).cells)) (load_M HP11.out)) (by kernel_rfl) ?_
                try simp only [Act.put, List.setIfInBounds_toArray, List.set_cons_zero, List.set_cons_succ]
                refine wp_callW (o := { dst := some 121, op := Op.call { callee := Callee.value (Operand.func 17), args := #[Operand.tmp 119, Operand.tmp 120], argTypes := #[52, 52] }, type := 4, pos := "law.go:60", after := #[{ on := 9, ground := Ground.data }, { on := 10, ground := Ground.data }, { on := 8, ground := Ground.chain }, { on := 8, ground := Ground.guard }], guard := some (8, false) }) 17 #[.agg ((accM at0 x.b).cells), .agg ((accM at0 x.b).cells)] (by kernel_rfl) _ (same_any _ _) (by kernel_rfl) ?_
                rintro e wk64 ⟨rfl, hk⟩
                have HA : Hid (Box wk64 (A) 29 (at0.cells)) := HA.out.kept hk (fun e => e)
                have HS : Hid (Box wk64 (S7) 38 (x.cells)) := HS.out.kept hk (fun e => e)
                have HP8 : Hid (Box wk64 (P8) 29 ((accI at0 x.b x.c).cells)) := HP8.out.kept hk (fun e => e)
                have HP9 : Hid (Box wk64 (P9) 29 ((accI at0 x.b x.c).cells)) := HP9.out.kept hk (fun e => e)
                have HP10 : Hid (Box wk64 (P10) 52 ((accM at0 x.b).cells)) := HP10.out.kept hk (fun e => e)
                have HP11 : Hid (Box wk64 (P11) 52 ((accM at0 x.b).cells)) := HP11.out.kept hk (fun e => e)
                have HK : Hid (Kept No w wk64) := HK.out.then hk
                have HLT : Hid (P11 < wk64.heap.size) := Nat.lt_of_lt_of_le HLT.out hk.size
                clear hk
                refine ⟨.bool true, rfl, ?_⟩
                try simp only [Act.put, List.setIfInBounds_toArray, List.set_cons_zero, List.set_cons_succ]
                refine wp_takeW (o := { dst := some 122, op := Op.unOp UnOp.not 4 (Operand.tmp 121), type := 4, pos := "law.go:60", after := #[{ on := 11, ground := Ground.data }, { on := 8, ground := Ground.guard }], guard := some (8, false) }) (.bool false) (by kernel_rfl) (by kernel_rfl) ?_
                try simp only [Act.put, List.setIfInBounds_toArray, List.set_cons_zero, List.set_cons_succ]
                refine wp_takeW (o := { dst := some 123, op := Op.pick (Operand.tmp 118) (Operand.const (Value.bool true)) (Operand.tmp 122), type := 4, pos := "law.go:60", after := #[{ on := 8, ground := Ground.data }, { on := 12, ground := Ground.data }], guard := none }) (.bool false) (by kernel_rfl) (by kernel_rfl) ?_
                try simp only [Act.put, List.setIfInBounds_toArray, List.set_cons_zero, List.set_cons_succ]
                refine WL.nil ?_
                try simp only [Act.put, List.setIfInBounds_toArray, List.set_cons_zero, List.set_cons_succ]
                go_upto_region 26 with fail
                refine WL.start ?_
                refine wp_takeW (o := { dst := some 124, op := Op.load 29 (Operand.tmp 9), type := 29, pos := "law.go:63", after := #[], guard := none }) (.agg ((accI at0 x.b x.c).cells)) (exec_load 29 _ rfl ⟨P9, 0, none⟩ (by kernel_rfl) (.agg ((accI at0 x.b x.c).cells)) (load_I HP9.out)) (by kernel_rfl) ?_
                try simp only [Act.put, List.setIfInBounds_toArray, List.set_cons_zero, List.set_cons_succ]
                refine wp_storeW (o := { dst := none, op := Op.store 29 (Operand.tmp 5) (Operand.tmp 124), type := 0, pos := "law.go:63", after := #[{ on := 0, ground := Ground.data }, { on := 0, ground := Ground.phase }], guard := none }) 29 _ _ rfl ⟨A, 0, none⟩ (.agg ((accI at0 x.b x.c).cells)) (by kernel_rfl) (by kernel_rfl) _ (store_I HA.out rfl) (by kernel_rfl) ?_
                try simp only [Act.put, List.setIfInBounds_toArray, List.set_cons_zero, List.set_cons_succ]
                have HLT : Hid (P11 < (wk64.setRow A (((accI at0 x.b x.c).cells))).heap.size) := by show _ < _; rw [setRow_size]; exact HLT.out
                have HA : Hid (Box (wk64.setRow A (((accI at0 x.b x.c).cells))) (A) 29 (((accI at0 x.b x.c).cells))) := HA.out.setRow _
                have HS : Hid (Box (wk64.setRow A (((accI at0 x.b x.c).cells))) (S7) 38 (x.cells)) := HS.out.rowNe (by have := HO.out; omega) _
                have HP8 : Hid (Box (wk64.setRow A (((accI at0 x.b x.c).cells))) (P8) 29 ((accI at0 x.b x.c).cells)) := HP8.out.rowNe (by have := HO.out; omega) _
                have HP9 : Hid (Box (wk64.setRow A (((accI at0 x.b x.c).cells))) (P9) 29 ((accI at0 x.b x.c).cells)) := HP9.out.rowNe (by have := HO.out; omega) _
                have HP10 : Hid (Box (wk64.setRow A (((accI at0 x.b x.c).cells))) (P10) 52 ((accM at0 x.b).cells)) := HP10.out.rowNe (by have := HO.out; omega) _
                have HP11 : Hid (Box (wk64.setRow A (((accI at0 x.b x.c).cells))) (P11) 52 ((accM at0 x.b).cells)) := HP11.out.rowNe (by have := HO.out; omega) _
                have HK : Hid (Kept No w (wk64.setRow A (((accI at0 x.b x.c).cells)))) := HK.out.newRow (by have := HO.out; omega) _
                generalize wk64.setRow A (((accI at0 x.b x.c).cells)) = wk65 at HA HS HP8 HP9 HP10 HP11 HK HLT ⊢
                refine WL.nil ?_
                try simp only [Act.put, List.setIfInBounds_toArray, List.set_cons_zero, List.set_cons_succ]
                have HF : Hid (AtI w A wk65 (fun _ => True)) := ⟨_, HA.out, HK.out, Nat.lt_of_le_of_lt (by have := HO.out; omega) HLT.out, trivial⟩
                go_wp2
                go_roundw
                case measure => simp [intOf]; omega
                case rel => exact ⟨k + 1, by go_num, by omega, HF⟩
          · skip
            refine any_take (i := 12) (oi := { dst := some 43, op := Op.binOp BinOp.neq 3 (Operand.tmp 42) (Operand.const (Value.int IntKind.i64 1)) 3, type := 4, pos := "law.go:43", after := #[{ on := 11, ground := Ground.data }, { on := 9, ground := Ground.guard }], guard := some (9, false) }) (v := .bool false) rfl (by kernel_rfl) (by kernel_rfl) (by kernel_rfl) (fun _ _ _ h => h) (by kernel_rfl) (fun w' hw => exec_bin .neq 3 _ _ _ rfl (.int .i64 x.k) (.int .i64 1) (.bool false) (by kernel_rfl) (by kernel_rfl) (by kernel_rfl) (by rw [neqN, q7]; try rfl)) hH ?_
            try simp only [Act.put, List.setIfInBounds_toArray, List.set_cons_zero, List.set_cons_succ]
            refine any_take (i := 13) (oi := { dst := some 44, op := Op.move (Operand.tmp 43), type := 4, pos := "law.go:43", after := #[{ on := 12, ground := Ground.data }, { on := 9, ground := Ground.chain }, { on := 9, ground := Ground.guard }], guard := some (9, false) }) (v := .bool false) rfl (by kernel_rfl) (by kernel_rfl) (by kernel_rfl) (fun _ _ _ h => h) (by kernel_rfl) (fun _ _ => by kernel_rfl) hH ?_
            try simp only [Act.put, List.setIfInBounds_toArray, List.set_cons_zero, List.set_cons_succ]
            refine any_skip (i := 14) (oi := { dst := some 45, op := Op.fieldAddr 38 (Operand.tmp 7) 2, type := 0, pos := "law.go:43", after := #[{ on := 13, ground := Ground.guard }], guard := some (13, true) }) rfl (by kernel_rfl) (by kernel_rfl) (by kernel_rfl) (fun _ _ _ h => h) (by kernel_rfl) hH ?_
            try simp only [Act.put, List.setIfInBounds_toArray, List.set_cons_zero, List.set_cons_succ]
            refine any_skip (i := 15) (oi := { dst := some 46, op := Op.load 27 (Operand.tmp 45), type := 27, pos := "law.go:43", after := #[{ on := 14, ground := Ground.data }, { on := 13, ground := Ground.guard }], guard := some (13, true) }) rfl (by kernel_rfl) (by kernel_rfl) (by kernel_rfl) (fun _ _ _ h => h) (by kernel_rfl) hH ?_
            try simp only [Act.put, List.setIfInBounds_toArray, List.set_cons_zero, List.set_cons_succ]
            refine any_skip (i := 16) (oi := { dst := some 47, op := Op.call { callee := Callee.value (Operand.func 8), args := #[], argTypes := #[] }, type := 35, pos := "law.go:43", after := #[{ on := 13, ground := Ground.chain }, { on := 13, ground := Ground.guard }], guard := some (13, true) }) rfl (by kernel_rfl) (by kernel_rfl) (by kernel_rfl) (fun _ _ _ h => h) (by kernel_rfl) hH ?_
            try simp only [Act.put, List.setIfInBounds_toArray, List.set_cons_zero, List.set_cons_succ]
            refine any_skip (i := 17) (oi := { dst := some 48, op := Op.call { callee := Callee.value (Operand.func 10), args := #[Operand.tmp 46, Operand.tmp 47], argTypes := #[27, 35] }, type := 4, pos := "law.go:43", after := #[{ on := 15, ground := Ground.data }, { on := 16, ground := Ground.data }, { on := 16, ground := Ground.chain }, { on := 13, ground := Ground.guard }], guard := some (13, true) }) rfl (by kernel_rfl) (by kernel_rfl) (by kernel_rfl) (fun _ _ _ h => h) (by kernel_rfl) hH ?_
            try simp only [Act.put, List.setIfInBounds_toArray, List.set_cons_zero, List.set_cons_succ]
            refine any_skip (i := 18) (oi := { dst := some 49, op := Op.unOp UnOp.not 4 (Operand.tmp 48), type := 4, pos := "law.go:43", after := #[{ on := 17, ground := Ground.data }, { on := 13, ground := Ground.guard }], guard := some (13, true) }) rfl (by kernel_rfl) (by kernel_rfl) (by kernel_rfl) (fun _ _ _ h => h) (by kernel_rfl) hH ?_
            try simp only [Act.put, List.setIfInBounds_toArray, List.set_cons_zero, List.set_cons_succ]
            refine any_take (i := 19) (oi := { dst := some 50, op := Op.pick (Operand.tmp 44) (Operand.tmp 49) (Operand.const (Value.bool false)), type := 4, pos := "law.go:43", after := #[{ on := 13, ground := Ground.data }, { on := 18, ground := Ground.data }, { on := 9, ground := Ground.guard }], guard := some (9, false) }) (v := .bool false) rfl (by kernel_rfl) (by kernel_rfl) (by kernel_rfl) (fun _ _ _ h => h) (by kernel_rfl) (fun _ _ => by kernel_rfl) hH ?_
            try simp only [Act.put, List.setIfInBounds_toArray, List.set_cons_zero, List.set_cons_succ]
            refine any_take (i := 20) (oi := { dst := some 51, op := Op.pick (Operand.tmp 40) (Operand.const (Value.bool true)) (Operand.tmp 50), type := 4, pos := "law.go:43", after := #[{ on := 9, ground := Ground.data }, { on := 19, ground := Ground.data }], guard := none }) (v := .bool false) rfl (by kernel_rfl) (by kernel_rfl) (by kernel_rfl) (fun _ _ _ h => h) (by kernel_rfl) (fun _ _ => by kernel_rfl) hH ?_
            try simp only [Act.put, List.setIfInBounds_toArray, List.set_cons_zero, List.set_cons_succ]
            refine wpAnyH_done (by kernel_rfl) ?_ _
            try simp only [Act.put, List.setIfInBounds_toArray, List.set_cons_zero, List.set_cons_succ]
            go_upto_region 11 with fail
            refine WL.start ?_
            refine wp_allocW (o := { dst := some 8, op := Op.alloc 29, type := 0, pos := "law.go:46", after := #[], guard := none }) 29 rfl (iZ.cells) zero29 wk11.heap.size rfl (by kernel_rfl) ?_
            try simp only [Act.put, List.setIfInBounds_toArray, List.set_cons_zero, List.set_cons_succ]
            have HP8 : Hid (Box (wk11.alloc (.cells (iZ.cells) 29)) wk11.heap.size 29 (iZ.cells)) := Box.new _ _ _
            have HA : Hid (Box (wk11.alloc (.cells (iZ.cells) 29)) (A) 29 (at0.cells)) := HA.out.alloc _
            have HS : Hid (Box (wk11.alloc (.cells (iZ.cells) 29)) (S7) 38 (x.cells)) := HS.out.alloc _
            have HK : Hid (Kept No w (wk11.alloc (.cells (iZ.cells) 29))) := HK.out.alloc _
            have HO : Hid (w.heap.size ≤ A ∧ A < S7 ∧ S7 < wk11.heap.size) := by
              have h := HO.out
              have l := HLT.out
              show _ ∧ _
              omega
            have HLT : Hid (wk11.heap.size < (wk11.alloc (.cells (iZ.cells) 29)).heap.size) := by show _ < _; simp
            generalize wk11.alloc (.cells (iZ.cells) 29) = wk66 at HA HS HP8 HK HLT ⊢
            generalize wk11.heap.size = P8 at HP8 HO HLT ⊢
            refine wp_allocW (o := { dst := some 9, op := Op.alloc 29, type := 0, pos := "law.go:46", after := #[], guard := none }) 29 rfl (iZ.cells) zero29 wk66.heap.size rfl (by kernel_rfl) ?_
            try simp only [Act.put, List.setIfInBounds_toArray, List.set_cons_zero, List.set_cons_succ]
            have HP9 : Hid (Box (wk66.alloc (.cells (iZ.cells) 29)) wk66.heap.size 29 (iZ.cells)) := Box.new _ _ _
            have HA : Hid (Box (wk66.alloc (.cells (iZ.cells) 29)) (A) 29 (at0.cells)) := HA.out.alloc _
            have HS : Hid (Box (wk66.alloc (.cells (iZ.cells) 29)) (S7) 38 (x.cells)) := HS.out.alloc _
            have HP8 : Hid (Box (wk66.alloc (.cells (iZ.cells) 29)) (P8) 29 (iZ.cells)) := HP8.out.alloc _
            have HK : Hid (Kept No w (wk66.alloc (.cells (iZ.cells) 29))) := HK.out.alloc _
            have HO : Hid (w.heap.size ≤ A ∧ A < S7 ∧ S7 < P8 ∧ P8 < wk66.heap.size) := by
              have h := HO.out
              have l := HLT.out
              show _ ∧ _
              omega
            have HLT : Hid (wk66.heap.size < (wk66.alloc (.cells (iZ.cells) 29)).heap.size) := by show _ < _; simp
            generalize wk66.alloc (.cells (iZ.cells) 29) = wk67 at HA HS HP8 HP9 HK HLT ⊢
            generalize wk66.heap.size = P9 at HP9 HO HLT ⊢
            refine WL.nil ?_
            try simp only [Act.put, List.setIfInBounds_toArray, List.set_cons_zero, List.set_cons_succ]
            go_upto_region 12 with fail
            refine WL.start ?_
            refine wp_allocW (o := { dst := some 10, op := Op.alloc 52, type := 0, pos := "law.go:47", after := #[], guard := none }) 52 rfl (mZ.cells) zero52 wk67.heap.size rfl (by kernel_rfl) ?_
            try simp only [Act.put, List.setIfInBounds_toArray, List.set_cons_zero, List.set_cons_succ]
            have HP10 : Hid (Box (wk67.alloc (.cells (mZ.cells) 52)) wk67.heap.size 52 (mZ.cells)) := Box.new _ _ _
            have HA : Hid (Box (wk67.alloc (.cells (mZ.cells) 52)) (A) 29 (at0.cells)) := HA.out.alloc _
            have HS : Hid (Box (wk67.alloc (.cells (mZ.cells) 52)) (S7) 38 (x.cells)) := HS.out.alloc _
            have HP8 : Hid (Box (wk67.alloc (.cells (mZ.cells) 52)) (P8) 29 (iZ.cells)) := HP8.out.alloc _
            have HP9 : Hid (Box (wk67.alloc (.cells (mZ.cells) 52)) (P9) 29 (iZ.cells)) := HP9.out.alloc _
            have HK : Hid (Kept No w (wk67.alloc (.cells (mZ.cells) 52))) := HK.out.alloc _
            have HO : Hid (w.heap.size ≤ A ∧ A < S7 ∧ S7 < P8 ∧ P8 < P9 ∧ P9 < wk67.heap.size) := by
              have h := HO.out
              have l := HLT.out
              show _ ∧ _
              omega
            have HLT : Hid (wk67.heap.size < (wk67.alloc (.cells (mZ.cells) 52)).heap.size) := by show _ < _; simp
            generalize wk67.alloc (.cells (mZ.cells) 52) = wk68 at HA HS HP8 HP9 HP10 HK HLT ⊢
            generalize wk67.heap.size = P10 at HP10 HO HLT ⊢
            refine wp_allocW (o := { dst := some 11, op := Op.alloc 52, type := 0, pos := "law.go:47", after := #[], guard := none }) 52 rfl (mZ.cells) zero52 wk68.heap.size rfl (by kernel_rfl) ?_
            try simp only [Act.put, List.setIfInBounds_toArray, List.set_cons_zero, List.set_cons_succ]
            have HP11 : Hid (Box (wk68.alloc (.cells (mZ.cells) 52)) wk68.heap.size 52 (mZ.cells)) := Box.new _ _ _
            have HA : Hid (Box (wk68.alloc (.cells (mZ.cells) 52)) (A) 29 (at0.cells)) := HA.out.alloc _
            have HS : Hid (Box (wk68.alloc (.cells (mZ.cells) 52)) (S7) 38 (x.cells)) := HS.out.alloc _
            have HP8 : Hid (Box (wk68.alloc (.cells (mZ.cells) 52)) (P8) 29 (iZ.cells)) := HP8.out.alloc _
            have HP9 : Hid (Box (wk68.alloc (.cells (mZ.cells) 52)) (P9) 29 (iZ.cells)) := HP9.out.alloc _
            have HP10 : Hid (Box (wk68.alloc (.cells (mZ.cells) 52)) (P10) 52 (mZ.cells)) := HP10.out.alloc _
            have HK : Hid (Kept No w (wk68.alloc (.cells (mZ.cells) 52))) := HK.out.alloc _
            have HO : Hid (w.heap.size ≤ A ∧ A < S7 ∧ S7 < P8 ∧ P8 < P9 ∧ P9 < P10 ∧ P10 < wk68.heap.size) := by
              have h := HO.out
              have l := HLT.out
              show _ ∧ _
              omega
            have HLT : Hid (wk68.heap.size < (wk68.alloc (.cells (mZ.cells) 52)).heap.size) := by show _ < _; simp
            generalize wk68.alloc (.cells (mZ.cells) 52) = wk69 at HA HS HP8 HP9 HP10 HP11 HK HLT ⊢
            generalize wk68.heap.size = P11 at HP11 HO HLT ⊢
            refine WL.nil ?_
            try simp only [Act.put, List.setIfInBounds_toArray, List.set_cons_zero, List.set_cons_succ]
            go_upto_region 14 with fail
            refine WL.start ?_
            refine wp_takeW (o := { dst := some 52, op := Op.fieldAddr 38 (Operand.tmp 7) 0, type := 0, pos := "law.go:49", after := #[], guard := none }) (.pointer (some ⟨S7, 0, none⟩)) (by kernel_rfl) (by kernel_rfl) ?_
            try simp only [Act.put, List.setIfInBounds_toArray, List.set_cons_zero, List.set_cons_succ]
            refine wp_takeW (o := { dst := some 53, op := Op.load 3 (Operand.tmp 52), type := 3, pos := "law.go:49", after := #[{ on := 0, ground := Ground.data }], guard := none }) (.int .i64 x.k) (exec_load 3 _ rfl ⟨S7, 0, none⟩ (by kernel_rfl) (.int .i64 x.k) (load_N (HS.out.cell 0))) (by kernel_rfl) ?_
            try simp only [Act.put, List.setIfInBounds_toArray, List.set_cons_zero, List.set_cons_succ]
            refine WL.nil ?_
            try simp only [Act.put, List.setIfInBounds_toArray, List.set_cons_zero, List.set_cons_succ]
            go_upto_region 15 with fail
            refine WL.start ?_
            refine wp_takeW (o := { dst := some 55, op := Op.binOp BinOp.eql 3 (Operand.tmp 53) (Operand.const (Value.int IntKind.i64 1)) 3, type := 4, pos := "law.go:50", after := #[], guard := none }) (.bool true) (exec_bin .eql 3 _ _ _ rfl (.int .i64 x.k) (.int .i64 1) (.bool true) (by kernel_rfl) (by kernel_rfl) (by kernel_rfl) (by rw [eqlN, q7]; try rfl)) (by kernel_rfl) ?_
            try simp only [Act.put, List.setIfInBounds_toArray, List.set_cons_zero, List.set_cons_succ]
            refine wp_takeW (o := { dst := some 54, op := Op.assign (Operand.tmp 55), type := 4, pos := "law.go:50", after := #[{ on := 0, ground := Ground.data }], guard := none }) (.bool true) (by kernel_rfl) (by kernel_rfl) ?_
            try simp only [Act.put, List.setIfInBounds_toArray, List.set_cons_zero, List.set_cons_succ]
            refine WL.nil ?_
            try simp only [Act.put, List.setIfInBounds_toArray, List.set_cons_zero, List.set_cons_succ]
            go_upto_region 16 with fail
            refine WL.start ?_
            refine wp_takeW (o := { dst := some 57, op := Op.load 29 (Operand.tmp 5), type := 29, pos := "law.go:51", after := #[], guard := none }) (.agg at0.cells) (exec_load 29 _ rfl ⟨A, 0, none⟩ (by kernel_rfl) (.agg at0.cells) (load_I HA.out)) (by kernel_rfl) ?_
            try simp only [Act.put, List.setIfInBounds_toArray, List.set_cons_zero, List.set_cons_succ]
            refine wp_takeW (o := { dst := some 58, op := Op.fieldAddr 38 (Operand.tmp 7) 1, type := 0, pos := "law.go:51", after := #[], guard := none }) (.pointer (some ⟨S7, 1, none⟩)) (by kernel_rfl) (by kernel_rfl) ?_
            try simp only [Act.put, List.setIfInBounds_toArray, List.set_cons_zero, List.set_cons_succ]
            refine wp_takeW (o := { dst := some 59, op := Op.load 23 (Operand.tmp 58), type := 23, pos := "law.go:51", after := #[{ on := 1, ground := Ground.data }], guard := none }) (.agg #[.int .i64 x.b.n, .int .i64 x.b.c]) (exec_load 23 _ rfl ⟨S7, 1, none⟩ (by kernel_rfl) (.agg #[.int .i64 x.b.n, .int .i64 x.b.c]) (load_S HS.out x.partB)) (by kernel_rfl) ?_
            try simp only [Act.put, List.setIfInBounds_toArray, List.set_cons_zero, List.set_cons_succ]
            refine wp_callW (o := { dst := some 60, op := Op.call { callee := Callee.value (Operand.func 11), args := #[Operand.tmp 57, Operand.tmp 59], argTypes := #[29, 23] }, type := 53, pos := "law.go:51", after := #[{ on := 0, ground := Ground.data }, { on := 2, ground := Ground.data }], guard := none }) 11 #[.agg at0.cells, .agg #[.int .i64 x.b.n, .int .i64 x.b.c]] (by kernel_rfl) _ (prep_any at0 x.b _) (by kernel_rfl) ?_
            rintro e wk70 ⟨rfl, hk⟩
            have HA : Hid (Box wk70 (A) 29 (at0.cells)) := HA.out.kept hk (fun e => e)
            have HS : Hid (Box wk70 (S7) 38 (x.cells)) := HS.out.kept hk (fun e => e)
            have HP8 : Hid (Box wk70 (P8) 29 (iZ.cells)) := HP8.out.kept hk (fun e => e)
            have HP9 : Hid (Box wk70 (P9) 29 (iZ.cells)) := HP9.out.kept hk (fun e => e)
            have HP10 : Hid (Box wk70 (P10) 52 (mZ.cells)) := HP10.out.kept hk (fun e => e)
            have HP11 : Hid (Box wk70 (P11) 52 (mZ.cells)) := HP11.out.kept hk (fun e => e)
            have HK : Hid (Kept No w wk70) := HK.out.then hk
            have HLT : Hid (P11 < wk70.heap.size) := Nat.lt_of_lt_of_le HLT.out hk.size
            clear hk
            refine ⟨.tuple #[.agg (prepI at0 x.b).cells, .agg (prepM at0 x.b).cells, .bool (prepB at0 x.b)], rfl, ?_⟩
            try simp only [Act.put, List.setIfInBounds_toArray, List.set_cons_zero, List.set_cons_succ]
            refine wp_takeW (o := { dst := some 56, op := Op.move (Operand.tmp 60), type := 53, pos := "law.go:51", after := #[{ on := 3, ground := Ground.data }], guard := none }) (.tuple #[.agg (prepI at0 x.b).cells, .agg (prepM at0 x.b).cells, .bool (prepB at0 x.b)]) (by kernel_rfl) (by kernel_rfl) ?_
            try simp only [Act.put, List.setIfInBounds_toArray, List.set_cons_zero, List.set_cons_succ]
            refine wp_takeW (o := { dst := some 61, op := Op.extract (Operand.tmp 56) 0, type := 29, pos := "law.go:51", after := #[{ on := 4, ground := Ground.data }], guard := none }) (.agg (prepI at0 x.b).cells) (by kernel_rfl) (by kernel_rfl) ?_
            try simp only [Act.put, List.setIfInBounds_toArray, List.set_cons_zero, List.set_cons_succ]
            refine wp_takeW (o := { dst := some 62, op := Op.extract (Operand.tmp 56) 1, type := 52, pos := "law.go:51", after := #[{ on := 4, ground := Ground.data }, { on := 8, ground := Ground.gcOnly Departure.lateStores }], guard := none }) (.agg (prepM at0 x.b).cells) (by kernel_rfl) (by kernel_rfl) ?_
            try simp only [Act.put, List.setIfInBounds_toArray, List.set_cons_zero, List.set_cons_succ]
            refine wp_takeW (o := { dst := some 63, op := Op.extract (Operand.tmp 56) 2, type := 4, pos := "law.go:51", after := #[{ on := 4, ground := Ground.data }, { on := 9, ground := Ground.gcOnly Departure.lateStores }], guard := none }) (.bool (prepB at0 x.b)) (by kernel_rfl) (by kernel_rfl) ?_
            try simp only [Act.put, List.setIfInBounds_toArray, List.set_cons_zero, List.set_cons_succ]
            refine wp_storeW (o := { dst := none, op := Op.store 29 (Operand.tmp 8) (Operand.tmp 61), type := 0, pos := "law.go:51", after := #[{ on := 5, ground := Ground.data }, { on := 3, ground := Ground.chain }, { on := 0, ground := Ground.phase }, { on := 1, ground := Ground.phase }, { on := 2, ground := Ground.phase }, { on := 3, ground := Ground.phase }, { on := 4, ground := Ground.phase }, { on := 5, ground := Ground.phase }, { on := 6, ground := Ground.textOnly Departure.lateStores }, { on := 7, ground := Ground.textOnly Departure.lateStores }], guard := none }) 29 _ _ rfl ⟨P8, 0, none⟩ (.agg (prepI at0 x.b).cells) (by kernel_rfl) (by kernel_rfl) _ (store_I HP8.out rfl) (by kernel_rfl) ?_
            try simp only [Act.put, List.setIfInBounds_toArray, List.set_cons_zero, List.set_cons_succ]
            have HLT : Hid (P11 < (wk70.setRow P8 ((prepI at0 x.b).cells)).heap.size) := by show _ < _; rw [setRow_size]; exact HLT.out
            have HA : Hid (Box (wk70.setRow P8 ((prepI at0 x.b).cells)) (A) 29 (at0.cells)) := HA.out.rowNe (by have := HO.out; omega) _
            have HS : Hid (Box (wk70.setRow P8 ((prepI at0 x.b).cells)) (S7) 38 (x.cells)) := HS.out.rowNe (by have := HO.out; omega) _
            have HP8 : Hid (Box (wk70.setRow P8 ((prepI at0 x.b).cells)) (P8) 29 ((prepI at0 x.b).cells)) := HP8.out.setRow _
            have HP9 : Hid (Box (wk70.setRow P8 ((prepI at0 x.b).cells)) (P9) 29 (iZ.cells)) := HP9.out.rowNe (by have := HO.out; omega) _
            have HP10 : Hid (Box (wk70.setRow P8 ((prepI at0 x.b).cells)) (P10) 52 (mZ.cells)) := HP10.out.rowNe (by have := HO.out; omega) _
            have HP11 : Hid (Box (wk70.setRow P8 ((prepI at0 x.b).cells)) (P11) 52 (mZ.cells)) := HP11.out.rowNe (by have := HO.out; omega) _
            have HK : Hid (Kept No w (wk70.setRow P8 ((prepI at0 x.b).cells))) := HK.out.newRow (by have := HO.out; omega) _
            generalize wk70.setRow P8 ((prepI at0 x.b).cells) = wk71 at HA HS HP8 HP9 HP10 HP11 HK HLT ⊢
            refine wp_storeW (o := { dst := none, op := Op.store 52 (Operand.tmp 10) (Operand.tmp 62), type := 0, pos := "law.go:51", after := #[{ on := 6, ground := Ground.data }, { on := 8, ground := Ground.chain }, { on := 0, ground := Ground.phase }, { on := 1, ground := Ground.phase }, { on := 2, ground := Ground.phase }, { on := 3, ground := Ground.phase }, { on := 4, ground := Ground.phase }, { on := 5, ground := Ground.phase }, { on := 6, ground := Ground.phase }, { on := 7, ground := Ground.textOnly Departure.lateStores }, { on := 8, ground := Ground.phase }], guard := none }) 52 _ _ rfl ⟨P10, 0, none⟩ (.agg (prepM at0 x.b).cells) (by kernel_rfl) (by kernel_rfl) _ (store_M HP10.out rfl) (by kernel_rfl) ?_
            try simp only [Act.put, List.setIfInBounds_toArray, List.set_cons_zero, List.set_cons_succ]
            have HLT : Hid (P11 < (wk71.setRow P10 ((prepM at0 x.b).cells)).heap.size) := by show _ < _; rw [setRow_size]; exact HLT.out
            have HA : Hid (Box (wk71.setRow P10 ((prepM at0 x.b).cells)) (A) 29 (at0.cells)) := HA.out.rowNe (by have := HO.out; omega) _
            have HS : Hid (Box (wk71.setRow P10 ((prepM at0 x.b).cells)) (S7) 38 (x.cells)) := HS.out.rowNe (by have := HO.out; omega) _
            have HP8 : Hid (Box (wk71.setRow P10 ((prepM at0 x.b).cells)) (P8) 29 ((prepI at0 x.b).cells)) := HP8.out.rowNe (by have := HO.out; omega) _
            have HP9 : Hid (Box (wk71.setRow P10 ((prepM at0 x.b).cells)) (P9) 29 (iZ.cells)) := HP9.out.rowNe (by have := HO.out; omega) _
            have HP10 : Hid (Box (wk71.setRow P10 ((prepM at0 x.b).cells)) (P10) 52 ((prepM at0 x.b).cells)) := HP10.out.setRow _
            have HP11 : Hid (Box (wk71.setRow P10 ((prepM at0 x.b).cells)) (P11) 52 (mZ.cells)) := HP11.out.rowNe (by have := HO.out; omega) _
            have HK : Hid (Kept No w (wk71.setRow P10 ((prepM at0 x.b).cells))) := HK.out.newRow (by have := HO.out; omega) _
            generalize wk71.setRow P10 ((prepM at0 x.b).cells) = wk72 at HA HS HP8 HP9 HP10 HP11 HK HLT ⊢
            refine wp_takeW (o := { dst := some 12, op := Op.assign (Operand.tmp 63), type := 4, pos := "law.go:51", after := #[{ on := 7, ground := Ground.data }, { on := 9, ground := Ground.chain }, { on := 0, ground := Ground.phase }, { on := 1, ground := Ground.phase }, { on := 2, ground := Ground.phase }, { on := 3, ground := Ground.phase }, { on := 4, ground := Ground.phase }, { on := 5, ground := Ground.phase }, { on := 6, ground := Ground.phase }, { on := 7, ground := Ground.phase }, { on := 8, ground := Ground.phase }, { on := 9, ground := Ground.phase }], guard := none }) (.bool (prepB at0 x.b)) (by kernel_rfl) (by kernel_rfl) ?_
            try simp only [Act.put, List.setIfInBounds_toArray, List.set_cons_zero, List.set_cons_succ]
            refine WL.nil ?_
            try simp only [Act.put, List.setIfInBounds_toArray, List.set_cons_zero, List.set_cons_succ]
            go_upto_region 17 with fail
            refine WL.start ?_
            refine wp_takeW (o := { dst := some 65, op := Op.load 29 (Operand.tmp 5), type := 29, pos := "law.go:52", after := #[], guard := none }) (.agg at0.cells) (exec_load 29 _ rfl ⟨A, 0, none⟩ (by kernel_rfl) (.agg at0.cells) (load_I HA.out)) (by kernel_rfl) ?_
            try simp only [Act.put, List.setIfInBounds_toArray, List.set_cons_zero, List.set_cons_succ]
            refine wp_takeW (o := { dst := some 66, op := Op.fieldAddr 38 (Operand.tmp 7) 1, type := 0, pos := "law.go:52", after := #[], guard := none }) (.pointer (some ⟨S7, 1, none⟩)) (by kernel_rfl) (by kernel_rfl) ?_
            try simp only [Act.put, List.setIfInBounds_toArray, List.set_cons_zero, List.set_cons_succ]
            refine wp_takeW (o := { dst := some 67, op := Op.load 23 (Operand.tmp 66), type := 23, pos := "law.go:52", after := #[{ on := 1, ground := Ground.data }], guard := none }) (.agg #[.int .i64 x.b.n, .int .i64 x.b.c]) (exec_load 23 _ rfl ⟨S7, 1, none⟩ (by kernel_rfl) (.agg #[.int .i64 x.b.n, .int .i64 x.b.c]) (load_S HS.out x.partB)) (by kernel_rfl) ?_
            try simp only [Act.put, List.setIfInBounds_toArray, List.set_cons_zero, List.set_cons_succ]
            refine wp_callW (o := { dst := some 68, op := Op.call { callee := Callee.value (Operand.func 12), args := #[Operand.tmp 65, Operand.tmp 67], argTypes := #[29, 23] }, type := 53, pos := "law.go:52", after := #[{ on := 0, ground := Ground.data }, { on := 2, ground := Ground.data }], guard := none }) 12 #[.agg at0.cells, .agg #[.int .i64 x.b.n, .int .i64 x.b.c]] (by kernel_rfl) _ (rprep_any at0 x.b _) (by kernel_rfl) ?_
            rintro e wk73 ⟨rfl, hk⟩
            have HA : Hid (Box wk73 (A) 29 (at0.cells)) := HA.out.kept hk (fun e => e)
            have HS : Hid (Box wk73 (S7) 38 (x.cells)) := HS.out.kept hk (fun e => e)
            have HP8 : Hid (Box wk73 (P8) 29 ((prepI at0 x.b).cells)) := HP8.out.kept hk (fun e => e)
            have HP9 : Hid (Box wk73 (P9) 29 (iZ.cells)) := HP9.out.kept hk (fun e => e)
            have HP10 : Hid (Box wk73 (P10) 52 ((prepM at0 x.b).cells)) := HP10.out.kept hk (fun e => e)
            have HP11 : Hid (Box wk73 (P11) 52 (mZ.cells)) := HP11.out.kept hk (fun e => e)
            have HK : Hid (Kept No w wk73) := HK.out.then hk
            have HLT : Hid (P11 < wk73.heap.size) := Nat.lt_of_lt_of_le HLT.out hk.size
            clear hk
            refine ⟨.tuple #[.agg (prepI at0 x.b).cells, .agg (prepM at0 x.b).cells, .bool (prepBr at0 x.b)], rfl, ?_⟩
            try simp only [Act.put, List.setIfInBounds_toArray, List.set_cons_zero, List.set_cons_succ]
            refine wp_takeW (o := { dst := some 64, op := Op.move (Operand.tmp 68), type := 53, pos := "law.go:52", after := #[{ on := 3, ground := Ground.data }], guard := none }) (.tuple #[.agg (prepI at0 x.b).cells, .agg (prepM at0 x.b).cells, .bool (prepBr at0 x.b)]) (by kernel_rfl) (by kernel_rfl) ?_
            try simp only [Act.put, List.setIfInBounds_toArray, List.set_cons_zero, List.set_cons_succ]
            refine wp_takeW (o := { dst := some 69, op := Op.extract (Operand.tmp 64) 0, type := 29, pos := "law.go:52", after := #[{ on := 4, ground := Ground.data }], guard := none }) (.agg (prepI at0 x.b).cells) (by kernel_rfl) (by kernel_rfl) ?_
            try simp only [Act.put, List.setIfInBounds_toArray, List.set_cons_zero, List.set_cons_succ]
            refine wp_takeW (o := { dst := some 70, op := Op.extract (Operand.tmp 64) 1, type := 52, pos := "law.go:52", after := #[{ on := 4, ground := Ground.data }, { on := 8, ground := Ground.gcOnly Departure.lateStores }], guard := none }) (.agg (prepM at0 x.b).cells) (by kernel_rfl) (by kernel_rfl) ?_
            try simp only [Act.put, List.setIfInBounds_toArray, List.set_cons_zero, List.set_cons_succ]
            refine wp_takeW (o := { dst := some 71, op := Op.extract (Operand.tmp 64) 2, type := 4, pos := "law.go:52", after := #[{ on := 4, ground := Ground.data }, { on := 9, ground := Ground.gcOnly Departure.lateStores }], guard := none }) (.bool (prepBr at0 x.b)) (by kernel_rfl) (by kernel_rfl) ?_
            try simp only [Act.put, List.setIfInBounds_toArray, List.set_cons_zero, List.set_cons_succ]
            refine wp_storeW (o := { dst := none, op := Op.store 29 (Operand.tmp 9) (Operand.tmp 69), type := 0, pos := "law.go:52", after := #[{ on := 5, ground := Ground.data }, { on := 3, ground := Ground.chain }, { on := 0, ground := Ground.phase }, { on := 1, ground := Ground.phase }, { on := 2, ground := Ground.phase }, { on := 3, ground := Ground.phase }, { on := 4, ground := Ground.phase }, { on := 5, ground := Ground.phase }, { on := 6, ground := Ground.textOnly Departure.lateStores }, { on := 7, ground := Ground.textOnly Departure.lateStores }], guard := none }) 29 _ _ rfl ⟨P9, 0, none⟩ (.agg (prepI at0 x.b).cells) (by kernel_rfl) (by kernel_rfl) _ (store_I HP9.out rfl) (by kernel_rfl) ?_
            try simp only [Act.put, List.setIfInBounds_toArray, List.set_cons_zero, List.set_cons_succ]
            have HLT : Hid (P11 < (wk73.setRow P9 ((prepI at0 x.b).cells)).heap.size) := by show _ < _; rw [setRow_size]; exact HLT.out
            have HA : Hid (Box (wk73.setRow P9 ((prepI at0 x.b).cells)) (A) 29 (at0.cells)) := HA.out.rowNe (by have := HO.out; omega) _
            have HS : Hid (Box (wk73.setRow P9 ((prepI at0 x.b).cells)) (S7) 38 (x.cells)) := HS.out.rowNe (by have := HO.out; omega) _
            have HP8 : Hid (Box (wk73.setRow P9 ((prepI at0 x.b).cells)) (P8) 29 ((prepI at0 x.b).cells)) := HP8.out.rowNe (by have := HO.out; omega) _
            have HP9 : Hid (Box (wk73.setRow P9 ((prepI at0 x.b).cells)) (P9) 29 ((prepI at0 x.b).cells)) := HP9.out.setRow _
            have HP10 : Hid (Box (wk73.setRow P9 ((prepI at0 x.b).cells)) (P10) 52 ((prepM at0 x.b).cells)) := HP10.out.rowNe (by have := HO.out; omega) _
            have HP11 : Hid (Box (wk73.setRow P9 ((prepI at0 x.b).cells)) (P11) 52 (mZ.cells)) := HP11.out.rowNe (by have := HO.out; omega) _
            have HK : Hid (Kept No w (wk73.setRow P9 ((prepI at0 x.b).cells))) := HK.out.newRow (by have := HO.out; omega) _
            generalize wk73.setRow P9 ((prepI at0 x.b).cells) = wk74 at HA HS HP8 HP9 HP10 HP11 HK HLT ⊢
            refine wp_storeW (o := { dst := none, op := Op.store 52 (Operand.tmp 11) (Operand.tmp 70), type := 0, pos := "law.go:52", after := #[{ on := 6, ground := Ground.data }, { on := 8, ground := Ground.chain }, { on := 0, ground := Ground.phase }, { on := 1, ground := Ground.phase }, { on := 2, ground := Ground.phase }, { on := 3, ground := Ground.phase }, { on := 4, ground := Ground.phase }, { on := 5, ground := Ground.phase }, { on := 6, ground := Ground.phase }, { on := 7, ground := Ground.textOnly Departure.lateStores }, { on := 8, ground := Ground.phase }], guard := none }) 52 _ _ rfl ⟨P11, 0, none⟩ (.agg (prepM at0 x.b).cells) (by kernel_rfl) (by kernel_rfl) _ (store_M HP11.out rfl) (by kernel_rfl) ?_
            try simp only [Act.put, List.setIfInBounds_toArray, List.set_cons_zero, List.set_cons_succ]
            have HLT : Hid (P11 < (wk74.setRow P11 ((prepM at0 x.b).cells)).heap.size) := by show _ < _; rw [setRow_size]; exact HLT.out
            have HA : Hid (Box (wk74.setRow P11 ((prepM at0 x.b).cells)) (A) 29 (at0.cells)) := HA.out.rowNe (by have := HO.out; omega) _
            have HS : Hid (Box (wk74.setRow P11 ((prepM at0 x.b).cells)) (S7) 38 (x.cells)) := HS.out.rowNe (by have := HO.out; omega) _
            have HP8 : Hid (Box (wk74.setRow P11 ((prepM at0 x.b).cells)) (P8) 29 ((prepI at0 x.b).cells)) := HP8.out.rowNe (by have := HO.out; omega) _
            have HP9 : Hid (Box (wk74.setRow P11 ((prepM at0 x.b).cells)) (P9) 29 ((prepI at0 x.b).cells)) := HP9.out.rowNe (by have := HO.out; omega) _
            have HP10 : Hid (Box (wk74.setRow P11 ((prepM at0 x.b).cells)) (P10) 52 ((prepM at0 x.b).cells)) := HP10.out.rowNe (by have := HO.out; omega) _
            have HP11 : Hid (Box (wk74.setRow P11 ((prepM at0 x.b).cells)) (P11) 52 ((prepM at0 x.b).cells)) := HP11.out.setRow _
            have HK : Hid (Kept No w (wk74.setRow P11 ((prepM at0 x.b).cells))) := HK.out.newRow (by have := HO.out; omega) _
            generalize wk74.setRow P11 ((prepM at0 x.b).cells) = wk75 at HA HS HP8 HP9 HP10 HP11 HK HLT ⊢
            refine wp_takeW (o := { dst := some 13, op := Op.assign (Operand.tmp 71), type := 4, pos := "law.go:52", after := #[{ on := 7, ground := Ground.data }, { on := 9, ground := Ground.chain }, { on := 0, ground := Ground.phase }, { on := 1, ground := Ground.phase }, { on := 2, ground := Ground.phase }, { on := 3, ground := Ground.phase }, { on := 4, ground := Ground.phase }, { on := 5, ground := Ground.phase }, { on := 6, ground := Ground.phase }, { on := 7, ground := Ground.phase }, { on := 8, ground := Ground.phase }, { on := 9, ground := Ground.phase }], guard := none }) (.bool (prepBr at0 x.b)) (by kernel_rfl) (by kernel_rfl) ?_
            try simp only [Act.put, List.setIfInBounds_toArray, List.set_cons_zero, List.set_cons_succ]
            refine WL.nil ?_
            try simp only [Act.put, List.setIfInBounds_toArray, List.set_cons_zero, List.set_cons_succ]
            go_upto_region 24 with fail
            refine WL.start ?_
            refine wp_takeW (o := { dst := some 110, op := Op.load 29 (Operand.tmp 8), type := 29, pos := "law.go:60", after := #[], guard := none }) (.agg ((prepI at0 x.b).cells)) (exec_load 29 _ rfl ⟨P8, 0, none⟩ (by kernel_rfl) (.agg ((prepI at0 x.b).cells)) (load_I HP8.out)) (by kernel_rfl) ?_
            try simp only [Act.put, List.setIfInBounds_toArray, List.set_cons_zero, List.set_cons_succ]
            refine wp_takeW (o := { dst := some 111, op := Op.load 29 (Operand.tmp 9), type := 29, pos := "law.go:60", after := #[], guard := none }) (.agg ((prepI at0 x.b).cells)) (exec_load 29 _ rfl ⟨P9, 0, none⟩ (by kernel_rfl) (.agg ((prepI at0 x.b).cells)) (load_I HP9.out)) (by kernel_rfl) ?_
            try simp only [Act.put, List.setIfInBounds_toArray, List.set_cons_zero, List.set_cons_succ]
            refine wp_takeW (o := { dst := some 112, op := Op.binOp BinOp.neq 29 (Operand.tmp 110) (Operand.tmp 111) 29, type := 4, pos := "law.go:60", after := #[{ on := 0, ground := Ground.data }, { on := 1, ground := Ground.data }], guard := none }) (.bool false) (exec_bin .neq 29 _ _ _ rfl (.agg ((prepI at0 x.b).cells)) (.agg ((prepI at0 x.b).cells)) (.bool false) (by kernel_rfl) (by kernel_rfl) (guard_I _ (.inr rfl) _ _ _ _ _) (by rw [neqI, eqI_refl]; rfl)) (by kernel_rfl) ?_
            try simp only [Act.put, List.setIfInBounds_toArray, List.set_cons_zero, List.set_cons_succ]
            refine wp_takeW (o := { dst := some 113, op := Op.move (Operand.tmp 112), type := 4, pos := "law.go:60", after := #[{ on := 2, ground := Ground.data }], guard := none }) (.bool false) (by kernel_rfl) (by kernel_rfl) ?_
            try simp only [Act.put, List.setIfInBounds_toArray, List.set_cons_zero, List.set_cons_succ]
            refine wp_takeW (o := { dst := some 114, op := Op.move (Operand.tmp 12), type := 4, pos := "law.go:60", after := #[{ on := 3, ground := Ground.guard }], guard := some (3, false) }) (.bool (prepB at0 x.b)) (by kernel_rfl) (by kernel_rfl) ?_
            try simp only [Act.put, List.setIfInBounds_toArray, List.set_cons_zero, List.set_cons_succ]
            refine wp_takeW (o := { dst := some 115, op := Op.move (Operand.tmp 13), type := 4, pos := "law.go:60", after := #[{ on := 3, ground := Ground.guard }], guard := some (3, false) }) (.bool (prepBr at0 x.b)) (by kernel_rfl) (by kernel_rfl) ?_
            try simp only [Act.put, List.setIfInBounds_toArray, List.set_cons_zero, List.set_cons_succ]
            refine wp_takeW (o := { dst := some 116, op := Op.binOp BinOp.neq 4 (Operand.tmp 114) (Operand.tmp 115) 4, type := 4, pos := "law.go:60", after := #[{ on := 4, ground := Ground.data }, { on := 5, ground := Ground.data }, { on := 3, ground := Ground.guard }], guard := some (3, false) }) (.bool false) (exec_bin .neq 4 _ _ _ rfl (.bool (prepB at0 x.b)) (.bool (prepBr at0 x.b)) (.bool false) (by kernel_rfl) (by kernel_rfl) (by kernel_rfl) (by rw [neqB, prepB_eq]; first | rfl | simp)) (by kernel_rfl) ?_
            try simp only [Act.put, List.setIfInBounds_toArray, List.set_cons_zero, List.set_cons_succ]
            refine wp_takeW (o := { dst := some 117, op := Op.pick (Operand.tmp 113) (Operand.const (Value.bool true)) (Operand.tmp 116), type := 4, pos := "law.go:60", after := #[{ on := 3, ground := Ground.data }, { on := 6, ground := Ground.data }], guard := none }) (.bool false) (by kernel_rfl) (by kernel_rfl) ?_
            try simp only [Act.put, List.setIfInBounds_toArray, List.set_cons_zero, List.set_cons_succ]
            refine wp_takeW (o := { dst := some 118, op := Op.move (Operand.tmp 117), type := 4, pos := "law.go:60", after := #[{ on := 7, ground := Ground.data }, { on := 3, ground := Ground.chain }], guard := none }) (.bool false) (by kernel_rfl) (by kernel_rfl) ?_
            try simp only [Act.put, List.setIfInBounds_toArray, List.set_cons_zero, List.set_cons_succ]
            refine wp_takeW (o := { dst := some 119, op := Op.load 52 (Operand.tmp 10), type := 52, pos := "law.go:60", after := #[{ on := 8, ground := Ground.guard }], guard := some (8, false) }) (.agg ((prepM at0 x.b).cells)) (exec_load 52 _ rfl ⟨P10, 0, none⟩ (by kernel_rfl) (.agg ((prepM at0 x.b).cells)) (load_M HP10.out)) (by kernel_rfl) ?_
            try simp only [Act.put, List.setIfInBounds_toArray, List.set_cons_zero, List.set_cons_succ]
            refine wp_takeW (o := { dst := some 120, op := Op.load 52 (Operand.tmp 11), type := 52, pos := "law.go:60", after := #[{ on := 8, ground := Ground.guard }], guard := some (8, false) }) (.agg ((prepM at0 x.b).cells)) (exec_load 52 _ rfl ⟨P11, 0, none⟩ (by kernel_rfl) (.agg ((prepM at0 x.b).cells)) (load_M HP11.out)) (by kernel_rfl) ?_
            try simp only [Act.put, List.setIfInBounds_toArray, List.set_cons_zero, List.set_cons_succ]
            refine wp_callW (o := { dst := some 121, op := Op.call { callee := Callee.value (Operand.func 17), args := #[Operand.tmp 119, Operand.tmp 120], argTypes := #[52, 52] }, type := 4, pos := "law.go:60", after := #[{ on := 9, ground := Ground.data }, { on := 10, ground := Ground.data }, { on := 8, ground := Ground.chain }, { on := 8, ground := Ground.guard }], guard := some (8, false) }) 17 #[.agg ((prepM at0 x.b).cells), .agg ((prepM at0 x.b).cells)] (by kernel_rfl) _ (same_any _ _) (by kernel_rfl) ?_
            rintro e wk76 ⟨rfl, hk⟩
            have HA : Hid (Box wk76 (A) 29 (at0.cells)) := HA.out.kept hk (fun e => e)
            have HS : Hid (Box wk76 (S7) 38 (x.cells)) := HS.out.kept hk (fun e => e)
            have HP8 : Hid (Box wk76 (P8) 29 ((prepI at0 x.b).cells)) := HP8.out.kept hk (fun e => e)
            have HP9 : Hid (Box wk76 (P9) 29 ((prepI at0 x.b).cells)) := HP9.out.kept hk (fun e => e)
            have HP10 : Hid (Box wk76 (P10) 52 ((prepM at0 x.b).cells)) := HP10.out.kept hk (fun e => e)
            have HP11 : Hid (Box wk76 (P11) 52 ((prepM at0 x.b).cells)) := HP11.out.kept hk (fun e => e)
            have HK : Hid (Kept No w wk76) := HK.out.then hk
            have HLT : Hid (P11 < wk76.heap.size) := Nat.lt_of_lt_of_le HLT.out hk.size
            clear hk
            refine ⟨.bool true, rfl, ?_⟩
            try simp only [Act.put, List.setIfInBounds_toArray, List.set_cons_zero, List.set_cons_succ]
            refine wp_takeW (o := { dst := some 122, op := Op.unOp UnOp.not 4 (Operand.tmp 121), type := 4, pos := "law.go:60", after := #[{ on := 11, ground := Ground.data }, { on := 8, ground := Ground.guard }], guard := some (8, false) }) (.bool false) (by kernel_rfl) (by kernel_rfl) ?_
            try simp only [Act.put, List.setIfInBounds_toArray, List.set_cons_zero, List.set_cons_succ]
            refine wp_takeW (o := { dst := some 123, op := Op.pick (Operand.tmp 118) (Operand.const (Value.bool true)) (Operand.tmp 122), type := 4, pos := "law.go:60", after := #[{ on := 8, ground := Ground.data }, { on := 12, ground := Ground.data }], guard := none }) (.bool false) (by kernel_rfl) (by kernel_rfl) ?_
            try simp only [Act.put, List.setIfInBounds_toArray, List.set_cons_zero, List.set_cons_succ]
            refine WL.nil ?_
            try simp only [Act.put, List.setIfInBounds_toArray, List.set_cons_zero, List.set_cons_succ]
            go_upto_region 26 with fail
            refine WL.start ?_
            refine wp_takeW (o := { dst := some 124, op := Op.load 29 (Operand.tmp 9), type := 29, pos := "law.go:63", after := #[], guard := none }) (.agg ((prepI at0 x.b).cells)) (exec_load 29 _ rfl ⟨P9, 0, none⟩ (by kernel_rfl) (.agg ((prepI at0 x.b).cells)) (load_I HP9.out)) (by kernel_rfl) ?_
            try simp only [Act.put, List.setIfInBounds_toArray, List.set_cons_zero, List.set_cons_succ]
            refine wp_storeW (o := { dst := none, op := Op.store 29 (Operand.tmp 5) (Operand.tmp 124), type := 0, pos := "law.go:63", after := #[{ on := 0, ground := Ground.data }, { on := 0, ground := Ground.phase }], guard := none }) 29 _ _ rfl ⟨A, 0, none⟩ (.agg ((prepI at0 x.b).cells)) (by kernel_rfl) (by kernel_rfl) _ (store_I HA.out rfl) (by kernel_rfl) ?_
            try simp only [Act.put, List.setIfInBounds_toArray, List.set_cons_zero, List.set_cons_succ]
            have HLT : Hid (P11 < (wk76.setRow A (((prepI at0 x.b).cells))).heap.size) := by show _ < _; rw [setRow_size]; exact HLT.out
            have HA : Hid (Box (wk76.setRow A (((prepI at0 x.b).cells))) (A) 29 (((prepI at0 x.b).cells))) := HA.out.setRow _
            have HS : Hid (Box (wk76.setRow A (((prepI at0 x.b).cells))) (S7) 38 (x.cells)) := HS.out.rowNe (by have := HO.out; omega) _
            have HP8 : Hid (Box (wk76.setRow A (((prepI at0 x.b).cells))) (P8) 29 ((prepI at0 x.b).cells)) := HP8.out.rowNe (by have := HO.out; omega) _
            have HP9 : Hid (Box (wk76.setRow A (((prepI at0 x.b).cells))) (P9) 29 ((prepI at0 x.b).cells)) := HP9.out.rowNe (by have := HO.out; omega) _
            have HP10 : Hid (Box (wk76.setRow A (((prepI at0 x.b).cells))) (P10) 52 ((prepM at0 x.b).cells)) := HP10.out.rowNe (by have := HO.out; omega) _
            have HP11 : Hid (Box (wk76.setRow A (((prepI at0 x.b).cells))) (P11) 52 ((prepM at0 x.b).cells)) := HP11.out.rowNe (by have := HO.out; omega) _
            have HK : Hid (Kept No w (wk76.setRow A (((prepI at0 x.b).cells)))) := HK.out.newRow (by have := HO.out; omega) _
            generalize wk76.setRow A (((prepI at0 x.b).cells)) = wk77 at HA HS HP8 HP9 HP10 HP11 HK HLT ⊢
            refine WL.nil ?_
            try simp only [Act.put, List.setIfInBounds_toArray, List.set_cons_zero, List.set_cons_succ]
            have HF : Hid (AtI w A wk77 (fun _ => True)) := ⟨_, HA.out, HK.out, Nat.lt_of_le_of_lt (by have := HO.out; omega) HLT.out, trivial⟩
            go_wp2
            go_roundw
            case measure => simp [intOf]; omega
            case rel => exact ⟨k + 1, by go_num, by omega, HF⟩
      · have hlt' : ¬ (k : Int) < (sn : Int) := by omega
        obtain ⟨at0, -, hK, -⟩ := HAt.out
        have HK : Hid (Kept No w wr) := hK
        go_wp2
        go_ret
        exact ⟨rfl, HK.out⟩

end Go.Proofs.Ytapjnanenfcdjaa
