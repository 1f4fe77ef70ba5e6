import Derived.Test.YtapjnanenfcdjaaR
namespace Go.Proofs.Ytapjnanenfcdjaa
open Go.RowKit
set_option linter.unusedVariables false
set_option linter.unusedSimpArgs false

set_option maxRecDepth 100000 in
set_option maxHeartbeats 16000000 in
theorem staysWalk (i : In) (sa : Option Addr) (sn sc : Nat) (xs : List Sx) (w : World) (hl : xs.length = sn) (hbig : sn ≤ 140737488351232) (hR : RowsAt 12 w sa (xs.map Sx.cs)) :
    Calls Try.prog 4 #[.agg i.cells, .slice sa sn sc] w (fun e w' => e = .returned (.bool true) ∧ Kept No w w') := by
  have HL : Hid (xs.length = sn) := hl
  have HR : Hid (RowsAt 12 w sa (xs.map Sx.cs)) := hR
  clear hl hR
  obtain ⟨w1, hw1⟩ : ∃ w1, w1 = w.alloc (.cells i.cells 29) := ⟨_, rfl⟩
  obtain ⟨N, hN⟩ : ∃ N, N = w.heap.size := ⟨_, rfl⟩
  have HI : Hid (Box w1 N 29 (i.cells)) := by rw [hw1, hN]; exact Box.new _ _ _
  have HK : Hid (Kept No w w1) := by rw [hw1]; exact (Kept.refl No w).alloc _
  have HO : Hid (w.heap.size ≤ N) := by show _ ≤ _; omega
  have HLT : Hid (N < w1.heap.size) := HI.out.lt
  go_enter Try.func4, Try.ntmps4
  go_upto_region 1 with (refine wp_boxV rfl 29 _ rfl i.cells rfl w.heap.size rfl ?_)
  rw [← hw1, ← hN]
  clear hw1 hN
  refine WL.start ?_
  refine wp_callW 6 #[] (by kernel_rfl) _ (known_any _) (by kernel_rfl) ?_
  rintro e wk1 ⟨rfl, hk⟩
  have HI : Hid (Box wk1 (N) 29 (i.cells)) := HI.out.kept hk (fun e => e)
  have HK : Hid (Kept No w wk1) := HK.out.then hk
  have HLT : Hid (N < wk1.heap.size) := Nat.lt_of_lt_of_le HLT.out hk.size
  clear hk
  refine ⟨.bool true, rfl, ?_⟩
  try simp only [Act.put, sA, s0, s1]
  refine wp_takeW (.bool false) (by kernel_rfl) (by kernel_rfl) ?_
  try simp only [Act.put, sA, s0, s1]
  refine WL.nil ?_
  try simp only [Act.put, sA, s0, s1]
  go_upto_region 3 with fail
  refine wp_region_held_drew (S := fun w' => Box w' (N) 29 (i.cells)) rfl HI.out (fun hH => ?_)
  have HI : Hid (Box wk1.drew (N) 29 (i.cells)) := HI.out
  have HK : Hid (Kept No w wk1.drew) := HK.out.drew
  have HLT : Hid (N < wk1.drew.heap.size) := HLT.out
  generalize wk1.drew = wk2 at HI HK HLT hH ⊢
  refine any_take (i := 0) (oi := { dst := some 15, op := Op.load 29 (Operand.tmp 2), type := 29, pos := "outright.go:17", after := #[], guard := none }) (v := .agg i.cells) rfl (by kernel_rfl) (by kernel_rfl) (by kernel_rfl) (fun _ _ _ h => h) (by kernel_rfl) (fun w' hw => exec_load 29 _ rfl ⟨N, 0, none⟩ (by kernel_rfl) (.agg i.cells) (load_I hw)) hH ?_
  try simp only [Act.put, sA, s0, s1]
  refine any_call (i := 1) (o := { dst := some 16, op := Op.call { callee := Callee.value (Operand.func 8), args := #[], argTypes := #[] }, type := 35, pos := "outright.go:17", after := #[], guard := none }) rfl (by kernel_rfl) (by kernel_rfl) 8 #[] (by kernel_rfl) _ (wide_any _) ?_
  rintro e wk4 ⟨wa3, rfl, hk⟩
  have HI : Hid (Box wk4 (N) 29 (i.cells)) := HI.out.kept hk (fun e => e)
  have HK : Hid (Kept No w wk4) := HK.out.then hk
  have HLT : Hid (N < wk4.heap.size) := Nat.lt_of_lt_of_le HLT.out hk.size
  clear hk
  refine ⟨.agg (wideC wa3), rfl, HI.out, fun hH => ?_⟩
  try simp only [Act.put, sA, s0, s1]
  cases q1 : (instB i)
  ·skip
   refine any_call (i := 2) (o := { dst := some 17, op := Op.call { callee := Callee.value (Operand.func 7), args := #[Operand.tmp 15, Operand.tmp 16], argTypes := #[29, 35] }, type := 4, pos := "outright.go:17", after := #[{ on := 0, ground := Ground.data }, { on := 1, ground := Ground.data }, { on := 1, ground := Ground.chain }], guard := none }) rfl (by kernel_rfl) (by kernel_rfl) 7 #[.agg i.cells, .agg (wideC wa3)] (by kernel_rfl) _ (inst_any i wa3 _) ?_
   rintro e wk5 ⟨rfl, hk⟩
   have HI : Hid (Box wk5 (N) 29 (i.cells)) := HI.out.kept hk (fun e => e)
   have HK : Hid (Kept No w wk5) := HK.out.then hk
   have HLT : Hid (N < wk5.heap.size) := Nat.lt_of_lt_of_le HLT.out hk.size
   clear hk
   refine ⟨.bool false, by rw [q1], HI.out, fun hH => ?_⟩
   try simp only [Act.put, sA, s0, s1]
   refine any_take (i := 3) (oi := { dst := some 18, op := Op.unOp UnOp.not 4 (Operand.tmp 17), type := 4, pos := "outright.go:17", after := #[{ on := 2, ground := Ground.data }], guard := none }) (v := .bool true) rfl (by kernel_rfl) (by kernel_rfl) (by kernel_rfl) (fun _ _ _ h => h) (by kernel_rfl) (fun _ _ => by kernel_rfl) hH ?_
   try simp only [Act.put, sA, s0, s1]
   refine wpAnyH_done (by kernel_rfl) ?_ _
   try simp only [Act.put, sA, s0, s1]
   go_wp2
   go_ret
   exact ⟨rfl, HK.out⟩
  ·skip
   refine any_call (i := 2) (o := { dst := some 17, op := Op.call { callee := Callee.value (Operand.func 7), args := #[Operand.tmp 15, Operand.tmp 16], argTypes := #[29, 35] }, type := 4, pos := "outright.go:17", after := #[{ on := 0, ground := Ground.data }, { on := 1, ground := Ground.data }, { on := 1, ground := Ground.chain }], guard := none }) rfl (by kernel_rfl) (by kernel_rfl) 7 #[.agg i.cells, .agg (wideC wa3)] (by kernel_rfl) _ (inst_any i wa3 _) ?_
   rintro e wk6 ⟨rfl, hk⟩
   have HI : Hid (Box wk6 (N) 29 (i.cells)) := HI.out.kept hk (fun e => e)
   have HK : Hid (Kept No w wk6) := HK.out.then hk
   have HLT : Hid (N < wk6.heap.size) := Nat.lt_of_lt_of_le HLT.out hk.size
   clear hk
   refine ⟨.bool true, by rw [q1], HI.out, fun hH => ?_⟩
   try simp only [Act.put, sA, s0, s1]
   refine any_take (i := 3) (oi := { dst := some 18, op := Op.unOp UnOp.not 4 (Operand.tmp 17), type := 4, pos := "outright.go:17", after := #[{ on := 2, ground := Ground.data }], guard := none }) (v := .bool false) rfl (by kernel_rfl) (by kernel_rfl) (by kernel_rfl) (fun _ _ _ h => h) (by kernel_rfl) (fun _ _ => by kernel_rfl) hH ?_
   try simp only [Act.put, sA, s0, s1]
   refine wpAnyH_done (by kernel_rfl) ?_ _
   try simp only [Act.put, sA, s0, s1]
   have H0 : Hid (AtI w N wk6 (fun i => instB i = true)) := ⟨_, HI.out, HK.out, HLT.out, q1⟩
   have HOA : Hid (w.heap.size ≤ N) := HO.out
   clear HI HK HLT HO hH
   go_wp2
   go_loopw [5] (fun vi wr => ∃ (k : Nat), vi = .int .i64 k ∧ k ≤ sn ∧ Hid (AtI w N wr (fun i => instB i = true))) (fun k _ => sn - (intOf k).toNat)
   case atStart => exact ⟨0, by go_num, by omega, H0⟩
   case round =>
     obtain ⟨k, rfl, hk, HAt⟩ := hrel
     clear H0
     by_cases hlt : k < sn
     · have hlt' : (k : Int) < (sn : Int) := by omega
       have hkx : k < xs.length := by rw [HL.out]; exact hlt
       have hit : (xs.map Sx.cs)[k]? = some (xs[k].cs) := by simp [hkx]
       obtain ⟨sb, soff, rfl, -⟩ := HR.out k _ hit
       have HXC : Hid (∀ W, Kept No w W → ∀ (j : Nat) v, xs[k].cs[j]? = some v → W.cell? ⟨sb, soff + k * 12 + j, none⟩ = some v) := fun W hW => by
         obtain ⟨b, off, e, c⟩ := (HR.out.no hW) k _ hit
         cases e
         exact c
       generalize xs[k] = x at HXC
       clear hit hkx
       obtain ⟨at0, hA, hK, hLT, hin⟩ := HAt.out
       have HIN : Hid (instB at0 = true) := hin
       have HA : Hid (Box wr N 29 (at0.cells)) := hA
       have HK : Hid (Kept No w wr) := hK
       have HLT : Hid (N < wr.heap.size) := hLT
       have HO : Hid (w.heap.size ≤ N) := HOA.out
       clear hA hK hLT HAt hin
       go_upto_region 8 with fail
       refine WL.start ?_
       refine wp_takeW (.slice (some ⟨sb, soff, none⟩) sn sc) (by kernel_rfl) (by kernel_rfl) ?_
       try simp only [Act.put, sA, s0, s1]
       refine wp_takeW (.int .i64 k) (by kernel_rfl) (by kernel_rfl) ?_
       try simp only [Act.put, sA, s0, s1]
       refine wp_takeW (.pointer (some ⟨sb, soff + k * 12, none⟩)) (exec_ixA 30 12 Try.und30e Try.size30e _ _ rfl sb soff sn sc k (by kernel_rfl) (by kernel_rfl) hlt) (by kernel_rfl) ?_
       try simp only [Act.put, sA, s0, s1]
       refine wp_takeW (.agg x.cells) (exec_load 38 _ rfl ⟨sb, soff + k * 12, none⟩ (by kernel_rfl) (.agg x.cells) (load_X (HXC.out _ HK.out))) (by kernel_rfl) ?_
       try simp only [Act.put, sA, s0, s1]
       refine wp_allocW 38 rfl (sxZ.cells) zero38 wr.heap.size rfl (by kernel_rfl) ?_
       try simp only [Act.put, sA, s0, s1]
       have HS : Hid (Box (wr.alloc (.cells (sxZ.cells) 38)) wr.heap.size 38 (sxZ.cells)) := Box.new _ _ _
       have HA : Hid (Box (wr.alloc (.cells (sxZ.cells) 38)) (N) 29 (at0.cells)) := HA.out.alloc _
       have HK : Hid (Kept No w (wr.alloc (.cells (sxZ.cells) 38))) := HK.out.alloc _
       have HO : Hid (w.heap.size ≤ N ∧ N < wr.heap.size) := by
         have h := HO.out
         have l := HLT.out
         show _ ∧ _
         omega
       have HLT : Hid (wr.heap.size < (wr.alloc (.cells (sxZ.cells) 38)).heap.size) := by show _ < _; simp
       generalize wr.alloc (.cells (sxZ.cells) 38) = wk7 at HA HS HK HLT ⊢
       generalize wr.heap.size = S7 at HS HO HLT ⊢
       refine wp_storeW 38 _ _ rfl ⟨S7, 0, none⟩ (.agg x.cells) (by kernel_rfl) (by kernel_rfl) _ (store_X HS.out rfl) (by kernel_rfl) ?_
       try simp only [Act.put, sA, s0, s1]
       have HLT : Hid (S7 < (wk7.setRow S7 (x.cells)).heap.size) := by show _ < _; rw [setRow_size]; exact HLT.out
       have HA : Hid (Box (wk7.setRow S7 (x.cells)) (N) 29 (at0.cells)) := HA.out.rowNe (by have := HO.out; omega) _
       have HS : Hid (Box (wk7.setRow S7 (x.cells)) (S7) 38 (x.cells)) := HS.out.setRow _
       have HK : Hid (Kept No w (wk7.setRow S7 (x.cells))) := HK.out.newRow (by have := HO.out; omega) _
       generalize wk7.setRow S7 (x.cells) = wk8 at HA HS HK HLT ⊢
       refine WL.nil ?_
       try simp only [Act.put, sA, s0, s1]
       go_upto_region 9 with fail
       refine wp_region_held_drew (S := fun w' => Box w' (S7) 38 (x.cells)) rfl HS.out (fun hH => ?_)
       have HA : Hid (Box wk8.drew (N) 29 (at0.cells)) := HA.out
       have HS : Hid (Box wk8.drew (S7) 38 (x.cells)) := HS.out
       have HK : Hid (Kept No w wk8.drew) := HK.out.drew
       have HLT : Hid (S7 < wk8.drew.heap.size) := HLT.out
       generalize wk8.drew = wk9 at HA HS HK HLT hH ⊢
       refine any_take (i := 0) (oi := { dst := some 29, op := Op.fieldAddr 38 (Operand.tmp 6) 0, type := 0, pos := "outright.go:22", after := #[], guard := none }) (v := .pointer (some ⟨S7, 0, none⟩)) rfl (by kernel_rfl) (by kernel_rfl) (by kernel_rfl) (fun _ _ _ h => h) (by kernel_rfl) (fun _ _ => by kernel_rfl) hH ?_
       try simp only [Act.put, sA, s0, s1]
       refine any_take (i := 1) (oi := { dst := some 30, op := Op.load 3 (Operand.tmp 29), type := 3, pos := "outright.go:22", after := #[{ on := 0, ground := Ground.data }], guard := none }) (v := .int .i64 x.k) rfl (by kernel_rfl) (by kernel_rfl) (by kernel_rfl) (fun _ _ _ h => h) (by kernel_rfl) (fun w' hw => exec_load 3 _ rfl ⟨S7, 0, none⟩ (by kernel_rfl) (.int .i64 x.k) (load_N (hw.cell 0))) hH ?_
       try simp only [Act.put, sA, s0, s1]
       cases q2 : (x.k == 3)
       ·skip
        refine any_take (i := 2) (oi := { dst := some 31, op := Op.binOp BinOp.neq 3 (Operand.tmp 30) (Operand.const (Value.int IntKind.i64 3)) 3, type := 4, pos := "outright.go:22", after := #[{ on := 1, ground := Ground.data }], guard := none }) (v := .bool true) rfl (by kernel_rfl) (by kernel_rfl) (by kernel_rfl) (fun _ _ _ h => h) (by kernel_rfl) (fun w' hw => exec_bin .neq 3 _ _ _ rfl (.int .i64 x.k) (.int .i64 3) (.bool true) (by kernel_rfl) (by kernel_rfl) (by kernel_rfl) (by rw [neqN, q2]; try rfl)) hH ?_
        try simp only [Act.put, sA, s0, s1]
        refine any_take (i := 3) (oi := { dst := some 32, op := Op.move (Operand.tmp 31), type := 4, pos := "outright.go:22", after := #[{ on := 2, ground := Ground.data }], guard := none }) (v := .bool true) rfl (by kernel_rfl) (by kernel_rfl) (by kernel_rfl) (fun _ _ _ h => h) (by kernel_rfl) (fun _ _ => by kernel_rfl) hH ?_
        try simp only [Act.put, sA, s0, s1]
        refine any_take (i := 4) (oi := { dst := some 33, op := Op.fieldAddr 38 (Operand.tmp 6) 1, type := 0, pos := "outright.go:22", after := #[{ on := 3, ground := Ground.guard }], guard := some (3, true) }) (v := .pointer (some ⟨S7, 1, none⟩)) rfl (by kernel_rfl) (by kernel_rfl) (by kernel_rfl) (fun _ _ _ h => h) (by kernel_rfl) (fun _ _ => by kernel_rfl) hH ?_
        try simp only [Act.put, sA, s0, s1]
        refine any_take (i := 5) (oi := { dst := some 34, op := Op.load 23 (Operand.tmp 33), type := 23, pos := "outright.go:22", after := #[{ on := 4, ground := Ground.data }, { on := 3, ground := Ground.guard }], guard := some (3, true) }) (v := .agg #[.int .i64 x.b.n, .int .i64 x.b.c]) rfl (by kernel_rfl) (by kernel_rfl) (by kernel_rfl) (fun _ _ _ h => h) (by kernel_rfl) (fun w' hw => exec_load 23 _ rfl ⟨S7, 1, none⟩ (by kernel_rfl) (.agg #[.int .i64 x.b.n, .int .i64 x.b.c]) (load_S hw x.partB)) hH ?_
        try simp only [Act.put, sA, s0, s1]
        cases q3 : (oneB x.b)
        ·skip
         refine any_call (i := 6) (o := { dst := some 35, op := Op.call { callee := Callee.value (Operand.func 9), args := #[Operand.tmp 34], argTypes := #[23] }, type := 4, pos := "outright.go:22", after := #[{ on := 5, ground := Ground.data }, { on := 3, ground := Ground.chain }, { on := 3, ground := Ground.guard }], guard := some (3, true) }) rfl (by kernel_rfl) (by kernel_rfl) 9 #[.agg #[.int .i64 x.b.n, .int .i64 x.b.c]] (by kernel_rfl) _ (one_any x.b.n x.b.c _) ?_
         rintro e wk10 ⟨rfl, hk⟩
         have HA : Hid (Box wk10 (N) 29 (at0.cells)) := HA.out.kept hk (fun e => e)
         have HS : Hid (Box wk10 (S7) 38 (x.cells)) := HS.out.kept hk (fun e => e)
         have HK : Hid (Kept No w wk10) := HK.out.then hk
         have HLT : Hid (S7 < wk10.heap.size) := Nat.lt_of_lt_of_le HLT.out hk.size
         clear hk
         refine ⟨.bool false, by rw [q3], HS.out, fun hH => ?_⟩
         try simp only [Act.put, sA, s0, s1]
         refine any_take (i := 7) (oi := { dst := some 36, op := Op.unOp UnOp.not 4 (Operand.tmp 35), type := 4, pos := "outright.go:22", after := #[{ on := 6, ground := Ground.data }, { on := 3, ground := Ground.guard }], guard := some (3, true) }) (v := .bool true) rfl (by kernel_rfl) (by kernel_rfl) (by kernel_rfl) (fun _ _ _ h => h) (by kernel_rfl) (fun _ _ => by kernel_rfl) hH ?_
         try simp only [Act.put, sA, s0, s1]
         refine any_take (i := 8) (oi := { dst := some 37, op := Op.pick (Operand.tmp 32) (Operand.tmp 36) (Operand.const (Value.bool false)), type := 4, pos := "outright.go:22", after := #[{ on := 3, ground := Ground.data }, { on := 7, ground := Ground.data }], guard := none }) (v := .bool true) rfl (by kernel_rfl) (by kernel_rfl) (by kernel_rfl) (fun _ _ _ h => h) (by kernel_rfl) (fun _ _ => by kernel_rfl) hH ?_
         try simp only [Act.put, sA, s0, s1]
         refine any_take (i := 9) (oi := { dst := some 38, op := Op.move (Operand.tmp 37), type := 4, pos := "outright.go:22", after := #[{ on := 8, ground := Ground.data }, { on := 6, ground := Ground.chain }], guard := none }) (v := .bool true) rfl (by kernel_rfl) (by kernel_rfl) (by kernel_rfl) (fun _ _ _ h => h) (by kernel_rfl) (fun _ _ => by kernel_rfl) hH ?_
         try simp only [Act.put, sA, s0, s1]
         refine any_skip (i := 10) (oi := { dst := some 39, op := Op.fieldAddr 38 (Operand.tmp 6) 0, type := 0, pos := "outright.go:22", after := #[{ on := 9, ground := Ground.guard }], guard := some (9, false) }) rfl (by kernel_rfl) (by kernel_rfl) (by kernel_rfl) (fun _ _ _ h => h) (by kernel_rfl) hH ?_
         try simp only [Act.put, sA, s0, s1]
         refine any_skip (i := 11) (oi := { dst := some 40, op := Op.load 3 (Operand.tmp 39), type := 3, pos := "outright.go:22", after := #[{ on := 10, ground := Ground.data }, { on := 9, ground := Ground.guard }], guard := some (9, false) }) rfl (by kernel_rfl) (by kernel_rfl) (by kernel_rfl) (fun _ _ _ h => h) (by kernel_rfl) hH ?_
         try simp only [Act.put, sA, s0, s1]
         refine any_skip (i := 12) (oi := { dst := some 41, op := Op.binOp BinOp.neq 3 (Operand.tmp 40) (Operand.const (Value.int IntKind.i64 1)) 3, type := 4, pos := "outright.go:22", after := #[{ on := 11, ground := Ground.data }, { on := 9, ground := Ground.guard }], guard := some (9, false) }) rfl (by kernel_rfl) (by kernel_rfl) (by kernel_rfl) (fun _ _ _ h => h) (by kernel_rfl) hH ?_
         try simp only [Act.put, sA, s0, s1]
         refine any_skip (i := 13) (oi := { dst := some 42, op := Op.move (Operand.tmp 41), type := 4, pos := "outright.go:22", after := #[{ on := 12, ground := Ground.data }, { on := 9, ground := Ground.chain }, { on := 9, ground := Ground.guard }], guard := some (9, false) }) rfl (by kernel_rfl) (by kernel_rfl) (by kernel_rfl) (fun _ _ _ h => h) (by kernel_rfl) hH ?_
         try simp only [Act.put, sA, s0, s1]
         refine any_skip (i := 14) (oi := { dst := some 43, op := Op.fieldAddr 38 (Operand.tmp 6) 2, type := 0, pos := "outright.go:22", after := #[{ on := 13, ground := Ground.guard }], guard := some (13, true) }) rfl (by kernel_rfl) (by kernel_rfl) (by kernel_rfl) (fun _ _ _ h => h) (by kernel_rfl) hH ?_
         try simp only [Act.put, sA, s0, s1]
         refine any_skip (i := 15) (oi := { dst := some 44, op := Op.load 27 (Operand.tmp 43), type := 27, pos := "outright.go:22", after := #[{ on := 14, ground := Ground.data }, { on := 13, ground := Ground.guard }], guard := some (13, true) }) rfl (by kernel_rfl) (by kernel_rfl) (by kernel_rfl) (fun _ _ _ h => h) (by kernel_rfl) hH ?_
         try simp only [Act.put, sA, s0, s1]
         refine any_skip (i := 16) (oi := { dst := some 45, op := Op.call { callee := Callee.value (Operand.func 8), args := #[], argTypes := #[] }, type := 35, pos := "outright.go:22", after := #[{ on := 13, ground := Ground.chain }, { on := 13, ground := Ground.guard }], guard := some (13, true) }) rfl (by kernel_rfl) (by kernel_rfl) (by kernel_rfl) (fun _ _ _ h => h) (by kernel_rfl) hH ?_
         try simp only [Act.put, sA, s0, s1]
         refine any_skip (i := 17) (oi := { dst := some 46, op := Op.call { callee := Callee.value (Operand.func 10), args := #[Operand.tmp 44, Operand.tmp 45], argTypes := #[27, 35] }, type := 4, pos := "outright.go:22", after := #[{ on := 15, ground := Ground.data }, { on := 16, ground := Ground.data }, { on := 16, ground := Ground.chain }, { on := 13, ground := Ground.guard }], guard := some (13, true) }) rfl (by kernel_rfl) (by kernel_rfl) (by kernel_rfl) (fun _ _ _ h => h) (by kernel_rfl) hH ?_
         try simp only [Act.put, sA, s0, s1]
         refine any_skip (i := 18) (oi := { dst := some 47, op := Op.unOp UnOp.not 4 (Operand.tmp 46), type := 4, pos := "outright.go:22", after := #[{ on := 17, ground := Ground.data }, { on := 13, ground := Ground.guard }], guard := some (13, true) }) rfl (by kernel_rfl) (by kernel_rfl) (by kernel_rfl) (fun _ _ _ h => h) (by kernel_rfl) hH ?_
         try simp only [Act.put, sA, s0, s1]
         refine any_skip (i := 19) (oi := { dst := some 48, op := Op.pick (Operand.tmp 42) (Operand.tmp 47) (Operand.const (Value.bool false)), type := 4, pos := "outright.go:22", after := #[{ on := 13, ground := Ground.data }, { on := 18, ground := Ground.data }, { on := 9, ground := Ground.guard }], guard := some (9, false) }) rfl (by kernel_rfl) (by kernel_rfl) (by kernel_rfl) (fun _ _ _ h => h) (by kernel_rfl) hH ?_
         try simp only [Act.put, sA, s0, s1]
         refine any_take (i := 20) (oi := { dst := some 49, op := Op.pick (Operand.tmp 38) (Operand.const (Value.bool true)) (Operand.tmp 48), type := 4, pos := "outright.go:22", after := #[{ on := 9, ground := Ground.data }, { on := 19, ground := Ground.data }], guard := none }) (v := .bool true) rfl (by kernel_rfl) (by kernel_rfl) (by kernel_rfl) (fun _ _ _ h => h) (by kernel_rfl) (fun _ _ => by kernel_rfl) hH ?_
         try simp only [Act.put, sA, s0, s1]
         refine wpAnyH_done (by kernel_rfl) ?_ _
         try simp only [Act.put, sA, s0, s1]
         have HF : Hid (AtI w N wk10 (fun i => instB i = true)) := ⟨_, HA.out, HK.out, Nat.lt_of_le_of_lt (by have := HO.out; omega) HLT.out, HIN.out⟩
         go_wp2
         go_roundw
         case measure => simp [intOf]; omega
         case rel => exact ⟨k + 1, by go_num, by omega, HF⟩
        ·skip
         refine any_call (i := 6) (o := { dst := some 35, op := Op.call { callee := Callee.value (Operand.func 9), args := #[Operand.tmp 34], argTypes := #[23] }, type := 4, pos := "outright.go:22", after := #[{ on := 5, ground := Ground.data }, { on := 3, ground := Ground.chain }, { on := 3, ground := Ground.guard }], guard := some (3, true) }) rfl (by kernel_rfl) (by kernel_rfl) 9 #[.agg #[.int .i64 x.b.n, .int .i64 x.b.c]] (by kernel_rfl) _ (one_any x.b.n x.b.c _) ?_
         rintro e wk11 ⟨rfl, hk⟩
         have HA : Hid (Box wk11 (N) 29 (at0.cells)) := HA.out.kept hk (fun e => e)
         have HS : Hid (Box wk11 (S7) 38 (x.cells)) := HS.out.kept hk (fun e => e)
         have HK : Hid (Kept No w wk11) := HK.out.then hk
         have HLT : Hid (S7 < wk11.heap.size) := Nat.lt_of_lt_of_le HLT.out hk.size
         clear hk
         refine ⟨.bool true, by rw [q3], HS.out, fun hH => ?_⟩
         try simp only [Act.put, sA, s0, s1]
         refine any_take (i := 7) (oi := { dst := some 36, op := Op.unOp UnOp.not 4 (Operand.tmp 35), type := 4, pos := "outright.go:22", after := #[{ on := 6, ground := Ground.data }, { on := 3, ground := Ground.guard }], guard := some (3, true) }) (v := .bool false) rfl (by kernel_rfl) (by kernel_rfl) (by kernel_rfl) (fun _ _ _ h => h) (by kernel_rfl) (fun _ _ => by kernel_rfl) hH ?_
         try simp only [Act.put, sA, s0, s1]
         refine any_take (i := 8) (oi := { dst := some 37, op := Op.pick (Operand.tmp 32) (Operand.tmp 36) (Operand.const (Value.bool false)), type := 4, pos := "outright.go:22", after := #[{ on := 3, ground := Ground.data }, { on := 7, ground := Ground.data }], guard := none }) (v := .bool false) rfl (by kernel_rfl) (by kernel_rfl) (by kernel_rfl) (fun _ _ _ h => h) (by kernel_rfl) (fun _ _ => by kernel_rfl) hH ?_
         try simp only [Act.put, sA, s0, s1]
         refine any_take (i := 9) (oi := { dst := some 38, op := Op.move (Operand.tmp 37), type := 4, pos := "outright.go:22", after := #[{ on := 8, ground := Ground.data }, { on := 6, ground := Ground.chain }], guard := none }) (v := .bool false) rfl (by kernel_rfl) (by kernel_rfl) (by kernel_rfl) (fun _ _ _ h => h) (by kernel_rfl) (fun _ _ => by kernel_rfl) hH ?_
         try simp only [Act.put, sA, s0, s1]
         refine any_take (i := 10) (oi := { dst := some 39, op := Op.fieldAddr 38 (Operand.tmp 6) 0, type := 0, pos := "outright.go:22", after := #[{ on := 9, ground := Ground.guard }], guard := some (9, false) }) (v := .pointer (some ⟨S7, 0, none⟩)) rfl (by kernel_rfl) (by kernel_rfl) (by kernel_rfl) (fun _ _ _ h => h) (by kernel_rfl) (fun _ _ => by kernel_rfl) hH ?_
         try simp only [Act.put, sA, s0, s1]
         refine any_take (i := 11) (oi := { dst := some 40, op := Op.load 3 (Operand.tmp 39), type := 3, pos := "outright.go:22", after := #[{ on := 10, ground := Ground.data }, { on := 9, ground := Ground.guard }], guard := some (9, false) }) (v := .int .i64 x.k) rfl (by kernel_rfl) (by kernel_rfl) (by kernel_rfl) (fun _ _ _ h => h) (by kernel_rfl) (fun w' hw => exec_load 3 _ rfl ⟨S7, 0, none⟩ (by kernel_rfl) (.int .i64 x.k) (load_N (hw.cell 0))) hH ?_
         try simp only [Act.put, sA, s0, s1]
         cases q4 : (x.k == 1)
         ·skip
          refine any_take (i := 12) (oi := { dst := some 41, op := Op.binOp BinOp.neq 3 (Operand.tmp 40) (Operand.const (Value.int IntKind.i64 1)) 3, type := 4, pos := "outright.go:22", after := #[{ on := 11, ground := Ground.data }, { on := 9, ground := Ground.guard }], guard := some (9, false) }) (v := .bool true) rfl (by kernel_rfl) (by kernel_rfl) (by kernel_rfl) (fun _ _ _ h => h) (by kernel_rfl) (fun w' hw => exec_bin .neq 3 _ _ _ rfl (.int .i64 x.k) (.int .i64 1) (.bool true) (by kernel_rfl) (by kernel_rfl) (by kernel_rfl) (by rw [neqN, q4]; try rfl)) hH ?_
          try simp only [Act.put, sA, s0, s1]
          refine any_take (i := 13) (oi := { dst := some 42, op := Op.move (Operand.tmp 41), type := 4, pos := "outright.go:22", after := #[{ on := 12, ground := Ground.data }, { on := 9, ground := Ground.chain }, { on := 9, ground := Ground.guard }], guard := some (9, false) }) (v := .bool true) rfl (by kernel_rfl) (by kernel_rfl) (by kernel_rfl) (fun _ _ _ h => h) (by kernel_rfl) (fun _ _ => by kernel_rfl) hH ?_
          try simp only [Act.put, sA, s0, s1]
          refine any_take (i := 14) (oi := { dst := some 43, op := Op.fieldAddr 38 (Operand.tmp 6) 2, type := 0, pos := "outright.go:22", after := #[{ on := 13, ground := Ground.guard }], guard := some (13, true) }) (v := .pointer (some ⟨S7, 3, none⟩)) rfl (by kernel_rfl) (by kernel_rfl) (by kernel_rfl) (fun _ _ _ h => h) (by kernel_rfl) (fun _ _ => by kernel_rfl) hH ?_
          try simp only [Act.put, sA, s0, s1]
          refine any_take (i := 15) (oi := { dst := some 44, op := Op.load 27 (Operand.tmp 43), type := 27, pos := "outright.go:22", after := #[{ on := 14, ground := Ground.data }, { on := 13, ground := Ground.guard }], guard := some (13, true) }) (v := .agg x.c.cells) rfl (by kernel_rfl) (by kernel_rfl) (by kernel_rfl) (fun _ _ _ h => h) (by kernel_rfl) (fun w' hw => exec_load 27 _ rfl ⟨S7, 3, none⟩ (by kernel_rfl) (.agg x.c.cells) (load_XC hw)) hH ?_
          try simp only [Act.put, sA, s0, s1]
          refine any_call (i := 16) (o := { dst := some 45, op := Op.call { callee := Callee.value (Operand.func 8), args := #[], argTypes := #[] }, type := 35, pos := "outright.go:22", after := #[{ on := 13, ground := Ground.chain }, { on := 13, ground := Ground.guard }], guard := some (13, true) }) rfl (by kernel_rfl) (by kernel_rfl) 8 #[] (by kernel_rfl) _ (wide_any _) ?_
          rintro e wk13 ⟨wa12, rfl, hk⟩
          have HA : Hid (Box wk13 (N) 29 (at0.cells)) := HA.out.kept hk (fun e => e)
          have HS : Hid (Box wk13 (S7) 38 (x.cells)) := HS.out.kept hk (fun e => e)
          have HK : Hid (Kept No w wk13) := HK.out.then hk
          have HLT : Hid (S7 < wk13.heap.size) := Nat.lt_of_lt_of_le HLT.out hk.size
          clear hk
          refine ⟨.agg (wideC wa12), rfl, HS.out, fun hH => ?_⟩
          try simp only [Act.put, sA, s0, s1]
          cases q5 : (cmdB x.c)
          ·skip
           refine any_call (i := 17) (o := { dst := some 46, op := Op.call { callee := Callee.value (Operand.func 10), args := #[Operand.tmp 44, Operand.tmp 45], argTypes := #[27, 35] }, type := 4, pos := "outright.go:22", after := #[{ on := 15, ground := Ground.data }, { on := 16, ground := Ground.data }, { on := 16, ground := Ground.chain }, { on := 13, ground := Ground.guard }], guard := some (13, true) }) rfl (by kernel_rfl) (by kernel_rfl) 10 #[.agg x.c.cells, .agg (wideC wa12)] (by kernel_rfl) _ (cmd_any x.c wa12 _) ?_
           rintro e wk14 ⟨rfl, hk⟩
           have HA : Hid (Box wk14 (N) 29 (at0.cells)) := HA.out.kept hk (fun e => e)
           have HS : Hid (Box wk14 (S7) 38 (x.cells)) := HS.out.kept hk (fun e => e)
           have HK : Hid (Kept No w wk14) := HK.out.then hk
           have HLT : Hid (S7 < wk14.heap.size) := Nat.lt_of_lt_of_le HLT.out hk.size
           clear hk
           refine ⟨.bool false, by rw [q5], HS.out, fun hH => ?_⟩
           try simp only [Act.put, sA, s0, s1]
           refine any_take (i := 18) (oi := { dst := some 47, op := Op.unOp UnOp.not 4 (Operand.tmp 46), type := 4, pos := "outright.go:22", after := #[{ on := 17, ground := Ground.data }, { on := 13, ground := Ground.guard }], guard := some (13, true) }) (v := .bool true) rfl (by kernel_rfl) (by kernel_rfl) (by kernel_rfl) (fun _ _ _ h => h) (by kernel_rfl) (fun _ _ => by kernel_rfl) hH ?_
           try simp only [Act.put, sA, s0, s1]
           refine any_take (i := 19) (oi := { dst := some 48, op := Op.pick (Operand.tmp 42) (Operand.tmp 47) (Operand.const (Value.bool false)), type := 4, pos := "outright.go:22", after := #[{ on := 13, ground := Ground.data }, { on := 18, ground := Ground.data }, { on := 9, ground := Ground.guard }], guard := some (9, false) }) (v := .bool true) rfl (by kernel_rfl) (by kernel_rfl) (by kernel_rfl) (fun _ _ _ h => h) (by kernel_rfl) (fun _ _ => by kernel_rfl) hH ?_
           try simp only [Act.put, sA, s0, s1]
           refine any_take (i := 20) (oi := { dst := some 49, op := Op.pick (Operand.tmp 38) (Operand.const (Value.bool true)) (Operand.tmp 48), type := 4, pos := "outright.go:22", after := #[{ on := 9, ground := Ground.data }, { on := 19, ground := Ground.data }], guard := none }) (v := .bool true) rfl (by kernel_rfl) (by kernel_rfl) (by kernel_rfl) (fun _ _ _ h => h) (by kernel_rfl) (fun _ _ => by kernel_rfl) hH ?_
           try simp only [Act.put, sA, s0, s1]
           refine wpAnyH_done (by kernel_rfl) ?_ _
           try simp only [Act.put, sA, s0, s1]
           have HF : Hid (AtI w N wk14 (fun i => instB i = true)) := ⟨_, HA.out, HK.out, Nat.lt_of_le_of_lt (by have := HO.out; omega) HLT.out, HIN.out⟩
           go_wp2
           go_roundw
           case measure => simp [intOf]; omega
           case rel => exact ⟨k + 1, by go_num, by omega, HF⟩
          ·skip
           refine any_call (i := 17) (o := { dst := some 46, op := Op.call { callee := Callee.value (Operand.func 10), args := #[Operand.tmp 44, Operand.tmp 45], argTypes := #[27, 35] }, type := 4, pos := "outright.go:22", after := #[{ on := 15, ground := Ground.data }, { on := 16, ground := Ground.data }, { on := 16, ground := Ground.chain }, { on := 13, ground := Ground.guard }], guard := some (13, true) }) rfl (by kernel_rfl) (by kernel_rfl) 10 #[.agg x.c.cells, .agg (wideC wa12)] (by kernel_rfl) _ (cmd_any x.c wa12 _) ?_
           rintro e wk15 ⟨rfl, hk⟩
           have HA : Hid (Box wk15 (N) 29 (at0.cells)) := HA.out.kept hk (fun e => e)
           have HS : Hid (Box wk15 (S7) 38 (x.cells)) := HS.out.kept hk (fun e => e)
           have HK : Hid (Kept No w wk15) := HK.out.then hk
           have HLT : Hid (S7 < wk15.heap.size) := Nat.lt_of_lt_of_le HLT.out hk.size
           clear hk
           refine ⟨.bool true, by rw [q5], HS.out, fun hH => ?_⟩
           try simp only [Act.put, sA, s0, s1]
           refine any_take (i := 18) (oi := { dst := some 47, op := Op.unOp UnOp.not 4 (Operand.tmp 46), type := 4, pos := "outright.go:22", after := #[{ on := 17, ground := Ground.data }, { on := 13, ground := Ground.guard }], guard := some (13, true) }) (v := .bool false) rfl (by kernel_rfl) (by kernel_rfl) (by kernel_rfl) (fun _ _ _ h => h) (by kernel_rfl) (fun _ _ => by kernel_rfl) hH ?_
           try simp only [Act.put, sA, s0, s1]
           refine any_take (i := 19) (oi := { dst := some 48, op := Op.pick (Operand.tmp 42) (Operand.tmp 47) (Operand.const (Value.bool false)), type := 4, pos := "outright.go:22", after := #[{ on := 13, ground := Ground.data }, { on := 18, ground := Ground.data }, { on := 9, ground := Ground.guard }], guard := some (9, false) }) (v := .bool false) rfl (by kernel_rfl) (by kernel_rfl) (by kernel_rfl) (fun _ _ _ h => h) (by kernel_rfl) (fun _ _ => by kernel_rfl) hH ?_
           try simp only [Act.put, sA, s0, s1]
           refine any_take (i := 20) (oi := { dst := some 49, op := Op.pick (Operand.tmp 38) (Operand.const (Value.bool true)) (Operand.tmp 48), type := 4, pos := "outright.go:22", after := #[{ on := 9, ground := Ground.data }, { on := 19, ground := Ground.data }], guard := none }) (v := .bool false) rfl (by kernel_rfl) (by kernel_rfl) (by kernel_rfl) (fun _ _ _ h => h) (by kernel_rfl) (fun _ _ => by kernel_rfl) hH ?_
           try simp only [Act.put, sA, s0, s1]
           refine wpAnyH_done (by kernel_rfl) ?_ _
           try simp only [Act.put, sA, s0, s1]
           have HIC : Hid (instB (callI at0 x) = true) := inst_call HIN.out (.inr q3) (.inr q5)
           go_upto_region 10 with fail
           refine WL.start ?_
           refine wp_takeW (.agg at0.cells) (exec_load 29 _ rfl ⟨N, 0, none⟩ (by kernel_rfl) (.agg at0.cells) (load_I HA.out)) (by kernel_rfl) ?_
           try simp only [Act.put, sA, s0, s1]
           refine wp_takeW (.agg x.cells) (exec_load 38 _ rfl ⟨S7, 0, none⟩ (by kernel_rfl) (.agg x.cells) (load_Xb HS.out)) (by kernel_rfl) ?_
           try simp only [Act.put, sA, s0, s1]
           refine wp_callW 18 #[.agg at0.cells, .agg x.cells] (by kernel_rfl) _ (call_any at0 x _) (by kernel_rfl) ?_
           rintro e wk16 ⟨rfl, hk⟩
           have HA : Hid (Box wk16 (N) 29 (at0.cells)) := HA.out.kept hk (fun e => e)
           have HS : Hid (Box wk16 (S7) 38 (x.cells)) := HS.out.kept hk (fun e => e)
           have HK : Hid (Kept No w wk16) := HK.out.then hk
           have HLT : Hid (S7 < wk16.heap.size) := Nat.lt_of_lt_of_le HLT.out hk.size
           clear hk
           refine ⟨.tuple #[.agg (callI at0 x).cells, .agg (callM at0 x).cells, .bool (callB at0 x)], rfl, ?_⟩
           try simp only [Act.put, sA, s0, s1]
           refine wp_takeW (.tuple #[.agg (callI at0 x).cells, .agg (callM at0 x).cells, .bool (callB at0 x)]) (by kernel_rfl) (by kernel_rfl) ?_
           try simp only [Act.put, sA, s0, s1]
           refine wp_takeW (.agg (callI at0 x).cells) (by kernel_rfl) (by kernel_rfl) ?_
           try simp only [Act.put, sA, s0, s1]
           refine wp_takeW (.agg (callM at0 x).cells) (by kernel_rfl) (by kernel_rfl) ?_
           try simp only [Act.put, sA, s0, s1]
           refine wp_takeW (.bool (callB at0 x)) (by kernel_rfl) (by kernel_rfl) ?_
           try simp only [Act.put, sA, s0, s1]
           refine wp_allocW 29 rfl (iZ.cells) zero29 wk16.heap.size rfl (by kernel_rfl) ?_
           try simp only [Act.put, sA, s0, s1]
           have HN : Hid (Box (wk16.alloc (.cells (iZ.cells) 29)) wk16.heap.size 29 (iZ.cells)) := Box.new _ _ _
           have HA : Hid (Box (wk16.alloc (.cells (iZ.cells) 29)) (N) 29 (at0.cells)) := HA.out.alloc _
           have HS : Hid (Box (wk16.alloc (.cells (iZ.cells) 29)) (S7) 38 (x.cells)) := HS.out.alloc _
           have HK : Hid (Kept No w (wk16.alloc (.cells (iZ.cells) 29))) := HK.out.alloc _
           have HO : Hid (w.heap.size ≤ N ∧ N < S7 ∧ S7 < wk16.heap.size) := by
             have h := HO.out
             have l := HLT.out
             show _ ∧ _
             omega
           have HLT : Hid (wk16.heap.size < (wk16.alloc (.cells (iZ.cells) 29)).heap.size) := by show _ < _; simp
           generalize wk16.alloc (.cells (iZ.cells) 29) = wk17 at HA HS HN HK HLT ⊢
           generalize wk16.heap.size = P7 at HN HO HLT ⊢
           refine wp_allocW 52 rfl (mZ.cells) zero52 wk17.heap.size rfl (by kernel_rfl) ?_
           try simp only [Act.put, sA, s0, s1]
           have HM8 : Hid (Box (wk17.alloc (.cells (mZ.cells) 52)) wk17.heap.size 52 (mZ.cells)) := Box.new _ _ _
           have HA : Hid (Box (wk17.alloc (.cells (mZ.cells) 52)) (N) 29 (at0.cells)) := HA.out.alloc _
           have HS : Hid (Box (wk17.alloc (.cells (mZ.cells) 52)) (S7) 38 (x.cells)) := HS.out.alloc _
           have HN : Hid (Box (wk17.alloc (.cells (mZ.cells) 52)) (P7) 29 (iZ.cells)) := HN.out.alloc _
           have HK : Hid (Kept No w (wk17.alloc (.cells (mZ.cells) 52))) := HK.out.alloc _
           have HO : Hid (w.heap.size ≤ N ∧ N < S7 ∧ S7 < P7 ∧ P7 < wk17.heap.size) := by
             have h := HO.out
             have l := HLT.out
             show _ ∧ _
             omega
           have HLT : Hid (wk17.heap.size < (wk17.alloc (.cells (mZ.cells) 52)).heap.size) := by show _ < _; simp
           generalize wk17.alloc (.cells (mZ.cells) 52) = wk18 at HA HS HN HM8 HK HLT ⊢
           generalize wk17.heap.size = P8 at HM8 HO HLT ⊢
           refine wp_storeW 29 _ _ rfl ⟨P7, 0, none⟩ (.agg (callI at0 x).cells) (by kernel_rfl) (by kernel_rfl) _ (store_I HN.out rfl) (by kernel_rfl) ?_
           try simp only [Act.put, sA, s0, s1]
           have HLT : Hid (P8 < (wk18.setRow P7 ((callI at0 x).cells)).heap.size) := by show _ < _; rw [setRow_size]; exact HLT.out
           have HA : Hid (Box (wk18.setRow P7 ((callI at0 x).cells)) (N) 29 (at0.cells)) := HA.out.rowNe (by have := HO.out; omega) _
           have HS : Hid (Box (wk18.setRow P7 ((callI at0 x).cells)) (S7) 38 (x.cells)) := HS.out.rowNe (by have := HO.out; omega) _
           have HN : Hid (Box (wk18.setRow P7 ((callI at0 x).cells)) (P7) 29 ((callI at0 x).cells)) := HN.out.setRow _
           have HM8 : Hid (Box (wk18.setRow P7 ((callI at0 x).cells)) (P8) 52 (mZ.cells)) := HM8.out.rowNe (by have := HO.out; omega) _
           have HK : Hid (Kept No w (wk18.setRow P7 ((callI at0 x).cells))) := HK.out.newRow (by have := HO.out; omega) _
           generalize wk18.setRow P7 ((callI at0 x).cells) = wk19 at HA HS HN HM8 HK HLT ⊢
           refine wp_storeW 52 _ _ rfl ⟨P8, 0, none⟩ (.agg (callM at0 x).cells) (by kernel_rfl) (by kernel_rfl) _ (store_M HM8.out rfl) (by kernel_rfl) ?_
           try simp only [Act.put, sA, s0, s1]
           have HLT : Hid (P8 < (wk19.setRow P8 ((callM at0 x).cells)).heap.size) := by show _ < _; rw [setRow_size]; exact HLT.out
           have HA : Hid (Box (wk19.setRow P8 ((callM at0 x).cells)) (N) 29 (at0.cells)) := HA.out.rowNe (by have := HO.out; omega) _
           have HS : Hid (Box (wk19.setRow P8 ((callM at0 x).cells)) (S7) 38 (x.cells)) := HS.out.rowNe (by have := HO.out; omega) _
           have HN : Hid (Box (wk19.setRow P8 ((callM at0 x).cells)) (P7) 29 ((callI at0 x).cells)) := HN.out.rowNe (by have := HO.out; omega) _
           have HM8 : Hid (Box (wk19.setRow P8 ((callM at0 x).cells)) (P8) 52 ((callM at0 x).cells)) := HM8.out.setRow _
           have HK : Hid (Kept No w (wk19.setRow P8 ((callM at0 x).cells))) := HK.out.newRow (by have := HO.out; omega) _
           generalize wk19.setRow P8 ((callM at0 x).cells) = wk20 at HA HS HN HM8 HK HLT ⊢
           refine wp_takeW (.bool (callB at0 x)) (by kernel_rfl) (by kernel_rfl) ?_
           try simp only [Act.put, sA, s0, s1]
           refine WL.nil ?_
           try simp only [Act.put, sA, s0, s1]
           go_upto_region 11 with fail
           refine WL.start ?_
           refine wp_takeW (.agg at0.cells) (exec_load 29 _ rfl ⟨N, 0, none⟩ (by kernel_rfl) (.agg at0.cells) (load_I HA.out)) (by kernel_rfl) ?_
           try simp only [Act.put, sA, s0, s1]
           refine wp_takeW (.agg x.cells) (exec_load 38 _ rfl ⟨S7, 0, none⟩ (by kernel_rfl) (.agg x.cells) (load_Xb HS.out)) (by kernel_rfl) ?_
           try simp only [Act.put, sA, s0, s1]
           refine wp_callW 18 #[.agg at0.cells, .agg x.cells] (by kernel_rfl) _ (call_any at0 x _) (by kernel_rfl) ?_
           rintro e wk21 ⟨rfl, hk⟩
           have HA : Hid (Box wk21 (N) 29 (at0.cells)) := HA.out.kept hk (fun e => e)
           have HS : Hid (Box wk21 (S7) 38 (x.cells)) := HS.out.kept hk (fun e => e)
           have HN : Hid (Box wk21 (P7) 29 ((callI at0 x).cells)) := HN.out.kept hk (fun e => e)
           have HM8 : Hid (Box wk21 (P8) 52 ((callM at0 x).cells)) := HM8.out.kept hk (fun e => e)
           have HK : Hid (Kept No w wk21) := HK.out.then hk
           have HLT : Hid (P8 < wk21.heap.size) := Nat.lt_of_lt_of_le HLT.out hk.size
           clear hk
           refine ⟨.tuple #[.agg (callI at0 x).cells, .agg (callM at0 x).cells, .bool (callB at0 x)], rfl, ?_⟩
           try simp only [Act.put, sA, s0, s1]
           refine wp_takeW (.tuple #[.agg (callI at0 x).cells, .agg (callM at0 x).cells, .bool (callB at0 x)]) (by kernel_rfl) (by kernel_rfl) ?_
           try simp only [Act.put, sA, s0, s1]
           refine wp_takeW (.agg (callI at0 x).cells) (by kernel_rfl) (by kernel_rfl) ?_
           try simp only [Act.put, sA, s0, s1]
           refine wp_takeW (.agg (callM at0 x).cells) (by kernel_rfl) (by kernel_rfl) ?_
           try simp only [Act.put, sA, s0, s1]
           refine wp_takeW (.bool (callB at0 x)) (by kernel_rfl) (by kernel_rfl) ?_
           try simp only [Act.put, sA, s0, s1]
           refine wp_allocW 29 rfl (iZ.cells) zero29 wk21.heap.size rfl (by kernel_rfl) ?_
           try simp only [Act.put, sA, s0, s1]
           have HN10 : Hid (Box (wk21.alloc (.cells (iZ.cells) 29)) wk21.heap.size 29 (iZ.cells)) := Box.new _ _ _
           have HA : Hid (Box (wk21.alloc (.cells (iZ.cells) 29)) (N) 29 (at0.cells)) := HA.out.alloc _
           have HS : Hid (Box (wk21.alloc (.cells (iZ.cells) 29)) (S7) 38 (x.cells)) := HS.out.alloc _
           have HN : Hid (Box (wk21.alloc (.cells (iZ.cells) 29)) (P7) 29 ((callI at0 x).cells)) := HN.out.alloc _
           have HM8 : Hid (Box (wk21.alloc (.cells (iZ.cells) 29)) (P8) 52 ((callM at0 x).cells)) := HM8.out.alloc _
           have HK : Hid (Kept No w (wk21.alloc (.cells (iZ.cells) 29))) := HK.out.alloc _
           have HO : Hid (w.heap.size ≤ N ∧ N < S7 ∧ S7 < P7 ∧ P7 < P8 ∧ P8 < wk21.heap.size) := by
             have h := HO.out
             have l := HLT.out
             show _ ∧ _
             omega
           have HLT : Hid (wk21.heap.size < (wk21.alloc (.cells (iZ.cells) 29)).heap.size) := by show _ < _; simp
           generalize wk21.alloc (.cells (iZ.cells) 29) = wk22 at HA HS HN HM8 HN10 HK HLT ⊢
           generalize wk21.heap.size = P10 at HN10 HO HLT ⊢
           refine wp_allocW 52 rfl (mZ.cells) zero52 wk22.heap.size rfl (by kernel_rfl) ?_
           try simp only [Act.put, sA, s0, s1]
           have HM11 : Hid (Box (wk22.alloc (.cells (mZ.cells) 52)) wk22.heap.size 52 (mZ.cells)) := Box.new _ _ _
           have HA : Hid (Box (wk22.alloc (.cells (mZ.cells) 52)) (N) 29 (at0.cells)) := HA.out.alloc _
           have HS : Hid (Box (wk22.alloc (.cells (mZ.cells) 52)) (S7) 38 (x.cells)) := HS.out.alloc _
           have HN : Hid (Box (wk22.alloc (.cells (mZ.cells) 52)) (P7) 29 ((callI at0 x).cells)) := HN.out.alloc _
           have HM8 : Hid (Box (wk22.alloc (.cells (mZ.cells) 52)) (P8) 52 ((callM at0 x).cells)) := HM8.out.alloc _
           have HN10 : Hid (Box (wk22.alloc (.cells (mZ.cells) 52)) (P10) 29 (iZ.cells)) := HN10.out.alloc _
           have HK : Hid (Kept No w (wk22.alloc (.cells (mZ.cells) 52))) := HK.out.alloc _
           have HO : Hid (w.heap.size ≤ N ∧ N < S7 ∧ S7 < P7 ∧ P7 < P8 ∧ P8 < P10 ∧ P10 < wk22.heap.size) := by
             have h := HO.out
             have l := HLT.out
             show _ ∧ _
             omega
           have HLT : Hid (wk22.heap.size < (wk22.alloc (.cells (mZ.cells) 52)).heap.size) := by show _ < _; simp
           generalize wk22.alloc (.cells (mZ.cells) 52) = wk23 at HA HS HN HM8 HN10 HM11 HK HLT ⊢
           generalize wk22.heap.size = P11 at HM11 HO HLT ⊢
           refine wp_storeW 29 _ _ rfl ⟨P10, 0, none⟩ (.agg (callI at0 x).cells) (by kernel_rfl) (by kernel_rfl) _ (store_I HN10.out rfl) (by kernel_rfl) ?_
           try simp only [Act.put, sA, s0, s1]
           have HLT : Hid (P11 < (wk23.setRow P10 ((callI at0 x).cells)).heap.size) := by show _ < _; rw [setRow_size]; exact HLT.out
           have HA : Hid (Box (wk23.setRow P10 ((callI at0 x).cells)) (N) 29 (at0.cells)) := HA.out.rowNe (by have := HO.out; omega) _
           have HS : Hid (Box (wk23.setRow P10 ((callI at0 x).cells)) (S7) 38 (x.cells)) := HS.out.rowNe (by have := HO.out; omega) _
           have HN : Hid (Box (wk23.setRow P10 ((callI at0 x).cells)) (P7) 29 ((callI at0 x).cells)) := HN.out.rowNe (by have := HO.out; omega) _
           have HM8 : Hid (Box (wk23.setRow P10 ((callI at0 x).cells)) (P8) 52 ((callM at0 x).cells)) := HM8.out.rowNe (by have := HO.out; omega) _
           have HN10 : Hid (Box (wk23.setRow P10 ((callI at0 x).cells)) (P10) 29 ((callI at0 x).cells)) := HN10.out.setRow _
           have HM11 : Hid (Box (wk23.setRow P10 ((callI at0 x).cells)) (P11) 52 (mZ.cells)) := HM11.out.rowNe (by have := HO.out; omega) _
           have HK : Hid (Kept No w (wk23.setRow P10 ((callI at0 x).cells))) := HK.out.newRow (by have := HO.out; omega) _
           generalize wk23.setRow P10 ((callI at0 x).cells) = wk24 at HA HS HN HM8 HN10 HM11 HK HLT ⊢
           refine wp_storeW 52 _ _ rfl ⟨P11, 0, none⟩ (.agg (callM at0 x).cells) (by kernel_rfl) (by kernel_rfl) _ (store_M HM11.out rfl) (by kernel_rfl) ?_
           try simp only [Act.put, sA, s0, s1]
           have HLT : Hid (P11 < (wk24.setRow P11 ((callM at0 x).cells)).heap.size) := by show _ < _; rw [setRow_size]; exact HLT.out
           have HA : Hid (Box (wk24.setRow P11 ((callM at0 x).cells)) (N) 29 (at0.cells)) := HA.out.rowNe (by have := HO.out; omega) _
           have HS : Hid (Box (wk24.setRow P11 ((callM at0 x).cells)) (S7) 38 (x.cells)) := HS.out.rowNe (by have := HO.out; omega) _
           have HN : Hid (Box (wk24.setRow P11 ((callM at0 x).cells)) (P7) 29 ((callI at0 x).cells)) := HN.out.rowNe (by have := HO.out; omega) _
           have HM8 : Hid (Box (wk24.setRow P11 ((callM at0 x).cells)) (P8) 52 ((callM at0 x).cells)) := HM8.out.rowNe (by have := HO.out; omega) _
           have HN10 : Hid (Box (wk24.setRow P11 ((callM at0 x).cells)) (P10) 29 ((callI at0 x).cells)) := HN10.out.rowNe (by have := HO.out; omega) _
           have HM11 : Hid (Box (wk24.setRow P11 ((callM at0 x).cells)) (P11) 52 ((callM at0 x).cells)) := HM11.out.setRow _
           have HK : Hid (Kept No w (wk24.setRow P11 ((callM at0 x).cells))) := HK.out.newRow (by have := HO.out; omega) _
           generalize wk24.setRow P11 ((callM at0 x).cells) = wk25 at HA HS HN HM8 HN10 HM11 HK HLT ⊢
           refine wp_takeW (.bool (callB at0 x)) (by kernel_rfl) (by kernel_rfl) ?_
           try simp only [Act.put, sA, s0, s1]
           refine WL.nil ?_
           try simp only [Act.put, sA, s0, s1]
           go_upto_region 12 with fail
           refine WL.start ?_
           refine wp_takeW (.agg ((callI at0 x).cells)) (exec_load 29 _ rfl ⟨P7, 0, none⟩ (by kernel_rfl) (.agg ((callI at0 x).cells)) (load_I HN.out)) (by kernel_rfl) ?_
           try simp only [Act.put, sA, s0, s1]
           refine wp_takeW (.agg ((callI at0 x).cells)) (exec_load 29 _ rfl ⟨P10, 0, none⟩ (by kernel_rfl) (.agg ((callI at0 x).cells)) (load_I HN10.out)) (by kernel_rfl) ?_
           try simp only [Act.put, sA, s0, s1]
           refine wp_takeW (.bool false) (exec_bin .neq 29 _ _ _ rfl (.agg ((callI at0 x).cells)) (.agg ((callI at0 x).cells)) (.bool false) (by kernel_rfl) (by kernel_rfl) (guard_I _ (.inr rfl) _ _ _ _ _) (by rw [neqI, eqI_refl]; rfl)) (by kernel_rfl) ?_
           try simp only [Act.put, sA, s0, s1]
           refine wp_takeW (.bool false) (by kernel_rfl) (by kernel_rfl) ?_
           try simp only [Act.put, sA, s0, s1]
           refine wp_takeW (.bool (callB at0 x)) (by kernel_rfl) (by kernel_rfl) ?_
           try simp only [Act.put, sA, s0, s1]
           refine wp_takeW (.bool (callB at0 x)) (by kernel_rfl) (by kernel_rfl) ?_
           try simp only [Act.put, sA, s0, s1]
           refine wp_takeW (.bool false) (exec_bin .neq 4 _ _ _ rfl (.bool (callB at0 x)) (.bool (callB at0 x)) (.bool false) (by kernel_rfl) (by kernel_rfl) (by kernel_rfl) (by rw [neqB, beq_self_eq_true]; rfl)) (by kernel_rfl) ?_
           try simp only [Act.put, sA, s0, s1]
           refine wp_takeW (.bool false) (by kernel_rfl) (by kernel_rfl) ?_
           try simp only [Act.put, sA, s0, s1]
           refine wp_takeW (.bool false) (by kernel_rfl) (by kernel_rfl) ?_
           try simp only [Act.put, sA, s0, s1]
           refine wp_takeW (.pointer (some ⟨P8, 0, none⟩)) (by kernel_rfl) (by kernel_rfl) ?_
           try simp only [Act.put, sA, s0, s1]
           refine wp_takeW (.int .i64 (callM at0 x).k) (exec_load 3 _ rfl ⟨P8, 0, none⟩ (by kernel_rfl) (.int .i64 (callM at0 x).k) (load_N (Mg.cel HM8.out).1)) (by kernel_rfl) ?_
           try simp only [Act.put, sA, s0, s1]
           refine wp_takeW (.pointer (some ⟨P11, 0, none⟩)) (by kernel_rfl) (by kernel_rfl) ?_
           try simp only [Act.put, sA, s0, s1]
           refine wp_takeW (.int .i64 (callM at0 x).k) (exec_load 3 _ rfl ⟨P11, 0, none⟩ (by kernel_rfl) (.int .i64 (callM at0 x).k) (load_N (Mg.cel HM11.out).1)) (by kernel_rfl) ?_
           try simp only [Act.put, sA, s0, s1]
           refine wp_takeW (.bool false) (exec_bin .neq 3 _ _ _ rfl (.int .i64 (callM at0 x).k) (.int .i64 (callM at0 x).k) (.bool false) (by kernel_rfl) (by kernel_rfl) (by kernel_rfl) (by rw [neqN, beq_self_eq_true]; rfl)) (by kernel_rfl) ?_
           try simp only [Act.put, sA, s0, s1]
           refine wp_takeW (.bool false) (by kernel_rfl) (by kernel_rfl) ?_
           try simp only [Act.put, sA, s0, s1]
           refine wp_takeW (.bool false) (by kernel_rfl) (by kernel_rfl) ?_
           try simp only [Act.put, sA, s0, s1]
           refine wp_takeW (.pointer (some ⟨P8, 11, none⟩)) (by kernel_rfl) (by kernel_rfl) ?_
           try simp only [Act.put, sA, s0, s1]
           refine wp_takeW (.agg #[.int .i64 (callM at0 x).s.n, .int .i64 (callM at0 x).s.c]) (exec_load 23 _ rfl ⟨P8, 11, none⟩ (by kernel_rfl) (.agg #[.int .i64 (callM at0 x).s.n, .int .i64 (callM at0 x).s.c]) (load_S HM8.out (Mg.partS _))) (by kernel_rfl) ?_
           try simp only [Act.put, sA, s0, s1]
           refine wp_takeW (.pointer (some ⟨P11, 11, none⟩)) (by kernel_rfl) (by kernel_rfl) ?_
           try simp only [Act.put, sA, s0, s1]
           refine wp_takeW (.agg #[.int .i64 (callM at0 x).s.n, .int .i64 (callM at0 x).s.c]) (exec_load 23 _ rfl ⟨P11, 11, none⟩ (by kernel_rfl) (.agg #[.int .i64 (callM at0 x).s.n, .int .i64 (callM at0 x).s.c]) (load_S HM11.out (Mg.partS _))) (by kernel_rfl) ?_
           try simp only [Act.put, sA, s0, s1]
           refine wp_takeW (.bool false) (exec_bin .neq 23 _ _ _ rfl (.agg #[.int .i64 (callM at0 x).s.n, .int .i64 (callM at0 x).s.c]) (.agg #[.int .i64 (callM at0 x).s.n, .int .i64 (callM at0 x).s.c]) (.bool false) (by kernel_rfl) (by kernel_rfl) (guard_S _ (.inr rfl) _ _ _ _ _) (by rw [neqS (callM at0 x).s (callM at0 x).s, eqS_refl]; rfl)) (by kernel_rfl) ?_
           try simp only [Act.put, sA, s0, s1]
           refine wp_takeW (.bool false) (by kernel_rfl) (by kernel_rfl) ?_
           try simp only [Act.put, sA, s0, s1]
           refine wp_takeW (.bool false) (by kernel_rfl) (by kernel_rfl) ?_
           try simp only [Act.put, sA, s0, s1]
           refine wp_takeW (.pointer (some ⟨P8, 13, none⟩)) (by kernel_rfl) (by kernel_rfl) ?_
           try simp only [Act.put, sA, s0, s1]
           refine wp_takeW (.agg #[.int .i64 (callM at0 x).h.n, .int .i64 (callM at0 x).h.c]) (exec_load 23 _ rfl ⟨P8, 13, none⟩ (by kernel_rfl) (.agg #[.int .i64 (callM at0 x).h.n, .int .i64 (callM at0 x).h.c]) (load_S HM8.out (Mg.partH _))) (by kernel_rfl) ?_
           try simp only [Act.put, sA, s0, s1]
           refine wp_takeW (.pointer (some ⟨P11, 13, none⟩)) (by kernel_rfl) (by kernel_rfl) ?_
           try simp only [Act.put, sA, s0, s1]
           refine wp_takeW (.agg #[.int .i64 (callM at0 x).h.n, .int .i64 (callM at0 x).h.c]) (exec_load 23 _ rfl ⟨P11, 13, none⟩ (by kernel_rfl) (.agg #[.int .i64 (callM at0 x).h.n, .int .i64 (callM at0 x).h.c]) (load_S HM11.out (Mg.partH _))) (by kernel_rfl) ?_
           try simp only [Act.put, sA, s0, s1]
           refine wp_takeW (.bool false) (exec_bin .neq 23 _ _ _ rfl (.agg #[.int .i64 (callM at0 x).h.n, .int .i64 (callM at0 x).h.c]) (.agg #[.int .i64 (callM at0 x).h.n, .int .i64 (callM at0 x).h.c]) (.bool false) (by kernel_rfl) (by kernel_rfl) (guard_S _ (.inr rfl) _ _ _ _ _) (by rw [neqS (callM at0 x).h (callM at0 x).h, eqS_refl]; rfl)) (by kernel_rfl) ?_
           try simp only [Act.put, sA, s0, s1]
           refine wp_takeW (.bool false) (by kernel_rfl) (by kernel_rfl) ?_
           try simp only [Act.put, sA, s0, s1]
           refine wp_takeW (.bool false) (by kernel_rfl) (by kernel_rfl) ?_
           try simp only [Act.put, sA, s0, s1]
           refine wp_takeW (.pointer (some ⟨P8, 16, none⟩)) (by kernel_rfl) (by kernel_rfl) ?_
           try simp only [Act.put, sA, s0, s1]
           refine wp_takeW (.agg (callM at0 x).c.cells) (exec_load 27 _ rfl ⟨P8, 16, none⟩ (by kernel_rfl) (.agg (callM at0 x).c.cells) (load_MC HM8.out)) (by kernel_rfl) ?_
           try simp only [Act.put, sA, s0, s1]
           refine wp_takeW (.pointer (some ⟨P11, 16, none⟩)) (by kernel_rfl) (by kernel_rfl) ?_
           try simp only [Act.put, sA, s0, s1]
           refine wp_takeW (.agg (callM at0 x).c.cells) (exec_load 27 _ rfl ⟨P11, 16, none⟩ (by kernel_rfl) (.agg (callM at0 x).c.cells) (load_MC HM11.out)) (by kernel_rfl) ?_
           try simp only [Act.put, sA, s0, s1]
           refine wp_takeW (.bool false) (exec_bin .neq 27 _ _ _ rfl (.agg (callM at0 x).c.cells) (.agg (callM at0 x).c.cells) (.bool false) (by kernel_rfl) (by kernel_rfl) (guard_C _ (.inr rfl) _ _ _ _ _) (by rw [neqC, eqC_refl]; rfl)) (by kernel_rfl) ?_
           try simp only [Act.put, sA, s0, s1]
           refine wp_takeW (.bool false) (by kernel_rfl) (by kernel_rfl) ?_
           try simp only [Act.put, sA, s0, s1]
           refine WL.nil ?_
           try simp only [Act.put, sA, s0, s1]
           go_upto_region 14 with fail
           refine wp_region_held_drew (S := fun w' => Box w' (N) 29 (at0.cells) ∧ Box w' (P7) 29 ((callI at0 x).cells)) rfl ⟨HA.out, HN.out⟩ (fun hH => ?_)
           have HA : Hid (Box wk25.drew (N) 29 (at0.cells)) := HA.out
           have HS : Hid (Box wk25.drew (S7) 38 (x.cells)) := HS.out
           have HN : Hid (Box wk25.drew (P7) 29 ((callI at0 x).cells)) := HN.out
           have HM8 : Hid (Box wk25.drew (P8) 52 ((callM at0 x).cells)) := HM8.out
           have HN10 : Hid (Box wk25.drew (P10) 29 ((callI at0 x).cells)) := HN10.out
           have HM11 : Hid (Box wk25.drew (P11) 52 ((callM at0 x).cells)) := HM11.out
           have HK : Hid (Kept No w wk25.drew) := HK.out.drew
           have HLT : Hid (P11 < wk25.drew.heap.size) := HLT.out
           generalize wk25.drew = wk26 at HA HS HN HM8 HN10 HM11 HK HLT hH ⊢
           refine any_take (i := 0) (oi := { dst := some 100, op := Op.load 29 (Operand.tmp 7), type := 29, pos := "outright.go:30", after := #[], guard := none }) (v := .agg ((callI at0 x).cells)) rfl (by kernel_rfl) (by kernel_rfl) (by kernel_rfl) (fun _ _ _ h => h) (by kernel_rfl) (fun w' hw => exec_load 29 _ rfl ⟨P7, 0, none⟩ (by kernel_rfl) (.agg ((callI at0 x).cells)) (load_I hw.2)) hH ?_
           try simp only [Act.put, sA, s0, s1]
           refine any_call (i := 1) (o := { dst := some 101, op := Op.call { callee := Callee.value (Operand.func 8), args := #[], argTypes := #[] }, type := 35, pos := "outright.go:30", after := #[], guard := none }) rfl (by kernel_rfl) (by kernel_rfl) 8 #[] (by kernel_rfl) _ (wide_any _) ?_
           rintro e wk28 ⟨wa27, rfl, hk⟩
           have HA : Hid (Box wk28 (N) 29 (at0.cells)) := HA.out.kept hk (fun e => e)
           have HS : Hid (Box wk28 (S7) 38 (x.cells)) := HS.out.kept hk (fun e => e)
           have HN : Hid (Box wk28 (P7) 29 ((callI at0 x).cells)) := HN.out.kept hk (fun e => e)
           have HM8 : Hid (Box wk28 (P8) 52 ((callM at0 x).cells)) := HM8.out.kept hk (fun e => e)
           have HN10 : Hid (Box wk28 (P10) 29 ((callI at0 x).cells)) := HN10.out.kept hk (fun e => e)
           have HM11 : Hid (Box wk28 (P11) 52 ((callM at0 x).cells)) := HM11.out.kept hk (fun e => e)
           have HK : Hid (Kept No w wk28) := HK.out.then hk
           have HLT : Hid (P11 < wk28.heap.size) := Nat.lt_of_lt_of_le HLT.out hk.size
           clear hk
           refine ⟨.agg (wideC wa27), rfl, ⟨HA.out, HN.out⟩, fun hH => ?_⟩
           try simp only [Act.put, sA, s0, s1]
           refine any_call (i := 2) (o := { dst := some 102, op := Op.call { callee := Callee.value (Operand.func 7), args := #[Operand.tmp 100, Operand.tmp 101], argTypes := #[29, 35] }, type := 4, pos := "outright.go:30", after := #[{ on := 0, ground := Ground.data }, { on := 1, ground := Ground.data }, { on := 1, ground := Ground.chain }], guard := none }) rfl (by kernel_rfl) (by kernel_rfl) 7 #[.agg ((callI at0 x).cells), .agg (wideC wa27)] (by kernel_rfl) _ (inst_any (callI at0 x) wa27 _) ?_
           rintro e wk29 ⟨rfl, hk⟩
           have HA : Hid (Box wk29 (N) 29 (at0.cells)) := HA.out.kept hk (fun e => e)
           have HS : Hid (Box wk29 (S7) 38 (x.cells)) := HS.out.kept hk (fun e => e)
           have HN : Hid (Box wk29 (P7) 29 ((callI at0 x).cells)) := HN.out.kept hk (fun e => e)
           have HM8 : Hid (Box wk29 (P8) 52 ((callM at0 x).cells)) := HM8.out.kept hk (fun e => e)
           have HN10 : Hid (Box wk29 (P10) 29 ((callI at0 x).cells)) := HN10.out.kept hk (fun e => e)
           have HM11 : Hid (Box wk29 (P11) 52 ((callM at0 x).cells)) := HM11.out.kept hk (fun e => e)
           have HK : Hid (Kept No w wk29) := HK.out.then hk
           have HLT : Hid (P11 < wk29.heap.size) := Nat.lt_of_lt_of_le HLT.out hk.size
           clear hk
           refine ⟨.bool true, by rw [HIC.out], ⟨HA.out, HN.out⟩, fun hH => ?_⟩
           try simp only [Act.put, sA, s0, s1]
           refine any_take (i := 3) (oi := { dst := some 103, op := Op.unOp UnOp.not 4 (Operand.tmp 102), type := 4, pos := "outright.go:30", after := #[{ on := 2, ground := Ground.data }], guard := none }) (v := .bool false) rfl (by kernel_rfl) (by kernel_rfl) (by kernel_rfl) (fun _ _ _ h => h) (by kernel_rfl) (fun _ _ => by kernel_rfl) hH ?_
           try simp only [Act.put, sA, s0, s1]
           refine any_take (i := 4) (oi := { dst := some 104, op := Op.move (Operand.tmp 103), type := 4, pos := "outright.go:30", after := #[{ on := 3, ground := Ground.data }, { on := 2, ground := Ground.chain }], guard := none }) (v := .bool false) rfl (by kernel_rfl) (by kernel_rfl) (by kernel_rfl) (fun _ _ _ h => h) (by kernel_rfl) (fun _ _ => by kernel_rfl) hH ?_
           try simp only [Act.put, sA, s0, s1]
           refine any_take (i := 5) (oi := { dst := some 105, op := Op.move (Operand.tmp 9), type := 4, pos := "outright.go:30", after := #[{ on := 4, ground := Ground.guard }], guard := some (4, false) }) (v := .bool (callB at0 x)) rfl (by kernel_rfl) (by kernel_rfl) (by kernel_rfl) (fun _ _ _ h => h) (by kernel_rfl) (fun _ _ => by kernel_rfl) hH ?_
           try simp only [Act.put, sA, s0, s1]
           refine any_take (i := 6) (oi := { dst := some 106, op := Op.load 29 (Operand.tmp 7), type := 29, pos := "outright.go:30", after := #[{ on := 4, ground := Ground.guard }], guard := some (4, false) }) (v := .agg ((callI at0 x).cells)) rfl (by kernel_rfl) (by kernel_rfl) (by kernel_rfl) (fun _ _ _ h => h) (by kernel_rfl) (fun w' hw => exec_load 29 _ rfl ⟨P7, 0, none⟩ (by kernel_rfl) (.agg ((callI at0 x).cells)) (load_I hw.2)) hH ?_
           try simp only [Act.put, sA, s0, s1]
           refine any_take (i := 7) (oi := { dst := some 107, op := Op.load 29 (Operand.tmp 2), type := 29, pos := "outright.go:30", after := #[{ on := 4, ground := Ground.guard }], guard := some (4, false) }) (v := .agg at0.cells) rfl (by kernel_rfl) (by kernel_rfl) (by kernel_rfl) (fun _ _ _ h => h) (by kernel_rfl) (fun w' hw => exec_load 29 _ rfl ⟨N, 0, none⟩ (by kernel_rfl) (.agg at0.cells) (load_I hw.1)) hH ?_
           try simp only [Act.put, sA, s0, s1]
           refine any_take (i := 8) (oi := { dst := some 108, op := Op.binOp BinOp.neq 29 (Operand.tmp 106) (Operand.tmp 107) 29, type := 4, pos := "outright.go:30", after := #[{ on := 6, ground := Ground.data }, { on := 7, ground := Ground.data }, { on := 4, ground := Ground.guard }], guard := some (4, false) }) (v := .bool (!eqI (callI at0 x) at0)) rfl (by kernel_rfl) (by kernel_rfl) (by kernel_rfl) (fun _ _ _ h => h) (by kernel_rfl) (fun w' hw => exec_bin .neq 29 _ _ _ rfl (.agg ((callI at0 x).cells)) (.agg at0.cells) (.bool (!eqI (callI at0 x) at0)) (by kernel_rfl) (by kernel_rfl) (guard_I _ (.inr rfl) _ _ _ _ _) (neqI _ _ _)) hH ?_
           try simp only [Act.put, sA, s0, s1]
           refine any_take (i := 9) (oi := { dst := some 109, op := Op.binOp BinOp.neq 4 (Operand.tmp 105) (Operand.tmp 108) 4, type := 4, pos := "outright.go:30", after := #[{ on := 5, ground := Ground.data }, { on := 8, ground := Ground.data }, { on := 4, ground := Ground.guard }], guard := some (4, false) }) (v := .bool false) rfl (by kernel_rfl) (by kernel_rfl) (by kernel_rfl) (fun _ _ _ h => h) (by kernel_rfl) (fun w' hw => exec_bin .neq 4 _ _ _ rfl (.bool (callB at0 x)) (.bool (!eqI (callI at0 x) at0)) (.bool false) (by kernel_rfl) (by kernel_rfl) (by kernel_rfl) (by rw [neqB, callB_eq, beq_self_eq_true]; rfl)) hH ?_
           try simp only [Act.put, sA, s0, s1]
           refine any_take (i := 10) (oi := { dst := some 110, op := Op.pick (Operand.tmp 104) (Operand.const (Value.bool true)) (Operand.tmp 109), type := 4, pos := "outright.go:30", after := #[{ on := 4, ground := Ground.data }, { on := 9, ground := Ground.data }], guard := none }) (v := .bool false) rfl (by kernel_rfl) (by kernel_rfl) (by kernel_rfl) (fun _ _ _ h => h) (by kernel_rfl) (fun _ _ => by kernel_rfl) hH ?_
           try simp only [Act.put, sA, s0, s1]
           refine any_take (i := 11) (oi := { dst := some 111, op := Op.move (Operand.tmp 110), type := 4, pos := "outright.go:30", after := #[{ on := 10, ground := Ground.data }, { on := 4, ground := Ground.chain }], guard := none }) (v := .bool false) rfl (by kernel_rfl) (by kernel_rfl) (by kernel_rfl) (fun _ _ _ h => h) (by kernel_rfl) (fun _ _ => by kernel_rfl) hH ?_
           try simp only [Act.put, sA, s0, s1]
           refine any_take (i := 12) (oi := { dst := some 112, op := Op.fieldAddr 29 (Operand.tmp 2) 3, type := 0, pos := "outright.go:30", after := #[{ on := 11, ground := Ground.guard }], guard := some (11, false) }) (v := .pointer (some ⟨N, 13, none⟩)) rfl (by kernel_rfl) (by kernel_rfl) (by kernel_rfl) (fun _ _ _ h => h) (by kernel_rfl) (fun _ _ => by kernel_rfl) hH ?_
           try simp only [Act.put, sA, s0, s1]
           cases q6 : (at0.d)
           ·skip
            refine any_take (i := 13) (oi := { dst := some 113, op := Op.load 4 (Operand.tmp 112), type := 4, pos := "outright.go:30", after := #[{ on := 12, ground := Ground.data }, { on := 11, ground := Ground.guard }], guard := some (11, false) }) (v := .bool false) rfl (by kernel_rfl) (by kernel_rfl) (by kernel_rfl) (fun _ _ _ h => h) (by kernel_rfl) (fun w' hw => exec_load 4 _ rfl ⟨N, 13, none⟩ (by kernel_rfl) (.bool false) (by rw [← q6]; exact load_B (In.cel hw.1).2.2.2.2)) hH ?_
            try simp only [Act.put, sA, s0, s1]
            refine any_take (i := 14) (oi := { dst := some 114, op := Op.move (Operand.tmp 113), type := 4, pos := "outright.go:30", after := #[{ on := 13, ground := Ground.data }, { on := 11, ground := Ground.chain }, { on := 11, ground := Ground.guard }], guard := some (11, false) }) (v := .bool false) rfl (by kernel_rfl) (by kernel_rfl) (by kernel_rfl) (fun _ _ _ h => h) (by kernel_rfl) (fun _ _ => by kernel_rfl) hH ?_
            try simp only [Act.put, sA, s0, s1]
            refine any_skip (i := 15) (oi := { dst := some 115, op := Op.move (Operand.tmp 9), type := 4, pos := "outright.go:30", after := #[{ on := 14, ground := Ground.guard }], guard := some (14, true) }) rfl (by kernel_rfl) (by kernel_rfl) (by kernel_rfl) (fun _ _ _ h => h) (by kernel_rfl) hH ?_
            try simp only [Act.put, sA, s0, s1]
            refine any_take (i := 16) (oi := { dst := some 116, op := Op.pick (Operand.tmp 114) (Operand.tmp 115) (Operand.const (Value.bool false)), type := 4, pos := "outright.go:30", after := #[{ on := 14, ground := Ground.data }, { on := 15, ground := Ground.data }, { on := 11, ground := Ground.guard }], guard := some (11, false) }) (v := .bool false) rfl (by kernel_rfl) (by kernel_rfl) (by kernel_rfl) (fun _ _ _ h => h) (by kernel_rfl) (fun _ _ => by kernel_rfl) hH ?_
            try simp only [Act.put, sA, s0, s1]
            refine any_take (i := 17) (oi := { dst := some 117, op := Op.pick (Operand.tmp 111) (Operand.const (Value.bool true)) (Operand.tmp 116), type := 4, pos := "outright.go:30", after := #[{ on := 11, ground := Ground.data }, { on := 16, ground := Ground.data }], guard := none }) (v := .bool false) rfl (by kernel_rfl) (by kernel_rfl) (by kernel_rfl) (fun _ _ _ h => h) (by kernel_rfl) (fun _ _ => by kernel_rfl) hH ?_
            try simp only [Act.put, sA, s0, s1]
            refine wpAnyH_done (by kernel_rfl) ?_ _
            try simp only [Act.put, sA, s0, s1]
            go_upto_region 16 with fail
            refine WL.start ?_
            refine wp_takeW (.pointer (some ⟨P7, 13, none⟩)) (by kernel_rfl) (by kernel_rfl) ?_
            try simp only [Act.put, sA, s0, s1]
            cases q7 : ((callI at0 x).d)
            ·skip
             refine wp_takeW (.bool false) (exec_load 4 _ rfl ⟨P7, 13, none⟩ (by kernel_rfl) (.bool false) (by rw [← q7]; exact load_B (In.cel HN.out).2.2.2.2)) (by kernel_rfl) ?_
             try simp only [Act.put, sA, s0, s1]
             refine wp_takeW (.bool true) (by kernel_rfl) (by kernel_rfl) ?_
             try simp only [Act.put, sA, s0, s1]
             refine wp_takeW (.bool true) (by kernel_rfl) (by kernel_rfl) ?_
             try simp only [Act.put, sA, s0, s1]
             refine wp_takeW (.pointer (some ⟨N, 0, none⟩)) (by kernel_rfl) (by kernel_rfl) ?_
             try simp only [Act.put, sA, s0, s1]
             refine wp_takeW (.agg #[.int .i64 at0.p.n, .int .i64 at0.p.c]) (exec_load 23 _ rfl ⟨N, 0, none⟩ (by kernel_rfl) (.agg #[.int .i64 at0.p.n, .int .i64 at0.p.c]) (load_S HA.out (In.partP _))) (by kernel_rfl) ?_
             try simp only [Act.put, sA, s0, s1]
             refine wp_takeW (.pointer (some ⟨P7, 0, none⟩)) (by kernel_rfl) (by kernel_rfl) ?_
             try simp only [Act.put, sA, s0, s1]
             refine wp_takeW (.agg #[.int .i64 (callI at0 x).p.n, .int .i64 (callI at0 x).p.c]) (exec_load 23 _ rfl ⟨P7, 0, none⟩ (by kernel_rfl) (.agg #[.int .i64 (callI at0 x).p.n, .int .i64 (callI at0 x).p.c]) (load_S HN.out (In.partP _))) (by kernel_rfl) ?_
             try simp only [Act.put, sA, s0, s1]
             refine wp_callW 19 #[.agg #[.int .i64 at0.p.n, .int .i64 at0.p.c], .agg #[.int .i64 (callI at0 x).p.n, .int .i64 (callI at0 x).p.c]] (by kernel_rfl) _ (above_any at0.p.n at0.p.c (callI at0 x).p.n (callI at0 x).p.c _) (by kernel_rfl) ?_
             rintro e wk30 ⟨rfl, hk⟩
             have HA : Hid (Box wk30 (N) 29 (at0.cells)) := HA.out.kept hk (fun e => e)
             have HS : Hid (Box wk30 (S7) 38 (x.cells)) := HS.out.kept hk (fun e => e)
             have HN : Hid (Box wk30 (P7) 29 ((callI at0 x).cells)) := HN.out.kept hk (fun e => e)
             have HM8 : Hid (Box wk30 (P8) 52 ((callM at0 x).cells)) := HM8.out.kept hk (fun e => e)
             have HN10 : Hid (Box wk30 (P10) 29 ((callI at0 x).cells)) := HN10.out.kept hk (fun e => e)
             have HM11 : Hid (Box wk30 (P11) 52 ((callM at0 x).cells)) := HM11.out.kept hk (fun e => e)
             have HK : Hid (Kept No w wk30) := HK.out.then hk
             have HLT : Hid (P11 < wk30.heap.size) := Nat.lt_of_lt_of_le HLT.out hk.size
             clear hk
             refine ⟨.bool false, by rw [show lessB (callI at0 x).p.n (callI at0 x).p.c at0.p.n at0.p.c = false from (call_up HIN.out q7).1], ?_⟩
             try simp only [Act.put, sA, s0, s1]
             refine wp_takeW (.bool false) (by kernel_rfl) (by kernel_rfl) ?_
             try simp only [Act.put, sA, s0, s1]
             refine wp_takeW (.pointer (some ⟨N, 2, none⟩)) (by kernel_rfl) (by kernel_rfl) ?_
             try simp only [Act.put, sA, s0, s1]
             refine wp_takeW (.agg #[.int .i64 at0.a.n, .int .i64 at0.a.c]) (exec_load 23 _ rfl ⟨N, 2, none⟩ (by kernel_rfl) (.agg #[.int .i64 at0.a.n, .int .i64 at0.a.c]) (load_S HA.out (In.partA _))) (by kernel_rfl) ?_
             try simp only [Act.put, sA, s0, s1]
             refine wp_takeW (.pointer (some ⟨P7, 2, none⟩)) (by kernel_rfl) (by kernel_rfl) ?_
             try simp only [Act.put, sA, s0, s1]
             refine wp_takeW (.agg #[.int .i64 (callI at0 x).a.n, .int .i64 (callI at0 x).a.c]) (exec_load 23 _ rfl ⟨P7, 2, none⟩ (by kernel_rfl) (.agg #[.int .i64 (callI at0 x).a.n, .int .i64 (callI at0 x).a.c]) (load_S HN.out (In.partA _))) (by kernel_rfl) ?_
             try simp only [Act.put, sA, s0, s1]
             refine wp_callW 19 #[.agg #[.int .i64 at0.a.n, .int .i64 at0.a.c], .agg #[.int .i64 (callI at0 x).a.n, .int .i64 (callI at0 x).a.c]] (by kernel_rfl) _ (above_any at0.a.n at0.a.c (callI at0 x).a.n (callI at0 x).a.c _) (by kernel_rfl) ?_
             rintro e wk31 ⟨rfl, hk⟩
             have HA : Hid (Box wk31 (N) 29 (at0.cells)) := HA.out.kept hk (fun e => e)
             have HS : Hid (Box wk31 (S7) 38 (x.cells)) := HS.out.kept hk (fun e => e)
             have HN : Hid (Box wk31 (P7) 29 ((callI at0 x).cells)) := HN.out.kept hk (fun e => e)
             have HM8 : Hid (Box wk31 (P8) 52 ((callM at0 x).cells)) := HM8.out.kept hk (fun e => e)
             have HN10 : Hid (Box wk31 (P10) 29 ((callI at0 x).cells)) := HN10.out.kept hk (fun e => e)
             have HM11 : Hid (Box wk31 (P11) 52 ((callM at0 x).cells)) := HM11.out.kept hk (fun e => e)
             have HK : Hid (Kept No w wk31) := HK.out.then hk
             have HLT : Hid (P11 < wk31.heap.size) := Nat.lt_of_lt_of_le HLT.out hk.size
             clear hk
             refine ⟨.bool false, by rw [show lessB (callI at0 x).a.n (callI at0 x).a.c at0.a.n at0.a.c = false from (call_up HIN.out q7).2], ?_⟩
             try simp only [Act.put, sA, s0, s1]
             refine wp_takeW (.bool false) (by kernel_rfl) (by kernel_rfl) ?_
             try simp only [Act.put, sA, s0, s1]
             refine wp_takeW (.bool false) (by kernel_rfl) (by kernel_rfl) ?_
             try simp only [Act.put, sA, s0, s1]
             refine WL.nil ?_
             try simp only [Act.put, sA, s0, s1]
             go_upto_region 18 with fail
             refine WL.start ?_
             refine wp_takeW (.pointer (some ⟨S7, 0, none⟩)) (by kernel_rfl) (by kernel_rfl) ?_
             try simp only [Act.put, sA, s0, s1]
             refine wp_takeW (.int .i64 x.k) (exec_load 3 _ rfl ⟨S7, 0, none⟩ (by kernel_rfl) (.int .i64 x.k) (load_N (HS.out.cell 0))) (by kernel_rfl) ?_
             try simp only [Act.put, sA, s0, s1]
             refine wp_takeW (.bool false) (exec_bin .eql 3 _ _ _ rfl (.int .i64 x.k) (.int .i64 1) (.bool false) (by kernel_rfl) (by kernel_rfl) (by kernel_rfl) (by rw [eqlN, q4]; try rfl)) (by kernel_rfl) ?_
             try simp only [Act.put, sA, s0, s1]
             refine wp_takeW (.bool false) (by kernel_rfl) (by kernel_rfl) ?_
             try simp only [Act.put, sA, s0, s1]
             refine wp_takeW (.pointer (some ⟨S7, 0, none⟩)) (by kernel_rfl) (by kernel_rfl) ?_
             try simp only [Act.put, sA, s0, s1]
             refine wp_takeW (.int .i64 x.k) (exec_load 3 _ rfl ⟨S7, 0, none⟩ (by kernel_rfl) (.int .i64 x.k) (load_N (HS.out.cell 0))) (by kernel_rfl) ?_
             try simp only [Act.put, sA, s0, s1]
             cases q8 : (x.k == 2)
             ·skip
              refine wp_takeW (.bool false) (exec_bin .eql 3 _ _ _ rfl (.int .i64 x.k) (.int .i64 2) (.bool false) (by kernel_rfl) (by kernel_rfl) (by kernel_rfl) (by rw [eqlN, q8]; try rfl)) (by kernel_rfl) ?_
              try simp only [Act.put, sA, s0, s1]
              refine wp_takeW (.bool false) (by kernel_rfl) (by kernel_rfl) ?_
              try simp only [Act.put, sA, s0, s1]
              refine wp_takeW (.bool false) (by kernel_rfl) (by kernel_rfl) ?_
              try simp only [Act.put, sA, s0, s1]
              refine wp_skip (by kernel_rfl) ?_
              try simp only [Act.put, sA, s0, s1]
              refine wp_skip (by kernel_rfl) ?_
              try simp only [Act.put, sA, s0, s1]
              refine wp_skip (by kernel_rfl) ?_
              try simp only [Act.put, sA, s0, s1]
              refine wp_skip (by kernel_rfl) ?_
              try simp only [Act.put, sA, s0, s1]
              refine wp_skip (by kernel_rfl) ?_
              try simp only [Act.put, sA, s0, s1]
              refine wp_skip (by kernel_rfl) ?_
              try simp only [Act.put, sA, s0, s1]
              refine wp_takeW (.bool false) (by kernel_rfl) (by kernel_rfl) ?_
              try simp only [Act.put, sA, s0, s1]
              refine WL.nil ?_
              try simp only [Act.put, sA, s0, s1]
              go_upto_region 20 with fail
              refine WL.start ?_
              refine wp_takeW (.agg ((callI at0 x).cells)) (exec_load 29 _ rfl ⟨P7, 0, none⟩ (by kernel_rfl) (.agg ((callI at0 x).cells)) (load_I HN.out)) (by kernel_rfl) ?_
              try simp only [Act.put, sA, s0, s1]
              refine wp_storeW 29 _ _ rfl ⟨N, 0, none⟩ (.agg ((callI at0 x).cells)) (by kernel_rfl) (by kernel_rfl) _ (store_I HA.out rfl) (by kernel_rfl) ?_
              try simp only [Act.put, sA, s0, s1]
              have HLT : Hid (P11 < (wk31.setRow N ((callI at0 x).cells)).heap.size) := by show _ < _; rw [setRow_size]; exact HLT.out
              have HA : Hid (Box (wk31.setRow N ((callI at0 x).cells)) (N) 29 ((callI at0 x).cells)) := HA.out.setRow _
              have HS : Hid (Box (wk31.setRow N ((callI at0 x).cells)) (S7) 38 (x.cells)) := HS.out.rowNe (by have := HO.out; omega) _
              have HN : Hid (Box (wk31.setRow N ((callI at0 x).cells)) (P7) 29 ((callI at0 x).cells)) := HN.out.rowNe (by have := HO.out; omega) _
              have HM8 : Hid (Box (wk31.setRow N ((callI at0 x).cells)) (P8) 52 ((callM at0 x).cells)) := HM8.out.rowNe (by have := HO.out; omega) _
              have HN10 : Hid (Box (wk31.setRow N ((callI at0 x).cells)) (P10) 29 ((callI at0 x).cells)) := HN10.out.rowNe (by have := HO.out; omega) _
              have HM11 : Hid (Box (wk31.setRow N ((callI at0 x).cells)) (P11) 52 ((callM at0 x).cells)) := HM11.out.rowNe (by have := HO.out; omega) _
              have HK : Hid (Kept No w (wk31.setRow N ((callI at0 x).cells))) := HK.out.newRow (by have := HO.out; omega) _
              generalize wk31.setRow N ((callI at0 x).cells) = wk32 at HA HS HN HM8 HN10 HM11 HK HLT ⊢
              refine WL.nil ?_
              try simp only [Act.put, sA, s0, s1]
              have HF : Hid (AtI w N wk32 (fun i => instB i = true)) := ⟨_, HA.out, HK.out, Nat.lt_of_le_of_lt (by have := HO.out; omega) HLT.out, HIC.out⟩
              go_wp2
              go_roundw
              case measure => simp [intOf]; omega
              case rel => exact ⟨k + 1, by go_num, by omega, HF⟩
             ·skip
              refine wp_takeW (.bool true) (exec_bin .eql 3 _ _ _ rfl (.int .i64 x.k) (.int .i64 2) (.bool true) (by kernel_rfl) (by kernel_rfl) (by kernel_rfl) (by rw [eqlN, q8]; try rfl)) (by kernel_rfl) ?_
              try simp only [Act.put, sA, s0, s1]
              refine wp_takeW (.bool true) (by kernel_rfl) (by kernel_rfl) ?_
              try simp only [Act.put, sA, s0, s1]
              refine wp_takeW (.bool true) (by kernel_rfl) (by kernel_rfl) ?_
              try simp only [Act.put, sA, s0, s1]
              refine wp_takeW (.agg at0.cells) (exec_load 29 _ rfl ⟨N, 0, none⟩ (by kernel_rfl) (.agg at0.cells) (load_I HA.out)) (by kernel_rfl) ?_
              try simp only [Act.put, sA, s0, s1]
              refine wp_takeW (.agg ((callI at0 x).cells)) (exec_load 29 _ rfl ⟨P7, 0, none⟩ (by kernel_rfl) (.agg ((callI at0 x).cells)) (load_I HN.out)) (by kernel_rfl) ?_
              try simp only [Act.put, sA, s0, s1]
              refine wp_takeW (.agg ((callM at0 x).cells)) (exec_load 52 _ rfl ⟨P8, 0, none⟩ (by kernel_rfl) (.agg ((callM at0 x).cells)) (load_M HM8.out)) (by kernel_rfl) ?_
              try simp only [Act.put, sA, s0, s1]
              refine wp_takeW (.agg x.cells) (exec_load 38 _ rfl ⟨S7, 0, none⟩ (by kernel_rfl) (.agg x.cells) (load_Xb HS.out)) (by kernel_rfl) ?_
              try simp only [Act.put, sA, s0, s1]
              refine wp_callW 20 #[.agg at0.cells, .agg ((callI at0 x).cells), .agg ((callM at0 x).cells), .agg x.cells] (by kernel_rfl) _ (told_any at0 (callI at0 x) (callM at0 x) x _) (by kernel_rfl) ?_
              rintro e wk33 ⟨rfl, hk⟩
              have HA : Hid (Box wk33 (N) 29 (at0.cells)) := HA.out.kept hk (fun e => e)
              have HS : Hid (Box wk33 (S7) 38 (x.cells)) := HS.out.kept hk (fun e => e)
              have HN : Hid (Box wk33 (P7) 29 ((callI at0 x).cells)) := HN.out.kept hk (fun e => e)
              have HM8 : Hid (Box wk33 (P8) 52 ((callM at0 x).cells)) := HM8.out.kept hk (fun e => e)
              have HN10 : Hid (Box wk33 (P10) 29 ((callI at0 x).cells)) := HN10.out.kept hk (fun e => e)
              have HM11 : Hid (Box wk33 (P11) 52 ((callM at0 x).cells)) := HM11.out.kept hk (fun e => e)
              have HK : Hid (Kept No w wk33) := HK.out.then hk
              have HLT : Hid (P11 < wk33.heap.size) := Nat.lt_of_lt_of_le HLT.out hk.size
              clear hk
              refine ⟨.bool true, by rw [told_true at0 x (.inr q8)], ?_⟩
              try simp only [Act.put, sA, s0, s1]
              refine wp_takeW (.bool false) (by kernel_rfl) (by kernel_rfl) ?_
              try simp only [Act.put, sA, s0, s1]
              refine wp_takeW (.bool false) (by kernel_rfl) (by kernel_rfl) ?_
              try simp only [Act.put, sA, s0, s1]
              refine WL.nil ?_
              try simp only [Act.put, sA, s0, s1]
              go_upto_region 20 with fail
              refine WL.start ?_
              refine wp_takeW (.agg ((callI at0 x).cells)) (exec_load 29 _ rfl ⟨P7, 0, none⟩ (by kernel_rfl) (.agg ((callI at0 x).cells)) (load_I HN.out)) (by kernel_rfl) ?_
              try simp only [Act.put, sA, s0, s1]
              refine wp_storeW 29 _ _ rfl ⟨N, 0, none⟩ (.agg ((callI at0 x).cells)) (by kernel_rfl) (by kernel_rfl) _ (store_I HA.out rfl) (by kernel_rfl) ?_
              try simp only [Act.put, sA, s0, s1]
              have HLT : Hid (P11 < (wk33.setRow N ((callI at0 x).cells)).heap.size) := by show _ < _; rw [setRow_size]; exact HLT.out
              have HA : Hid (Box (wk33.setRow N ((callI at0 x).cells)) (N) 29 ((callI at0 x).cells)) := HA.out.setRow _
              have HS : Hid (Box (wk33.setRow N ((callI at0 x).cells)) (S7) 38 (x.cells)) := HS.out.rowNe (by have := HO.out; omega) _
              have HN : Hid (Box (wk33.setRow N ((callI at0 x).cells)) (P7) 29 ((callI at0 x).cells)) := HN.out.rowNe (by have := HO.out; omega) _
              have HM8 : Hid (Box (wk33.setRow N ((callI at0 x).cells)) (P8) 52 ((callM at0 x).cells)) := HM8.out.rowNe (by have := HO.out; omega) _
              have HN10 : Hid (Box (wk33.setRow N ((callI at0 x).cells)) (P10) 29 ((callI at0 x).cells)) := HN10.out.rowNe (by have := HO.out; omega) _
              have HM11 : Hid (Box (wk33.setRow N ((callI at0 x).cells)) (P11) 52 ((callM at0 x).cells)) := HM11.out.rowNe (by have := HO.out; omega) _
              have HK : Hid (Kept No w (wk33.setRow N ((callI at0 x).cells))) := HK.out.newRow (by have := HO.out; omega) _
              generalize wk33.setRow N ((callI at0 x).cells) = wk34 at HA HS HN HM8 HN10 HM11 HK HLT ⊢
              refine WL.nil ?_
              try simp only [Act.put, sA, s0, s1]
              have HF : Hid (AtI w N wk34 (fun i => instB i = true)) := ⟨_, HA.out, HK.out, Nat.lt_of_le_of_lt (by have := HO.out; omega) HLT.out, HIC.out⟩
              go_wp2
              go_roundw
              case measure => simp [intOf]; omega
              case rel => exact ⟨k + 1, by go_num, by omega, HF⟩
            ·skip
             refine wp_takeW (.bool true) (exec_load 4 _ rfl ⟨P7, 13, none⟩ (by kernel_rfl) (.bool true) (by rw [← q7]; exact load_B (In.cel HN.out).2.2.2.2)) (by kernel_rfl) ?_
             try simp only [Act.put, sA, s0, s1]
             refine wp_takeW (.bool false) (by kernel_rfl) (by kernel_rfl) ?_
             try simp only [Act.put, sA, s0, s1]
             refine wp_takeW (.bool false) (by kernel_rfl) (by kernel_rfl) ?_
             try simp only [Act.put, sA, s0, s1]
             refine wp_skip (by kernel_rfl) ?_
             try simp only [Act.put, sA, s0, s1]
             refine wp_skip (by kernel_rfl) ?_
             try simp only [Act.put, sA, s0, s1]
             refine wp_skip (by kernel_rfl) ?_
             try simp only [Act.put, sA, s0, s1]
             refine wp_skip (by kernel_rfl) ?_
             try simp only [Act.put, sA, s0, s1]
             refine wp_skip (by kernel_rfl) ?_
             try simp only [Act.put, sA, s0, s1]
             refine wp_skip (by kernel_rfl) ?_
             try simp only [Act.put, sA, s0, s1]
             refine wp_skip (by kernel_rfl) ?_
             try simp only [Act.put, sA, s0, s1]
             refine wp_skip (by kernel_rfl) ?_
             try simp only [Act.put, sA, s0, s1]
             refine wp_skip (by kernel_rfl) ?_
             try simp only [Act.put, sA, s0, s1]
             refine wp_skip (by kernel_rfl) ?_
             try simp only [Act.put, sA, s0, s1]
             refine wp_skip (by kernel_rfl) ?_
             try simp only [Act.put, sA, s0, s1]
             refine wp_skip (by kernel_rfl) ?_
             try simp only [Act.put, sA, s0, s1]
             refine wp_takeW (.bool false) (by kernel_rfl) (by kernel_rfl) ?_
             try simp only [Act.put, sA, s0, s1]
             refine WL.nil ?_
             try simp only [Act.put, sA, s0, s1]
             go_upto_region 18 with fail
             refine WL.start ?_
             refine wp_takeW (.pointer (some ⟨S7, 0, none⟩)) (by kernel_rfl) (by kernel_rfl) ?_
             try simp only [Act.put, sA, s0, s1]
             refine wp_takeW (.int .i64 x.k) (exec_load 3 _ rfl ⟨S7, 0, none⟩ (by kernel_rfl) (.int .i64 x.k) (load_N (HS.out.cell 0))) (by kernel_rfl) ?_
             try simp only [Act.put, sA, s0, s1]
             refine wp_takeW (.bool false) (exec_bin .eql 3 _ _ _ rfl (.int .i64 x.k) (.int .i64 1) (.bool false) (by kernel_rfl) (by kernel_rfl) (by kernel_rfl) (by rw [eqlN, q4]; try rfl)) (by kernel_rfl) ?_
             try simp only [Act.put, sA, s0, s1]
             refine wp_takeW (.bool false) (by kernel_rfl) (by kernel_rfl) ?_
             try simp only [Act.put, sA, s0, s1]
             refine wp_takeW (.pointer (some ⟨S7, 0, none⟩)) (by kernel_rfl) (by kernel_rfl) ?_
             try simp only [Act.put, sA, s0, s1]
             refine wp_takeW (.int .i64 x.k) (exec_load 3 _ rfl ⟨S7, 0, none⟩ (by kernel_rfl) (.int .i64 x.k) (load_N (HS.out.cell 0))) (by kernel_rfl) ?_
             try simp only [Act.put, sA, s0, s1]
             cases q9 : (x.k == 2)
             ·skip
              refine wp_takeW (.bool false) (exec_bin .eql 3 _ _ _ rfl (.int .i64 x.k) (.int .i64 2) (.bool false) (by kernel_rfl) (by kernel_rfl) (by kernel_rfl) (by rw [eqlN, q9]; try rfl)) (by kernel_rfl) ?_
              try simp only [Act.put, sA, s0, s1]
              refine wp_takeW (.bool false) (by kernel_rfl) (by kernel_rfl) ?_
              try simp only [Act.put, sA, s0, s1]
              refine wp_takeW (.bool false) (by kernel_rfl) (by kernel_rfl) ?_
              try simp only [Act.put, sA, s0, s1]
              refine wp_skip (by kernel_rfl) ?_
              try simp only [Act.put, sA, s0, s1]
              refine wp_skip (by kernel_rfl) ?_
              try simp only [Act.put, sA, s0, s1]
              refine wp_skip (by kernel_rfl) ?_
              try simp only [Act.put, sA, s0, s1]
              refine wp_skip (by kernel_rfl) ?_
              try simp only [Act.put, sA, s0, s1]
              refine wp_skip (by kernel_rfl) ?_
              try simp only [Act.put, sA, s0, s1]
              refine wp_skip (by kernel_rfl) ?_
              try simp only [Act.put, sA, s0, s1]
              refine wp_takeW (.bool false) (by kernel_rfl) (by kernel_rfl) ?_
              try simp only [Act.put, sA, s0, s1]
              refine WL.nil ?_
              try simp only [Act.put, sA, s0, s1]
              go_upto_region 20 with fail
              refine WL.start ?_
              refine wp_takeW (.agg ((callI at0 x).cells)) (exec_load 29 _ rfl ⟨P7, 0, none⟩ (by kernel_rfl) (.agg ((callI at0 x).cells)) (load_I HN.out)) (by kernel_rfl) ?_
              try simp only [Act.put, sA, s0, s1]
              refine wp_storeW 29 _ _ rfl ⟨N, 0, none⟩ (.agg ((callI at0 x).cells)) (by kernel_rfl) (by kernel_rfl) _ (store_I HA.out rfl) (by kernel_rfl) ?_
              try simp only [Act.put, sA, s0, s1]
              have HLT : Hid (P11 < (wk29.setRow N ((callI at0 x).cells)).heap.size) := by show _ < _; rw [setRow_size]; exact HLT.out
              have HA : Hid (Box (wk29.setRow N ((callI at0 x).cells)) (N) 29 ((callI at0 x).cells)) := HA.out.setRow _
              have HS : Hid (Box (wk29.setRow N ((callI at0 x).cells)) (S7) 38 (x.cells)) := HS.out.rowNe (by have := HO.out; omega) _
              have HN : Hid (Box (wk29.setRow N ((callI at0 x).cells)) (P7) 29 ((callI at0 x).cells)) := HN.out.rowNe (by have := HO.out; omega) _
              have HM8 : Hid (Box (wk29.setRow N ((callI at0 x).cells)) (P8) 52 ((callM at0 x).cells)) := HM8.out.rowNe (by have := HO.out; omega) _
              have HN10 : Hid (Box (wk29.setRow N ((callI at0 x).cells)) (P10) 29 ((callI at0 x).cells)) := HN10.out.rowNe (by have := HO.out; omega) _
              have HM11 : Hid (Box (wk29.setRow N ((callI at0 x).cells)) (P11) 52 ((callM at0 x).cells)) := HM11.out.rowNe (by have := HO.out; omega) _
              have HK : Hid (Kept No w (wk29.setRow N ((callI at0 x).cells))) := HK.out.newRow (by have := HO.out; omega) _
              generalize wk29.setRow N ((callI at0 x).cells) = wk35 at HA HS HN HM8 HN10 HM11 HK HLT ⊢
              refine WL.nil ?_
              try simp only [Act.put, sA, s0, s1]
              have HF : Hid (AtI w N wk35 (fun i => instB i = true)) := ⟨_, HA.out, HK.out, Nat.lt_of_le_of_lt (by have := HO.out; omega) HLT.out, HIC.out⟩
              go_wp2
              go_roundw
              case measure => simp [intOf]; omega
              case rel => exact ⟨k + 1, by go_num, by omega, HF⟩
             ·skip
              refine wp_takeW (.bool true) (exec_bin .eql 3 _ _ _ rfl (.int .i64 x.k) (.int .i64 2) (.bool true) (by kernel_rfl) (by kernel_rfl) (by kernel_rfl) (by rw [eqlN, q9]; try rfl)) (by kernel_rfl) ?_
              try simp only [Act.put, sA, s0, s1]
              refine wp_takeW (.bool true) (by kernel_rfl) (by kernel_rfl) ?_
              try simp only [Act.put, sA, s0, s1]
              refine wp_takeW (.bool true) (by kernel_rfl) (by kernel_rfl) ?_
              try simp only [Act.put, sA, s0, s1]
              refine wp_takeW (.agg at0.cells) (exec_load 29 _ rfl ⟨N, 0, none⟩ (by kernel_rfl) (.agg at0.cells) (load_I HA.out)) (by kernel_rfl) ?_
              try simp only [Act.put, sA, s0, s1]
              refine wp_takeW (.agg ((callI at0 x).cells)) (exec_load 29 _ rfl ⟨P7, 0, none⟩ (by kernel_rfl) (.agg ((callI at0 x).cells)) (load_I HN.out)) (by kernel_rfl) ?_
              try simp only [Act.put, sA, s0, s1]
              refine wp_takeW (.agg ((callM at0 x).cells)) (exec_load 52 _ rfl ⟨P8, 0, none⟩ (by kernel_rfl) (.agg ((callM at0 x).cells)) (load_M HM8.out)) (by kernel_rfl) ?_
              try simp only [Act.put, sA, s0, s1]
              refine wp_takeW (.agg x.cells) (exec_load 38 _ rfl ⟨S7, 0, none⟩ (by kernel_rfl) (.agg x.cells) (load_Xb HS.out)) (by kernel_rfl) ?_
              try simp only [Act.put, sA, s0, s1]
              refine wp_callW 20 #[.agg at0.cells, .agg ((callI at0 x).cells), .agg ((callM at0 x).cells), .agg x.cells] (by kernel_rfl) _ (told_any at0 (callI at0 x) (callM at0 x) x _) (by kernel_rfl) ?_
              rintro e wk36 ⟨rfl, hk⟩
              have HA : Hid (Box wk36 (N) 29 (at0.cells)) := HA.out.kept hk (fun e => e)
              have HS : Hid (Box wk36 (S7) 38 (x.cells)) := HS.out.kept hk (fun e => e)
              have HN : Hid (Box wk36 (P7) 29 ((callI at0 x).cells)) := HN.out.kept hk (fun e => e)
              have HM8 : Hid (Box wk36 (P8) 52 ((callM at0 x).cells)) := HM8.out.kept hk (fun e => e)
              have HN10 : Hid (Box wk36 (P10) 29 ((callI at0 x).cells)) := HN10.out.kept hk (fun e => e)
              have HM11 : Hid (Box wk36 (P11) 52 ((callM at0 x).cells)) := HM11.out.kept hk (fun e => e)
              have HK : Hid (Kept No w wk36) := HK.out.then hk
              have HLT : Hid (P11 < wk36.heap.size) := Nat.lt_of_lt_of_le HLT.out hk.size
              clear hk
              refine ⟨.bool true, by rw [told_true at0 x (.inr q9)], ?_⟩
              try simp only [Act.put, sA, s0, s1]
              refine wp_takeW (.bool false) (by kernel_rfl) (by kernel_rfl) ?_
              try simp only [Act.put, sA, s0, s1]
              refine wp_takeW (.bool false) (by kernel_rfl) (by kernel_rfl) ?_
              try simp only [Act.put, sA, s0, s1]
              refine WL.nil ?_
              try simp only [Act.put, sA, s0, s1]
              go_upto_region 20 with fail
              refine WL.start ?_
              refine wp_takeW (.agg ((callI at0 x).cells)) (exec_load 29 _ rfl ⟨P7, 0, none⟩ (by kernel_rfl) (.agg ((callI at0 x).cells)) (load_I HN.out)) (by kernel_rfl) ?_
              try simp only [Act.put, sA, s0, s1]
              refine wp_storeW 29 _ _ rfl ⟨N, 0, none⟩ (.agg ((callI at0 x).cells)) (by kernel_rfl) (by kernel_rfl) _ (store_I HA.out rfl) (by kernel_rfl) ?_
              try simp only [Act.put, sA, s0, s1]
              have HLT : Hid (P11 < (wk36.setRow N ((callI at0 x).cells)).heap.size) := by show _ < _; rw [setRow_size]; exact HLT.out
              have HA : Hid (Box (wk36.setRow N ((callI at0 x).cells)) (N) 29 ((callI at0 x).cells)) := HA.out.setRow _
              have HS : Hid (Box (wk36.setRow N ((callI at0 x).cells)) (S7) 38 (x.cells)) := HS.out.rowNe (by have := HO.out; omega) _
              have HN : Hid (Box (wk36.setRow N ((callI at0 x).cells)) (P7) 29 ((callI at0 x).cells)) := HN.out.rowNe (by have := HO.out; omega) _
              have HM8 : Hid (Box (wk36.setRow N ((callI at0 x).cells)) (P8) 52 ((callM at0 x).cells)) := HM8.out.rowNe (by have := HO.out; omega) _
              have HN10 : Hid (Box (wk36.setRow N ((callI at0 x).cells)) (P10) 29 ((callI at0 x).cells)) := HN10.out.rowNe (by have := HO.out; omega) _
              have HM11 : Hid (Box (wk36.setRow N ((callI at0 x).cells)) (P11) 52 ((callM at0 x).cells)) := HM11.out.rowNe (by have := HO.out; omega) _
              have HK : Hid (Kept No w (wk36.setRow N ((callI at0 x).cells))) := HK.out.newRow (by have := HO.out; omega) _
              generalize wk36.setRow N ((callI at0 x).cells) = wk37 at HA HS HN HM8 HN10 HM11 HK HLT ⊢
              refine WL.nil ?_
              try simp only [Act.put, sA, s0, s1]
              have HF : Hid (AtI w N wk37 (fun i => instB i = true)) := ⟨_, HA.out, HK.out, Nat.lt_of_le_of_lt (by have := HO.out; omega) HLT.out, HIC.out⟩
              go_wp2
              go_roundw
              case measure => simp [intOf]; omega
              case rel => exact ⟨k + 1, by go_num, by omega, HF⟩
           ·skip
            rw [(call_dec q6).2]
            refine any_take (i := 13) (oi := { dst := some 113, op := Op.load 4 (Operand.tmp 112), type := 4, pos := "outright.go:30", after := #[{ on := 12, ground := Ground.data }, { on := 11, ground := Ground.guard }], guard := some (11, false) }) (v := .bool true) rfl (by kernel_rfl) (by kernel_rfl) (by kernel_rfl) (fun _ _ _ h => h) (by kernel_rfl) (fun w' hw => exec_load 4 _ rfl ⟨N, 13, none⟩ (by kernel_rfl) (.bool true) (by rw [← q6]; exact load_B (In.cel hw.1).2.2.2.2)) hH ?_
            try simp only [Act.put, sA, s0, s1]
            refine any_take (i := 14) (oi := { dst := some 114, op := Op.move (Operand.tmp 113), type := 4, pos := "outright.go:30", after := #[{ on := 13, ground := Ground.data }, { on := 11, ground := Ground.chain }, { on := 11, ground := Ground.guard }], guard := some (11, false) }) (v := .bool true) rfl (by kernel_rfl) (by kernel_rfl) (by kernel_rfl) (fun _ _ _ h => h) (by kernel_rfl) (fun _ _ => by kernel_rfl) hH ?_
            try simp only [Act.put, sA, s0, s1]
            refine any_take (i := 15) (oi := { dst := some 115, op := Op.move (Operand.tmp 9), type := 4, pos := "outright.go:30", after := #[{ on := 14, ground := Ground.guard }], guard := some (14, true) }) (v := .bool false) rfl (by kernel_rfl) (by kernel_rfl) (by kernel_rfl) (fun _ _ _ h => h) (by kernel_rfl) (fun _ _ => by kernel_rfl) hH ?_
            try simp only [Act.put, sA, s0, s1]
            refine any_take (i := 16) (oi := { dst := some 116, op := Op.pick (Operand.tmp 114) (Operand.tmp 115) (Operand.const (Value.bool false)), type := 4, pos := "outright.go:30", after := #[{ on := 14, ground := Ground.data }, { on := 15, ground := Ground.data }, { on := 11, ground := Ground.guard }], guard := some (11, false) }) (v := .bool false) rfl (by kernel_rfl) (by kernel_rfl) (by kernel_rfl) (fun _ _ _ h => h) (by kernel_rfl) (fun _ _ => by kernel_rfl) hH ?_
            try simp only [Act.put, sA, s0, s1]
            refine any_take (i := 17) (oi := { dst := some 117, op := Op.pick (Operand.tmp 111) (Operand.const (Value.bool true)) (Operand.tmp 116), type := 4, pos := "outright.go:30", after := #[{ on := 11, ground := Ground.data }, { on := 16, ground := Ground.data }], guard := none }) (v := .bool false) rfl (by kernel_rfl) (by kernel_rfl) (by kernel_rfl) (fun _ _ _ h => h) (by kernel_rfl) (fun _ _ => by kernel_rfl) hH ?_
            try simp only [Act.put, sA, s0, s1]
            refine wpAnyH_done (by kernel_rfl) ?_ _
            try simp only [Act.put, sA, s0, s1]
            go_upto_region 16 with fail
            refine WL.start ?_
            refine wp_takeW (.pointer (some ⟨P7, 13, none⟩)) (by kernel_rfl) (by kernel_rfl) ?_
            try simp only [Act.put, sA, s0, s1]
            cases q10 : ((callI at0 x).d)
            · (exfalso; rw [(call_dec q6).1, q6] at q10; cases q10)
            ·skip
             refine wp_takeW (.bool true) (exec_load 4 _ rfl ⟨P7, 13, none⟩ (by kernel_rfl) (.bool true) (by rw [← q10]; exact load_B (In.cel HN.out).2.2.2.2)) (by kernel_rfl) ?_
             try simp only [Act.put, sA, s0, s1]
             refine wp_takeW (.bool false) (by kernel_rfl) (by kernel_rfl) ?_
             try simp only [Act.put, sA, s0, s1]
             refine wp_takeW (.bool false) (by kernel_rfl) (by kernel_rfl) ?_
             try simp only [Act.put, sA, s0, s1]
             refine wp_skip (by kernel_rfl) ?_
             try simp only [Act.put, sA, s0, s1]
             refine wp_skip (by kernel_rfl) ?_
             try simp only [Act.put, sA, s0, s1]
             refine wp_skip (by kernel_rfl) ?_
             try simp only [Act.put, sA, s0, s1]
             refine wp_skip (by kernel_rfl) ?_
             try simp only [Act.put, sA, s0, s1]
             refine wp_skip (by kernel_rfl) ?_
             try simp only [Act.put, sA, s0, s1]
             refine wp_skip (by kernel_rfl) ?_
             try simp only [Act.put, sA, s0, s1]
             refine wp_skip (by kernel_rfl) ?_
             try simp only [Act.put, sA, s0, s1]
             refine wp_skip (by kernel_rfl) ?_
             try simp only [Act.put, sA, s0, s1]
             refine wp_skip (by kernel_rfl) ?_
             try simp only [Act.put, sA, s0, s1]
             refine wp_skip (by kernel_rfl) ?_
             try simp only [Act.put, sA, s0, s1]
             refine wp_skip (by kernel_rfl) ?_
             try simp only [Act.put, sA, s0, s1]
             refine wp_skip (by kernel_rfl) ?_
             try simp only [Act.put, sA, s0, s1]
             refine wp_takeW (.bool false) (by kernel_rfl) (by kernel_rfl) ?_
             try simp only [Act.put, sA, s0, s1]
             refine WL.nil ?_
             try simp only [Act.put, sA, s0, s1]
             go_upto_region 18 with fail
             refine WL.start ?_
             refine wp_takeW (.pointer (some ⟨S7, 0, none⟩)) (by kernel_rfl) (by kernel_rfl) ?_
             try simp only [Act.put, sA, s0, s1]
             refine wp_takeW (.int .i64 x.k) (exec_load 3 _ rfl ⟨S7, 0, none⟩ (by kernel_rfl) (.int .i64 x.k) (load_N (HS.out.cell 0))) (by kernel_rfl) ?_
             try simp only [Act.put, sA, s0, s1]
             refine wp_takeW (.bool false) (exec_bin .eql 3 _ _ _ rfl (.int .i64 x.k) (.int .i64 1) (.bool false) (by kernel_rfl) (by kernel_rfl) (by kernel_rfl) (by rw [eqlN, q4]; try rfl)) (by kernel_rfl) ?_
             try simp only [Act.put, sA, s0, s1]
             refine wp_takeW (.bool false) (by kernel_rfl) (by kernel_rfl) ?_
             try simp only [Act.put, sA, s0, s1]
             refine wp_takeW (.pointer (some ⟨S7, 0, none⟩)) (by kernel_rfl) (by kernel_rfl) ?_
             try simp only [Act.put, sA, s0, s1]
             refine wp_takeW (.int .i64 x.k) (exec_load 3 _ rfl ⟨S7, 0, none⟩ (by kernel_rfl) (.int .i64 x.k) (load_N (HS.out.cell 0))) (by kernel_rfl) ?_
             try simp only [Act.put, sA, s0, s1]
             cases q11 : (x.k == 2)
             ·skip
              refine wp_takeW (.bool false) (exec_bin .eql 3 _ _ _ rfl (.int .i64 x.k) (.int .i64 2) (.bool false) (by kernel_rfl) (by kernel_rfl) (by kernel_rfl) (by rw [eqlN, q11]; try rfl)) (by kernel_rfl) ?_
              try simp only [Act.put, sA, s0, s1]
              refine wp_takeW (.bool false) (by kernel_rfl) (by kernel_rfl) ?_
              try simp only [Act.put, sA, s0, s1]
              refine wp_takeW (.bool false) (by kernel_rfl) (by kernel_rfl) ?_
              try simp only [Act.put, sA, s0, s1]
              refine wp_skip (by kernel_rfl) ?_
              try simp only [Act.put, sA, s0, s1]
              refine wp_skip (by kernel_rfl) ?_
              try simp only [Act.put, sA, s0, s1]
              refine wp_skip (by kernel_rfl) ?_
              try simp only [Act.put, sA, s0, s1]
              refine wp_skip (by kernel_rfl) ?_
              try simp only [Act.put, sA, s0, s1]
              refine wp_skip (by kernel_rfl) ?_
              try simp only [Act.put, sA, s0, s1]
              refine wp_skip (by kernel_rfl) ?_
              try simp only [Act.put, sA, s0, s1]
              refine wp_takeW (.bool false) (by kernel_rfl) (by kernel_rfl) ?_
              try simp only [Act.put, sA, s0, s1]
              refine WL.nil ?_
              try simp only [Act.put, sA, s0, s1]
              go_upto_region 20 with fail
              refine WL.start ?_
              refine wp_takeW (.agg ((callI at0 x).cells)) (exec_load 29 _ rfl ⟨P7, 0, none⟩ (by kernel_rfl) (.agg ((callI at0 x).cells)) (load_I HN.out)) (by kernel_rfl) ?_
              try simp only [Act.put, sA, s0, s1]
              refine wp_storeW 29 _ _ rfl ⟨N, 0, none⟩ (.agg ((callI at0 x).cells)) (by kernel_rfl) (by kernel_rfl) _ (store_I HA.out rfl) (by kernel_rfl) ?_
              try simp only [Act.put, sA, s0, s1]
              have HLT : Hid (P11 < (wk29.setRow N ((callI at0 x).cells)).heap.size) := by show _ < _; rw [setRow_size]; exact HLT.out
              have HA : Hid (Box (wk29.setRow N ((callI at0 x).cells)) (N) 29 ((callI at0 x).cells)) := HA.out.setRow _
              have HS : Hid (Box (wk29.setRow N ((callI at0 x).cells)) (S7) 38 (x.cells)) := HS.out.rowNe (by have := HO.out; omega) _
              have HN : Hid (Box (wk29.setRow N ((callI at0 x).cells)) (P7) 29 ((callI at0 x).cells)) := HN.out.rowNe (by have := HO.out; omega) _
              have HM8 : Hid (Box (wk29.setRow N ((callI at0 x).cells)) (P8) 52 ((callM at0 x).cells)) := HM8.out.rowNe (by have := HO.out; omega) _
              have HN10 : Hid (Box (wk29.setRow N ((callI at0 x).cells)) (P10) 29 ((callI at0 x).cells)) := HN10.out.rowNe (by have := HO.out; omega) _
              have HM11 : Hid (Box (wk29.setRow N ((callI at0 x).cells)) (P11) 52 ((callM at0 x).cells)) := HM11.out.rowNe (by have := HO.out; omega) _
              have HK : Hid (Kept No w (wk29.setRow N ((callI at0 x).cells))) := HK.out.newRow (by have := HO.out; omega) _
              generalize wk29.setRow N ((callI at0 x).cells) = wk38 at HA HS HN HM8 HN10 HM11 HK HLT ⊢
              refine WL.nil ?_
              try simp only [Act.put, sA, s0, s1]
              have HF : Hid (AtI w N wk38 (fun i => instB i = true)) := ⟨_, HA.out, HK.out, Nat.lt_of_le_of_lt (by have := HO.out; omega) HLT.out, HIC.out⟩
              go_wp2
              go_roundw
              case measure => simp [intOf]; omega
              case rel => exact ⟨k + 1, by go_num, by omega, HF⟩
             ·skip
              refine wp_takeW (.bool true) (exec_bin .eql 3 _ _ _ rfl (.int .i64 x.k) (.int .i64 2) (.bool true) (by kernel_rfl) (by kernel_rfl) (by kernel_rfl) (by rw [eqlN, q11]; try rfl)) (by kernel_rfl) ?_
              try simp only [Act.put, sA, s0, s1]
              refine wp_takeW (.bool true) (by kernel_rfl) (by kernel_rfl) ?_
              try simp only [Act.put, sA, s0, s1]
              refine wp_takeW (.bool true) (by kernel_rfl) (by kernel_rfl) ?_
              try simp only [Act.put, sA, s0, s1]
              refine wp_takeW (.agg at0.cells) (exec_load 29 _ rfl ⟨N, 0, none⟩ (by kernel_rfl) (.agg at0.cells) (load_I HA.out)) (by kernel_rfl) ?_
              try simp only [Act.put, sA, s0, s1]
              refine wp_takeW (.agg ((callI at0 x).cells)) (exec_load 29 _ rfl ⟨P7, 0, none⟩ (by kernel_rfl) (.agg ((callI at0 x).cells)) (load_I HN.out)) (by kernel_rfl) ?_
              try simp only [Act.put, sA, s0, s1]
              refine wp_takeW (.agg ((callM at0 x).cells)) (exec_load 52 _ rfl ⟨P8, 0, none⟩ (by kernel_rfl) (.agg ((callM at0 x).cells)) (load_M HM8.out)) (by kernel_rfl) ?_
              try simp only [Act.put, sA, s0, s1]
              refine wp_takeW (.agg x.cells) (exec_load 38 _ rfl ⟨S7, 0, none⟩ (by kernel_rfl) (.agg x.cells) (load_Xb HS.out)) (by kernel_rfl) ?_
              try simp only [Act.put, sA, s0, s1]
              refine wp_callW 20 #[.agg at0.cells, .agg ((callI at0 x).cells), .agg ((callM at0 x).cells), .agg x.cells] (by kernel_rfl) _ (told_any at0 (callI at0 x) (callM at0 x) x _) (by kernel_rfl) ?_
              rintro e wk39 ⟨rfl, hk⟩
              have HA : Hid (Box wk39 (N) 29 (at0.cells)) := HA.out.kept hk (fun e => e)
              have HS : Hid (Box wk39 (S7) 38 (x.cells)) := HS.out.kept hk (fun e => e)
              have HN : Hid (Box wk39 (P7) 29 ((callI at0 x).cells)) := HN.out.kept hk (fun e => e)
              have HM8 : Hid (Box wk39 (P8) 52 ((callM at0 x).cells)) := HM8.out.kept hk (fun e => e)
              have HN10 : Hid (Box wk39 (P10) 29 ((callI at0 x).cells)) := HN10.out.kept hk (fun e => e)
              have HM11 : Hid (Box wk39 (P11) 52 ((callM at0 x).cells)) := HM11.out.kept hk (fun e => e)
              have HK : Hid (Kept No w wk39) := HK.out.then hk
              have HLT : Hid (P11 < wk39.heap.size) := Nat.lt_of_lt_of_le HLT.out hk.size
              clear hk
              refine ⟨.bool true, by rw [told_true at0 x (.inr q11)], ?_⟩
              try simp only [Act.put, sA, s0, s1]
              refine wp_takeW (.bool false) (by kernel_rfl) (by kernel_rfl) ?_
              try simp only [Act.put, sA, s0, s1]
              refine wp_takeW (.bool false) (by kernel_rfl) (by kernel_rfl) ?_
              try simp only [Act.put, sA, s0, s1]
              refine WL.nil ?_
              try simp only [Act.put, sA, s0, s1]
              go_upto_region 20 with fail
              refine WL.start ?_
              refine wp_takeW (.agg ((callI at0 x).cells)) (exec_load 29 _ rfl ⟨P7, 0, none⟩ (by kernel_rfl) (.agg ((callI at0 x).cells)) (load_I HN.out)) (by kernel_rfl) ?_
              try simp only [Act.put, sA, s0, s1]
              refine wp_storeW 29 _ _ rfl ⟨N, 0, none⟩ (.agg ((callI at0 x).cells)) (by kernel_rfl) (by kernel_rfl) _ (store_I HA.out rfl) (by kernel_rfl) ?_
              try simp only [Act.put, sA, s0, s1]
              have HLT : Hid (P11 < (wk39.setRow N ((callI at0 x).cells)).heap.size) := by show _ < _; rw [setRow_size]; exact HLT.out
              have HA : Hid (Box (wk39.setRow N ((callI at0 x).cells)) (N) 29 ((callI at0 x).cells)) := HA.out.setRow _
              have HS : Hid (Box (wk39.setRow N ((callI at0 x).cells)) (S7) 38 (x.cells)) := HS.out.rowNe (by have := HO.out; omega) _
              have HN : Hid (Box (wk39.setRow N ((callI at0 x).cells)) (P7) 29 ((callI at0 x).cells)) := HN.out.rowNe (by have := HO.out; omega) _
              have HM8 : Hid (Box (wk39.setRow N ((callI at0 x).cells)) (P8) 52 ((callM at0 x).cells)) := HM8.out.rowNe (by have := HO.out; omega) _
              have HN10 : Hid (Box (wk39.setRow N ((callI at0 x).cells)) (P10) 29 ((callI at0 x).cells)) := HN10.out.rowNe (by have := HO.out; omega) _
              have HM11 : Hid (Box (wk39.setRow N ((callI at0 x).cells)) (P11) 52 ((callM at0 x).cells)) := HM11.out.rowNe (by have := HO.out; omega) _
              have HK : Hid (Kept No w (wk39.setRow N ((callI at0 x).cells))) := HK.out.newRow (by have := HO.out; omega) _
              generalize wk39.setRow N ((callI at0 x).cells) = wk40 at HA HS HN HM8 HN10 HM11 HK HLT ⊢
              refine WL.nil ?_
              try simp only [Act.put, sA, s0, s1]
              have HF : Hid (AtI w N wk40 (fun i => instB i = true)) := ⟨_, HA.out, HK.out, Nat.lt_of_le_of_lt (by have := HO.out; omega) HLT.out, HIC.out⟩
              go_wp2
              go_roundw
              case measure => simp [intOf]; omega
              case rel => exact ⟨k + 1, by go_num, by omega, HF⟩
         ·skip
          refine any_take (i := 12) (oi := { dst := some 41, op := Op.binOp BinOp.neq 3 (Operand.tmp 40) (Operand.const (Value.int IntKind.i64 1)) 3, type := 4, pos := "outright.go:22", after := #[{ on := 11, ground := Ground.data }, { on := 9, ground := Ground.guard }], guard := some (9, false) }) (v := .bool false) rfl (by kernel_rfl) (by kernel_rfl) (by kernel_rfl) (fun _ _ _ h => h) (by kernel_rfl) (fun w' hw => exec_bin .neq 3 _ _ _ rfl (.int .i64 x.k) (.int .i64 1) (.bool false) (by kernel_rfl) (by kernel_rfl) (by kernel_rfl) (by rw [neqN, q4]; try rfl)) hH ?_
          try simp only [Act.put, sA, s0, s1]
          refine any_take (i := 13) (oi := { dst := some 42, op := Op.move (Operand.tmp 41), type := 4, pos := "outright.go:22", after := #[{ on := 12, ground := Ground.data }, { on := 9, ground := Ground.chain }, { on := 9, ground := Ground.guard }], guard := some (9, false) }) (v := .bool false) rfl (by kernel_rfl) (by kernel_rfl) (by kernel_rfl) (fun _ _ _ h => h) (by kernel_rfl) (fun _ _ => by kernel_rfl) hH ?_
          try simp only [Act.put, sA, s0, s1]
          refine any_skip (i := 14) (oi := { dst := some 43, op := Op.fieldAddr 38 (Operand.tmp 6) 2, type := 0, pos := "outright.go:22", after := #[{ on := 13, ground := Ground.guard }], guard := some (13, true) }) rfl (by kernel_rfl) (by kernel_rfl) (by kernel_rfl) (fun _ _ _ h => h) (by kernel_rfl) hH ?_
          try simp only [Act.put, sA, s0, s1]
          refine any_skip (i := 15) (oi := { dst := some 44, op := Op.load 27 (Operand.tmp 43), type := 27, pos := "outright.go:22", after := #[{ on := 14, ground := Ground.data }, { on := 13, ground := Ground.guard }], guard := some (13, true) }) rfl (by kernel_rfl) (by kernel_rfl) (by kernel_rfl) (fun _ _ _ h => h) (by kernel_rfl) hH ?_
          try simp only [Act.put, sA, s0, s1]
          refine any_skip (i := 16) (oi := { dst := some 45, op := Op.call { callee := Callee.value (Operand.func 8), args := #[], argTypes := #[] }, type := 35, pos := "outright.go:22", after := #[{ on := 13, ground := Ground.chain }, { on := 13, ground := Ground.guard }], guard := some (13, true) }) rfl (by kernel_rfl) (by kernel_rfl) (by kernel_rfl) (fun _ _ _ h => h) (by kernel_rfl) hH ?_
          try simp only [Act.put, sA, s0, s1]
          refine any_skip (i := 17) (oi := { dst := some 46, op := Op.call { callee := Callee.value (Operand.func 10), args := #[Operand.tmp 44, Operand.tmp 45], argTypes := #[27, 35] }, type := 4, pos := "outright.go:22", after := #[{ on := 15, ground := Ground.data }, { on := 16, ground := Ground.data }, { on := 16, ground := Ground.chain }, { on := 13, ground := Ground.guard }], guard := some (13, true) }) rfl (by kernel_rfl) (by kernel_rfl) (by kernel_rfl) (fun _ _ _ h => h) (by kernel_rfl) hH ?_
          try simp only [Act.put, sA, s0, s1]
          refine any_skip (i := 18) (oi := { dst := some 47, op := Op.unOp UnOp.not 4 (Operand.tmp 46), type := 4, pos := "outright.go:22", after := #[{ on := 17, ground := Ground.data }, { on := 13, ground := Ground.guard }], guard := some (13, true) }) rfl (by kernel_rfl) (by kernel_rfl) (by kernel_rfl) (fun _ _ _ h => h) (by kernel_rfl) hH ?_
          try simp only [Act.put, sA, s0, s1]
          refine any_take (i := 19) (oi := { dst := some 48, op := Op.pick (Operand.tmp 42) (Operand.tmp 47) (Operand.const (Value.bool false)), type := 4, pos := "outright.go:22", after := #[{ on := 13, ground := Ground.data }, { on := 18, ground := Ground.data }, { on := 9, ground := Ground.guard }], guard := some (9, false) }) (v := .bool false) rfl (by kernel_rfl) (by kernel_rfl) (by kernel_rfl) (fun _ _ _ h => h) (by kernel_rfl) (fun _ _ => by kernel_rfl) hH ?_
          try simp only [Act.put, sA, s0, s1]
          refine any_take (i := 20) (oi := { dst := some 49, op := Op.pick (Operand.tmp 38) (Operand.const (Value.bool true)) (Operand.tmp 48), type := 4, pos := "outright.go:22", after := #[{ on := 9, ground := Ground.data }, { on := 19, ground := Ground.data }], guard := none }) (v := .bool false) rfl (by kernel_rfl) (by kernel_rfl) (by kernel_rfl) (fun _ _ _ h => h) (by kernel_rfl) (fun _ _ => by kernel_rfl) hH ?_
          try simp only [Act.put, sA, s0, s1]
          refine wpAnyH_done (by kernel_rfl) ?_ _
          try simp only [Act.put, sA, s0, s1]
          have HIC : Hid (instB (callI at0 x) = true) := inst_call HIN.out (.inr q3) (.inl q4)
          go_upto_region 10 with fail
          refine WL.start ?_
          refine wp_takeW (.agg at0.cells) (exec_load 29 _ rfl ⟨N, 0, none⟩ (by kernel_rfl) (.agg at0.cells) (load_I HA.out)) (by kernel_rfl) ?_
          try simp only [Act.put, sA, s0, s1]
          refine wp_takeW (.agg x.cells) (exec_load 38 _ rfl ⟨S7, 0, none⟩ (by kernel_rfl) (.agg x.cells) (load_Xb HS.out)) (by kernel_rfl) ?_
          try simp only [Act.put, sA, s0, s1]
          refine wp_callW 18 #[.agg at0.cells, .agg x.cells] (by kernel_rfl) _ (call_any at0 x _) (by kernel_rfl) ?_
          rintro e wk41 ⟨rfl, hk⟩
          have HA : Hid (Box wk41 (N) 29 (at0.cells)) := HA.out.kept hk (fun e => e)
          have HS : Hid (Box wk41 (S7) 38 (x.cells)) := HS.out.kept hk (fun e => e)
          have HK : Hid (Kept No w wk41) := HK.out.then hk
          have HLT : Hid (S7 < wk41.heap.size) := Nat.lt_of_lt_of_le HLT.out hk.size
          clear hk
          refine ⟨.tuple #[.agg (callI at0 x).cells, .agg (callM at0 x).cells, .bool (callB at0 x)], rfl, ?_⟩
          try simp only [Act.put, sA, s0, s1]
          refine wp_takeW (.tuple #[.agg (callI at0 x).cells, .agg (callM at0 x).cells, .bool (callB at0 x)]) (by kernel_rfl) (by kernel_rfl) ?_
          try simp only [Act.put, sA, s0, s1]
          refine wp_takeW (.agg (callI at0 x).cells) (by kernel_rfl) (by kernel_rfl) ?_
          try simp only [Act.put, sA, s0, s1]
          refine wp_takeW (.agg (callM at0 x).cells) (by kernel_rfl) (by kernel_rfl) ?_
          try simp only [Act.put, sA, s0, s1]
          refine wp_takeW (.bool (callB at0 x)) (by kernel_rfl) (by kernel_rfl) ?_
          try simp only [Act.put, sA, s0, s1]
          refine wp_allocW 29 rfl (iZ.cells) zero29 wk41.heap.size rfl (by kernel_rfl) ?_
          try simp only [Act.put, sA, s0, s1]
          have HN : Hid (Box (wk41.alloc (.cells (iZ.cells) 29)) wk41.heap.size 29 (iZ.cells)) := Box.new _ _ _
          have HA : Hid (Box (wk41.alloc (.cells (iZ.cells) 29)) (N) 29 (at0.cells)) := HA.out.alloc _
          have HS : Hid (Box (wk41.alloc (.cells (iZ.cells) 29)) (S7) 38 (x.cells)) := HS.out.alloc _
          have HK : Hid (Kept No w (wk41.alloc (.cells (iZ.cells) 29))) := HK.out.alloc _
          have HO : Hid (w.heap.size ≤ N ∧ N < S7 ∧ S7 < wk41.heap.size) := by
            have h := HO.out
            have l := HLT.out
            show _ ∧ _
            omega
          have HLT : Hid (wk41.heap.size < (wk41.alloc (.cells (iZ.cells) 29)).heap.size) := by show _ < _; simp
          generalize wk41.alloc (.cells (iZ.cells) 29) = wk42 at HA HS HN HK HLT ⊢
          generalize wk41.heap.size = P7 at HN HO HLT ⊢
          refine wp_allocW 52 rfl (mZ.cells) zero52 wk42.heap.size rfl (by kernel_rfl) ?_
          try simp only [Act.put, sA, s0, s1]
          have HM8 : Hid (Box (wk42.alloc (.cells (mZ.cells) 52)) wk42.heap.size 52 (mZ.cells)) := Box.new _ _ _
          have HA : Hid (Box (wk42.alloc (.cells (mZ.cells) 52)) (N) 29 (at0.cells)) := HA.out.alloc _
          have HS : Hid (Box (wk42.alloc (.cells (mZ.cells) 52)) (S7) 38 (x.cells)) := HS.out.alloc _
          have HN : Hid (Box (wk42.alloc (.cells (mZ.cells) 52)) (P7) 29 (iZ.cells)) := HN.out.alloc _
          have HK : Hid (Kept No w (wk42.alloc (.cells (mZ.cells) 52))) := HK.out.alloc _
          have HO : Hid (w.heap.size ≤ N ∧ N < S7 ∧ S7 < P7 ∧ P7 < wk42.heap.size) := by
            have h := HO.out
            have l := HLT.out
            show _ ∧ _
            omega
          have HLT : Hid (wk42.heap.size < (wk42.alloc (.cells (mZ.cells) 52)).heap.size) := by show _ < _; simp
          generalize wk42.alloc (.cells (mZ.cells) 52) = wk43 at HA HS HN HM8 HK HLT ⊢
          generalize wk42.heap.size = P8 at HM8 HO HLT ⊢
          refine wp_storeW 29 _ _ rfl ⟨P7, 0, none⟩ (.agg (callI at0 x).cells) (by kernel_rfl) (by kernel_rfl) _ (store_I HN.out rfl) (by kernel_rfl) ?_
          try simp only [Act.put, sA, s0, s1]
          have HLT : Hid (P8 < (wk43.setRow P7 ((callI at0 x).cells)).heap.size) := by show _ < _; rw [setRow_size]; exact HLT.out
          have HA : Hid (Box (wk43.setRow P7 ((callI at0 x).cells)) (N) 29 (at0.cells)) := HA.out.rowNe (by have := HO.out; omega) _
          have HS : Hid (Box (wk43.setRow P7 ((callI at0 x).cells)) (S7) 38 (x.cells)) := HS.out.rowNe (by have := HO.out; omega) _
          have HN : Hid (Box (wk43.setRow P7 ((callI at0 x).cells)) (P7) 29 ((callI at0 x).cells)) := HN.out.setRow _
          have HM8 : Hid (Box (wk43.setRow P7 ((callI at0 x).cells)) (P8) 52 (mZ.cells)) := HM8.out.rowNe (by have := HO.out; omega) _
          have HK : Hid (Kept No w (wk43.setRow P7 ((callI at0 x).cells))) := HK.out.newRow (by have := HO.out; omega) _
          generalize wk43.setRow P7 ((callI at0 x).cells) = wk44 at HA HS HN HM8 HK HLT ⊢
          refine wp_storeW 52 _ _ rfl ⟨P8, 0, none⟩ (.agg (callM at0 x).cells) (by kernel_rfl) (by kernel_rfl) _ (store_M HM8.out rfl) (by kernel_rfl) ?_
          try simp only [Act.put, sA, s0, s1]
          have HLT : Hid (P8 < (wk44.setRow P8 ((callM at0 x).cells)).heap.size) := by show _ < _; rw [setRow_size]; exact HLT.out
          have HA : Hid (Box (wk44.setRow P8 ((callM at0 x).cells)) (N) 29 (at0.cells)) := HA.out.rowNe (by have := HO.out; omega) _
          have HS : Hid (Box (wk44.setRow P8 ((callM at0 x).cells)) (S7) 38 (x.cells)) := HS.out.rowNe (by have := HO.out; omega) _
          have HN : Hid (Box (wk44.setRow P8 ((callM at0 x).cells)) (P7) 29 ((callI at0 x).cells)) := HN.out.rowNe (by have := HO.out; omega) _
          have HM8 : Hid (Box (wk44.setRow P8 ((callM at0 x).cells)) (P8) 52 ((callM at0 x).cells)) := HM8.out.setRow _
          have HK : Hid (Kept No w (wk44.setRow P8 ((callM at0 x).cells))) := HK.out.newRow (by have := HO.out; omega) _
          generalize wk44.setRow P8 ((callM at0 x).cells) = wk45 at HA HS HN HM8 HK HLT ⊢
          refine wp_takeW (.bool (callB at0 x)) (by kernel_rfl) (by kernel_rfl) ?_
          try simp only [Act.put, sA, s0, s1]
          refine WL.nil ?_
          try simp only [Act.put, sA, s0, s1]
          go_upto_region 11 with fail
          refine WL.start ?_
          refine wp_takeW (.agg at0.cells) (exec_load 29 _ rfl ⟨N, 0, none⟩ (by kernel_rfl) (.agg at0.cells) (load_I HA.out)) (by kernel_rfl) ?_
          try simp only [Act.put, sA, s0, s1]
          refine wp_takeW (.agg x.cells) (exec_load 38 _ rfl ⟨S7, 0, none⟩ (by kernel_rfl) (.agg x.cells) (load_Xb HS.out)) (by kernel_rfl) ?_
          try simp only [Act.put, sA, s0, s1]
          refine wp_callW 18 #[.agg at0.cells, .agg x.cells] (by kernel_rfl) _ (call_any at0 x _) (by kernel_rfl) ?_
          rintro e wk46 ⟨rfl, hk⟩
          have HA : Hid (Box wk46 (N) 29 (at0.cells)) := HA.out.kept hk (fun e => e)
          have HS : Hid (Box wk46 (S7) 38 (x.cells)) := HS.out.kept hk (fun e => e)
          have HN : Hid (Box wk46 (P7) 29 ((callI at0 x).cells)) := HN.out.kept hk (fun e => e)
          have HM8 : Hid (Box wk46 (P8) 52 ((callM at0 x).cells)) := HM8.out.kept hk (fun e => e)
          have HK : Hid (Kept No w wk46) := HK.out.then hk
          have HLT : Hid (P8 < wk46.heap.size) := Nat.lt_of_lt_of_le HLT.out hk.size
          clear hk
          refine ⟨.tuple #[.agg (callI at0 x).cells, .agg (callM at0 x).cells, .bool (callB at0 x)], rfl, ?_⟩
          try simp only [Act.put, sA, s0, s1]
          refine wp_takeW (.tuple #[.agg (callI at0 x).cells, .agg (callM at0 x).cells, .bool (callB at0 x)]) (by kernel_rfl) (by kernel_rfl) ?_
          try simp only [Act.put, sA, s0, s1]
          refine wp_takeW (.agg (callI at0 x).cells) (by kernel_rfl) (by kernel_rfl) ?_
          try simp only [Act.put, sA, s0, s1]
          refine wp_takeW (.agg (callM at0 x).cells) (by kernel_rfl) (by kernel_rfl) ?_
          try simp only [Act.put, sA, s0, s1]
          refine wp_takeW (.bool (callB at0 x)) (by kernel_rfl) (by kernel_rfl) ?_
          try simp only [Act.put, sA, s0, s1]
          refine wp_allocW 29 rfl (iZ.cells) zero29 wk46.heap.size rfl (by kernel_rfl) ?_
          try simp only [Act.put, sA, s0, s1]
          have HN10 : Hid (Box (wk46.alloc (.cells (iZ.cells) 29)) wk46.heap.size 29 (iZ.cells)) := Box.new _ _ _
          have HA : Hid (Box (wk46.alloc (.cells (iZ.cells) 29)) (N) 29 (at0.cells)) := HA.out.alloc _
          have HS : Hid (Box (wk46.alloc (.cells (iZ.cells) 29)) (S7) 38 (x.cells)) := HS.out.alloc _
          have HN : Hid (Box (wk46.alloc (.cells (iZ.cells) 29)) (P7) 29 ((callI at0 x).cells)) := HN.out.alloc _
          have HM8 : Hid (Box (wk46.alloc (.cells (iZ.cells) 29)) (P8) 52 ((callM at0 x).cells)) := HM8.out.alloc _
          have HK : Hid (Kept No w (wk46.alloc (.cells (iZ.cells) 29))) := HK.out.alloc _
          have HO : Hid (w.heap.size ≤ N ∧ N < S7 ∧ S7 < P7 ∧ P7 < P8 ∧ P8 < wk46.heap.size) := by
            have h := HO.out
            have l := HLT.out
            show _ ∧ _
            omega
          have HLT : Hid (wk46.heap.size < (wk46.alloc (.cells (iZ.cells) 29)).heap.size) := by show _ < _; simp
          generalize wk46.alloc (.cells (iZ.cells) 29) = wk47 at HA HS HN HM8 HN10 HK HLT ⊢
          generalize wk46.heap.size = P10 at HN10 HO HLT ⊢
          refine wp_allocW 52 rfl (mZ.cells) zero52 wk47.heap.size rfl (by kernel_rfl) ?_
          try simp only [Act.put, sA, s0, s1]
          have HM11 : Hid (Box (wk47.alloc (.cells (mZ.cells) 52)) wk47.heap.size 52 (mZ.cells)) := Box.new _ _ _
          have HA : Hid (Box (wk47.alloc (.cells (mZ.cells) 52)) (N) 29 (at0.cells)) := HA.out.alloc _
          have HS : Hid (Box (wk47.alloc (.cells (mZ.cells) 52)) (S7) 38 (x.cells)) := HS.out.alloc _
          have HN : Hid (Box (wk47.alloc (.cells (mZ.cells) 52)) (P7) 29 ((callI at0 x).cells)) := HN.out.alloc _
          have HM8 : Hid (Box (wk47.alloc (.cells (mZ.cells) 52)) (P8) 52 ((callM at0 x).cells)) := HM8.out.alloc _
          have HN10 : Hid (Box (wk47.alloc (.cells (mZ.cells) 52)) (P10) 29 (iZ.cells)) := HN10.out.alloc _
          have HK : Hid (Kept No w (wk47.alloc (.cells (mZ.cells) 52))) := HK.out.alloc _
          have HO : Hid (w.heap.size ≤ N ∧ N < S7 ∧ S7 < P7 ∧ P7 < P8 ∧ P8 < P10 ∧ P10 < wk47.heap.size) := by
            have h := HO.out
            have l := HLT.out
            show _ ∧ _
            omega
          have HLT : Hid (wk47.heap.size < (wk47.alloc (.cells (mZ.cells) 52)).heap.size) := by show _ < _; simp
          generalize wk47.alloc (.cells (mZ.cells) 52) = wk48 at HA HS HN HM8 HN10 HM11 HK HLT ⊢
          generalize wk47.heap.size = P11 at HM11 HO HLT ⊢
          refine wp_storeW 29 _ _ rfl ⟨P10, 0, none⟩ (.agg (callI at0 x).cells) (by kernel_rfl) (by kernel_rfl) _ (store_I HN10.out rfl) (by kernel_rfl) ?_
          try simp only [Act.put, sA, s0, s1]
          have HLT : Hid (P11 < (wk48.setRow P10 ((callI at0 x).cells)).heap.size) := by show _ < _; rw [setRow_size]; exact HLT.out
          have HA : Hid (Box (wk48.setRow P10 ((callI at0 x).cells)) (N) 29 (at0.cells)) := HA.out.rowNe (by have := HO.out; omega) _
          have HS : Hid (Box (wk48.setRow P10 ((callI at0 x).cells)) (S7) 38 (x.cells)) := HS.out.rowNe (by have := HO.out; omega) _
          have HN : Hid (Box (wk48.setRow P10 ((callI at0 x).cells)) (P7) 29 ((callI at0 x).cells)) := HN.out.rowNe (by have := HO.out; omega) _
          have HM8 : Hid (Box (wk48.setRow P10 ((callI at0 x).cells)) (P8) 52 ((callM at0 x).cells)) := HM8.out.rowNe (by have := HO.out; omega) _
          have HN10 : Hid (Box (wk48.setRow P10 ((callI at0 x).cells)) (P10) 29 ((callI at0 x).cells)) := HN10.out.setRow _
          have HM11 : Hid (Box (wk48.setRow P10 ((callI at0 x).cells)) (P11) 52 (mZ.cells)) := HM11.out.rowNe (by have := HO.out; omega) _
          have HK : Hid (Kept No w (wk48.setRow P10 ((callI at0 x).cells))) := HK.out.newRow (by have := HO.out; omega) _
          generalize wk48.setRow P10 ((callI at0 x).cells) = wk49 at HA HS HN HM8 HN10 HM11 HK HLT ⊢
          refine wp_storeW 52 _ _ rfl ⟨P11, 0, none⟩ (.agg (callM at0 x).cells) (by kernel_rfl) (by kernel_rfl) _ (store_M HM11.out rfl) (by kernel_rfl) ?_
          try simp only [Act.put, sA, s0, s1]
          have HLT : Hid (P11 < (wk49.setRow P11 ((callM at0 x).cells)).heap.size) := by show _ < _; rw [setRow_size]; exact HLT.out
          have HA : Hid (Box (wk49.setRow P11 ((callM at0 x).cells)) (N) 29 (at0.cells)) := HA.out.rowNe (by have := HO.out; omega) _
          have HS : Hid (Box (wk49.setRow P11 ((callM at0 x).cells)) (S7) 38 (x.cells)) := HS.out.rowNe (by have := HO.out; omega) _
          have HN : Hid (Box (wk49.setRow P11 ((callM at0 x).cells)) (P7) 29 ((callI at0 x).cells)) := HN.out.rowNe (by have := HO.out; omega) _
          have HM8 : Hid (Box (wk49.setRow P11 ((callM at0 x).cells)) (P8) 52 ((callM at0 x).cells)) := HM8.out.rowNe (by have := HO.out; omega) _
          have HN10 : Hid (Box (wk49.setRow P11 ((callM at0 x).cells)) (P10) 29 ((callI at0 x).cells)) := HN10.out.rowNe (by have := HO.out; omega) _
          have HM11 : Hid (Box (wk49.setRow P11 ((callM at0 x).cells)) (P11) 52 ((callM at0 x).cells)) := HM11.out.setRow _
          have HK : Hid (Kept No w (wk49.setRow P11 ((callM at0 x).cells))) := HK.out.newRow (by have := HO.out; omega) _
          generalize wk49.setRow P11 ((callM at0 x).cells) = wk50 at HA HS HN HM8 HN10 HM11 HK HLT ⊢
          refine wp_takeW (.bool (callB at0 x)) (by kernel_rfl) (by kernel_rfl) ?_
          try simp only [Act.put, sA, s0, s1]
          refine WL.nil ?_
          try simp only [Act.put, sA, s0, s1]
          go_upto_region 12 with fail
          refine WL.start ?_
          refine wp_takeW (.agg ((callI at0 x).cells)) (exec_load 29 _ rfl ⟨P7, 0, none⟩ (by kernel_rfl) (.agg ((callI at0 x).cells)) (load_I HN.out)) (by kernel_rfl) ?_
          try simp only [Act.put, sA, s0, s1]
          refine wp_takeW (.agg ((callI at0 x).cells)) (exec_load 29 _ rfl ⟨P10, 0, none⟩ (by kernel_rfl) (.agg ((callI at0 x).cells)) (load_I HN10.out)) (by kernel_rfl) ?_
          try simp only [Act.put, sA, s0, s1]
          refine wp_takeW (.bool false) (exec_bin .neq 29 _ _ _ rfl (.agg ((callI at0 x).cells)) (.agg ((callI at0 x).cells)) (.bool false) (by kernel_rfl) (by kernel_rfl) (guard_I _ (.inr rfl) _ _ _ _ _) (by rw [neqI, eqI_refl]; rfl)) (by kernel_rfl) ?_
          try simp only [Act.put, sA, s0, s1]
          refine wp_takeW (.bool false) (by kernel_rfl) (by kernel_rfl) ?_
          try simp only [Act.put, sA, s0, s1]
          refine wp_takeW (.bool (callB at0 x)) (by kernel_rfl) (by kernel_rfl) ?_
          try simp only [Act.put, sA, s0, s1]
          refine wp_takeW (.bool (callB at0 x)) (by kernel_rfl) (by kernel_rfl) ?_
          try simp only [Act.put, sA, s0, s1]
          refine wp_takeW (.bool false) (exec_bin .neq 4 _ _ _ rfl (.bool (callB at0 x)) (.bool (callB at0 x)) (.bool false) (by kernel_rfl) (by kernel_rfl) (by kernel_rfl) (by rw [neqB, beq_self_eq_true]; rfl)) (by kernel_rfl) ?_
          try simp only [Act.put, sA, s0, s1]
          refine wp_takeW (.bool false) (by kernel_rfl) (by kernel_rfl) ?_
          try simp only [Act.put, sA, s0, s1]
          refine wp_takeW (.bool false) (by kernel_rfl) (by kernel_rfl) ?_
          try simp only [Act.put, sA, s0, s1]
          refine wp_takeW (.pointer (some ⟨P8, 0, none⟩)) (by kernel_rfl) (by kernel_rfl) ?_
          try simp only [Act.put, sA, s0, s1]
          refine wp_takeW (.int .i64 (callM at0 x).k) (exec_load 3 _ rfl ⟨P8, 0, none⟩ (by kernel_rfl) (.int .i64 (callM at0 x).k) (load_N (Mg.cel HM8.out).1)) (by kernel_rfl) ?_
          try simp only [Act.put, sA, s0, s1]
          refine wp_takeW (.pointer (some ⟨P11, 0, none⟩)) (by kernel_rfl) (by kernel_rfl) ?_
          try simp only [Act.put, sA, s0, s1]
          refine wp_takeW (.int .i64 (callM at0 x).k) (exec_load 3 _ rfl ⟨P11, 0, none⟩ (by kernel_rfl) (.int .i64 (callM at0 x).k) (load_N (Mg.cel HM11.out).1)) (by kernel_rfl) ?_
          try simp only [Act.put, sA, s0, s1]
          refine wp_takeW (.bool false) (exec_bin .neq 3 _ _ _ rfl (.int .i64 (callM at0 x).k) (.int .i64 (callM at0 x).k) (.bool false) (by kernel_rfl) (by kernel_rfl) (by kernel_rfl) (by rw [neqN, beq_self_eq_true]; rfl)) (by kernel_rfl) ?_
          try simp only [Act.put, sA, s0, s1]
          refine wp_takeW (.bool false) (by kernel_rfl) (by kernel_rfl) ?_
          try simp only [Act.put, sA, s0, s1]
          refine wp_takeW (.bool false) (by kernel_rfl) (by kernel_rfl) ?_
          try simp only [Act.put, sA, s0, s1]
          refine wp_takeW (.pointer (some ⟨P8, 11, none⟩)) (by kernel_rfl) (by kernel_rfl) ?_
          try simp only [Act.put, sA, s0, s1]
          refine wp_takeW (.agg #[.int .i64 (callM at0 x).s.n, .int .i64 (callM at0 x).s.c]) (exec_load 23 _ rfl ⟨P8, 11, none⟩ (by kernel_rfl) (.agg #[.int .i64 (callM at0 x).s.n, .int .i64 (callM at0 x).s.c]) (load_S HM8.out (Mg.partS _))) (by kernel_rfl) ?_
          try simp only [Act.put, sA, s0, s1]
          refine wp_takeW (.pointer (some ⟨P11, 11, none⟩)) (by kernel_rfl) (by kernel_rfl) ?_
          try simp only [Act.put, sA, s0, s1]
          refine wp_takeW (.agg #[.int .i64 (callM at0 x).s.n, .int .i64 (callM at0 x).s.c]) (exec_load 23 _ rfl ⟨P11, 11, none⟩ (by kernel_rfl) (.agg #[.int .i64 (callM at0 x).s.n, .int .i64 (callM at0 x).s.c]) (load_S HM11.out (Mg.partS _))) (by kernel_rfl) ?_
          try simp only [Act.put, sA, s0, s1]
          refine wp_takeW (.bool false) (exec_bin .neq 23 _ _ _ rfl (.agg #[.int .i64 (callM at0 x).s.n, .int .i64 (callM at0 x).s.c]) (.agg #[.int .i64 (callM at0 x).s.n, .int .i64 (callM at0 x).s.c]) (.bool false) (by kernel_rfl) (by kernel_rfl) (guard_S _ (.inr rfl) _ _ _ _ _) (by rw [neqS (callM at0 x).s (callM at0 x).s, eqS_refl]; rfl)) (by kernel_rfl) ?_
          try simp only [Act.put, sA, s0, s1]
          refine wp_takeW (.bool false) (by kernel_rfl) (by kernel_rfl) ?_
          try simp only [Act.put, sA, s0, s1]
          refine wp_takeW (.bool false) (by kernel_rfl) (by kernel_rfl) ?_
          try simp only [Act.put, sA, s0, s1]
          refine wp_takeW (.pointer (some ⟨P8, 13, none⟩)) (by kernel_rfl) (by kernel_rfl) ?_
          try simp only [Act.put, sA, s0, s1]
          refine wp_takeW (.agg #[.int .i64 (callM at0 x).h.n, .int .i64 (callM at0 x).h.c]) (exec_load 23 _ rfl ⟨P8, 13, none⟩ (by kernel_rfl) (.agg #[.int .i64 (callM at0 x).h.n, .int .i64 (callM at0 x).h.c]) (load_S HM8.out (Mg.partH _))) (by kernel_rfl) ?_
          try simp only [Act.put, sA, s0, s1]
          refine wp_takeW (.pointer (some ⟨P11, 13, none⟩)) (by kernel_rfl) (by kernel_rfl) ?_
          try simp only [Act.put, sA, s0, s1]
          refine wp_takeW (.agg #[.int .i64 (callM at0 x).h.n, .int .i64 (callM at0 x).h.c]) (exec_load 23 _ rfl ⟨P11, 13, none⟩ (by kernel_rfl) (.agg #[.int .i64 (callM at0 x).h.n, .int .i64 (callM at0 x).h.c]) (load_S HM11.out (Mg.partH _))) (by kernel_rfl) ?_
          try simp only [Act.put, sA, s0, s1]
          refine wp_takeW (.bool false) (exec_bin .neq 23 _ _ _ rfl (.agg #[.int .i64 (callM at0 x).h.n, .int .i64 (callM at0 x).h.c]) (.agg #[.int .i64 (callM at0 x).h.n, .int .i64 (callM at0 x).h.c]) (.bool false) (by kernel_rfl) (by kernel_rfl) (guard_S _ (.inr rfl) _ _ _ _ _) (by rw [neqS (callM at0 x).h (callM at0 x).h, eqS_refl]; rfl)) (by kernel_rfl) ?_
          try simp only [Act.put, sA, s0, s1]
          refine wp_takeW (.bool false) (by kernel_rfl) (by kernel_rfl) ?_
          try simp only [Act.put, sA, s0, s1]
          refine wp_takeW (.bool false) (by kernel_rfl) (by kernel_rfl) ?_
          try simp only [Act.put, sA, s0, s1]
          refine wp_takeW (.pointer (some ⟨P8, 16, none⟩)) (by kernel_rfl) (by kernel_rfl) ?_
          try simp only [Act.put, sA, s0, s1]
          refine wp_takeW (.agg (callM at0 x).c.cells) (exec_load 27 _ rfl ⟨P8, 16, none⟩ (by kernel_rfl) (.agg (callM at0 x).c.cells) (load_MC HM8.out)) (by kernel_rfl) ?_
          try simp only [Act.put, sA, s0, s1]
          refine wp_takeW (.pointer (some ⟨P11, 16, none⟩)) (by kernel_rfl) (by kernel_rfl) ?_
          try simp only [Act.put, sA, s0, s1]
          refine wp_takeW (.agg (callM at0 x).c.cells) (exec_load 27 _ rfl ⟨P11, 16, none⟩ (by kernel_rfl) (.agg (callM at0 x).c.cells) (load_MC HM11.out)) (by kernel_rfl) ?_
          try simp only [Act.put, sA, s0, s1]
          refine wp_takeW (.bool false) (exec_bin .neq 27 _ _ _ rfl (.agg (callM at0 x).c.cells) (.agg (callM at0 x).c.cells) (.bool false) (by kernel_rfl) (by kernel_rfl) (guard_C _ (.inr rfl) _ _ _ _ _) (by rw [neqC, eqC_refl]; rfl)) (by kernel_rfl) ?_
          try simp only [Act.put, sA, s0, s1]
          refine wp_takeW (.bool false) (by kernel_rfl) (by kernel_rfl) ?_
          try simp only [Act.put, sA, s0, s1]
          refine WL.nil ?_
          try simp only [Act.put, sA, s0, s1]
          go_upto_region 14 with fail
          refine wp_region_held_drew (S := fun w' => Box w' (N) 29 (at0.cells) ∧ Box w' (P7) 29 ((callI at0 x).cells)) rfl ⟨HA.out, HN.out⟩ (fun hH => ?_)
          have HA : Hid (Box wk50.drew (N) 29 (at0.cells)) := HA.out
          have HS : Hid (Box wk50.drew (S7) 38 (x.cells)) := HS.out
          have HN : Hid (Box wk50.drew (P7) 29 ((callI at0 x).cells)) := HN.out
          have HM8 : Hid (Box wk50.drew (P8) 52 ((callM at0 x).cells)) := HM8.out
          have HN10 : Hid (Box wk50.drew (P10) 29 ((callI at0 x).cells)) := HN10.out
          have HM11 : Hid (Box wk50.drew (P11) 52 ((callM at0 x).cells)) := HM11.out
          have HK : Hid (Kept No w wk50.drew) := HK.out.drew
          have HLT : Hid (P11 < wk50.drew.heap.size) := HLT.out
          generalize wk50.drew = wk51 at HA HS HN HM8 HN10 HM11 HK HLT hH ⊢
          refine any_take (i := 0) (oi := { dst := some 100, op := Op.load 29 (Operand.tmp 7), type := 29, pos := "outright.go:30", after := #[], guard := none }) (v := .agg ((callI at0 x).cells)) rfl (by kernel_rfl) (by kernel_rfl) (by kernel_rfl) (fun _ _ _ h => h) (by kernel_rfl) (fun w' hw => exec_load 29 _ rfl ⟨P7, 0, none⟩ (by kernel_rfl) (.agg ((callI at0 x).cells)) (load_I hw.2)) hH ?_
          try simp only [Act.put, sA, s0, s1]
          refine any_call (i := 1) (o := { dst := some 101, op := Op.call { callee := Callee.value (Operand.func 8), args := #[], argTypes := #[] }, type := 35, pos := "outright.go:30", after := #[], guard := none }) rfl (by kernel_rfl) (by kernel_rfl) 8 #[] (by kernel_rfl) _ (wide_any _) ?_
          rintro e wk53 ⟨wa52, rfl, hk⟩
          have HA : Hid (Box wk53 (N) 29 (at0.cells)) := HA.out.kept hk (fun e => e)
          have HS : Hid (Box wk53 (S7) 38 (x.cells)) := HS.out.kept hk (fun e => e)
          have HN : Hid (Box wk53 (P7) 29 ((callI at0 x).cells)) := HN.out.kept hk (fun e => e)
          have HM8 : Hid (Box wk53 (P8) 52 ((callM at0 x).cells)) := HM8.out.kept hk (fun e => e)
          have HN10 : Hid (Box wk53 (P10) 29 ((callI at0 x).cells)) := HN10.out.kept hk (fun e => e)
          have HM11 : Hid (Box wk53 (P11) 52 ((callM at0 x).cells)) := HM11.out.kept hk (fun e => e)
          have HK : Hid (Kept No w wk53) := HK.out.then hk
          have HLT : Hid (P11 < wk53.heap.size) := Nat.lt_of_lt_of_le HLT.out hk.size
          clear hk
          refine ⟨.agg (wideC wa52), rfl, ⟨HA.out, HN.out⟩, fun hH => ?_⟩
          try simp only [Act.put, sA, s0, s1]
          refine any_call (i := 2) (o := { dst := some 102, op := Op.call { callee := Callee.value (Operand.func 7), args := #[Operand.tmp 100, Operand.tmp 101], argTypes := #[29, 35] }, type := 4, pos := "outright.go:30", after := #[{ on := 0, ground := Ground.data }, { on := 1, ground := Ground.data }, { on := 1, ground := Ground.chain }], guard := none }) rfl (by kernel_rfl) (by kernel_rfl) 7 #[.agg ((callI at0 x).cells), .agg (wideC wa52)] (by kernel_rfl) _ (inst_any (callI at0 x) wa52 _) ?_
          rintro e wk54 ⟨rfl, hk⟩
          have HA : Hid (Box wk54 (N) 29 (at0.cells)) := HA.out.kept hk (fun e => e)
          have HS : Hid (Box wk54 (S7) 38 (x.cells)) := HS.out.kept hk (fun e => e)
          have HN : Hid (Box wk54 (P7) 29 ((callI at0 x).cells)) := HN.out.kept hk (fun e => e)
          have HM8 : Hid (Box wk54 (P8) 52 ((callM at0 x).cells)) := HM8.out.kept hk (fun e => e)
          have HN10 : Hid (Box wk54 (P10) 29 ((callI at0 x).cells)) := HN10.out.kept hk (fun e => e)
          have HM11 : Hid (Box wk54 (P11) 52 ((callM at0 x).cells)) := HM11.out.kept hk (fun e => e)
          have HK : Hid (Kept No w wk54) := HK.out.then hk
          have HLT : Hid (P11 < wk54.heap.size) := Nat.lt_of_lt_of_le HLT.out hk.size
          clear hk
          refine ⟨.bool true, by rw [HIC.out], ⟨HA.out, HN.out⟩, fun hH => ?_⟩
          try simp only [Act.put, sA, s0, s1]
          refine any_take (i := 3) (oi := { dst := some 103, op := Op.unOp UnOp.not 4 (Operand.tmp 102), type := 4, pos := "outright.go:30", after := #[{ on := 2, ground := Ground.data }], guard := none }) (v := .bool false) rfl (by kernel_rfl) (by kernel_rfl) (by kernel_rfl) (fun _ _ _ h => h) (by kernel_rfl) (fun _ _ => by kernel_rfl) hH ?_
          try simp only [Act.put, sA, s0, s1]
          refine any_take (i := 4) (oi := { dst := some 104, op := Op.move (Operand.tmp 103), type := 4, pos := "outright.go:30", after := #[{ on := 3, ground := Ground.data }, { on := 2, ground := Ground.chain }], guard := none }) (v := .bool false) rfl (by kernel_rfl) (by kernel_rfl) (by kernel_rfl) (fun _ _ _ h => h) (by kernel_rfl) (fun _ _ => by kernel_rfl) hH ?_
          try simp only [Act.put, sA, s0, s1]
          refine any_take (i := 5) (oi := { dst := some 105, op := Op.move (Operand.tmp 9), type := 4, pos := "outright.go:30", after := #[{ on := 4, ground := Ground.guard }], guard := some (4, false) }) (v := .bool (callB at0 x)) rfl (by kernel_rfl) (by kernel_rfl) (by kernel_rfl) (fun _ _ _ h => h) (by kernel_rfl) (fun _ _ => by kernel_rfl) hH ?_
          try simp only [Act.put, sA, s0, s1]
          refine any_take (i := 6) (oi := { dst := some 106, op := Op.load 29 (Operand.tmp 7), type := 29, pos := "outright.go:30", after := #[{ on := 4, ground := Ground.guard }], guard := some (4, false) }) (v := .agg ((callI at0 x).cells)) rfl (by kernel_rfl) (by kernel_rfl) (by kernel_rfl) (fun _ _ _ h => h) (by kernel_rfl) (fun w' hw => exec_load 29 _ rfl ⟨P7, 0, none⟩ (by kernel_rfl) (.agg ((callI at0 x).cells)) (load_I hw.2)) hH ?_
          try simp only [Act.put, sA, s0, s1]
          refine any_take (i := 7) (oi := { dst := some 107, op := Op.load 29 (Operand.tmp 2), type := 29, pos := "outright.go:30", after := #[{ on := 4, ground := Ground.guard }], guard := some (4, false) }) (v := .agg at0.cells) rfl (by kernel_rfl) (by kernel_rfl) (by kernel_rfl) (fun _ _ _ h => h) (by kernel_rfl) (fun w' hw => exec_load 29 _ rfl ⟨N, 0, none⟩ (by kernel_rfl) (.agg at0.cells) (load_I hw.1)) hH ?_
          try simp only [Act.put, sA, s0, s1]
          refine any_take (i := 8) (oi := { dst := some 108, op := Op.binOp BinOp.neq 29 (Operand.tmp 106) (Operand.tmp 107) 29, type := 4, pos := "outright.go:30", after := #[{ on := 6, ground := Ground.data }, { on := 7, ground := Ground.data }, { on := 4, ground := Ground.guard }], guard := some (4, false) }) (v := .bool (!eqI (callI at0 x) at0)) rfl (by kernel_rfl) (by kernel_rfl) (by kernel_rfl) (fun _ _ _ h => h) (by kernel_rfl) (fun w' hw => exec_bin .neq 29 _ _ _ rfl (.agg ((callI at0 x).cells)) (.agg at0.cells) (.bool (!eqI (callI at0 x) at0)) (by kernel_rfl) (by kernel_rfl) (guard_I _ (.inr rfl) _ _ _ _ _) (neqI _ _ _)) hH ?_
          try simp only [Act.put, sA, s0, s1]
          refine any_take (i := 9) (oi := { dst := some 109, op := Op.binOp BinOp.neq 4 (Operand.tmp 105) (Operand.tmp 108) 4, type := 4, pos := "outright.go:30", after := #[{ on := 5, ground := Ground.data }, { on := 8, ground := Ground.data }, { on := 4, ground := Ground.guard }], guard := some (4, false) }) (v := .bool false) rfl (by kernel_rfl) (by kernel_rfl) (by kernel_rfl) (fun _ _ _ h => h) (by kernel_rfl) (fun w' hw => exec_bin .neq 4 _ _ _ rfl (.bool (callB at0 x)) (.bool (!eqI (callI at0 x) at0)) (.bool false) (by kernel_rfl) (by kernel_rfl) (by kernel_rfl) (by rw [neqB, callB_eq, beq_self_eq_true]; rfl)) hH ?_
          try simp only [Act.put, sA, s0, s1]
          refine any_take (i := 10) (oi := { dst := some 110, op := Op.pick (Operand.tmp 104) (Operand.const (Value.bool true)) (Operand.tmp 109), type := 4, pos := "outright.go:30", after := #[{ on := 4, ground := Ground.data }, { on := 9, ground := Ground.data }], guard := none }) (v := .bool false) rfl (by kernel_rfl) (by kernel_rfl) (by kernel_rfl) (fun _ _ _ h => h) (by kernel_rfl) (fun _ _ => by kernel_rfl) hH ?_
          try simp only [Act.put, sA, s0, s1]
          refine any_take (i := 11) (oi := { dst := some 111, op := Op.move (Operand.tmp 110), type := 4, pos := "outright.go:30", after := #[{ on := 10, ground := Ground.data }, { on := 4, ground := Ground.chain }], guard := none }) (v := .bool false) rfl (by kernel_rfl) (by kernel_rfl) (by kernel_rfl) (fun _ _ _ h => h) (by kernel_rfl) (fun _ _ => by kernel_rfl) hH ?_
          try simp only [Act.put, sA, s0, s1]
          refine any_take (i := 12) (oi := { dst := some 112, op := Op.fieldAddr 29 (Operand.tmp 2) 3, type := 0, pos := "outright.go:30", after := #[{ on := 11, ground := Ground.guard }], guard := some (11, false) }) (v := .pointer (some ⟨N, 13, none⟩)) rfl (by kernel_rfl) (by kernel_rfl) (by kernel_rfl) (fun _ _ _ h => h) (by kernel_rfl) (fun _ _ => by kernel_rfl) hH ?_
          try simp only [Act.put, sA, s0, s1]
          cases q12 : (at0.d)
          ·skip
           refine any_take (i := 13) (oi := { dst := some 113, op := Op.load 4 (Operand.tmp 112), type := 4, pos := "outright.go:30", after := #[{ on := 12, ground := Ground.data }, { on := 11, ground := Ground.guard }], guard := some (11, false) }) (v := .bool false) rfl (by kernel_rfl) (by kernel_rfl) (by kernel_rfl) (fun _ _ _ h => h) (by kernel_rfl) (fun w' hw => exec_load 4 _ rfl ⟨N, 13, none⟩ (by kernel_rfl) (.bool false) (by rw [← q12]; exact load_B (In.cel hw.1).2.2.2.2)) hH ?_
           try simp only [Act.put, sA, s0, s1]
           refine any_take (i := 14) (oi := { dst := some 114, op := Op.move (Operand.tmp 113), type := 4, pos := "outright.go:30", after := #[{ on := 13, ground := Ground.data }, { on := 11, ground := Ground.chain }, { on := 11, ground := Ground.guard }], guard := some (11, false) }) (v := .bool false) rfl (by kernel_rfl) (by kernel_rfl) (by kernel_rfl) (fun _ _ _ h => h) (by kernel_rfl) (fun _ _ => by kernel_rfl) hH ?_
           try simp only [Act.put, sA, s0, s1]
           refine any_skip (i := 15) (oi := { dst := some 115, op := Op.move (Operand.tmp 9), type := 4, pos := "outright.go:30", after := #[{ on := 14, ground := Ground.guard }], guard := some (14, true) }) rfl (by kernel_rfl) (by kernel_rfl) (by kernel_rfl) (fun _ _ _ h => h) (by kernel_rfl) hH ?_
           try simp only [Act.put, sA, s0, s1]
           refine any_take (i := 16) (oi := { dst := some 116, op := Op.pick (Operand.tmp 114) (Operand.tmp 115) (Operand.const (Value.bool false)), type := 4, pos := "outright.go:30", after := #[{ on := 14, ground := Ground.data }, { on := 15, ground := Ground.data }, { on := 11, ground := Ground.guard }], guard := some (11, false) }) (v := .bool false) rfl (by kernel_rfl) (by kernel_rfl) (by kernel_rfl) (fun _ _ _ h => h) (by kernel_rfl) (fun _ _ => by kernel_rfl) hH ?_
           try simp only [Act.put, sA, s0, s1]
           refine any_take (i := 17) (oi := { dst := some 117, op := Op.pick (Operand.tmp 111) (Operand.const (Value.bool true)) (Operand.tmp 116), type := 4, pos := "outright.go:30", after := #[{ on := 11, ground := Ground.data }, { on := 16, ground := Ground.data }], guard := none }) (v := .bool false) rfl (by kernel_rfl) (by kernel_rfl) (by kernel_rfl) (fun _ _ _ h => h) (by kernel_rfl) (fun _ _ => by kernel_rfl) hH ?_
           try simp only [Act.put, sA, s0, s1]
           refine wpAnyH_done (by kernel_rfl) ?_ _
           try simp only [Act.put, sA, s0, s1]
           go_upto_region 16 with fail
           refine WL.start ?_
           refine wp_takeW (.pointer (some ⟨P7, 13, none⟩)) (by kernel_rfl) (by kernel_rfl) ?_
           try simp only [Act.put, sA, s0, s1]
           cases q13 : ((callI at0 x).d)
           ·skip
            refine wp_takeW (.bool false) (exec_load 4 _ rfl ⟨P7, 13, none⟩ (by kernel_rfl) (.bool false) (by rw [← q13]; exact load_B (In.cel HN.out).2.2.2.2)) (by kernel_rfl) ?_
            try simp only [Act.put, sA, s0, s1]
            refine wp_takeW (.bool true) (by kernel_rfl) (by kernel_rfl) ?_
            try simp only [Act.put, sA, s0, s1]
            refine wp_takeW (.bool true) (by kernel_rfl) (by kernel_rfl) ?_
            try simp only [Act.put, sA, s0, s1]
            refine wp_takeW (.pointer (some ⟨N, 0, none⟩)) (by kernel_rfl) (by kernel_rfl) ?_
            try simp only [Act.put, sA, s0, s1]
            refine wp_takeW (.agg #[.int .i64 at0.p.n, .int .i64 at0.p.c]) (exec_load 23 _ rfl ⟨N, 0, none⟩ (by kernel_rfl) (.agg #[.int .i64 at0.p.n, .int .i64 at0.p.c]) (load_S HA.out (In.partP _))) (by kernel_rfl) ?_
            try simp only [Act.put, sA, s0, s1]
            refine wp_takeW (.pointer (some ⟨P7, 0, none⟩)) (by kernel_rfl) (by kernel_rfl) ?_
            try simp only [Act.put, sA, s0, s1]
            refine wp_takeW (.agg #[.int .i64 (callI at0 x).p.n, .int .i64 (callI at0 x).p.c]) (exec_load 23 _ rfl ⟨P7, 0, none⟩ (by kernel_rfl) (.agg #[.int .i64 (callI at0 x).p.n, .int .i64 (callI at0 x).p.c]) (load_S HN.out (In.partP _))) (by kernel_rfl) ?_
            try simp only [Act.put, sA, s0, s1]
            refine wp_callW 19 #[.agg #[.int .i64 at0.p.n, .int .i64 at0.p.c], .agg #[.int .i64 (callI at0 x).p.n, .int .i64 (callI at0 x).p.c]] (by kernel_rfl) _ (above_any at0.p.n at0.p.c (callI at0 x).p.n (callI at0 x).p.c _) (by kernel_rfl) ?_
            rintro e wk55 ⟨rfl, hk⟩
            have HA : Hid (Box wk55 (N) 29 (at0.cells)) := HA.out.kept hk (fun e => e)
            have HS : Hid (Box wk55 (S7) 38 (x.cells)) := HS.out.kept hk (fun e => e)
            have HN : Hid (Box wk55 (P7) 29 ((callI at0 x).cells)) := HN.out.kept hk (fun e => e)
            have HM8 : Hid (Box wk55 (P8) 52 ((callM at0 x).cells)) := HM8.out.kept hk (fun e => e)
            have HN10 : Hid (Box wk55 (P10) 29 ((callI at0 x).cells)) := HN10.out.kept hk (fun e => e)
            have HM11 : Hid (Box wk55 (P11) 52 ((callM at0 x).cells)) := HM11.out.kept hk (fun e => e)
            have HK : Hid (Kept No w wk55) := HK.out.then hk
            have HLT : Hid (P11 < wk55.heap.size) := Nat.lt_of_lt_of_le HLT.out hk.size
            clear hk
            refine ⟨.bool false, by rw [show lessB (callI at0 x).p.n (callI at0 x).p.c at0.p.n at0.p.c = false from (call_up HIN.out q13).1], ?_⟩
            try simp only [Act.put, sA, s0, s1]
            refine wp_takeW (.bool false) (by kernel_rfl) (by kernel_rfl) ?_
            try simp only [Act.put, sA, s0, s1]
            refine wp_takeW (.pointer (some ⟨N, 2, none⟩)) (by kernel_rfl) (by kernel_rfl) ?_
            try simp only [Act.put, sA, s0, s1]
            refine wp_takeW (.agg #[.int .i64 at0.a.n, .int .i64 at0.a.c]) (exec_load 23 _ rfl ⟨N, 2, none⟩ (by kernel_rfl) (.agg #[.int .i64 at0.a.n, .int .i64 at0.a.c]) (load_S HA.out (In.partA _))) (by kernel_rfl) ?_
            try simp only [Act.put, sA, s0, s1]
            refine wp_takeW (.pointer (some ⟨P7, 2, none⟩)) (by kernel_rfl) (by kernel_rfl) ?_
            try simp only [Act.put, sA, s0, s1]
            refine wp_takeW (.agg #[.int .i64 (callI at0 x).a.n, .int .i64 (callI at0 x).a.c]) (exec_load 23 _ rfl ⟨P7, 2, none⟩ (by kernel_rfl) (.agg #[.int .i64 (callI at0 x).a.n, .int .i64 (callI at0 x).a.c]) (load_S HN.out (In.partA _))) (by kernel_rfl) ?_
            try simp only [Act.put, sA, s0, s1]
            refine wp_callW 19 #[.agg #[.int .i64 at0.a.n, .int .i64 at0.a.c], .agg #[.int .i64 (callI at0 x).a.n, .int .i64 (callI at0 x).a.c]] (by kernel_rfl) _ (above_any at0.a.n at0.a.c (callI at0 x).a.n (callI at0 x).a.c _) (by kernel_rfl) ?_
            rintro e wk56 ⟨rfl, hk⟩
            have HA : Hid (Box wk56 (N) 29 (at0.cells)) := HA.out.kept hk (fun e => e)
            have HS : Hid (Box wk56 (S7) 38 (x.cells)) := HS.out.kept hk (fun e => e)
            have HN : Hid (Box wk56 (P7) 29 ((callI at0 x).cells)) := HN.out.kept hk (fun e => e)
            have HM8 : Hid (Box wk56 (P8) 52 ((callM at0 x).cells)) := HM8.out.kept hk (fun e => e)
            have HN10 : Hid (Box wk56 (P10) 29 ((callI at0 x).cells)) := HN10.out.kept hk (fun e => e)
            have HM11 : Hid (Box wk56 (P11) 52 ((callM at0 x).cells)) := HM11.out.kept hk (fun e => e)
            have HK : Hid (Kept No w wk56) := HK.out.then hk
            have HLT : Hid (P11 < wk56.heap.size) := Nat.lt_of_lt_of_le HLT.out hk.size
            clear hk
            refine ⟨.bool false, by rw [show lessB (callI at0 x).a.n (callI at0 x).a.c at0.a.n at0.a.c = false from (call_up HIN.out q13).2], ?_⟩
            try simp only [Act.put, sA, s0, s1]
            refine wp_takeW (.bool false) (by kernel_rfl) (by kernel_rfl) ?_
            try simp only [Act.put, sA, s0, s1]
            refine wp_takeW (.bool false) (by kernel_rfl) (by kernel_rfl) ?_
            try simp only [Act.put, sA, s0, s1]
            refine WL.nil ?_
            try simp only [Act.put, sA, s0, s1]
            go_upto_region 18 with fail
            refine WL.start ?_
            refine wp_takeW (.pointer (some ⟨S7, 0, none⟩)) (by kernel_rfl) (by kernel_rfl) ?_
            try simp only [Act.put, sA, s0, s1]
            refine wp_takeW (.int .i64 x.k) (exec_load 3 _ rfl ⟨S7, 0, none⟩ (by kernel_rfl) (.int .i64 x.k) (load_N (HS.out.cell 0))) (by kernel_rfl) ?_
            try simp only [Act.put, sA, s0, s1]
            refine wp_takeW (.bool true) (exec_bin .eql 3 _ _ _ rfl (.int .i64 x.k) (.int .i64 1) (.bool true) (by kernel_rfl) (by kernel_rfl) (by kernel_rfl) (by rw [eqlN, q4]; try rfl)) (by kernel_rfl) ?_
            try simp only [Act.put, sA, s0, s1]
            refine wp_takeW (.bool true) (by kernel_rfl) (by kernel_rfl) ?_
            try simp only [Act.put, sA, s0, s1]
            refine wp_skip (by kernel_rfl) ?_
            try simp only [Act.put, sA, s0, s1]
            refine wp_skip (by kernel_rfl) ?_
            try simp only [Act.put, sA, s0, s1]
            refine wp_skip (by kernel_rfl) ?_
            try simp only [Act.put, sA, s0, s1]
            refine wp_takeW (.bool true) (by kernel_rfl) (by kernel_rfl) ?_
            try simp only [Act.put, sA, s0, s1]
            refine wp_takeW (.bool true) (by kernel_rfl) (by kernel_rfl) ?_
            try simp only [Act.put, sA, s0, s1]
            refine wp_takeW (.agg at0.cells) (exec_load 29 _ rfl ⟨N, 0, none⟩ (by kernel_rfl) (.agg at0.cells) (load_I HA.out)) (by kernel_rfl) ?_
            try simp only [Act.put, sA, s0, s1]
            refine wp_takeW (.agg ((callI at0 x).cells)) (exec_load 29 _ rfl ⟨P7, 0, none⟩ (by kernel_rfl) (.agg ((callI at0 x).cells)) (load_I HN.out)) (by kernel_rfl) ?_
            try simp only [Act.put, sA, s0, s1]
            refine wp_takeW (.agg ((callM at0 x).cells)) (exec_load 52 _ rfl ⟨P8, 0, none⟩ (by kernel_rfl) (.agg ((callM at0 x).cells)) (load_M HM8.out)) (by kernel_rfl) ?_
            try simp only [Act.put, sA, s0, s1]
            refine wp_takeW (.agg x.cells) (exec_load 38 _ rfl ⟨S7, 0, none⟩ (by kernel_rfl) (.agg x.cells) (load_Xb HS.out)) (by kernel_rfl) ?_
            try simp only [Act.put, sA, s0, s1]
            refine wp_callW 20 #[.agg at0.cells, .agg ((callI at0 x).cells), .agg ((callM at0 x).cells), .agg x.cells] (by kernel_rfl) _ (told_any at0 (callI at0 x) (callM at0 x) x _) (by kernel_rfl) ?_
            rintro e wk57 ⟨rfl, hk⟩
            have HA : Hid (Box wk57 (N) 29 (at0.cells)) := HA.out.kept hk (fun e => e)
            have HS : Hid (Box wk57 (S7) 38 (x.cells)) := HS.out.kept hk (fun e => e)
            have HN : Hid (Box wk57 (P7) 29 ((callI at0 x).cells)) := HN.out.kept hk (fun e => e)
            have HM8 : Hid (Box wk57 (P8) 52 ((callM at0 x).cells)) := HM8.out.kept hk (fun e => e)
            have HN10 : Hid (Box wk57 (P10) 29 ((callI at0 x).cells)) := HN10.out.kept hk (fun e => e)
            have HM11 : Hid (Box wk57 (P11) 52 ((callM at0 x).cells)) := HM11.out.kept hk (fun e => e)
            have HK : Hid (Kept No w wk57) := HK.out.then hk
            have HLT : Hid (P11 < wk57.heap.size) := Nat.lt_of_lt_of_le HLT.out hk.size
            clear hk
            refine ⟨.bool true, by rw [told_true at0 x (.inl q4)], ?_⟩
            try simp only [Act.put, sA, s0, s1]
            refine wp_takeW (.bool false) (by kernel_rfl) (by kernel_rfl) ?_
            try simp only [Act.put, sA, s0, s1]
            refine wp_takeW (.bool false) (by kernel_rfl) (by kernel_rfl) ?_
            try simp only [Act.put, sA, s0, s1]
            refine WL.nil ?_
            try simp only [Act.put, sA, s0, s1]
            go_upto_region 20 with fail
            refine WL.start ?_
            refine wp_takeW (.agg ((callI at0 x).cells)) (exec_load 29 _ rfl ⟨P7, 0, none⟩ (by kernel_rfl) (.agg ((callI at0 x).cells)) (load_I HN.out)) (by kernel_rfl) ?_
            try simp only [Act.put, sA, s0, s1]
            refine wp_storeW 29 _ _ rfl ⟨N, 0, none⟩ (.agg ((callI at0 x).cells)) (by kernel_rfl) (by kernel_rfl) _ (store_I HA.out rfl) (by kernel_rfl) ?_
            try simp only [Act.put, sA, s0, s1]
            have HLT : Hid (P11 < (wk57.setRow N ((callI at0 x).cells)).heap.size) := by show _ < _; rw [setRow_size]; exact HLT.out
            have HA : Hid (Box (wk57.setRow N ((callI at0 x).cells)) (N) 29 ((callI at0 x).cells)) := HA.out.setRow _
            have HS : Hid (Box (wk57.setRow N ((callI at0 x).cells)) (S7) 38 (x.cells)) := HS.out.rowNe (by have := HO.out; omega) _
            have HN : Hid (Box (wk57.setRow N ((callI at0 x).cells)) (P7) 29 ((callI at0 x).cells)) := HN.out.rowNe (by have := HO.out; omega) _
            have HM8 : Hid (Box (wk57.setRow N ((callI at0 x).cells)) (P8) 52 ((callM at0 x).cells)) := HM8.out.rowNe (by have := HO.out; omega) _
            have HN10 : Hid (Box (wk57.setRow N ((callI at0 x).cells)) (P10) 29 ((callI at0 x).cells)) := HN10.out.rowNe (by have := HO.out; omega) _
            have HM11 : Hid (Box (wk57.setRow N ((callI at0 x).cells)) (P11) 52 ((callM at0 x).cells)) := HM11.out.rowNe (by have := HO.out; omega) _
            have HK : Hid (Kept No w (wk57.setRow N ((callI at0 x).cells))) := HK.out.newRow (by have := HO.out; omega) _
            generalize wk57.setRow N ((callI at0 x).cells) = wk58 at HA HS HN HM8 HN10 HM11 HK HLT ⊢
            refine WL.nil ?_
            try simp only [Act.put, sA, s0, s1]
            have HF : Hid (AtI w N wk58 (fun i => instB i = true)) := ⟨_, HA.out, HK.out, Nat.lt_of_le_of_lt (by have := HO.out; omega) HLT.out, HIC.out⟩
            go_wp2
            go_roundw
            case measure => simp [intOf]; omega
            case rel => exact ⟨k + 1, by go_num, by omega, HF⟩
           ·skip
            refine wp_takeW (.bool true) (exec_load 4 _ rfl ⟨P7, 13, none⟩ (by kernel_rfl) (.bool true) (by rw [← q13]; exact load_B (In.cel HN.out).2.2.2.2)) (by kernel_rfl) ?_
            try simp only [Act.put, sA, s0, s1]
            refine wp_takeW (.bool false) (by kernel_rfl) (by kernel_rfl) ?_
            try simp only [Act.put, sA, s0, s1]
            refine wp_takeW (.bool false) (by kernel_rfl) (by kernel_rfl) ?_
            try simp only [Act.put, sA, s0, s1]
            refine wp_skip (by kernel_rfl) ?_
            try simp only [Act.put, sA, s0, s1]
            refine wp_skip (by kernel_rfl) ?_
            try simp only [Act.put, sA, s0, s1]
            refine wp_skip (by kernel_rfl) ?_
            try simp only [Act.put, sA, s0, s1]
            refine wp_skip (by kernel_rfl) ?_
            try simp only [Act.put, sA, s0, s1]
            refine wp_skip (by kernel_rfl) ?_
            try simp only [Act.put, sA, s0, s1]
            refine wp_skip (by kernel_rfl) ?_
            try simp only [Act.put, sA, s0, s1]
            refine wp_skip (by kernel_rfl) ?_
            try simp only [Act.put, sA, s0, s1]
            refine wp_skip (by kernel_rfl) ?_
            try simp only [Act.put, sA, s0, s1]
            refine wp_skip (by kernel_rfl) ?_
            try simp only [Act.put, sA, s0, s1]
            refine wp_skip (by kernel_rfl) ?_
            try simp only [Act.put, sA, s0, s1]
            refine wp_skip (by kernel_rfl) ?_
            try simp only [Act.put, sA, s0, s1]
            refine wp_skip (by kernel_rfl) ?_
            try simp only [Act.put, sA, s0, s1]
            refine wp_takeW (.bool false) (by kernel_rfl) (by kernel_rfl) ?_
            try simp only [Act.put, sA, s0, s1]
            refine WL.nil ?_
            try simp only [Act.put, sA, s0, s1]
            go_upto_region 18 with fail
            refine WL.start ?_
            refine wp_takeW (.pointer (some ⟨S7, 0, none⟩)) (by kernel_rfl) (by kernel_rfl) ?_
            try simp only [Act.put, sA, s0, s1]
            refine wp_takeW (.int .i64 x.k) (exec_load 3 _ rfl ⟨S7, 0, none⟩ (by kernel_rfl) (.int .i64 x.k) (load_N (HS.out.cell 0))) (by kernel_rfl) ?_
            try simp only [Act.put, sA, s0, s1]
            refine wp_takeW (.bool true) (exec_bin .eql 3 _ _ _ rfl (.int .i64 x.k) (.int .i64 1) (.bool true) (by kernel_rfl) (by kernel_rfl) (by kernel_rfl) (by rw [eqlN, q4]; try rfl)) (by kernel_rfl) ?_
            try simp only [Act.put, sA, s0, s1]
            refine wp_takeW (.bool true) (by kernel_rfl) (by kernel_rfl) ?_
            try simp only [Act.put, sA, s0, s1]
            refine wp_skip (by kernel_rfl) ?_
            try simp only [Act.put, sA, s0, s1]
            refine wp_skip (by kernel_rfl) ?_
            try simp only [Act.put, sA, s0, s1]
            refine wp_skip (by kernel_rfl) ?_
            try simp only [Act.put, sA, s0, s1]
            refine wp_takeW (.bool true) (by kernel_rfl) (by kernel_rfl) ?_
            try simp only [Act.put, sA, s0, s1]
            refine wp_takeW (.bool true) (by kernel_rfl) (by kernel_rfl) ?_
            try simp only [Act.put, sA, s0, s1]
            refine wp_takeW (.agg at0.cells) (exec_load 29 _ rfl ⟨N, 0, none⟩ (by kernel_rfl) (.agg at0.cells) (load_I HA.out)) (by kernel_rfl) ?_
            try simp only [Act.put, sA, s0, s1]
            refine wp_takeW (.agg ((callI at0 x).cells)) (exec_load 29 _ rfl ⟨P7, 0, none⟩ (by kernel_rfl) (.agg ((callI at0 x).cells)) (load_I HN.out)) (by kernel_rfl) ?_
            try simp only [Act.put, sA, s0, s1]
            refine wp_takeW (.agg ((callM at0 x).cells)) (exec_load 52 _ rfl ⟨P8, 0, none⟩ (by kernel_rfl) (.agg ((callM at0 x).cells)) (load_M HM8.out)) (by kernel_rfl) ?_
            try simp only [Act.put, sA, s0, s1]
            refine wp_takeW (.agg x.cells) (exec_load 38 _ rfl ⟨S7, 0, none⟩ (by kernel_rfl) (.agg x.cells) (load_Xb HS.out)) (by kernel_rfl) ?_
            try simp only [Act.put, sA, s0, s1]
            refine wp_callW 20 #[.agg at0.cells, .agg ((callI at0 x).cells), .agg ((callM at0 x).cells), .agg x.cells] (by kernel_rfl) _ (told_any at0 (callI at0 x) (callM at0 x) x _) (by kernel_rfl) ?_
            rintro e wk59 ⟨rfl, hk⟩
            have HA : Hid (Box wk59 (N) 29 (at0.cells)) := HA.out.kept hk (fun e => e)
            have HS : Hid (Box wk59 (S7) 38 (x.cells)) := HS.out.kept hk (fun e => e)
            have HN : Hid (Box wk59 (P7) 29 ((callI at0 x).cells)) := HN.out.kept hk (fun e => e)
            have HM8 : Hid (Box wk59 (P8) 52 ((callM at0 x).cells)) := HM8.out.kept hk (fun e => e)
            have HN10 : Hid (Box wk59 (P10) 29 ((callI at0 x).cells)) := HN10.out.kept hk (fun e => e)
            have HM11 : Hid (Box wk59 (P11) 52 ((callM at0 x).cells)) := HM11.out.kept hk (fun e => e)
            have HK : Hid (Kept No w wk59) := HK.out.then hk
            have HLT : Hid (P11 < wk59.heap.size) := Nat.lt_of_lt_of_le HLT.out hk.size
            clear hk
            refine ⟨.bool true, by rw [told_true at0 x (.inl q4)], ?_⟩
            try simp only [Act.put, sA, s0, s1]
            refine wp_takeW (.bool false) (by kernel_rfl) (by kernel_rfl) ?_
            try simp only [Act.put, sA, s0, s1]
            refine wp_takeW (.bool false) (by kernel_rfl) (by kernel_rfl) ?_
            try simp only [Act.put, sA, s0, s1]
            refine WL.nil ?_
            try simp only [Act.put, sA, s0, s1]
            go_upto_region 20 with fail
            refine WL.start ?_
            refine wp_takeW (.agg ((callI at0 x).cells)) (exec_load 29 _ rfl ⟨P7, 0, none⟩ (by kernel_rfl) (.agg ((callI at0 x).cells)) (load_I HN.out)) (by kernel_rfl) ?_
            try simp only [Act.put, sA, s0, s1]
            refine wp_storeW 29 _ _ rfl ⟨N, 0, none⟩ (.agg ((callI at0 x).cells)) (by kernel_rfl) (by kernel_rfl) _ (store_I HA.out rfl) (by kernel_rfl) ?_
            try simp only [Act.put, sA, s0, s1]
            have HLT : Hid (P11 < (wk59.setRow N ((callI at0 x).cells)).heap.size) := by show _ < _; rw [setRow_size]; exact HLT.out
            have HA : Hid (Box (wk59.setRow N ((callI at0 x).cells)) (N) 29 ((callI at0 x).cells)) := HA.out.setRow _
            have HS : Hid (Box (wk59.setRow N ((callI at0 x).cells)) (S7) 38 (x.cells)) := HS.out.rowNe (by have := HO.out; omega) _
            have HN : Hid (Box (wk59.setRow N ((callI at0 x).cells)) (P7) 29 ((callI at0 x).cells)) := HN.out.rowNe (by have := HO.out; omega) _
            have HM8 : Hid (Box (wk59.setRow N ((callI at0 x).cells)) (P8) 52 ((callM at0 x).cells)) := HM8.out.rowNe (by have := HO.out; omega) _
            have HN10 : Hid (Box (wk59.setRow N ((callI at0 x).cells)) (P10) 29 ((callI at0 x).cells)) := HN10.out.rowNe (by have := HO.out; omega) _
            have HM11 : Hid (Box (wk59.setRow N ((callI at0 x).cells)) (P11) 52 ((callM at0 x).cells)) := HM11.out.rowNe (by have := HO.out; omega) _
            have HK : Hid (Kept No w (wk59.setRow N ((callI at0 x).cells))) := HK.out.newRow (by have := HO.out; omega) _
            generalize wk59.setRow N ((callI at0 x).cells) = wk60 at HA HS HN HM8 HN10 HM11 HK HLT ⊢
            refine WL.nil ?_
            try simp only [Act.put, sA, s0, s1]
            have HF : Hid (AtI w N wk60 (fun i => instB i = true)) := ⟨_, HA.out, HK.out, Nat.lt_of_le_of_lt (by have := HO.out; omega) HLT.out, HIC.out⟩
            go_wp2
            go_roundw
            case measure => simp [intOf]; omega
            case rel => exact ⟨k + 1, by go_num, by omega, HF⟩
          ·skip
           rw [(call_dec q12).2]
           refine any_take (i := 13) (oi := { dst := some 113, op := Op.load 4 (Operand.tmp 112), type := 4, pos := "outright.go:30", after := #[{ on := 12, ground := Ground.data }, { on := 11, ground := Ground.guard }], guard := some (11, false) }) (v := .bool true) rfl (by kernel_rfl) (by kernel_rfl) (by kernel_rfl) (fun _ _ _ h => h) (by kernel_rfl) (fun w' hw => exec_load 4 _ rfl ⟨N, 13, none⟩ (by kernel_rfl) (.bool true) (by rw [← q12]; exact load_B (In.cel hw.1).2.2.2.2)) hH ?_
           try simp only [Act.put, sA, s0, s1]
           refine any_take (i := 14) (oi := { dst := some 114, op := Op.move (Operand.tmp 113), type := 4, pos := "outright.go:30", after := #[{ on := 13, ground := Ground.data }, { on := 11, ground := Ground.chain }, { on := 11, ground := Ground.guard }], guard := some (11, false) }) (v := .bool true) rfl (by kernel_rfl) (by kernel_rfl) (by kernel_rfl) (fun _ _ _ h => h) (by kernel_rfl) (fun _ _ => by kernel_rfl) hH ?_
           try simp only [Act.put, sA, s0, s1]
           refine any_take (i := 15) (oi := { dst := some 115, op := Op.move (Operand.tmp 9), type := 4, pos := "outright.go:30", after := #[{ on := 14, ground := Ground.guard }], guard := some (14, true) }) (v := .bool false) rfl (by kernel_rfl) (by kernel_rfl) (by kernel_rfl) (fun _ _ _ h => h) (by kernel_rfl) (fun _ _ => by kernel_rfl) hH ?_
           try simp only [Act.put, sA, s0, s1]
           refine any_take (i := 16) (oi := { dst := some 116, op := Op.pick (Operand.tmp 114) (Operand.tmp 115) (Operand.const (Value.bool false)), type := 4, pos := "outright.go:30", after := #[{ on := 14, ground := Ground.data }, { on := 15, ground := Ground.data }, { on := 11, ground := Ground.guard }], guard := some (11, false) }) (v := .bool false) rfl (by kernel_rfl) (by kernel_rfl) (by kernel_rfl) (fun _ _ _ h => h) (by kernel_rfl) (fun _ _ => by kernel_rfl) hH ?_
           try simp only [Act.put, sA, s0, s1]
           refine any_take (i := 17) (oi := { dst := some 117, op := Op.pick (Operand.tmp 111) (Operand.const (Value.bool true)) (Operand.tmp 116), type := 4, pos := "outright.go:30", after := #[{ on := 11, ground := Ground.data }, { on := 16, ground := Ground.data }], guard := none }) (v := .bool false) rfl (by kernel_rfl) (by kernel_rfl) (by kernel_rfl) (fun _ _ _ h => h) (by kernel_rfl) (fun _ _ => by kernel_rfl) hH ?_
           try simp only [Act.put, sA, s0, s1]
           refine wpAnyH_done (by kernel_rfl) ?_ _
           try simp only [Act.put, sA, s0, s1]
           go_upto_region 16 with fail
           refine WL.start ?_
           refine wp_takeW (.pointer (some ⟨P7, 13, none⟩)) (by kernel_rfl) (by kernel_rfl) ?_
           try simp only [Act.put, sA, s0, s1]
           cases q14 : ((callI at0 x).d)
           · (exfalso; rw [(call_dec q12).1, q12] at q14; cases q14)
           ·skip
            refine wp_takeW (.bool true) (exec_load 4 _ rfl ⟨P7, 13, none⟩ (by kernel_rfl) (.bool true) (by rw [← q14]; exact load_B (In.cel HN.out).2.2.2.2)) (by kernel_rfl) ?_
            try simp only [Act.put, sA, s0, s1]
            refine wp_takeW (.bool false) (by kernel_rfl) (by kernel_rfl) ?_
            try simp only [Act.put, sA, s0, s1]
            refine wp_takeW (.bool false) (by kernel_rfl) (by kernel_rfl) ?_
            try simp only [Act.put, sA, s0, s1]
            refine wp_skip (by kernel_rfl) ?_
            try simp only [Act.put, sA, s0, s1]
            refine wp_skip (by kernel_rfl) ?_
            try simp only [Act.put, sA, s0, s1]
            refine wp_skip (by kernel_rfl) ?_
            try simp only [Act.put, sA, s0, s1]
            refine wp_skip (by kernel_rfl) ?_
            try simp only [Act.put, sA, s0, s1]
            refine wp_skip (by kernel_rfl) ?_
            try simp only [Act.put, sA, s0, s1]
            refine wp_skip (by kernel_rfl) ?_
            try simp only [Act.put, sA, s0, s1]
            refine wp_skip (by kernel_rfl) ?_
            try simp only [Act.put, sA, s0, s1]
            refine wp_skip (by kernel_rfl) ?_
            try simp only [Act.put, sA, s0, s1]
            refine wp_skip (by kernel_rfl) ?_
            try simp only [Act.put, sA, s0, s1]
            refine wp_skip (by kernel_rfl) ?_
            try simp only [Act.put, sA, s0, s1]
            refine wp_skip (by kernel_rfl) ?_
            try simp only [Act.put, sA, s0, s1]
            refine wp_skip (by kernel_rfl) ?_
            try simp only [Act.put, sA, s0, s1]
            refine wp_takeW (.bool false) (by kernel_rfl) (by kernel_rfl) ?_
            try simp only [Act.put, sA, s0, s1]
            refine WL.nil ?_
            try simp only [Act.put, sA, s0, s1]
            go_upto_region 18 with fail
            refine WL.start ?_
            refine wp_takeW (.pointer (some ⟨S7, 0, none⟩)) (by kernel_rfl) (by kernel_rfl) ?_
            try simp only [Act.put, sA, s0, s1]
            refine wp_takeW (.int .i64 x.k) (exec_load 3 _ rfl ⟨S7, 0, none⟩ (by kernel_rfl) (.int .i64 x.k) (load_N (HS.out.cell 0))) (by kernel_rfl) ?_
            try simp only [Act.put, sA, s0, s1]
            refine wp_takeW (.bool true) (exec_bin .eql 3 _ _ _ rfl (.int .i64 x.k) (.int .i64 1) (.bool true) (by kernel_rfl) (by kernel_rfl) (by kernel_rfl) (by rw [eqlN, q4]; try rfl)) (by kernel_rfl) ?_
            try simp only [Act.put, sA, s0, s1]
            refine wp_takeW (.bool true) (by kernel_rfl) (by kernel_rfl) ?_
            try simp only [Act.put, sA, s0, s1]
            refine wp_skip (by kernel_rfl) ?_
            try simp only [Act.put, sA, s0, s1]
            refine wp_skip (by kernel_rfl) ?_
            try simp only [Act.put, sA, s0, s1]
            refine wp_skip (by kernel_rfl) ?_
            try simp only [Act.put, sA, s0, s1]
            refine wp_takeW (.bool true) (by kernel_rfl) (by kernel_rfl) ?_
            try simp only [Act.put, sA, s0, s1]
            refine wp_takeW (.bool true) (by kernel_rfl) (by kernel_rfl) ?_
            try simp only [Act.put, sA, s0, s1]
            refine wp_takeW (.agg at0.cells) (exec_load 29 _ rfl ⟨N, 0, none⟩ (by kernel_rfl) (.agg at0.cells) (load_I HA.out)) (by kernel_rfl) ?_
            try simp only [Act.put, sA, s0, s1]
            refine wp_takeW (.agg ((callI at0 x).cells)) (exec_load 29 _ rfl ⟨P7, 0, none⟩ (by kernel_rfl) (.agg ((callI at0 x).cells)) (load_I HN.out)) (by kernel_rfl) ?_
            try simp only [Act.put, sA, s0, s1]
            refine wp_takeW (.agg ((callM at0 x).cells)) (exec_load 52 _ rfl ⟨P8, 0, none⟩ (by kernel_rfl) (.agg ((callM at0 x).cells)) (load_M HM8.out)) (by kernel_rfl) ?_
            try simp only [Act.put, sA, s0, s1]
            refine wp_takeW (.agg x.cells) (exec_load 38 _ rfl ⟨S7, 0, none⟩ (by kernel_rfl) (.agg x.cells) (load_Xb HS.out)) (by kernel_rfl) ?_
            try simp only [Act.put, sA, s0, s1]
            refine wp_callW 20 #[.agg at0.cells, .agg ((callI at0 x).cells), .agg ((callM at0 x).cells), .agg x.cells] (by kernel_rfl) _ (told_any at0 (callI at0 x) (callM at0 x) x _) (by kernel_rfl) ?_
            rintro e wk61 ⟨rfl, hk⟩
            have HA : Hid (Box wk61 (N) 29 (at0.cells)) := HA.out.kept hk (fun e => e)
            have HS : Hid (Box wk61 (S7) 38 (x.cells)) := HS.out.kept hk (fun e => e)
            have HN : Hid (Box wk61 (P7) 29 ((callI at0 x).cells)) := HN.out.kept hk (fun e => e)
            have HM8 : Hid (Box wk61 (P8) 52 ((callM at0 x).cells)) := HM8.out.kept hk (fun e => e)
            have HN10 : Hid (Box wk61 (P10) 29 ((callI at0 x).cells)) := HN10.out.kept hk (fun e => e)
            have HM11 : Hid (Box wk61 (P11) 52 ((callM at0 x).cells)) := HM11.out.kept hk (fun e => e)
            have HK : Hid (Kept No w wk61) := HK.out.then hk
            have HLT : Hid (P11 < wk61.heap.size) := Nat.lt_of_lt_of_le HLT.out hk.size
            clear hk
            refine ⟨.bool true, by rw [told_true at0 x (.inl q4)], ?_⟩
            try simp only [Act.put, sA, s0, s1]
            refine wp_takeW (.bool false) (by kernel_rfl) (by kernel_rfl) ?_
            try simp only [Act.put, sA, s0, s1]
            refine wp_takeW (.bool false) (by kernel_rfl) (by kernel_rfl) ?_
            try simp only [Act.put, sA, s0, s1]
            refine WL.nil ?_
            try simp only [Act.put, sA, s0, s1]
            go_upto_region 20 with fail
            refine WL.start ?_
            refine wp_takeW (.agg ((callI at0 x).cells)) (exec_load 29 _ rfl ⟨P7, 0, none⟩ (by kernel_rfl) (.agg ((callI at0 x).cells)) (load_I HN.out)) (by kernel_rfl) ?_
            try simp only [Act.put, sA, s0, s1]
            refine wp_storeW 29 _ _ rfl ⟨N, 0, none⟩ (.agg ((callI at0 x).cells)) (by kernel_rfl) (by kernel_rfl) _ (store_I HA.out rfl) (by kernel_rfl) ?_
            try simp only [Act.put, sA, s0, s1]
            have HLT : Hid (P11 < (wk61.setRow N ((callI at0 x).cells)).heap.size) := by show _ < _; rw [setRow_size]; exact HLT.out
            have HA : Hid (Box (wk61.setRow N ((callI at0 x).cells)) (N) 29 ((callI at0 x).cells)) := HA.out.setRow _
            have HS : Hid (Box (wk61.setRow N ((callI at0 x).cells)) (S7) 38 (x.cells)) := HS.out.rowNe (by have := HO.out; omega) _
            have HN : Hid (Box (wk61.setRow N ((callI at0 x).cells)) (P7) 29 ((callI at0 x).cells)) := HN.out.rowNe (by have := HO.out; omega) _
            have HM8 : Hid (Box (wk61.setRow N ((callI at0 x).cells)) (P8) 52 ((callM at0 x).cells)) := HM8.out.rowNe (by have := HO.out; omega) _
            have HN10 : Hid (Box (wk61.setRow N ((callI at0 x).cells)) (P10) 29 ((callI at0 x).cells)) := HN10.out.rowNe (by have := HO.out; omega) _
            have HM11 : Hid (Box (wk61.setRow N ((callI at0 x).cells)) (P11) 52 ((callM at0 x).cells)) := HM11.out.rowNe (by have := HO.out; omega) _
            have HK : Hid (Kept No w (wk61.setRow N ((callI at0 x).cells))) := HK.out.newRow (by have := HO.out; omega) _
            generalize wk61.setRow N ((callI at0 x).cells) = wk62 at HA HS HN HM8 HN10 HM11 HK HLT ⊢
            refine WL.nil ?_
            try simp only [Act.put, sA, s0, s1]
            have HF : Hid (AtI w N wk62 (fun i => instB i = true)) := ⟨_, HA.out, HK.out, Nat.lt_of_le_of_lt (by have := HO.out; omega) HLT.out, HIC.out⟩
            go_wp2
            go_roundw
            case measure => simp [intOf]; omega
            case rel => exact ⟨k + 1, by go_num, by omega, HF⟩
       ·skip
        refine any_take (i := 2) (oi := { dst := some 31, op := Op.binOp BinOp.neq 3 (Operand.tmp 30) (Operand.const (Value.int IntKind.i64 3)) 3, type := 4, pos := "outright.go:22", after := #[{ on := 1, ground := Ground.data }], guard := none }) (v := .bool false) rfl (by kernel_rfl) (by kernel_rfl) (by kernel_rfl) (fun _ _ _ h => h) (by kernel_rfl) (fun w' hw => exec_bin .neq 3 _ _ _ rfl (.int .i64 x.k) (.int .i64 3) (.bool false) (by kernel_rfl) (by kernel_rfl) (by kernel_rfl) (by rw [neqN, q2]; try rfl)) hH ?_
        try simp only [Act.put, sA, s0, s1]
        refine any_take (i := 3) (oi := { dst := some 32, op := Op.move (Operand.tmp 31), type := 4, pos := "outright.go:22", after := #[{ on := 2, ground := Ground.data }], guard := none }) (v := .bool false) rfl (by kernel_rfl) (by kernel_rfl) (by kernel_rfl) (fun _ _ _ h => h) (by kernel_rfl) (fun _ _ => by kernel_rfl) hH ?_
        try simp only [Act.put, sA, s0, s1]
        refine any_skip (i := 4) (oi := { dst := some 33, op := Op.fieldAddr 38 (Operand.tmp 6) 1, type := 0, pos := "outright.go:22", after := #[{ on := 3, ground := Ground.guard }], guard := some (3, true) }) rfl (by kernel_rfl) (by kernel_rfl) (by kernel_rfl) (fun _ _ _ h => h) (by kernel_rfl) hH ?_
        try simp only [Act.put, sA, s0, s1]
        refine any_skip (i := 5) (oi := { dst := some 34, op := Op.load 23 (Operand.tmp 33), type := 23, pos := "outright.go:22", after := #[{ on := 4, ground := Ground.data }, { on := 3, ground := Ground.guard }], guard := some (3, true) }) rfl (by kernel_rfl) (by kernel_rfl) (by kernel_rfl) (fun _ _ _ h => h) (by kernel_rfl) hH ?_
        try simp only [Act.put, sA, s0, s1]
        refine any_skip (i := 6) (oi := { dst := some 35, op := Op.call { callee := Callee.value (Operand.func 9), args := #[Operand.tmp 34], argTypes := #[23] }, type := 4, pos := "outright.go:22", after := #[{ on := 5, ground := Ground.data }, { on := 3, ground := Ground.chain }, { on := 3, ground := Ground.guard }], guard := some (3, true) }) rfl (by kernel_rfl) (by kernel_rfl) (by kernel_rfl) (fun _ _ _ h => h) (by kernel_rfl) hH ?_
        try simp only [Act.put, sA, s0, s1]
        refine any_skip (i := 7) (oi := { dst := some 36, op := Op.unOp UnOp.not 4 (Operand.tmp 35), type := 4, pos := "outright.go:22", after := #[{ on := 6, ground := Ground.data }, { on := 3, ground := Ground.guard }], guard := some (3, true) }) rfl (by kernel_rfl) (by kernel_rfl) (by kernel_rfl) (fun _ _ _ h => h) (by kernel_rfl) hH ?_
        try simp only [Act.put, sA, s0, s1]
        refine any_take (i := 8) (oi := { dst := some 37, op := Op.pick (Operand.tmp 32) (Operand.tmp 36) (Operand.const (Value.bool false)), type := 4, pos := "outright.go:22", after := #[{ on := 3, ground := Ground.data }, { on := 7, ground := Ground.data }], guard := none }) (v := .bool false) rfl (by kernel_rfl) (by kernel_rfl) (by kernel_rfl) (fun _ _ _ h => h) (by kernel_rfl) (fun _ _ => by kernel_rfl) hH ?_
        try simp only [Act.put, sA, s0, s1]
        refine any_take (i := 9) (oi := { dst := some 38, op := Op.move (Operand.tmp 37), type := 4, pos := "outright.go:22", after := #[{ on := 8, ground := Ground.data }, { on := 6, ground := Ground.chain }], guard := none }) (v := .bool false) rfl (by kernel_rfl) (by kernel_rfl) (by kernel_rfl) (fun _ _ _ h => h) (by kernel_rfl) (fun _ _ => by kernel_rfl) hH ?_
        try simp only [Act.put, sA, s0, s1]
        refine any_take (i := 10) (oi := { dst := some 39, op := Op.fieldAddr 38 (Operand.tmp 6) 0, type := 0, pos := "outright.go:22", after := #[{ on := 9, ground := Ground.guard }], guard := some (9, false) }) (v := .pointer (some ⟨S7, 0, none⟩)) rfl (by kernel_rfl) (by kernel_rfl) (by kernel_rfl) (fun _ _ _ h => h) (by kernel_rfl) (fun _ _ => by kernel_rfl) hH ?_
        try simp only [Act.put, sA, s0, s1]
        refine any_take (i := 11) (oi := { dst := some 40, op := Op.load 3 (Operand.tmp 39), type := 3, pos := "outright.go:22", after := #[{ on := 10, ground := Ground.data }, { on := 9, ground := Ground.guard }], guard := some (9, false) }) (v := .int .i64 x.k) rfl (by kernel_rfl) (by kernel_rfl) (by kernel_rfl) (fun _ _ _ h => h) (by kernel_rfl) (fun w' hw => exec_load 3 _ rfl ⟨S7, 0, none⟩ (by kernel_rfl) (.int .i64 x.k) (load_N (hw.cell 0))) hH ?_
        try simp only [Act.put, sA, s0, s1]
        cases q15 : (x.k == 1)
        ·skip
         refine any_take (i := 12) (oi := { dst := some 41, op := Op.binOp BinOp.neq 3 (Operand.tmp 40) (Operand.const (Value.int IntKind.i64 1)) 3, type := 4, pos := "outright.go:22", after := #[{ on := 11, ground := Ground.data }, { on := 9, ground := Ground.guard }], guard := some (9, false) }) (v := .bool true) rfl (by kernel_rfl) (by kernel_rfl) (by kernel_rfl) (fun _ _ _ h => h) (by kernel_rfl) (fun w' hw => exec_bin .neq 3 _ _ _ rfl (.int .i64 x.k) (.int .i64 1) (.bool true) (by kernel_rfl) (by kernel_rfl) (by kernel_rfl) (by rw [neqN, q15]; try rfl)) hH ?_
         try simp only [Act.put, sA, s0, s1]
         refine any_take (i := 13) (oi := { dst := some 42, op := Op.move (Operand.tmp 41), type := 4, pos := "outright.go:22", after := #[{ on := 12, ground := Ground.data }, { on := 9, ground := Ground.chain }, { on := 9, ground := Ground.guard }], guard := some (9, false) }) (v := .bool true) rfl (by kernel_rfl) (by kernel_rfl) (by kernel_rfl) (fun _ _ _ h => h) (by kernel_rfl) (fun _ _ => by kernel_rfl) hH ?_
         try simp only [Act.put, sA, s0, s1]
         refine any_take (i := 14) (oi := { dst := some 43, op := Op.fieldAddr 38 (Operand.tmp 6) 2, type := 0, pos := "outright.go:22", after := #[{ on := 13, ground := Ground.guard }], guard := some (13, true) }) (v := .pointer (some ⟨S7, 3, none⟩)) rfl (by kernel_rfl) (by kernel_rfl) (by kernel_rfl) (fun _ _ _ h => h) (by kernel_rfl) (fun _ _ => by kernel_rfl) hH ?_
         try simp only [Act.put, sA, s0, s1]
         refine any_take (i := 15) (oi := { dst := some 44, op := Op.load 27 (Operand.tmp 43), type := 27, pos := "outright.go:22", after := #[{ on := 14, ground := Ground.data }, { on := 13, ground := Ground.guard }], guard := some (13, true) }) (v := .agg x.c.cells) rfl (by kernel_rfl) (by kernel_rfl) (by kernel_rfl) (fun _ _ _ h => h) (by kernel_rfl) (fun w' hw => exec_load 27 _ rfl ⟨S7, 3, none⟩ (by kernel_rfl) (.agg x.c.cells) (load_XC hw)) hH ?_
         try simp only [Act.put, sA, s0, s1]
         refine any_call (i := 16) (o := { dst := some 45, op := Op.call { callee := Callee.value (Operand.func 8), args := #[], argTypes := #[] }, type := 35, pos := "outright.go:22", after := #[{ on := 13, ground := Ground.chain }, { on := 13, ground := Ground.guard }], guard := some (13, true) }) rfl (by kernel_rfl) (by kernel_rfl) 8 #[] (by kernel_rfl) _ (wide_any _) ?_
         rintro e wk64 ⟨wa63, rfl, hk⟩
         have HA : Hid (Box wk64 (N) 29 (at0.cells)) := HA.out.kept hk (fun e => e)
         have HS : Hid (Box wk64 (S7) 38 (x.cells)) := HS.out.kept hk (fun e => e)
         have HK : Hid (Kept No w wk64) := HK.out.then hk
         have HLT : Hid (S7 < wk64.heap.size) := Nat.lt_of_lt_of_le HLT.out hk.size
         clear hk
         refine ⟨.agg (wideC wa63), rfl, HS.out, fun hH => ?_⟩
         try simp only [Act.put, sA, s0, s1]
         cases q16 : (cmdB x.c)
         ·skip
          refine any_call (i := 17) (o := { dst := some 46, op := Op.call { callee := Callee.value (Operand.func 10), args := #[Operand.tmp 44, Operand.tmp 45], argTypes := #[27, 35] }, type := 4, pos := "outright.go:22", after := #[{ on := 15, ground := Ground.data }, { on := 16, ground := Ground.data }, { on := 16, ground := Ground.chain }, { on := 13, ground := Ground.guard }], guard := some (13, true) }) rfl (by kernel_rfl) (by kernel_rfl) 10 #[.agg x.c.cells, .agg (wideC wa63)] (by kernel_rfl) _ (cmd_any x.c wa63 _) ?_
          rintro e wk65 ⟨rfl, hk⟩
          have HA : Hid (Box wk65 (N) 29 (at0.cells)) := HA.out.kept hk (fun e => e)
          have HS : Hid (Box wk65 (S7) 38 (x.cells)) := HS.out.kept hk (fun e => e)
          have HK : Hid (Kept No w wk65) := HK.out.then hk
          have HLT : Hid (S7 < wk65.heap.size) := Nat.lt_of_lt_of_le HLT.out hk.size
          clear hk
          refine ⟨.bool false, by rw [q16], HS.out, fun hH => ?_⟩
          try simp only [Act.put, sA, s0, s1]
          refine any_take (i := 18) (oi := { dst := some 47, op := Op.unOp UnOp.not 4 (Operand.tmp 46), type := 4, pos := "outright.go:22", after := #[{ on := 17, ground := Ground.data }, { on := 13, ground := Ground.guard }], guard := some (13, true) }) (v := .bool true) rfl (by kernel_rfl) (by kernel_rfl) (by kernel_rfl) (fun _ _ _ h => h) (by kernel_rfl) (fun _ _ => by kernel_rfl) hH ?_
          try simp only [Act.put, sA, s0, s1]
          refine any_take (i := 19) (oi := { dst := some 48, op := Op.pick (Operand.tmp 42) (Operand.tmp 47) (Operand.const (Value.bool false)), type := 4, pos := "outright.go:22", after := #[{ on := 13, ground := Ground.data }, { on := 18, ground := Ground.data }, { on := 9, ground := Ground.guard }], guard := some (9, false) }) (v := .bool true) rfl (by kernel_rfl) (by kernel_rfl) (by kernel_rfl) (fun _ _ _ h => h) (by kernel_rfl) (fun _ _ => by kernel_rfl) hH ?_
          try simp only [Act.put, sA, s0, s1]
          refine any_take (i := 20) (oi := { dst := some 49, op := Op.pick (Operand.tmp 38) (Operand.const (Value.bool true)) (Operand.tmp 48), type := 4, pos := "outright.go:22", after := #[{ on := 9, ground := Ground.data }, { on := 19, ground := Ground.data }], guard := none }) (v := .bool true) rfl (by kernel_rfl) (by kernel_rfl) (by kernel_rfl) (fun _ _ _ h => h) (by kernel_rfl) (fun _ _ => by kernel_rfl) hH ?_
          try simp only [Act.put, sA, s0, s1]
          refine wpAnyH_done (by kernel_rfl) ?_ _
          try simp only [Act.put, sA, s0, s1]
          have HF : Hid (AtI w N wk65 (fun i => instB i = true)) := ⟨_, HA.out, HK.out, Nat.lt_of_le_of_lt (by have := HO.out; omega) HLT.out, HIN.out⟩
          go_wp2
          go_roundw
          case measure => simp [intOf]; omega
          case rel => exact ⟨k + 1, by go_num, by omega, HF⟩
         ·skip
          refine any_call (i := 17) (o := { dst := some 46, op := Op.call { callee := Callee.value (Operand.func 10), args := #[Operand.tmp 44, Operand.tmp 45], argTypes := #[27, 35] }, type := 4, pos := "outright.go:22", after := #[{ on := 15, ground := Ground.data }, { on := 16, ground := Ground.data }, { on := 16, ground := Ground.chain }, { on := 13, ground := Ground.guard }], guard := some (13, true) }) rfl (by kernel_rfl) (by kernel_rfl) 10 #[.agg x.c.cells, .agg (wideC wa63)] (by kernel_rfl) _ (cmd_any x.c wa63 _) ?_
          rintro e wk66 ⟨rfl, hk⟩
          have HA : Hid (Box wk66 (N) 29 (at0.cells)) := HA.out.kept hk (fun e => e)
          have HS : Hid (Box wk66 (S7) 38 (x.cells)) := HS.out.kept hk (fun e => e)
          have HK : Hid (Kept No w wk66) := HK.out.then hk
          have HLT : Hid (S7 < wk66.heap.size) := Nat.lt_of_lt_of_le HLT.out hk.size
          clear hk
          refine ⟨.bool true, by rw [q16], HS.out, fun hH => ?_⟩
          try simp only [Act.put, sA, s0, s1]
          refine any_take (i := 18) (oi := { dst := some 47, op := Op.unOp UnOp.not 4 (Operand.tmp 46), type := 4, pos := "outright.go:22", after := #[{ on := 17, ground := Ground.data }, { on := 13, ground := Ground.guard }], guard := some (13, true) }) (v := .bool false) rfl (by kernel_rfl) (by kernel_rfl) (by kernel_rfl) (fun _ _ _ h => h) (by kernel_rfl) (fun _ _ => by kernel_rfl) hH ?_
          try simp only [Act.put, sA, s0, s1]
          refine any_take (i := 19) (oi := { dst := some 48, op := Op.pick (Operand.tmp 42) (Operand.tmp 47) (Operand.const (Value.bool false)), type := 4, pos := "outright.go:22", after := #[{ on := 13, ground := Ground.data }, { on := 18, ground := Ground.data }, { on := 9, ground := Ground.guard }], guard := some (9, false) }) (v := .bool false) rfl (by kernel_rfl) (by kernel_rfl) (by kernel_rfl) (fun _ _ _ h => h) (by kernel_rfl) (fun _ _ => by kernel_rfl) hH ?_
          try simp only [Act.put, sA, s0, s1]
          refine any_take (i := 20) (oi := { dst := some 49, op := Op.pick (Operand.tmp 38) (Operand.const (Value.bool true)) (Operand.tmp 48), type := 4, pos := "outright.go:22", after := #[{ on := 9, ground := Ground.data }, { on := 19, ground := Ground.data }], guard := none }) (v := .bool false) rfl (by kernel_rfl) (by kernel_rfl) (by kernel_rfl) (fun _ _ _ h => h) (by kernel_rfl) (fun _ _ => by kernel_rfl) hH ?_
          try simp only [Act.put, sA, s0, s1]
          refine wpAnyH_done (by kernel_rfl) ?_ _
          try simp only [Act.put, sA, s0, s1]
          have HIC : Hid (instB (callI at0 x) = true) := inst_call HIN.out (.inl q2) (.inr q16)
          go_upto_region 10 with fail
          refine WL.start ?_
          refine wp_takeW (.agg at0.cells) (exec_load 29 _ rfl ⟨N, 0, none⟩ (by kernel_rfl) (.agg at0.cells) (load_I HA.out)) (by kernel_rfl) ?_
          try simp only [Act.put, sA, s0, s1]
          refine wp_takeW (.agg x.cells) (exec_load 38 _ rfl ⟨S7, 0, none⟩ (by kernel_rfl) (.agg x.cells) (load_Xb HS.out)) (by kernel_rfl) ?_
          try simp only [Act.put, sA, s0, s1]
          refine wp_callW 18 #[.agg at0.cells, .agg x.cells] (by kernel_rfl) _ (call_any at0 x _) (by kernel_rfl) ?_
          rintro e wk67 ⟨rfl, hk⟩
          have HA : Hid (Box wk67 (N) 29 (at0.cells)) := HA.out.kept hk (fun e => e)
          have HS : Hid (Box wk67 (S7) 38 (x.cells)) := HS.out.kept hk (fun e => e)
          have HK : Hid (Kept No w wk67) := HK.out.then hk
          have HLT : Hid (S7 < wk67.heap.size) := Nat.lt_of_lt_of_le HLT.out hk.size
          clear hk
          refine ⟨.tuple #[.agg (callI at0 x).cells, .agg (callM at0 x).cells, .bool (callB at0 x)], rfl, ?_⟩
          try simp only [Act.put, sA, s0, s1]
          refine wp_takeW (.tuple #[.agg (callI at0 x).cells, .agg (callM at0 x).cells, .bool (callB at0 x)]) (by kernel_rfl) (by kernel_rfl) ?_
          try simp only [Act.put, sA, s0, s1]
          refine wp_takeW (.agg (callI at0 x).cells) (by kernel_rfl) (by kernel_rfl) ?_
          try simp only [Act.put, sA, s0, s1]
          refine wp_takeW (.agg (callM at0 x).cells) (by kernel_rfl) (by kernel_rfl) ?_
          try simp only [Act.put, sA, s0, s1]
          refine wp_takeW (.bool (callB at0 x)) (by kernel_rfl) (by kernel_rfl) ?_
          try simp only [Act.put, sA, s0, s1]
          refine wp_allocW 29 rfl (iZ.cells) zero29 wk67.heap.size rfl (by kernel_rfl) ?_
          try simp only [Act.put, sA, s0, s1]
          have HN : Hid (Box (wk67.alloc (.cells (iZ.cells) 29)) wk67.heap.size 29 (iZ.cells)) := Box.new _ _ _
          have HA : Hid (Box (wk67.alloc (.cells (iZ.cells) 29)) (N) 29 (at0.cells)) := HA.out.alloc _
          have HS : Hid (Box (wk67.alloc (.cells (iZ.cells) 29)) (S7) 38 (x.cells)) := HS.out.alloc _
          have HK : Hid (Kept No w (wk67.alloc (.cells (iZ.cells) 29))) := HK.out.alloc _
          have HO : Hid (w.heap.size ≤ N ∧ N < S7 ∧ S7 < wk67.heap.size) := by
            have h := HO.out
            have l := HLT.out
            show _ ∧ _
            omega
          have HLT : Hid (wk67.heap.size < (wk67.alloc (.cells (iZ.cells) 29)).heap.size) := by show _ < _; simp
          generalize wk67.alloc (.cells (iZ.cells) 29) = wk68 at HA HS HN HK HLT ⊢
          generalize wk67.heap.size = P7 at HN HO HLT ⊢
          refine wp_allocW 52 rfl (mZ.cells) zero52 wk68.heap.size rfl (by kernel_rfl) ?_
          try simp only [Act.put, sA, s0, s1]
          have HM8 : Hid (Box (wk68.alloc (.cells (mZ.cells) 52)) wk68.heap.size 52 (mZ.cells)) := Box.new _ _ _
          have HA : Hid (Box (wk68.alloc (.cells (mZ.cells) 52)) (N) 29 (at0.cells)) := HA.out.alloc _
          have HS : Hid (Box (wk68.alloc (.cells (mZ.cells) 52)) (S7) 38 (x.cells)) := HS.out.alloc _
          have HN : Hid (Box (wk68.alloc (.cells (mZ.cells) 52)) (P7) 29 (iZ.cells)) := HN.out.alloc _
          have HK : Hid (Kept No w (wk68.alloc (.cells (mZ.cells) 52))) := HK.out.alloc _
          have HO : Hid (w.heap.size ≤ N ∧ N < S7 ∧ S7 < P7 ∧ P7 < wk68.heap.size) := by
            have h := HO.out
            have l := HLT.out
            show _ ∧ _
            omega
          have HLT : Hid (wk68.heap.size < (wk68.alloc (.cells (mZ.cells) 52)).heap.size) := by show _ < _; simp
          generalize wk68.alloc (.cells (mZ.cells) 52) = wk69 at HA HS HN HM8 HK HLT ⊢
          generalize wk68.heap.size = P8 at HM8 HO HLT ⊢
          refine wp_storeW 29 _ _ rfl ⟨P7, 0, none⟩ (.agg (callI at0 x).cells) (by kernel_rfl) (by kernel_rfl) _ (store_I HN.out rfl) (by kernel_rfl) ?_
          try simp only [Act.put, sA, s0, s1]
          have HLT : Hid (P8 < (wk69.setRow P7 ((callI at0 x).cells)).heap.size) := by show _ < _; rw [setRow_size]; exact HLT.out
          have HA : Hid (Box (wk69.setRow P7 ((callI at0 x).cells)) (N) 29 (at0.cells)) := HA.out.rowNe (by have := HO.out; omega) _
          have HS : Hid (Box (wk69.setRow P7 ((callI at0 x).cells)) (S7) 38 (x.cells)) := HS.out.rowNe (by have := HO.out; omega) _
          have HN : Hid (Box (wk69.setRow P7 ((callI at0 x).cells)) (P7) 29 ((callI at0 x).cells)) := HN.out.setRow _
          have HM8 : Hid (Box (wk69.setRow P7 ((callI at0 x).cells)) (P8) 52 (mZ.cells)) := HM8.out.rowNe (by have := HO.out; omega) _
          have HK : Hid (Kept No w (wk69.setRow P7 ((callI at0 x).cells))) := HK.out.newRow (by have := HO.out; omega) _
          generalize wk69.setRow P7 ((callI at0 x).cells) = wk70 at HA HS HN HM8 HK HLT ⊢
          refine wp_storeW 52 _ _ rfl ⟨P8, 0, none⟩ (.agg (callM at0 x).cells) (by kernel_rfl) (by kernel_rfl) _ (store_M HM8.out rfl) (by kernel_rfl) ?_
          try simp only [Act.put, sA, s0, s1]
          have HLT : Hid (P8 < (wk70.setRow P8 ((callM at0 x).cells)).heap.size) := by show _ < _; rw [setRow_size]; exact HLT.out
          have HA : Hid (Box (wk70.setRow P8 ((callM at0 x).cells)) (N) 29 (at0.cells)) := HA.out.rowNe (by have := HO.out; omega) _
          have HS : Hid (Box (wk70.setRow P8 ((callM at0 x).cells)) (S7) 38 (x.cells)) := HS.out.rowNe (by have := HO.out; omega) _
          have HN : Hid (Box (wk70.setRow P8 ((callM at0 x).cells)) (P7) 29 ((callI at0 x).cells)) := HN.out.rowNe (by have := HO.out; omega) _
          have HM8 : Hid (Box (wk70.setRow P8 ((callM at0 x).cells)) (P8) 52 ((callM at0 x).cells)) := HM8.out.setRow _
          have HK : Hid (Kept No w (wk70.setRow P8 ((callM at0 x).cells))) := HK.out.newRow (by have := HO.out; omega) _
          generalize wk70.setRow P8 ((callM at0 x).cells) = wk71 at HA HS HN HM8 HK HLT ⊢
          refine wp_takeW (.bool (callB at0 x)) (by kernel_rfl) (by kernel_rfl) ?_
          try simp only [Act.put, sA, s0, s1]
          refine WL.nil ?_
          try simp only [Act.put, sA, s0, s1]
          go_upto_region 11 with fail
          refine WL.start ?_
          refine wp_takeW (.agg at0.cells) (exec_load 29 _ rfl ⟨N, 0, none⟩ (by kernel_rfl) (.agg at0.cells) (load_I HA.out)) (by kernel_rfl) ?_
          try simp only [Act.put, sA, s0, s1]
          refine wp_takeW (.agg x.cells) (exec_load 38 _ rfl ⟨S7, 0, none⟩ (by kernel_rfl) (.agg x.cells) (load_Xb HS.out)) (by kernel_rfl) ?_
          try simp only [Act.put, sA, s0, s1]
          refine wp_callW 18 #[.agg at0.cells, .agg x.cells] (by kernel_rfl) _ (call_any at0 x _) (by kernel_rfl) ?_
          rintro e wk72 ⟨rfl, hk⟩
          have HA : Hid (Box wk72 (N) 29 (at0.cells)) := HA.out.kept hk (fun e => e)
          have HS : Hid (Box wk72 (S7) 38 (x.cells)) := HS.out.kept hk (fun e => e)
          have HN : Hid (Box wk72 (P7) 29 ((callI at0 x).cells)) := HN.out.kept hk (fun e => e)
          have HM8 : Hid (Box wk72 (P8) 52 ((callM at0 x).cells)) := HM8.out.kept hk (fun e => e)
          have HK : Hid (Kept No w wk72) := HK.out.then hk
          have HLT : Hid (P8 < wk72.heap.size) := Nat.lt_of_lt_of_le HLT.out hk.size
          clear hk
          refine ⟨.tuple #[.agg (callI at0 x).cells, .agg (callM at0 x).cells, .bool (callB at0 x)], rfl, ?_⟩
          try simp only [Act.put, sA, s0, s1]
          refine wp_takeW (.tuple #[.agg (callI at0 x).cells, .agg (callM at0 x).cells, .bool (callB at0 x)]) (by kernel_rfl) (by kernel_rfl) ?_
          try simp only [Act.put, sA, s0, s1]
          refine wp_takeW (.agg (callI at0 x).cells) (by kernel_rfl) (by kernel_rfl) ?_
          try simp only [Act.put, sA, s0, s1]
          refine wp_takeW (.agg (callM at0 x).cells) (by kernel_rfl) (by kernel_rfl) ?_
          try simp only [Act.put, sA, s0, s1]
          refine wp_takeW (.bool (callB at0 x)) (by kernel_rfl) (by kernel_rfl) ?_
          try simp only [Act.put, sA, s0, s1]
          refine wp_allocW 29 rfl (iZ.cells) zero29 wk72.heap.size rfl (by kernel_rfl) ?_
          try simp only [Act.put, sA, s0, s1]
          have HN10 : Hid (Box (wk72.alloc (.cells (iZ.cells) 29)) wk72.heap.size 29 (iZ.cells)) := Box.new _ _ _
          have HA : Hid (Box (wk72.alloc (.cells (iZ.cells) 29)) (N) 29 (at0.cells)) := HA.out.alloc _
          have HS : Hid (Box (wk72.alloc (.cells (iZ.cells) 29)) (S7) 38 (x.cells)) := HS.out.alloc _
          have HN : Hid (Box (wk72.alloc (.cells (iZ.cells) 29)) (P7) 29 ((callI at0 x).cells)) := HN.out.alloc _
          have HM8 : Hid (Box (wk72.alloc (.cells (iZ.cells) 29)) (P8) 52 ((callM at0 x).cells)) := HM8.out.alloc _
          have HK : Hid (Kept No w (wk72.alloc (.cells (iZ.cells) 29))) := HK.out.alloc _
          have HO : Hid (w.heap.size ≤ N ∧ N < S7 ∧ S7 < P7 ∧ P7 < P8 ∧ P8 < wk72.heap.size) := by
            have h := HO.out
            have l := HLT.out
            show _ ∧ _
            omega
          have HLT : Hid (wk72.heap.size < (wk72.alloc (.cells (iZ.cells) 29)).heap.size) := by show _ < _; simp
          generalize wk72.alloc (.cells (iZ.cells) 29) = wk73 at HA HS HN HM8 HN10 HK HLT ⊢
          generalize wk72.heap.size = P10 at HN10 HO HLT ⊢
          refine wp_allocW 52 rfl (mZ.cells) zero52 wk73.heap.size rfl (by kernel_rfl) ?_
          try simp only [Act.put, sA, s0, s1]
          have HM11 : Hid (Box (wk73.alloc (.cells (mZ.cells) 52)) wk73.heap.size 52 (mZ.cells)) := Box.new _ _ _
          have HA : Hid (Box (wk73.alloc (.cells (mZ.cells) 52)) (N) 29 (at0.cells)) := HA.out.alloc _
          have HS : Hid (Box (wk73.alloc (.cells (mZ.cells) 52)) (S7) 38 (x.cells)) := HS.out.alloc _
          have HN : Hid (Box (wk73.alloc (.cells (mZ.cells) 52)) (P7) 29 ((callI at0 x).cells)) := HN.out.alloc _
          have HM8 : Hid (Box (wk73.alloc (.cells (mZ.cells) 52)) (P8) 52 ((callM at0 x).cells)) := HM8.out.alloc _
          have HN10 : Hid (Box (wk73.alloc (.cells (mZ.cells) 52)) (P10) 29 (iZ.cells)) := HN10.out.alloc _
          have HK : Hid (Kept No w (wk73.alloc (.cells (mZ.cells) 52))) := HK.out.alloc _
          have HO : Hid (w.heap.size ≤ N ∧ N < S7 ∧ S7 < P7 ∧ P7 < P8 ∧ P8 < P10 ∧ P10 < wk73.heap.size) := by
            have h := HO.out
            have l := HLT.out
            show _ ∧ _
            omega
          have HLT : Hid (wk73.heap.size < (wk73.alloc (.cells (mZ.cells) 52)).heap.size) := by show _ < _; simp
          generalize wk73.alloc (.cells (mZ.cells) 52) = wk74 at HA HS HN HM8 HN10 HM11 HK HLT ⊢
          generalize wk73.heap.size = P11 at HM11 HO HLT ⊢
          refine wp_storeW 29 _ _ rfl ⟨P10, 0, none⟩ (.agg (callI at0 x).cells) (by kernel_rfl) (by kernel_rfl) _ (store_I HN10.out rfl) (by kernel_rfl) ?_
          try simp only [Act.put, sA, s0, s1]
          have HLT : Hid (P11 < (wk74.setRow P10 ((callI at0 x).cells)).heap.size) := by show _ < _; rw [setRow_size]; exact HLT.out
          have HA : Hid (Box (wk74.setRow P10 ((callI at0 x).cells)) (N) 29 (at0.cells)) := HA.out.rowNe (by have := HO.out; omega) _
          have HS : Hid (Box (wk74.setRow P10 ((callI at0 x).cells)) (S7) 38 (x.cells)) := HS.out.rowNe (by have := HO.out; omega) _
          have HN : Hid (Box (wk74.setRow P10 ((callI at0 x).cells)) (P7) 29 ((callI at0 x).cells)) := HN.out.rowNe (by have := HO.out; omega) _
          have HM8 : Hid (Box (wk74.setRow P10 ((callI at0 x).cells)) (P8) 52 ((callM at0 x).cells)) := HM8.out.rowNe (by have := HO.out; omega) _
          have HN10 : Hid (Box (wk74.setRow P10 ((callI at0 x).cells)) (P10) 29 ((callI at0 x).cells)) := HN10.out.setRow _
          have HM11 : Hid (Box (wk74.setRow P10 ((callI at0 x).cells)) (P11) 52 (mZ.cells)) := HM11.out.rowNe (by have := HO.out; omega) _
          have HK : Hid (Kept No w (wk74.setRow P10 ((callI at0 x).cells))) := HK.out.newRow (by have := HO.out; omega) _
          generalize wk74.setRow P10 ((callI at0 x).cells) = wk75 at HA HS HN HM8 HN10 HM11 HK HLT ⊢
          refine wp_storeW 52 _ _ rfl ⟨P11, 0, none⟩ (.agg (callM at0 x).cells) (by kernel_rfl) (by kernel_rfl) _ (store_M HM11.out rfl) (by kernel_rfl) ?_
          try simp only [Act.put, sA, s0, s1]
          have HLT : Hid (P11 < (wk75.setRow P11 ((callM at0 x).cells)).heap.size) := by show _ < _; rw [setRow_size]; exact HLT.out
          have HA : Hid (Box (wk75.setRow P11 ((callM at0 x).cells)) (N) 29 (at0.cells)) := HA.out.rowNe (by have := HO.out; omega) _
          have HS : Hid (Box (wk75.setRow P11 ((callM at0 x).cells)) (S7) 38 (x.cells)) := HS.out.rowNe (by have := HO.out; omega) _
          have HN : Hid (Box (wk75.setRow P11 ((callM at0 x).cells)) (P7) 29 ((callI at0 x).cells)) := HN.out.rowNe (by have := HO.out; omega) _
          have HM8 : Hid (Box (wk75.setRow P11 ((callM at0 x).cells)) (P8) 52 ((callM at0 x).cells)) := HM8.out.rowNe (by have := HO.out; omega) _
          have HN10 : Hid (Box (wk75.setRow P11 ((callM at0 x).cells)) (P10) 29 ((callI at0 x).cells)) := HN10.out.rowNe (by have := HO.out; omega) _
          have HM11 : Hid (Box (wk75.setRow P11 ((callM at0 x).cells)) (P11) 52 ((callM at0 x).cells)) := HM11.out.setRow _
          have HK : Hid (Kept No w (wk75.setRow P11 ((callM at0 x).cells))) := HK.out.newRow (by have := HO.out; omega) _
          generalize wk75.setRow P11 ((callM at0 x).cells) = wk76 at HA HS HN HM8 HN10 HM11 HK HLT ⊢
          refine wp_takeW (.bool (callB at0 x)) (by kernel_rfl) (by kernel_rfl) ?_
          try simp only [Act.put, sA, s0, s1]
          refine WL.nil ?_
          try simp only [Act.put, sA, s0, s1]
          go_upto_region 12 with fail
          refine WL.start ?_
          refine wp_takeW (.agg ((callI at0 x).cells)) (exec_load 29 _ rfl ⟨P7, 0, none⟩ (by kernel_rfl) (.agg ((callI at0 x).cells)) (load_I HN.out)) (by kernel_rfl) ?_
          try simp only [Act.put, sA, s0, s1]
          refine wp_takeW (.agg ((callI at0 x).cells)) (exec_load 29 _ rfl ⟨P10, 0, none⟩ (by kernel_rfl) (.agg ((callI at0 x).cells)) (load_I HN10.out)) (by kernel_rfl) ?_
          try simp only [Act.put, sA, s0, s1]
          refine wp_takeW (.bool false) (exec_bin .neq 29 _ _ _ rfl (.agg ((callI at0 x).cells)) (.agg ((callI at0 x).cells)) (.bool false) (by kernel_rfl) (by kernel_rfl) (guard_I _ (.inr rfl) _ _ _ _ _) (by rw [neqI, eqI_refl]; rfl)) (by kernel_rfl) ?_
          try simp only [Act.put, sA, s0, s1]
          refine wp_takeW (.bool false) (by kernel_rfl) (by kernel_rfl) ?_
          try simp only [Act.put, sA, s0, s1]
          refine wp_takeW (.bool (callB at0 x)) (by kernel_rfl) (by kernel_rfl) ?_
          try simp only [Act.put, sA, s0, s1]
          refine wp_takeW (.bool (callB at0 x)) (by kernel_rfl) (by kernel_rfl) ?_
          try simp only [Act.put, sA, s0, s1]
          refine wp_takeW (.bool false) (exec_bin .neq 4 _ _ _ rfl (.bool (callB at0 x)) (.bool (callB at0 x)) (.bool false) (by kernel_rfl) (by kernel_rfl) (by kernel_rfl) (by rw [neqB, beq_self_eq_true]; rfl)) (by kernel_rfl) ?_
          try simp only [Act.put, sA, s0, s1]
          refine wp_takeW (.bool false) (by kernel_rfl) (by kernel_rfl) ?_
          try simp only [Act.put, sA, s0, s1]
          refine wp_takeW (.bool false) (by kernel_rfl) (by kernel_rfl) ?_
          try simp only [Act.put, sA, s0, s1]
          refine wp_takeW (.pointer (some ⟨P8, 0, none⟩)) (by kernel_rfl) (by kernel_rfl) ?_
          try simp only [Act.put, sA, s0, s1]
          refine wp_takeW (.int .i64 (callM at0 x).k) (exec_load 3 _ rfl ⟨P8, 0, none⟩ (by kernel_rfl) (.int .i64 (callM at0 x).k) (load_N (Mg.cel HM8.out).1)) (by kernel_rfl) ?_
          try simp only [Act.put, sA, s0, s1]
          refine wp_takeW (.pointer (some ⟨P11, 0, none⟩)) (by kernel_rfl) (by kernel_rfl) ?_
          try simp only [Act.put, sA, s0, s1]
          refine wp_takeW (.int .i64 (callM at0 x).k) (exec_load 3 _ rfl ⟨P11, 0, none⟩ (by kernel_rfl) (.int .i64 (callM at0 x).k) (load_N (Mg.cel HM11.out).1)) (by kernel_rfl) ?_
          try simp only [Act.put, sA, s0, s1]
          refine wp_takeW (.bool false) (exec_bin .neq 3 _ _ _ rfl (.int .i64 (callM at0 x).k) (.int .i64 (callM at0 x).k) (.bool false) (by kernel_rfl) (by kernel_rfl) (by kernel_rfl) (by rw [neqN, beq_self_eq_true]; rfl)) (by kernel_rfl) ?_
          try simp only [Act.put, sA, s0, s1]
          refine wp_takeW (.bool false) (by kernel_rfl) (by kernel_rfl) ?_
          try simp only [Act.put, sA, s0, s1]
          refine wp_takeW (.bool false) (by kernel_rfl) (by kernel_rfl) ?_
          try simp only [Act.put, sA, s0, s1]
          refine wp_takeW (.pointer (some ⟨P8, 11, none⟩)) (by kernel_rfl) (by kernel_rfl) ?_
          try simp only [Act.put, sA, s0, s1]
          refine wp_takeW (.agg #[.int .i64 (callM at0 x).s.n, .int .i64 (callM at0 x).s.c]) (exec_load 23 _ rfl ⟨P8, 11, none⟩ (by kernel_rfl) (.agg #[.int .i64 (callM at0 x).s.n, .int .i64 (callM at0 x).s.c]) (load_S HM8.out (Mg.partS _))) (by kernel_rfl) ?_
          try simp only [Act.put, sA, s0, s1]
          refine wp_takeW (.pointer (some ⟨P11, 11, none⟩)) (by kernel_rfl) (by kernel_rfl) ?_
          try simp only [Act.put, sA, s0, s1]
          refine wp_takeW (.agg #[.int .i64 (callM at0 x).s.n, .int .i64 (callM at0 x).s.c]) (exec_load 23 _ rfl ⟨P11, 11, none⟩ (by kernel_rfl) (.agg #[.int .i64 (callM at0 x).s.n, .int .i64 (callM at0 x).s.c]) (load_S HM11.out (Mg.partS _))) (by kernel_rfl) ?_
          try simp only [Act.put, sA, s0, s1]
          refine wp_takeW (.bool false) (exec_bin .neq 23 _ _ _ rfl (.agg #[.int .i64 (callM at0 x).s.n, .int .i64 (callM at0 x).s.c]) (.agg #[.int .i64 (callM at0 x).s.n, .int .i64 (callM at0 x).s.c]) (.bool false) (by kernel_rfl) (by kernel_rfl) (guard_S _ (.inr rfl) _ _ _ _ _) (by rw [neqS (callM at0 x).s (callM at0 x).s, eqS_refl]; rfl)) (by kernel_rfl) ?_
          try simp only [Act.put, sA, s0, s1]
          refine wp_takeW (.bool false) (by kernel_rfl) (by kernel_rfl) ?_
          try simp only [Act.put, sA, s0, s1]
          refine wp_takeW (.bool false) (by kernel_rfl) (by kernel_rfl) ?_
          try simp only [Act.put, sA, s0, s1]
          refine wp_takeW (.pointer (some ⟨P8, 13, none⟩)) (by kernel_rfl) (by kernel_rfl) ?_
          try simp only [Act.put, sA, s0, s1]
          refine wp_takeW (.agg #[.int .i64 (callM at0 x).h.n, .int .i64 (callM at0 x).h.c]) (exec_load 23 _ rfl ⟨P8, 13, none⟩ (by kernel_rfl) (.agg #[.int .i64 (callM at0 x).h.n, .int .i64 (callM at0 x).h.c]) (load_S HM8.out (Mg.partH _))) (by kernel_rfl) ?_
          try simp only [Act.put, sA, s0, s1]
          refine wp_takeW (.pointer (some ⟨P11, 13, none⟩)) (by kernel_rfl) (by kernel_rfl) ?_
          try simp only [Act.put, sA, s0, s1]
          refine wp_takeW (.agg #[.int .i64 (callM at0 x).h.n, .int .i64 (callM at0 x).h.c]) (exec_load 23 _ rfl ⟨P11, 13, none⟩ (by kernel_rfl) (.agg #[.int .i64 (callM at0 x).h.n, .int .i64 (callM at0 x).h.c]) (load_S HM11.out (Mg.partH _))) (by kernel_rfl) ?_
          try simp only [Act.put, sA, s0, s1]
          refine wp_takeW (.bool false) (exec_bin .neq 23 _ _ _ rfl (.agg #[.int .i64 (callM at0 x).h.n, .int .i64 (callM at0 x).h.c]) (.agg #[.int .i64 (callM at0 x).h.n, .int .i64 (callM at0 x).h.c]) (.bool false) (by kernel_rfl) (by kernel_rfl) (guard_S _ (.inr rfl) _ _ _ _ _) (by rw [neqS (callM at0 x).h (callM at0 x).h, eqS_refl]; rfl)) (by kernel_rfl) ?_
          try simp only [Act.put, sA, s0, s1]
          refine wp_takeW (.bool false) (by kernel_rfl) (by kernel_rfl) ?_
          try simp only [Act.put, sA, s0, s1]
          refine wp_takeW (.bool false) (by kernel_rfl) (by kernel_rfl) ?_
          try simp only [Act.put, sA, s0, s1]
          refine wp_takeW (.pointer (some ⟨P8, 16, none⟩)) (by kernel_rfl) (by kernel_rfl) ?_
          try simp only [Act.put, sA, s0, s1]
          refine wp_takeW (.agg (callM at0 x).c.cells) (exec_load 27 _ rfl ⟨P8, 16, none⟩ (by kernel_rfl) (.agg (callM at0 x).c.cells) (load_MC HM8.out)) (by kernel_rfl) ?_
          try simp only [Act.put, sA, s0, s1]
          refine wp_takeW (.pointer (some ⟨P11, 16, none⟩)) (by kernel_rfl) (by kernel_rfl) ?_
          try simp only [Act.put, sA, s0, s1]
          refine wp_takeW (.agg (callM at0 x).c.cells) (exec_load 27 _ rfl ⟨P11, 16, none⟩ (by kernel_rfl) (.agg (callM at0 x).c.cells) (load_MC HM11.out)) (by kernel_rfl) ?_
          try simp only [Act.put, sA, s0, s1]
          refine wp_takeW (.bool false) (exec_bin .neq 27 _ _ _ rfl (.agg (callM at0 x).c.cells) (.agg (callM at0 x).c.cells) (.bool false) (by kernel_rfl) (by kernel_rfl) (guard_C _ (.inr rfl) _ _ _ _ _) (by rw [neqC, eqC_refl]; rfl)) (by kernel_rfl) ?_
          try simp only [Act.put, sA, s0, s1]
          refine wp_takeW (.bool false) (by kernel_rfl) (by kernel_rfl) ?_
          try simp only [Act.put, sA, s0, s1]
          refine WL.nil ?_
          try simp only [Act.put, sA, s0, s1]
          go_upto_region 14 with fail
          refine wp_region_held_drew (S := fun w' => Box w' (N) 29 (at0.cells) ∧ Box w' (P7) 29 ((callI at0 x).cells)) rfl ⟨HA.out, HN.out⟩ (fun hH => ?_)
          have HA : Hid (Box wk76.drew (N) 29 (at0.cells)) := HA.out
          have HS : Hid (Box wk76.drew (S7) 38 (x.cells)) := HS.out
          have HN : Hid (Box wk76.drew (P7) 29 ((callI at0 x).cells)) := HN.out
          have HM8 : Hid (Box wk76.drew (P8) 52 ((callM at0 x).cells)) := HM8.out
          have HN10 : Hid (Box wk76.drew (P10) 29 ((callI at0 x).cells)) := HN10.out
          have HM11 : Hid (Box wk76.drew (P11) 52 ((callM at0 x).cells)) := HM11.out
          have HK : Hid (Kept No w wk76.drew) := HK.out.drew
          have HLT : Hid (P11 < wk76.drew.heap.size) := HLT.out
          generalize wk76.drew = wk77 at HA HS HN HM8 HN10 HM11 HK HLT hH ⊢
          refine any_take (i := 0) (oi := { dst := some 100, op := Op.load 29 (Operand.tmp 7), type := 29, pos := "outright.go:30", after := #[], guard := none }) (v := .agg ((callI at0 x).cells)) rfl (by kernel_rfl) (by kernel_rfl) (by kernel_rfl) (fun _ _ _ h => h) (by kernel_rfl) (fun w' hw => exec_load 29 _ rfl ⟨P7, 0, none⟩ (by kernel_rfl) (.agg ((callI at0 x).cells)) (load_I hw.2)) hH ?_
          try simp only [Act.put, sA, s0, s1]
          refine any_call (i := 1) (o := { dst := some 101, op := Op.call { callee := Callee.value (Operand.func 8), args := #[], argTypes := #[] }, type := 35, pos := "outright.go:30", after := #[], guard := none }) rfl (by kernel_rfl) (by kernel_rfl) 8 #[] (by kernel_rfl) _ (wide_any _) ?_
          rintro e wk79 ⟨wa78, rfl, hk⟩
          have HA : Hid (Box wk79 (N) 29 (at0.cells)) := HA.out.kept hk (fun e => e)
          have HS : Hid (Box wk79 (S7) 38 (x.cells)) := HS.out.kept hk (fun e => e)
          have HN : Hid (Box wk79 (P7) 29 ((callI at0 x).cells)) := HN.out.kept hk (fun e => e)
          have HM8 : Hid (Box wk79 (P8) 52 ((callM at0 x).cells)) := HM8.out.kept hk (fun e => e)
          have HN10 : Hid (Box wk79 (P10) 29 ((callI at0 x).cells)) := HN10.out.kept hk (fun e => e)
          have HM11 : Hid (Box wk79 (P11) 52 ((callM at0 x).cells)) := HM11.out.kept hk (fun e => e)
          have HK : Hid (Kept No w wk79) := HK.out.then hk
          have HLT : Hid (P11 < wk79.heap.size) := Nat.lt_of_lt_of_le HLT.out hk.size
          clear hk
          refine ⟨.agg (wideC wa78), rfl, ⟨HA.out, HN.out⟩, fun hH => ?_⟩
          try simp only [Act.put, sA, s0, s1]
          refine any_call (i := 2) (o := { dst := some 102, op := Op.call { callee := Callee.value (Operand.func 7), args := #[Operand.tmp 100, Operand.tmp 101], argTypes := #[29, 35] }, type := 4, pos := "outright.go:30", after := #[{ on := 0, ground := Ground.data }, { on := 1, ground := Ground.data }, { on := 1, ground := Ground.chain }], guard := none }) rfl (by kernel_rfl) (by kernel_rfl) 7 #[.agg ((callI at0 x).cells), .agg (wideC wa78)] (by kernel_rfl) _ (inst_any (callI at0 x) wa78 _) ?_
          rintro e wk80 ⟨rfl, hk⟩
          have HA : Hid (Box wk80 (N) 29 (at0.cells)) := HA.out.kept hk (fun e => e)
          have HS : Hid (Box wk80 (S7) 38 (x.cells)) := HS.out.kept hk (fun e => e)
          have HN : Hid (Box wk80 (P7) 29 ((callI at0 x).cells)) := HN.out.kept hk (fun e => e)
          have HM8 : Hid (Box wk80 (P8) 52 ((callM at0 x).cells)) := HM8.out.kept hk (fun e => e)
          have HN10 : Hid (Box wk80 (P10) 29 ((callI at0 x).cells)) := HN10.out.kept hk (fun e => e)
          have HM11 : Hid (Box wk80 (P11) 52 ((callM at0 x).cells)) := HM11.out.kept hk (fun e => e)
          have HK : Hid (Kept No w wk80) := HK.out.then hk
          have HLT : Hid (P11 < wk80.heap.size) := Nat.lt_of_lt_of_le HLT.out hk.size
          clear hk
          refine ⟨.bool true, by rw [HIC.out], ⟨HA.out, HN.out⟩, fun hH => ?_⟩
          try simp only [Act.put, sA, s0, s1]
          refine any_take (i := 3) (oi := { dst := some 103, op := Op.unOp UnOp.not 4 (Operand.tmp 102), type := 4, pos := "outright.go:30", after := #[{ on := 2, ground := Ground.data }], guard := none }) (v := .bool false) rfl (by kernel_rfl) (by kernel_rfl) (by kernel_rfl) (fun _ _ _ h => h) (by kernel_rfl) (fun _ _ => by kernel_rfl) hH ?_
          try simp only [Act.put, sA, s0, s1]
          refine any_take (i := 4) (oi := { dst := some 104, op := Op.move (Operand.tmp 103), type := 4, pos := "outright.go:30", after := #[{ on := 3, ground := Ground.data }, { on := 2, ground := Ground.chain }], guard := none }) (v := .bool false) rfl (by kernel_rfl) (by kernel_rfl) (by kernel_rfl) (fun _ _ _ h => h) (by kernel_rfl) (fun _ _ => by kernel_rfl) hH ?_
          try simp only [Act.put, sA, s0, s1]
          refine any_take (i := 5) (oi := { dst := some 105, op := Op.move (Operand.tmp 9), type := 4, pos := "outright.go:30", after := #[{ on := 4, ground := Ground.guard }], guard := some (4, false) }) (v := .bool (callB at0 x)) rfl (by kernel_rfl) (by kernel_rfl) (by kernel_rfl) (fun _ _ _ h => h) (by kernel_rfl) (fun _ _ => by kernel_rfl) hH ?_
          try simp only [Act.put, sA, s0, s1]
          refine any_take (i := 6) (oi := { dst := some 106, op := Op.load 29 (Operand.tmp 7), type := 29, pos := "outright.go:30", after := #[{ on := 4, ground := Ground.guard }], guard := some (4, false) }) (v := .agg ((callI at0 x).cells)) rfl (by kernel_rfl) (by kernel_rfl) (by kernel_rfl) (fun _ _ _ h => h) (by kernel_rfl) (fun w' hw => exec_load 29 _ rfl ⟨P7, 0, none⟩ (by kernel_rfl) (.agg ((callI at0 x).cells)) (load_I hw.2)) hH ?_
          try simp only [Act.put, sA, s0, s1]
          refine any_take (i := 7) (oi := { dst := some 107, op := Op.load 29 (Operand.tmp 2), type := 29, pos := "outright.go:30", after := #[{ on := 4, ground := Ground.guard }], guard := some (4, false) }) (v := .agg at0.cells) rfl (by kernel_rfl) (by kernel_rfl) (by kernel_rfl) (fun _ _ _ h => h) (by kernel_rfl) (fun w' hw => exec_load 29 _ rfl ⟨N, 0, none⟩ (by kernel_rfl) (.agg at0.cells) (load_I hw.1)) hH ?_
          try simp only [Act.put, sA, s0, s1]
          refine any_take (i := 8) (oi := { dst := some 108, op := Op.binOp BinOp.neq 29 (Operand.tmp 106) (Operand.tmp 107) 29, type := 4, pos := "outright.go:30", after := #[{ on := 6, ground := Ground.data }, { on := 7, ground := Ground.data }, { on := 4, ground := Ground.guard }], guard := some (4, false) }) (v := .bool (!eqI (callI at0 x) at0)) rfl (by kernel_rfl) (by kernel_rfl) (by kernel_rfl) (fun _ _ _ h => h) (by kernel_rfl) (fun w' hw => exec_bin .neq 29 _ _ _ rfl (.agg ((callI at0 x).cells)) (.agg at0.cells) (.bool (!eqI (callI at0 x) at0)) (by kernel_rfl) (by kernel_rfl) (guard_I _ (.inr rfl) _ _ _ _ _) (neqI _ _ _)) hH ?_
          try simp only [Act.put, sA, s0, s1]
          refine any_take (i := 9) (oi := { dst := some 109, op := Op.binOp BinOp.neq 4 (Operand.tmp 105) (Operand.tmp 108) 4, type := 4, pos := "outright.go:30", after := #[{ on := 5, ground := Ground.data }, { on := 8, ground := Ground.data }, { on := 4, ground := Ground.guard }], guard := some (4, false) }) (v := .bool false) rfl (by kernel_rfl) (by kernel_rfl) (by kernel_rfl) (fun _ _ _ h => h) (by kernel_rfl) (fun w' hw => exec_bin .neq 4 _ _ _ rfl (.bool (callB at0 x)) (.bool (!eqI (callI at0 x) at0)) (.bool false) (by kernel_rfl) (by kernel_rfl) (by kernel_rfl) (by rw [neqB, callB_eq, beq_self_eq_true]; rfl)) hH ?_
          try simp only [Act.put, sA, s0, s1]
          refine any_take (i := 10) (oi := { dst := some 110, op := Op.pick (Operand.tmp 104) (Operand.const (Value.bool true)) (Operand.tmp 109), type := 4, pos := "outright.go:30", after := #[{ on := 4, ground := Ground.data }, { on := 9, ground := Ground.data }], guard := none }) (v := .bool false) rfl (by kernel_rfl) (by kernel_rfl) (by kernel_rfl) (fun _ _ _ h => h) (by kernel_rfl) (fun _ _ => by kernel_rfl) hH ?_
          try simp only [Act.put, sA, s0, s1]
          refine any_take (i := 11) (oi := { dst := some 111, op := Op.move (Operand.tmp 110), type := 4, pos := "outright.go:30", after := #[{ on := 10, ground := Ground.data }, { on := 4, ground := Ground.chain }], guard := none }) (v := .bool false) rfl (by kernel_rfl) (by kernel_rfl) (by kernel_rfl) (fun _ _ _ h => h) (by kernel_rfl) (fun _ _ => by kernel_rfl) hH ?_
          try simp only [Act.put, sA, s0, s1]
          refine any_take (i := 12) (oi := { dst := some 112, op := Op.fieldAddr 29 (Operand.tmp 2) 3, type := 0, pos := "outright.go:30", after := #[{ on := 11, ground := Ground.guard }], guard := some (11, false) }) (v := .pointer (some ⟨N, 13, none⟩)) rfl (by kernel_rfl) (by kernel_rfl) (by kernel_rfl) (fun _ _ _ h => h) (by kernel_rfl) (fun _ _ => by kernel_rfl) hH ?_
          try simp only [Act.put, sA, s0, s1]
          cases q17 : (at0.d)
          ·skip
           refine any_take (i := 13) (oi := { dst := some 113, op := Op.load 4 (Operand.tmp 112), type := 4, pos := "outright.go:30", after := #[{ on := 12, ground := Ground.data }, { on := 11, ground := Ground.guard }], guard := some (11, false) }) (v := .bool false) rfl (by kernel_rfl) (by kernel_rfl) (by kernel_rfl) (fun _ _ _ h => h) (by kernel_rfl) (fun w' hw => exec_load 4 _ rfl ⟨N, 13, none⟩ (by kernel_rfl) (.bool false) (by rw [← q17]; exact load_B (In.cel hw.1).2.2.2.2)) hH ?_
           try simp only [Act.put, sA, s0, s1]
           refine any_take (i := 14) (oi := { dst := some 114, op := Op.move (Operand.tmp 113), type := 4, pos := "outright.go:30", after := #[{ on := 13, ground := Ground.data }, { on := 11, ground := Ground.chain }, { on := 11, ground := Ground.guard }], guard := some (11, false) }) (v := .bool false) rfl (by kernel_rfl) (by kernel_rfl) (by kernel_rfl) (fun _ _ _ h => h) (by kernel_rfl) (fun _ _ => by kernel_rfl) hH ?_
           try simp only [Act.put, sA, s0, s1]
           refine any_skip (i := 15) (oi := { dst := some 115, op := Op.move (Operand.tmp 9), type := 4, pos := "outright.go:30", after := #[{ on := 14, ground := Ground.guard }], guard := some (14, true) }) rfl (by kernel_rfl) (by kernel_rfl) (by kernel_rfl) (fun _ _ _ h => h) (by kernel_rfl) hH ?_
           try simp only [Act.put, sA, s0, s1]
           refine any_take (i := 16) (oi := { dst := some 116, op := Op.pick (Operand.tmp 114) (Operand.tmp 115) (Operand.const (Value.bool false)), type := 4, pos := "outright.go:30", after := #[{ on := 14, ground := Ground.data }, { on := 15, ground := Ground.data }, { on := 11, ground := Ground.guard }], guard := some (11, false) }) (v := .bool false) rfl (by kernel_rfl) (by kernel_rfl) (by kernel_rfl) (fun _ _ _ h => h) (by kernel_rfl) (fun _ _ => by kernel_rfl) hH ?_
           try simp only [Act.put, sA, s0, s1]
           refine any_take (i := 17) (oi := { dst := some 117, op := Op.pick (Operand.tmp 111) (Operand.const (Value.bool true)) (Operand.tmp 116), type := 4, pos := "outright.go:30", after := #[{ on := 11, ground := Ground.data }, { on := 16, ground := Ground.data }], guard := none }) (v := .bool false) rfl (by kernel_rfl) (by kernel_rfl) (by kernel_rfl) (fun _ _ _ h => h) (by kernel_rfl) (fun _ _ => by kernel_rfl) hH ?_
           try simp only [Act.put, sA, s0, s1]
           refine wpAnyH_done (by kernel_rfl) ?_ _
           try simp only [Act.put, sA, s0, s1]
           go_upto_region 16 with fail
           refine WL.start ?_
           refine wp_takeW (.pointer (some ⟨P7, 13, none⟩)) (by kernel_rfl) (by kernel_rfl) ?_
           try simp only [Act.put, sA, s0, s1]
           cases q18 : ((callI at0 x).d)
           ·skip
            refine wp_takeW (.bool false) (exec_load 4 _ rfl ⟨P7, 13, none⟩ (by kernel_rfl) (.bool false) (by rw [← q18]; exact load_B (In.cel HN.out).2.2.2.2)) (by kernel_rfl) ?_
            try simp only [Act.put, sA, s0, s1]
            refine wp_takeW (.bool true) (by kernel_rfl) (by kernel_rfl) ?_
            try simp only [Act.put, sA, s0, s1]
            refine wp_takeW (.bool true) (by kernel_rfl) (by kernel_rfl) ?_
            try simp only [Act.put, sA, s0, s1]
            refine wp_takeW (.pointer (some ⟨N, 0, none⟩)) (by kernel_rfl) (by kernel_rfl) ?_
            try simp only [Act.put, sA, s0, s1]
            refine wp_takeW (.agg #[.int .i64 at0.p.n, .int .i64 at0.p.c]) (exec_load 23 _ rfl ⟨N, 0, none⟩ (by kernel_rfl) (.agg #[.int .i64 at0.p.n, .int .i64 at0.p.c]) (load_S HA.out (In.partP _))) (by kernel_rfl) ?_
            try simp only [Act.put, sA, s0, s1]
            refine wp_takeW (.pointer (some ⟨P7, 0, none⟩)) (by kernel_rfl) (by kernel_rfl) ?_
            try simp only [Act.put, sA, s0, s1]
            refine wp_takeW (.agg #[.int .i64 (callI at0 x).p.n, .int .i64 (callI at0 x).p.c]) (exec_load 23 _ rfl ⟨P7, 0, none⟩ (by kernel_rfl) (.agg #[.int .i64 (callI at0 x).p.n, .int .i64 (callI at0 x).p.c]) (load_S HN.out (In.partP _))) (by kernel_rfl) ?_
            try simp only [Act.put, sA, s0, s1]
            refine wp_callW 19 #[.agg #[.int .i64 at0.p.n, .int .i64 at0.p.c], .agg #[.int .i64 (callI at0 x).p.n, .int .i64 (callI at0 x).p.c]] (by kernel_rfl) _ (above_any at0.p.n at0.p.c (callI at0 x).p.n (callI at0 x).p.c _) (by kernel_rfl) ?_
            rintro e wk81 ⟨rfl, hk⟩
            have HA : Hid (Box wk81 (N) 29 (at0.cells)) := HA.out.kept hk (fun e => e)
            have HS : Hid (Box wk81 (S7) 38 (x.cells)) := HS.out.kept hk (fun e => e)
            have HN : Hid (Box wk81 (P7) 29 ((callI at0 x).cells)) := HN.out.kept hk (fun e => e)
            have HM8 : Hid (Box wk81 (P8) 52 ((callM at0 x).cells)) := HM8.out.kept hk (fun e => e)
            have HN10 : Hid (Box wk81 (P10) 29 ((callI at0 x).cells)) := HN10.out.kept hk (fun e => e)
            have HM11 : Hid (Box wk81 (P11) 52 ((callM at0 x).cells)) := HM11.out.kept hk (fun e => e)
            have HK : Hid (Kept No w wk81) := HK.out.then hk
            have HLT : Hid (P11 < wk81.heap.size) := Nat.lt_of_lt_of_le HLT.out hk.size
            clear hk
            refine ⟨.bool false, by rw [show lessB (callI at0 x).p.n (callI at0 x).p.c at0.p.n at0.p.c = false from (call_up HIN.out q18).1], ?_⟩
            try simp only [Act.put, sA, s0, s1]
            refine wp_takeW (.bool false) (by kernel_rfl) (by kernel_rfl) ?_
            try simp only [Act.put, sA, s0, s1]
            refine wp_takeW (.pointer (some ⟨N, 2, none⟩)) (by kernel_rfl) (by kernel_rfl) ?_
            try simp only [Act.put, sA, s0, s1]
            refine wp_takeW (.agg #[.int .i64 at0.a.n, .int .i64 at0.a.c]) (exec_load 23 _ rfl ⟨N, 2, none⟩ (by kernel_rfl) (.agg #[.int .i64 at0.a.n, .int .i64 at0.a.c]) (load_S HA.out (In.partA _))) (by kernel_rfl) ?_
            try simp only [Act.put, sA, s0, s1]
            refine wp_takeW (.pointer (some ⟨P7, 2, none⟩)) (by kernel_rfl) (by kernel_rfl) ?_
            try simp only [Act.put, sA, s0, s1]
            refine wp_takeW (.agg #[.int .i64 (callI at0 x).a.n, .int .i64 (callI at0 x).a.c]) (exec_load 23 _ rfl ⟨P7, 2, none⟩ (by kernel_rfl) (.agg #[.int .i64 (callI at0 x).a.n, .int .i64 (callI at0 x).a.c]) (load_S HN.out (In.partA _))) (by kernel_rfl) ?_
            try simp only [Act.put, sA, s0, s1]
            refine wp_callW 19 #[.agg #[.int .i64 at0.a.n, .int .i64 at0.a.c], .agg #[.int .i64 (callI at0 x).a.n, .int .i64 (callI at0 x).a.c]] (by kernel_rfl) _ (above_any at0.a.n at0.a.c (callI at0 x).a.n (callI at0 x).a.c _) (by kernel_rfl) ?_
            rintro e wk82 ⟨rfl, hk⟩
            have HA : Hid (Box wk82 (N) 29 (at0.cells)) := HA.out.kept hk (fun e => e)
            have HS : Hid (Box wk82 (S7) 38 (x.cells)) := HS.out.kept hk (fun e => e)
            have HN : Hid (Box wk82 (P7) 29 ((callI at0 x).cells)) := HN.out.kept hk (fun e => e)
            have HM8 : Hid (Box wk82 (P8) 52 ((callM at0 x).cells)) := HM8.out.kept hk (fun e => e)
            have HN10 : Hid (Box wk82 (P10) 29 ((callI at0 x).cells)) := HN10.out.kept hk (fun e => e)
            have HM11 : Hid (Box wk82 (P11) 52 ((callM at0 x).cells)) := HM11.out.kept hk (fun e => e)
            have HK : Hid (Kept No w wk82) := HK.out.then hk
            have HLT : Hid (P11 < wk82.heap.size) := Nat.lt_of_lt_of_le HLT.out hk.size
            clear hk
            refine ⟨.bool false, by rw [show lessB (callI at0 x).a.n (callI at0 x).a.c at0.a.n at0.a.c = false from (call_up HIN.out q18).2], ?_⟩
            try simp only [Act.put, sA, s0, s1]
            refine wp_takeW (.bool false) (by kernel_rfl) (by kernel_rfl) ?_
            try simp only [Act.put, sA, s0, s1]
            refine wp_takeW (.bool false) (by kernel_rfl) (by kernel_rfl) ?_
            try simp only [Act.put, sA, s0, s1]
            refine WL.nil ?_
            try simp only [Act.put, sA, s0, s1]
            go_upto_region 18 with fail
            refine WL.start ?_
            refine wp_takeW (.pointer (some ⟨S7, 0, none⟩)) (by kernel_rfl) (by kernel_rfl) ?_
            try simp only [Act.put, sA, s0, s1]
            refine wp_takeW (.int .i64 x.k) (exec_load 3 _ rfl ⟨S7, 0, none⟩ (by kernel_rfl) (.int .i64 x.k) (load_N (HS.out.cell 0))) (by kernel_rfl) ?_
            try simp only [Act.put, sA, s0, s1]
            refine wp_takeW (.bool false) (exec_bin .eql 3 _ _ _ rfl (.int .i64 x.k) (.int .i64 1) (.bool false) (by kernel_rfl) (by kernel_rfl) (by kernel_rfl) (by rw [eqlN, q15]; try rfl)) (by kernel_rfl) ?_
            try simp only [Act.put, sA, s0, s1]
            refine wp_takeW (.bool false) (by kernel_rfl) (by kernel_rfl) ?_
            try simp only [Act.put, sA, s0, s1]
            refine wp_takeW (.pointer (some ⟨S7, 0, none⟩)) (by kernel_rfl) (by kernel_rfl) ?_
            try simp only [Act.put, sA, s0, s1]
            refine wp_takeW (.int .i64 x.k) (exec_load 3 _ rfl ⟨S7, 0, none⟩ (by kernel_rfl) (.int .i64 x.k) (load_N (HS.out.cell 0))) (by kernel_rfl) ?_
            try simp only [Act.put, sA, s0, s1]
            cases q19 : (x.k == 2)
            ·skip
             refine wp_takeW (.bool false) (exec_bin .eql 3 _ _ _ rfl (.int .i64 x.k) (.int .i64 2) (.bool false) (by kernel_rfl) (by kernel_rfl) (by kernel_rfl) (by rw [eqlN, q19]; try rfl)) (by kernel_rfl) ?_
             try simp only [Act.put, sA, s0, s1]
             refine wp_takeW (.bool false) (by kernel_rfl) (by kernel_rfl) ?_
             try simp only [Act.put, sA, s0, s1]
             refine wp_takeW (.bool false) (by kernel_rfl) (by kernel_rfl) ?_
             try simp only [Act.put, sA, s0, s1]
             refine wp_skip (by kernel_rfl) ?_
             try simp only [Act.put, sA, s0, s1]
             refine wp_skip (by kernel_rfl) ?_
             try simp only [Act.put, sA, s0, s1]
             refine wp_skip (by kernel_rfl) ?_
             try simp only [Act.put, sA, s0, s1]
             refine wp_skip (by kernel_rfl) ?_
             try simp only [Act.put, sA, s0, s1]
             refine wp_skip (by kernel_rfl) ?_
             try simp only [Act.put, sA, s0, s1]
             refine wp_skip (by kernel_rfl) ?_
             try simp only [Act.put, sA, s0, s1]
             refine wp_takeW (.bool false) (by kernel_rfl) (by kernel_rfl) ?_
             try simp only [Act.put, sA, s0, s1]
             refine WL.nil ?_
             try simp only [Act.put, sA, s0, s1]
             go_upto_region 20 with fail
             refine WL.start ?_
             refine wp_takeW (.agg ((callI at0 x).cells)) (exec_load 29 _ rfl ⟨P7, 0, none⟩ (by kernel_rfl) (.agg ((callI at0 x).cells)) (load_I HN.out)) (by kernel_rfl) ?_
             try simp only [Act.put, sA, s0, s1]
             refine wp_storeW 29 _ _ rfl ⟨N, 0, none⟩ (.agg ((callI at0 x).cells)) (by kernel_rfl) (by kernel_rfl) _ (store_I HA.out rfl) (by kernel_rfl) ?_
             try simp only [Act.put, sA, s0, s1]
             have HLT : Hid (P11 < (wk82.setRow N ((callI at0 x).cells)).heap.size) := by show _ < _; rw [setRow_size]; exact HLT.out
             have HA : Hid (Box (wk82.setRow N ((callI at0 x).cells)) (N) 29 ((callI at0 x).cells)) := HA.out.setRow _
             have HS : Hid (Box (wk82.setRow N ((callI at0 x).cells)) (S7) 38 (x.cells)) := HS.out.rowNe (by have := HO.out; omega) _
             have HN : Hid (Box (wk82.setRow N ((callI at0 x).cells)) (P7) 29 ((callI at0 x).cells)) := HN.out.rowNe (by have := HO.out; omega) _
             have HM8 : Hid (Box (wk82.setRow N ((callI at0 x).cells)) (P8) 52 ((callM at0 x).cells)) := HM8.out.rowNe (by have := HO.out; omega) _
             have HN10 : Hid (Box (wk82.setRow N ((callI at0 x).cells)) (P10) 29 ((callI at0 x).cells)) := HN10.out.rowNe (by have := HO.out; omega) _
             have HM11 : Hid (Box (wk82.setRow N ((callI at0 x).cells)) (P11) 52 ((callM at0 x).cells)) := HM11.out.rowNe (by have := HO.out; omega) _
             have HK : Hid (Kept No w (wk82.setRow N ((callI at0 x).cells))) := HK.out.newRow (by have := HO.out; omega) _
             generalize wk82.setRow N ((callI at0 x).cells) = wk83 at HA HS HN HM8 HN10 HM11 HK HLT ⊢
             refine WL.nil ?_
             try simp only [Act.put, sA, s0, s1]
             have HF : Hid (AtI w N wk83 (fun i => instB i = true)) := ⟨_, HA.out, HK.out, Nat.lt_of_le_of_lt (by have := HO.out; omega) HLT.out, HIC.out⟩
             go_wp2
             go_roundw
             case measure => simp [intOf]; omega
             case rel => exact ⟨k + 1, by go_num, by omega, HF⟩
            · (exfalso; simp at q19 q2; omega)
           ·skip
            refine wp_takeW (.bool true) (exec_load 4 _ rfl ⟨P7, 13, none⟩ (by kernel_rfl) (.bool true) (by rw [← q18]; exact load_B (In.cel HN.out).2.2.2.2)) (by kernel_rfl) ?_
            try simp only [Act.put, sA, s0, s1]
            refine wp_takeW (.bool false) (by kernel_rfl) (by kernel_rfl) ?_
            try simp only [Act.put, sA, s0, s1]
            refine wp_takeW (.bool false) (by kernel_rfl) (by kernel_rfl) ?_
            try simp only [Act.put, sA, s0, s1]
            refine wp_skip (by kernel_rfl) ?_
            try simp only [Act.put, sA, s0, s1]
            refine wp_skip (by kernel_rfl) ?_
            try simp only [Act.put, sA, s0, s1]
            refine wp_skip (by kernel_rfl) ?_
            try simp only [Act.put, sA, s0, s1]
            refine wp_skip (by kernel_rfl) ?_
            try simp only [Act.put, sA, s0, s1]
            refine wp_skip (by kernel_rfl) ?_
            try simp only [Act.put, sA, s0, s1]
            refine wp_skip (by kernel_rfl) ?_
            try simp only [Act.put, sA, s0, s1]
            refine wp_skip (by kernel_rfl) ?_
            try simp only [Act.put, sA, s0, s1]
            refine wp_skip (by kernel_rfl) ?_
            try simp only [Act.put, sA, s0, s1]
            refine wp_skip (by kernel_rfl) ?_
            try simp only [Act.put, sA, s0, s1]
            refine wp_skip (by kernel_rfl) ?_
            try simp only [Act.put, sA, s0, s1]
            refine wp_skip (by kernel_rfl) ?_
            try simp only [Act.put, sA, s0, s1]
            refine wp_skip (by kernel_rfl) ?_
            try simp only [Act.put, sA, s0, s1]
            refine wp_takeW (.bool false) (by kernel_rfl) (by kernel_rfl) ?_
            try simp only [Act.put, sA, s0, s1]
            refine WL.nil ?_
            try simp only [Act.put, sA, s0, s1]
            go_upto_region 18 with fail
            refine WL.start ?_
            refine wp_takeW (.pointer (some ⟨S7, 0, none⟩)) (by kernel_rfl) (by kernel_rfl) ?_
            try simp only [Act.put, sA, s0, s1]
            refine wp_takeW (.int .i64 x.k) (exec_load 3 _ rfl ⟨S7, 0, none⟩ (by kernel_rfl) (.int .i64 x.k) (load_N (HS.out.cell 0))) (by kernel_rfl) ?_
            try simp only [Act.put, sA, s0, s1]
            refine wp_takeW (.bool false) (exec_bin .eql 3 _ _ _ rfl (.int .i64 x.k) (.int .i64 1) (.bool false) (by kernel_rfl) (by kernel_rfl) (by kernel_rfl) (by rw [eqlN, q15]; try rfl)) (by kernel_rfl) ?_
            try simp only [Act.put, sA, s0, s1]
            refine wp_takeW (.bool false) (by kernel_rfl) (by kernel_rfl) ?_
            try simp only [Act.put, sA, s0, s1]
            refine wp_takeW (.pointer (some ⟨S7, 0, none⟩)) (by kernel_rfl) (by kernel_rfl) ?_
            try simp only [Act.put, sA, s0, s1]
            refine wp_takeW (.int .i64 x.k) (exec_load 3 _ rfl ⟨S7, 0, none⟩ (by kernel_rfl) (.int .i64 x.k) (load_N (HS.out.cell 0))) (by kernel_rfl) ?_
            try simp only [Act.put, sA, s0, s1]
            cases q20 : (x.k == 2)
            ·skip
             refine wp_takeW (.bool false) (exec_bin .eql 3 _ _ _ rfl (.int .i64 x.k) (.int .i64 2) (.bool false) (by kernel_rfl) (by kernel_rfl) (by kernel_rfl) (by rw [eqlN, q20]; try rfl)) (by kernel_rfl) ?_
             try simp only [Act.put, sA, s0, s1]
             refine wp_takeW (.bool false) (by kernel_rfl) (by kernel_rfl) ?_
             try simp only [Act.put, sA, s0, s1]
             refine wp_takeW (.bool false) (by kernel_rfl) (by kernel_rfl) ?_
             try simp only [Act.put, sA, s0, s1]
             refine wp_skip (by kernel_rfl) ?_
             try simp only [Act.put, sA, s0, s1]
             refine wp_skip (by kernel_rfl) ?_
             try simp only [Act.put, sA, s0, s1]
             refine wp_skip (by kernel_rfl) ?_
             try simp only [Act.put, sA, s0, s1]
             refine wp_skip (by kernel_rfl) ?_
             try simp only [Act.put, sA, s0, s1]
             refine wp_skip (by kernel_rfl) ?_
             try simp only [Act.put, sA, s0, s1]
             refine wp_skip (by kernel_rfl) ?_
             try simp only [Act.put, sA, s0, s1]
             refine wp_takeW (.bool false) (by kernel_rfl) (by kernel_rfl) ?_
             try simp only [Act.put, sA, s0, s1]
             refine WL.nil ?_
             try simp only [Act.put, sA, s0, s1]
             go_upto_region 20 with fail
             refine WL.start ?_
             refine wp_takeW (.agg ((callI at0 x).cells)) (exec_load 29 _ rfl ⟨P7, 0, none⟩ (by kernel_rfl) (.agg ((callI at0 x).cells)) (load_I HN.out)) (by kernel_rfl) ?_
             try simp only [Act.put, sA, s0, s1]
             refine wp_storeW 29 _ _ rfl ⟨N, 0, none⟩ (.agg ((callI at0 x).cells)) (by kernel_rfl) (by kernel_rfl) _ (store_I HA.out rfl) (by kernel_rfl) ?_
             try simp only [Act.put, sA, s0, s1]
             have HLT : Hid (P11 < (wk80.setRow N ((callI at0 x).cells)).heap.size) := by show _ < _; rw [setRow_size]; exact HLT.out
             have HA : Hid (Box (wk80.setRow N ((callI at0 x).cells)) (N) 29 ((callI at0 x).cells)) := HA.out.setRow _
             have HS : Hid (Box (wk80.setRow N ((callI at0 x).cells)) (S7) 38 (x.cells)) := HS.out.rowNe (by have := HO.out; omega) _
             have HN : Hid (Box (wk80.setRow N ((callI at0 x).cells)) (P7) 29 ((callI at0 x).cells)) := HN.out.rowNe (by have := HO.out; omega) _
             have HM8 : Hid (Box (wk80.setRow N ((callI at0 x).cells)) (P8) 52 ((callM at0 x).cells)) := HM8.out.rowNe (by have := HO.out; omega) _
             have HN10 : Hid (Box (wk80.setRow N ((callI at0 x).cells)) (P10) 29 ((callI at0 x).cells)) := HN10.out.rowNe (by have := HO.out; omega) _
             have HM11 : Hid (Box (wk80.setRow N ((callI at0 x).cells)) (P11) 52 ((callM at0 x).cells)) := HM11.out.rowNe (by have := HO.out; omega) _
             have HK : Hid (Kept No w (wk80.setRow N ((callI at0 x).cells))) := HK.out.newRow (by have := HO.out; omega) _
             generalize wk80.setRow N ((callI at0 x).cells) = wk84 at HA HS HN HM8 HN10 HM11 HK HLT ⊢
             refine WL.nil ?_
             try simp only [Act.put, sA, s0, s1]
             have HF : Hid (AtI w N wk84 (fun i => instB i = true)) := ⟨_, HA.out, HK.out, Nat.lt_of_le_of_lt (by have := HO.out; omega) HLT.out, HIC.out⟩
             go_wp2
             go_roundw
             case measure => simp [intOf]; omega
             case rel => exact ⟨k + 1, by go_num, by omega, HF⟩
            · (exfalso; simp at q20 q2; omega)
          ·skip
           rw [(call_dec q17).2]
           refine any_take (i := 13) (oi := { dst := some 113, op := Op.load 4 (Operand.tmp 112), type := 4, pos := "outright.go:30", after := #[{ on := 12, ground := Ground.data }, { on := 11, ground := Ground.guard }], guard := some (11, false) }) (v := .bool true) rfl (by kernel_rfl) (by kernel_rfl) (by kernel_rfl) (fun _ _ _ h => h) (by kernel_rfl) (fun w' hw => exec_load 4 _ rfl ⟨N, 13, none⟩ (by kernel_rfl) (.bool true) (by rw [← q17]; exact load_B (In.cel hw.1).2.2.2.2)) hH ?_
           try simp only [Act.put, sA, s0, s1]
           refine any_take (i := 14) (oi := { dst := some 114, op := Op.move (Operand.tmp 113), type := 4, pos := "outright.go:30", after := #[{ on := 13, ground := Ground.data }, { on := 11, ground := Ground.chain }, { on := 11, ground := Ground.guard }], guard := some (11, false) }) (v := .bool true) rfl (by kernel_rfl) (by kernel_rfl) (by kernel_rfl) (fun _ _ _ h => h) (by kernel_rfl) (fun _ _ => by kernel_rfl) hH ?_
           try simp only [Act.put, sA, s0, s1]
           refine any_take (i := 15) (oi := { dst := some 115, op := Op.move (Operand.tmp 9), type := 4, pos := "outright.go:30", after := #[{ on := 14, ground := Ground.guard }], guard := some (14, true) }) (v := .bool false) rfl (by kernel_rfl) (by kernel_rfl) (by kernel_rfl) (fun _ _ _ h => h) (by kernel_rfl) (fun _ _ => by kernel_rfl) hH ?_
           try simp only [Act.put, sA, s0, s1]
           refine any_take (i := 16) (oi := { dst := some 116, op := Op.pick (Operand.tmp 114) (Operand.tmp 115) (Operand.const (Value.bool false)), type := 4, pos := "outright.go:30", after := #[{ on := 14, ground := Ground.data }, { on := 15, ground := Ground.data }, { on := 11, ground := Ground.guard }], guard := some (11, false) }) (v := .bool false) rfl (by kernel_rfl) (by kernel_rfl) (by kernel_rfl) (fun _ _ _ h => h) (by kernel_rfl) (fun _ _ => by kernel_rfl) hH ?_
           try simp only [Act.put, sA, s0, s1]
           refine any_take (i := 17) (oi := { dst := some 117, op := Op.pick (Operand.tmp 111) (Operand.const (Value.bool true)) (Operand.tmp 116), type := 4, pos := "outright.go:30", after := #[{ on := 11, ground := Ground.data }, { on := 16, ground := Ground.data }], guard := none }) (v := .bool false) rfl (by kernel_rfl) (by kernel_rfl) (by kernel_rfl) (fun _ _ _ h => h) (by kernel_rfl) (fun _ _ => by kernel_rfl) hH ?_
           try simp only [Act.put, sA, s0, s1]
           refine wpAnyH_done (by kernel_rfl) ?_ _
           try simp only [Act.put, sA, s0, s1]
           go_upto_region 16 with fail
           refine WL.start ?_
           refine wp_takeW (.pointer (some ⟨P7, 13, none⟩)) (by kernel_rfl) (by kernel_rfl) ?_
           try simp only [Act.put, sA, s0, s1]
           cases q21 : ((callI at0 x).d)
           · (exfalso; rw [(call_dec q17).1, q17] at q21; cases q21)
           ·skip
            refine wp_takeW (.bool true) (exec_load 4 _ rfl ⟨P7, 13, none⟩ (by kernel_rfl) (.bool true) (by rw [← q21]; exact load_B (In.cel HN.out).2.2.2.2)) (by kernel_rfl) ?_
            try simp only [Act.put, sA, s0, s1]
            refine wp_takeW (.bool false) (by kernel_rfl) (by kernel_rfl) ?_
            try simp only [Act.put, sA, s0, s1]
            refine wp_takeW (.bool false) (by kernel_rfl) (by kernel_rfl) ?_
            try simp only [Act.put, sA, s0, s1]
            refine wp_skip (by kernel_rfl) ?_
            try simp only [Act.put, sA, s0, s1]
            refine wp_skip (by kernel_rfl) ?_
            try simp only [Act.put, sA, s0, s1]
            refine wp_skip (by kernel_rfl) ?_
            try simp only [Act.put, sA, s0, s1]
            refine wp_skip (by kernel_rfl) ?_
            try simp only [Act.put, sA, s0, s1]
            refine wp_skip (by kernel_rfl) ?_
            try simp only [Act.put, sA, s0, s1]
            refine wp_skip (by kernel_rfl) ?_
            try simp only [Act.put, sA, s0, s1]
            refine wp_skip (by kernel_rfl) ?_
            try simp only [Act.put, sA, s0, s1]
            refine wp_skip (by kernel_rfl) ?_
            try simp only [Act.put, sA, s0, s1]
            refine wp_skip (by kernel_rfl) ?_
            try simp only [Act.put, sA, s0, s1]
            refine wp_skip (by kernel_rfl) ?_
            try simp only [Act.put, sA, s0, s1]
            refine wp_skip (by kernel_rfl) ?_
            try simp only [Act.put, sA, s0, s1]
            refine wp_skip (by kernel_rfl) ?_
            try simp only [Act.put, sA, s0, s1]
            refine wp_takeW (.bool false) (by kernel_rfl) (by kernel_rfl) ?_
            try simp only [Act.put, sA, s0, s1]
            refine WL.nil ?_
            try simp only [Act.put, sA, s0, s1]
            go_upto_region 18 with fail
            refine WL.start ?_
            refine wp_takeW (.pointer (some ⟨S7, 0, none⟩)) (by kernel_rfl) (by kernel_rfl) ?_
            try simp only [Act.put, sA, s0, s1]
            refine wp_takeW (.int .i64 x.k) (exec_load 3 _ rfl ⟨S7, 0, none⟩ (by kernel_rfl) (.int .i64 x.k) (load_N (HS.out.cell 0))) (by kernel_rfl) ?_
            try simp only [Act.put, sA, s0, s1]
            refine wp_takeW (.bool false) (exec_bin .eql 3 _ _ _ rfl (.int .i64 x.k) (.int .i64 1) (.bool false) (by kernel_rfl) (by kernel_rfl) (by kernel_rfl) (by rw [eqlN, q15]; try rfl)) (by kernel_rfl) ?_
            try simp only [Act.put, sA, s0, s1]
            refine wp_takeW (.bool false) (by kernel_rfl) (by kernel_rfl) ?_
            try simp only [Act.put, sA, s0, s1]
            refine wp_takeW (.pointer (some ⟨S7, 0, none⟩)) (by kernel_rfl) (by kernel_rfl) ?_
            try simp only [Act.put, sA, s0, s1]
            refine wp_takeW (.int .i64 x.k) (exec_load 3 _ rfl ⟨S7, 0, none⟩ (by kernel_rfl) (.int .i64 x.k) (load_N (HS.out.cell 0))) (by kernel_rfl) ?_
            try simp only [Act.put, sA, s0, s1]
            cases q22 : (x.k == 2)
            ·skip
             refine wp_takeW (.bool false) (exec_bin .eql 3 _ _ _ rfl (.int .i64 x.k) (.int .i64 2) (.bool false) (by kernel_rfl) (by kernel_rfl) (by kernel_rfl) (by rw [eqlN, q22]; try rfl)) (by kernel_rfl) ?_
             try simp only [Act.put, sA, s0, s1]
             refine wp_takeW (.bool false) (by kernel_rfl) (by kernel_rfl) ?_
             try simp only [Act.put, sA, s0, s1]
             refine wp_takeW (.bool false) (by kernel_rfl) (by kernel_rfl) ?_
             try simp only [Act.put, sA, s0, s1]
             refine wp_skip (by kernel_rfl) ?_
             try simp only [Act.put, sA, s0, s1]
             refine wp_skip (by kernel_rfl) ?_
             try simp only [Act.put, sA, s0, s1]
             refine wp_skip (by kernel_rfl) ?_
             try simp only [Act.put, sA, s0, s1]
             refine wp_skip (by kernel_rfl) ?_
             try simp only [Act.put, sA, s0, s1]
             refine wp_skip (by kernel_rfl) ?_
             try simp only [Act.put, sA, s0, s1]
             refine wp_skip (by kernel_rfl) ?_
             try simp only [Act.put, sA, s0, s1]
             refine wp_takeW (.bool false) (by kernel_rfl) (by kernel_rfl) ?_
             try simp only [Act.put, sA, s0, s1]
             refine WL.nil ?_
             try simp only [Act.put, sA, s0, s1]
             go_upto_region 20 with fail
             refine WL.start ?_
             refine wp_takeW (.agg ((callI at0 x).cells)) (exec_load 29 _ rfl ⟨P7, 0, none⟩ (by kernel_rfl) (.agg ((callI at0 x).cells)) (load_I HN.out)) (by kernel_rfl) ?_
             try simp only [Act.put, sA, s0, s1]
             refine wp_storeW 29 _ _ rfl ⟨N, 0, none⟩ (.agg ((callI at0 x).cells)) (by kernel_rfl) (by kernel_rfl) _ (store_I HA.out rfl) (by kernel_rfl) ?_
             try simp only [Act.put, sA, s0, s1]
             have HLT : Hid (P11 < (wk80.setRow N ((callI at0 x).cells)).heap.size) := by show _ < _; rw [setRow_size]; exact HLT.out
             have HA : Hid (Box (wk80.setRow N ((callI at0 x).cells)) (N) 29 ((callI at0 x).cells)) := HA.out.setRow _
             have HS : Hid (Box (wk80.setRow N ((callI at0 x).cells)) (S7) 38 (x.cells)) := HS.out.rowNe (by have := HO.out; omega) _
             have HN : Hid (Box (wk80.setRow N ((callI at0 x).cells)) (P7) 29 ((callI at0 x).cells)) := HN.out.rowNe (by have := HO.out; omega) _
             have HM8 : Hid (Box (wk80.setRow N ((callI at0 x).cells)) (P8) 52 ((callM at0 x).cells)) := HM8.out.rowNe (by have := HO.out; omega) _
             have HN10 : Hid (Box (wk80.setRow N ((callI at0 x).cells)) (P10) 29 ((callI at0 x).cells)) := HN10.out.rowNe (by have := HO.out; omega) _
             have HM11 : Hid (Box (wk80.setRow N ((callI at0 x).cells)) (P11) 52 ((callM at0 x).cells)) := HM11.out.rowNe (by have := HO.out; omega) _
             have HK : Hid (Kept No w (wk80.setRow N ((callI at0 x).cells))) := HK.out.newRow (by have := HO.out; omega) _
             generalize wk80.setRow N ((callI at0 x).cells) = wk85 at HA HS HN HM8 HN10 HM11 HK HLT ⊢
             refine WL.nil ?_
             try simp only [Act.put, sA, s0, s1]
             have HF : Hid (AtI w N wk85 (fun i => instB i = true)) := ⟨_, HA.out, HK.out, Nat.lt_of_le_of_lt (by have := HO.out; omega) HLT.out, HIC.out⟩
             go_wp2
             go_roundw
             case measure => simp [intOf]; omega
             case rel => exact ⟨k + 1, by go_num, by omega, HF⟩
            · (exfalso; simp at q22 q2; omega)
        · (exfalso; simp at q15 q2; omega)
     · have hlt' : ¬ (k : Int) < (sn : Int) := by omega
       obtain ⟨at0, -, hK, -⟩ := HAt.out
       have HK : Hid (Kept No w wr) := hK
       go_wp2
       go_ret
       exact ⟨rfl, HK.out⟩

end Go.Proofs.Ytapjnanenfcdjaa
