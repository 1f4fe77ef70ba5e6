import Derived.Test.YtfemlnfknebalabJ
namespace Go.Proofs.Ytfemlnfknebalab
open Go.RowKit
set_option linter.unusedVariables false
set_option linter.unusedSimpArgs false

theorem putL_mid (A B D V : List Value) (h : B.length = V.length) : putL (A ++ (B ++ D)) A.length V = A ++ (V ++ D) := by
  unfold putL
  rw [List.take_left, ← h, ← List.append_assoc A B D, show A.length + B.length = (A ++ B).length by simp, List.drop_left]
theorem putL_eq (cur V : List Value) (off : Nat) : putL cur off V = cur.take off ++ (V ++ cur.drop (off + V.length)) := rfl
theorem putL_same {cur : List Value} {off : Nat} {x : En} (h : Part cur off x.cs) (hl : off + 4 ≤ cur.length) : putL cur off x.cs = cur := by
  apply List.ext_getElem?
  intro k
  have hx : x.cs.length = 4 := rfl
  unfold putL
  by_cases h1 : k < off
  · rw [List.getElem?_append_left (by simp; omega), List.getElem?_take, if_pos h1]
  · rw [List.getElem?_append_right (by simp; omega), List.length_take, Nat.min_eq_left (by omega)]
    by_cases h2 : k - off < 4
    · rw [List.getElem?_append_left (by omega)]
      have h3 : k - off < x.cs.length := by omega
      have e := h (k - off) x.cs[k - off] (List.getElem?_eq_getElem h3)
      rw [show off + (k - off) = k by omega] at e
      rw [e, List.getElem?_eq_getElem h3]
    · rw [List.getElem?_append_right (by omega), List.getElem?_drop, hx]; congr 1; omega
theorem putL_part {cur : List Value} {off : Nat} (x : En) (hl : off + 4 ≤ cur.length) : Part (putL cur off x.cs) off x.cs := by
  rw [putL_eq]
  exact Part.mid _ _ _ (by simp; omega)
theorem putL_sz {cur : List Value} {off : Nat} (x : En) (s : Int) (hl : off + 4 ≤ cur.length) : putL (putL cur off x.cs) (off + 3) [.int .i64 s] = putL cur off (En.cs ⟨x.nm, x.f0, x.f1, s⟩) := by
  have e1 : putL cur off x.cs = (cur.take off ++ [.string x.nm, .int .i64 x.f0, .int .i64 x.f1]) ++ ([.int .i64 x.sz] ++ cur.drop (off + 4)) := by rw [putL_eq]; simp [En.cs]
  have e2 : (cur.take off ++ [Value.string x.nm, .int .i64 x.f0, .int .i64 x.f1]).length = off + 3 := by simp; omega
  rw [e1, ← e2, putL_mid _ [.int .i64 x.sz] _ [.int .i64 s] rfl, putL_eq]
  simp [En.cs]
theorem putL_fl {cur : List Value} {off : Nat} (x : En) (a b : Int) (hl : off + 4 ≤ cur.length) : putL (putL cur off x.cs) (off + 1) [.int .i64 a, .int .i64 b] = putL cur off (En.cs ⟨x.nm, a, b, x.sz⟩) := by
  have e1 : putL cur off x.cs = (cur.take off ++ [.string x.nm]) ++ ([.int .i64 x.f0, .int .i64 x.f1] ++ ([.int .i64 x.sz] ++ cur.drop (off + 4))) := by rw [putL_eq]; simp [En.cs]
  have e2 : (cur.take off ++ [Value.string x.nm]).length = off + 1 := by simp; omega
  rw [e1, ← e2, putL_mid _ [.int .i64 x.f0, .int .i64 x.f1] _ [.int .i64 a, .int .i64 b] rfl, putL_eq]
  simp [En.cs]
theorem ldR54 {w : World} {g off : Nat} {cur : List Value} {x : En} (h : Box w g 34 (putL cur off x.cs).toArray) (hl : off + 4 ≤ cur.length) : (loadVar 34 ⟨g, off, none⟩).run Try.prog w = .ok (.agg x.cells) w := run_load_part h (putL_part x hl) Try.und54 rfl Try.size54
theorem ldR27 {w : World} {g off : Nat} {cur : List Value} {x : En} (h : Box w g 34 (putL cur off x.cs).toArray) (hl : off + 4 ≤ cur.length) : (loadVar 29 ⟨g, off + 1, none⟩).run Try.prog w = .ok (.agg #[.int .i64 x.f0, .int .i64 x.f1]) w := ld27 h (putL_part x hl 1 _ rfl) (putL_part x hl 2 _ rfl)
theorem ldR3 {w : World} {g off : Nat} {cur : List Value} {x : En} (h : Box w g 34 (putL cur off x.cs).toArray) (hl : off + 4 ≤ cur.length) : (loadVar 3 ⟨g, off + 3, none⟩).run Try.prog w = .ok (.int .i64 x.sz) w := ld3 (by rw [h.cell, List.getElem?_toArray]; exact putL_part x hl 3 _ rfl)
theorem stR3 {w : World} {g off : Nat} {cur : List Value} {x : En} (h : Box w g 34 (putL cur off x.cs).toArray) (hl : off + 4 ≤ cur.length) (s : Int) : (storeVar 3 ⟨g, off + 3, none⟩ (.int .i64 s)).run Try.prog w = .ok () (w.setRow g (putL cur off (En.cs ⟨x.nm, x.f0, x.f1, s⟩)).toArray) := by
  rw [← putL_sz x s hl]
  exact run_store_at (vs := [.int .i64 s]) h rfl Try.size3 (by rw [putL_len hl]; exact hl) (by simp [Value.oneCell'])
theorem stR27 {w : World} {g off : Nat} {cur : List Value} {x : En} (h : Box w g 34 (putL cur off x.cs).toArray) (hl : off + 4 ≤ cur.length) (a b : Int) : (storeVar 29 ⟨g, off + 1, none⟩ (.agg #[.int .i64 a, .int .i64 b])).run Try.prog w = .ok () (w.setRow g (putL cur off (En.cs ⟨x.nm, a, b, x.sz⟩)).toArray) := by
  rw [← putL_fl x a b hl]
  exact run_store_at (vs := [.int .i64 a, .int .i64 b]) h rfl Try.size27 (by rw [putL_len hl]; show off + 1 + 2 ≤ _; omega) (by simp [Value.oneCell'])
theorem exec_max {o : Oper} {a : Act} {w : World} (x y : Operand) (T T' : TypeId) (ho : o.op = .call { callee := Callee.builtin Builtin.max, args := #[x, y], argTypes := #[T, T'] }) (u v : Int) (hx : a.eval x = .int .i64 u) (hy : a.eval y = .int .i64 v)
 : (execOp a.eval o).run Try.prog w = .ok (.value (.int .i64 (max u v))) w := by
  have e : (if v > u then v else u) = max u v := by split <;> omega
  simp [execOp, ho, resolve, invoke, builtin, hx, hy, run_max_int2, Result.andThen]
  exact e
theorem chgS_no {x : En} {c : Cm} (h : eqF x.f0 x.f1 c.f0 c.f1 = false) : chgS x c = (x, ⟨104, x, []⟩) := by unfold chgS; rw [h]; rfl
theorem chgS_yes {x : En} {c : Cm} (h : eqF x.f0 x.f1 c.f0 c.f1 = true) : chgS x c = (chgE x c, ⟨0, chgE x c, []⟩) := by unfold chgS; rw [h]; rfl
theorem chgS_e (x : En) (c : Cm) : (chgS x c).2.e = (chgS x c).1 := by unfold chgS; split <;> rfl
theorem chgS_l (x : En) (c : Cm) : (chgS x c).2.l = [] := by unfold chgS; split <;> rfl
def ChgOut (w : World) (g off : Nat) (cur : List Value) (x : En) (c : Cm) (e : Ending) (w' : World) : Prop :=
  e = .returned (.agg (Av.cells ⟨(chgS x c).2.er, (chgS x c).1, slZ⟩)) ∧ Box w' g 34 (putL cur off (chgS x c).1.cs).toArray ∧ Kept (Only g) w w'
set_option maxRecDepth 100000 in
set_option maxHeartbeats 4000000 in
theorem change_any (g off : Nat) (cur : List Value) (x : En) (c : Cm) (w : World) (hb : Box w g 34 cur.toArray) (hp : Part cur off x.cs) (hl : off + 4 ≤ cur.length) : Calls Try.prog 40 #[.pointer (some ⟨g, off, none⟩), .agg c.cells] w (ChgOut w g off cur x c) := by
  obtain ⟨C, hC⟩ : ∃ C : Ending → World → Prop, C = (ChgOut w g off cur x c) := ⟨_, rfl⟩
  have HC : Hid (C = (ChgOut w g off cur x c)) := hC
  rw [← hC]
  clear hC
  have HG : Hid (Box w g 34 (putL cur off (En.cs x)).toArray) := by rw [putL_same hp hl]; exact hb
  have hgl : g < w.heap.size := hb.lt
  have HCE : Hid (chgE x c = if c.k == 5 then { x with sz := c.sz } else if c.k == 6 then { x with sz := max x.sz c.sz } else if c.k == 7 then ⟨x.nm, c.g0, c.g1, c.sz⟩ else x) := rfl
  clear hb hp
  have HF : Hid (Fr (Only g) w w []) := Fr.start _ _
  go_enter Try.func40, Try.ntmps40
  go_upto_region 0 with fail
  refine WL.start ?_
  refine wp_runW (.pointer (some ⟨w.heap.size, 0, none⟩)) (w.alloc (.cells (Cm.cells c) 31)) (exec_box 31 _ rfl (Cm.cells c) (by kernel_rfl)) (by kernel_rfl) ?_
  try simp only [pA, pB, p1, p2, p3]
  have HG : Hid (Box (w.alloc (.cells (Cm.cells c) 31)) g 34 (putL cur off (En.cs x)).toArray) := HG.out.no ((Kept.refl No _).alloc _)
  have HF : Hid (Fr (Only g) w (w.alloc (.cells (Cm.cells c) 31)) [(w.heap.size, 31, Cm.cells c)]) := HF.out.alloc _ _
  generalize w.alloc (.cells (Cm.cells c) 31) = wk2 at HF HG ⊢
  generalize w.heap.size = gk1 at HF ⊢
  refine wp_runW (.pointer (some ⟨wk2.heap.size, 0, none⟩)) (wk2.alloc (.cells (Av.cells avZ) 36)) (exec_alloc 36 rfl (Av.cells avZ) zero56) (by kernel_rfl) ?_
  try simp only [pA, pB, p1, p2, p3]
  have HG : Hid (Box (wk2.alloc (.cells (Av.cells avZ) 36)) g 34 (putL cur off (En.cs x)).toArray) := HG.out.no ((Kept.refl No _).alloc _)
  have HF : Hid (Fr (Only g) w (wk2.alloc (.cells (Av.cells avZ) 36)) [(gk1, 31, Cm.cells c), (wk2.heap.size, 36, Av.cells avZ)]) := HF.out.alloc _ _
  generalize wk2.alloc (.cells (Av.cells avZ) 36) = wk4 at HF HG ⊢
  generalize wk2.heap.size = gk3 at HF ⊢
  refine WL.nil ?_
  try simp only [pA, pB, p1, p2, p3]
  go_upto_region 1 with fail
  refine wp_region_held_drew (S := fun w' => Box w' gk1 31 (Cm.cells c) ∧ Box w' g 34 (putL cur off (En.cs x)).toArray) rfl ⟨HF.out.box 0 _ _ _ rfl, HG.out⟩ (fun hH => ?_)
  have HG : Hid (Box (wk4.drew) g 34 (putL cur off (En.cs x)).toArray) := HG.out.no (Kept.refl No _).drew
  have HF : Hid (Fr (Only g) w (wk4.drew) [(gk1, 31, Cm.cells c), (gk3, 36, Av.cells avZ)]) := HF.out.drew
  generalize wk4.drew = wk5 at HF HG hH ⊢
  refine aK (i := 0) (oi := { dst := some 5, op := Op.move (Operand.tmp 0), type := 83, pos := "step.go:85", after := #[], guard := none }) (v := .pointer (some ⟨g, off, none⟩)) hH ?_
  try simp only [pA, pB, p1, p2, p3]
  refine aK (i := 1) (oi := { dst := some 6, op := Op.nilCheck (Operand.tmp 5), type := 0, pos := "step.go:85", after := #[{ on := 0, ground := Ground.data }], guard := none }) (v := .pointer (some ⟨g, off, none⟩)) hH ?_
  try simp only [pA, pB, p1, p2, p3]
  refine aK (i := 2) (oi := { dst := some 7, op := Op.fieldAddr 34 (Operand.tmp 6) 1, type := 0, pos := "step.go:85", after := #[{ on := 1, ground := Ground.data }], guard := none }) (v := .pointer (some ⟨g, off + 1, none⟩)) hH ?_
  try simp only [pA, pB, p1, p2, p3]
  refine aT (i := 3) (oi := { dst := some 8, op := Op.load 29 (Operand.tmp 7), type := 29, pos := "step.go:85", after := #[{ on := 2, ground := Ground.data }], guard := none }) (v := .agg #[.int .i64 x.f0, .int .i64 x.f1]) (fun w' hw => exec_load 29 _ rfl ⟨g, off + 1, none⟩ (by kernel_rfl) (.agg #[.int .i64 x.f0, .int .i64 x.f1]) (ldR27 (x := x) hw.2 hl)) hH ?_
  try simp only [pA, pB, p1, p2, p3]
  refine aK (i := 4) (oi := { dst := some 9, op := Op.fieldAddr 31 (Operand.tmp 3) 4, type := 0, pos := "step.go:85", after := #[], guard := none }) (v := .pointer (some ⟨gk1, 4, none⟩)) hH ?_
  try simp only [pA, pB, p1, p2, p3]
  refine aT (i := 5) (oi := { dst := some 10, op := Op.load 29 (Operand.tmp 9), type := 29, pos := "step.go:85", after := #[{ on := 4, ground := Ground.data }], guard := none }) (v := .agg (#[.int .i64 c.f0, .int .i64 c.f1])) (fun w' hw => exec_load 29 _ rfl ⟨gk1, 4, none⟩ (by kernel_rfl) (.agg (#[.int .i64 c.f0, .int .i64 c.f1])) (ld27 (cs := Cm.cs c) hw.1 rfl rfl)) hH ?_
  try simp only [pA, pB, p1, p2, p3]
  cases q1 : (eqF x.f0 x.f1 c.f0 c.f1)
  ·skip
   refine aT (i := 6) (oi := { dst := some 11, op := Op.binOp BinOp.neq 29 (Operand.tmp 8) (Operand.tmp 10) 29, type := 4, pos := "step.go:85", after := #[{ on := 3, ground := Ground.data }, { on := 5, ground := Ground.data }], guard := none }) (v := .bool true) (fun w' hw => exec_bin .neq 29 _ _ _ rfl (.agg #[.int .i64 x.f0, .int .i64 x.f1]) (.agg (#[.int .i64 c.f0, .int .i64 c.f1])) (.bool true) (by kernel_rfl) (by kernel_rfl) (by kernel_rfl) (by rw [eqF_neq, q1]; try rfl)) hH ?_
   try simp only [pA, pB, p1, p2, p3]
   refine wpAnyH_done (by kernel_rfl) ?_ _
   try simp only [pA, pB, p1, p2, p3]
   clear hH
   go_upto_region 2 with fail
   refine WL.start ?_
   refine tK (.pointer (some ⟨g, off, none⟩)) ?_
   try simp only [pA, pB, p1, p2, p3]
   refine tK (.pointer (some ⟨g, off, none⟩)) ?_
   try simp only [pA, pB, p1, p2, p3]
   refine tW (.agg (En.cells x)) (exec_load 34 _ rfl ⟨g, off, none⟩ (by kernel_rfl) (.agg (En.cells x)) (ldR54 (x := x) (HG.out) hl)) ?_
   try simp only [pA, pB, p1, p2, p3]
   refine tW (.agg (Av.cells ⟨104, x, ⟨none, 0, 0⟩⟩)) (exec_build 36 _ rfl (Av.cells ⟨104, x, ⟨none, 0, 0⟩⟩) (by kernel_rfl)) ?_
   try simp only [pA, pB, p1, p2, p3]
   refine wp_storeW 36 _ _ rfl ⟨gk3, 0, none⟩ (.agg (Av.cells ⟨104, x, ⟨none, 0, 0⟩⟩)) (by kernel_rfl) (by kernel_rfl) (wk5.setRow gk3 (Av.cells ⟨104, x, ⟨none, 0, 0⟩⟩)) (st56 (HF.out.box 1 _ _ _ rfl) rfl) (by kernel_rfl) ?_
   try simp only [pA, pB, p1, p2, p3]
   have HG : Hid (Box (wk5.setRow gk3 (Av.cells ⟨104, x, ⟨none, 0, 0⟩⟩)) g 34 (putL cur off (En.cs x)).toArray) := HG.out.rowNe (box_ne HG.out (HF.out.box 1 _ _ _ rfl) (by decide)) _
   have HF : Hid (Fr (Only g) w (wk5.setRow gk3 (Av.cells ⟨104, x, ⟨none, 0, 0⟩⟩)) [(gk1, 31, Cm.cells c), (gk3, 36, Av.cells ⟨104, x, ⟨none, 0, 0⟩⟩)]) := HF.out.set 1 rfl _
   generalize wk5.setRow gk3 (Av.cells ⟨104, x, ⟨none, 0, 0⟩⟩) = wk6 at HF HG ⊢
   refine WL.nil ?_
   try simp only [pA, pB, p1, p2, p3]
   go_wp2
   rw [HC.out]
   refine bodyPost_ret (results_row1 (by rfl) _ _ gk3 (Av.cells ⟨104, x, ⟨none, 0, 0⟩⟩) (by rfl) (ld56 (HF.out.box 1 _ _ _ rfl))) rfl ?_
   refine ⟨?_, ?_, HF.out.kept⟩
   · rw [chgS_no q1]; try rfl
   · rw [chgS_no q1]; exact HG.out
  ·skip
   refine aT (i := 6) (oi := { dst := some 11, op := Op.binOp BinOp.neq 29 (Operand.tmp 8) (Operand.tmp 10) 29, type := 4, pos := "step.go:85", after := #[{ on := 3, ground := Ground.data }, { on := 5, ground := Ground.data }], guard := none }) (v := .bool false) (fun w' hw => exec_bin .neq 29 _ _ _ rfl (.agg #[.int .i64 x.f0, .int .i64 x.f1]) (.agg (#[.int .i64 c.f0, .int .i64 c.f1])) (.bool false) (by kernel_rfl) (by kernel_rfl) (by kernel_rfl) (by rw [eqF_neq, q1]; try rfl)) hH ?_
   try simp only [pA, pB, p1, p2, p3]
   refine wpAnyH_done (by kernel_rfl) ?_ _
   try simp only [pA, pB, p1, p2, p3]
   clear hH
   go_upto_region 3 with fail
   refine WL.start ?_
   refine tK (.pointer (some ⟨gk1, 0, none⟩)) ?_
   try simp only [pA, pB, p1, p2, p3]
   refine tW (.int .i64 c.k) (exec_load 3 _ rfl ⟨gk1, 0, none⟩ (by kernel_rfl) (.int .i64 c.k) (ld3 ((HF.out.box 0 _ _ _ rfl).cell 0))) ?_
   try simp only [pA, pB, p1, p2, p3]
   refine WL.nil ?_
   try simp only [pA, pB, p1, p2, p3]
   go_upto_region 4 with fail
   refine WL.start ?_
   cases q2 : (c.k == 5)
   ·skip
    refine tW (.bool false) (exec_bin .eql 3 _ _ _ rfl (.int .i64 c.k) (.int .i64 5) (.bool false) (by kernel_rfl) (by kernel_rfl) (by kernel_rfl) (by rw [b_eql, q2]; try rfl)) ?_
    try simp only [pA, pB, p1, p2, p3]
    refine tK (.bool false) ?_
    try simp only [pA, pB, p1, p2, p3]
    refine WL.nil ?_
    try simp only [pA, pB, p1, p2, p3]
    go_upto_region 6 with fail
    refine WL.start ?_
    cases q3 : (c.k == 6)
    ·skip
     refine tW (.bool false) (exec_bin .eql 3 _ _ _ rfl (.int .i64 c.k) (.int .i64 6) (.bool false) (by kernel_rfl) (by kernel_rfl) (by kernel_rfl) (by rw [b_eql, q3]; try rfl)) ?_
     try simp only [pA, pB, p1, p2, p3]
     refine tK (.bool false) ?_
     try simp only [pA, pB, p1, p2, p3]
     refine WL.nil ?_
     try simp only [pA, pB, p1, p2, p3]
     go_upto_region 8 with fail
     refine WL.start ?_
     cases q4 : (c.k == 7)
     ·skip
      refine tW (.bool false) (exec_bin .eql 3 _ _ _ rfl (.int .i64 c.k) (.int .i64 7) (.bool false) (by kernel_rfl) (by kernel_rfl) (by kernel_rfl) (by rw [b_eql, q4]; try rfl)) ?_
      try simp only [pA, pB, p1, p2, p3]
      refine tK (.bool false) ?_
      try simp only [pA, pB, p1, p2, p3]
      refine WL.nil ?_
      try simp only [pA, pB, p1, p2, p3]
      go_upto_region 10 with fail
      refine WL.start ?_
      refine tK (.pointer (some ⟨g, off, none⟩)) ?_
      try simp only [pA, pB, p1, p2, p3]
      refine tK (.pointer (some ⟨g, off, none⟩)) ?_
      try simp only [pA, pB, p1, p2, p3]
      refine tW (.agg (En.cells x)) (exec_load 34 _ rfl ⟨g, off, none⟩ (by kernel_rfl) (.agg (En.cells x)) (ldR54 (x := x) (HG.out) hl)) ?_
      try simp only [pA, pB, p1, p2, p3]
      refine tW (.agg (Av.cells ⟨0, x, ⟨none, 0, 0⟩⟩)) (exec_build 36 _ rfl (Av.cells ⟨0, x, ⟨none, 0, 0⟩⟩) (by kernel_rfl)) ?_
      try simp only [pA, pB, p1, p2, p3]
      refine wp_storeW 36 _ _ rfl ⟨gk3, 0, none⟩ (.agg (Av.cells ⟨0, x, ⟨none, 0, 0⟩⟩)) (by kernel_rfl) (by kernel_rfl) (wk5.setRow gk3 (Av.cells ⟨0, x, ⟨none, 0, 0⟩⟩)) (st56 (HF.out.box 1 _ _ _ rfl) rfl) (by kernel_rfl) ?_
      try simp only [pA, pB, p1, p2, p3]
      have HG : Hid (Box (wk5.setRow gk3 (Av.cells ⟨0, x, ⟨none, 0, 0⟩⟩)) g 34 (putL cur off (En.cs x)).toArray) := HG.out.rowNe (box_ne HG.out (HF.out.box 1 _ _ _ rfl) (by decide)) _
      have HF : Hid (Fr (Only g) w (wk5.setRow gk3 (Av.cells ⟨0, x, ⟨none, 0, 0⟩⟩)) [(gk1, 31, Cm.cells c), (gk3, 36, Av.cells ⟨0, x, ⟨none, 0, 0⟩⟩)]) := HF.out.set 1 rfl _
      generalize wk5.setRow gk3 (Av.cells ⟨0, x, ⟨none, 0, 0⟩⟩) = wk7 at HF HG ⊢
      refine WL.nil ?_
      try simp only [pA, pB, p1, p2, p3]
      go_wp2
      rw [HC.out]
      refine bodyPost_ret (results_row1 (by rfl) _ _ gk3 (Av.cells ⟨0, x, ⟨none, 0, 0⟩⟩) (by rfl) (ld56 (HF.out.box 1 _ _ _ rfl))) rfl ?_
      have hce : chgE x c = x := by rw [HCE.out]; simp only [q2, q3, q4]; first | rfl | simp
      refine ⟨?_, ?_, HF.out.kept⟩
      · rw [chgS_yes q1, hce]; try rfl
      · rw [chgS_yes q1, hce]; exact HG.out
     ·skip
      refine tW (.bool true) (exec_bin .eql 3 _ _ _ rfl (.int .i64 c.k) (.int .i64 7) (.bool true) (by kernel_rfl) (by kernel_rfl) (by kernel_rfl) (by rw [b_eql, q4]; try rfl)) ?_
      try simp only [pA, pB, p1, p2, p3]
      refine tK (.bool true) ?_
      try simp only [pA, pB, p1, p2, p3]
      refine WL.nil ?_
      try simp only [pA, pB, p1, p2, p3]
      go_upto_region 9 with fail
      refine wp_region_held_drew (S := fun w' => Box w' gk1 31 (Cm.cells c)) rfl (HF.out.box 0 _ _ _ rfl) (fun hH => ?_)
      have HG : Hid (Box (wk5.drew) g 34 (putL cur off (En.cs x)).toArray) := HG.out.no (Kept.refl No _).drew
      have HF : Hid (Fr (Only g) w (wk5.drew) [(gk1, 31, Cm.cells c), (gk3, 36, Av.cells avZ)]) := HF.out.drew
      generalize wk5.drew = wk8 at HF HG hH ⊢
      refine aK (i := 0) (oi := { dst := some 39, op := Op.move (Operand.tmp 0), type := 83, pos := "step.go:94", after := #[], guard := none }) (v := .pointer (some ⟨g, off, none⟩)) hH ?_
      try simp only [pA, pB, p1, p2, p3]
      refine aK (i := 1) (oi := { dst := some 40, op := Op.move (Operand.tmp 0), type := 83, pos := "step.go:94", after := #[{ on := 8, ground := Ground.gcOnly Departure.lateStores }], guard := none }) (v := .pointer (some ⟨g, off, none⟩)) hH ?_
      try simp only [pA, pB, p1, p2, p3]
      refine aK (i := 2) (oi := { dst := some 41, op := Op.fieldAddr 31 (Operand.tmp 3) 5, type := 0, pos := "step.go:94", after := #[], guard := none }) (v := .pointer (some ⟨gk1, 6, none⟩)) hH ?_
      try simp only [pA, pB, p1, p2, p3]
      refine aT (i := 3) (oi := { dst := some 42, op := Op.load 29 (Operand.tmp 41), type := 29, pos := "step.go:94", after := #[{ on := 2, ground := Ground.data }], guard := none }) (v := .agg (#[.int .i64 c.g0, .int .i64 c.g1])) (fun w' hw => exec_load 29 _ rfl ⟨gk1, 6, none⟩ (by kernel_rfl) (.agg (#[.int .i64 c.g0, .int .i64 c.g1])) (ld27 (cs := Cm.cs c) hw rfl rfl)) hH ?_
      try simp only [pA, pB, p1, p2, p3]
      refine aK (i := 4) (oi := { dst := some 43, op := Op.fieldAddr 31 (Operand.tmp 3) 6, type := 0, pos := "step.go:94", after := #[{ on := 8, ground := Ground.gcOnly Departure.lateStores }], guard := none }) (v := .pointer (some ⟨gk1, 8, none⟩)) hH ?_
      try simp only [pA, pB, p1, p2, p3]
      refine aT (i := 5) (oi := { dst := some 44, op := Op.load 3 (Operand.tmp 43), type := 3, pos := "step.go:94", after := #[{ on := 4, ground := Ground.data }, { on := 8, ground := Ground.gcOnly Departure.lateStores }], guard := none }) (v := .int .i64 c.sz) (fun w' hw => exec_load 3 _ rfl ⟨gk1, 8, none⟩ (by kernel_rfl) (.int .i64 c.sz) (ld3 (hw.cell 8))) hH ?_
      try simp only [pA, pB, p1, p2, p3]
      refine aK (i := 6) (oi := { dst := some 45, op := Op.nilCheck (Operand.tmp 39), type := 0, pos := "step.go:94", after := #[{ on := 0, ground := Ground.data }, { on := 0, ground := Ground.phase }, { on := 1, ground := Ground.textOnly Departure.lateStores }, { on := 2, ground := Ground.phase }, { on := 3, ground := Ground.phase }, { on := 4, ground := Ground.textOnly Departure.lateStores }, { on := 5, ground := Ground.textOnly Departure.lateStores }], guard := none }) (v := .pointer (some ⟨g, off, none⟩)) hH ?_
      try simp only [pA, pB, p1, p2, p3]
      refine aK (i := 7) (oi := { dst := some 46, op := Op.fieldAddr 34 (Operand.tmp 45) 1, type := 0, pos := "step.go:94", after := #[{ on := 6, ground := Ground.data }, { on := 0, ground := Ground.phase }, { on := 1, ground := Ground.textOnly Departure.lateStores }, { on := 2, ground := Ground.phase }, { on := 3, ground := Ground.phase }, { on := 4, ground := Ground.textOnly Departure.lateStores }, { on := 5, ground := Ground.textOnly Departure.lateStores }], guard := none }) (v := .pointer (some ⟨g, off + 1, none⟩)) hH ?_
      try simp only [pA, pB, p1, p2, p3]
      refine any_store (i := 8) (o := { dst := none, op := Op.store 29 (Operand.tmp 46) (Operand.tmp 42), type := 0, pos := "step.go:94", after := #[{ on := 7, ground := Ground.data }, { on := 3, ground := Ground.data }, { on := 0, ground := Ground.phase }, { on := 1, ground := Ground.textOnly Departure.lateStores }, { on := 2, ground := Ground.phase }, { on := 3, ground := Ground.phase }, { on := 4, ground := Ground.textOnly Departure.lateStores }, { on := 5, ground := Ground.textOnly Departure.lateStores }], guard := none }) (w' := wk8.setRow g (putL cur off (En.cs ⟨x.nm, c.g0, c.g1, x.sz⟩)).toArray) rfl (by kernel_rfl) (by kernel_rfl) 29 _ _ rfl ⟨g, off + 1, none⟩ (.agg (#[.int .i64 c.g0, .int .i64 c.g1])) (by kernel_rfl) (by kernel_rfl) (stR27 (x := x) HG.out hl _ _) (hH.rowNe (Ne.symm (box_ne HG.out (HF.out.box 0 _ _ _ rfl) (by decide))) _) (fun hH => ?_)
      try simp only [pA, pB, p1, p2, p3]
      have HF : Hid (Fr (Only g) w (wk8.setRow g (putL cur off (En.cs ⟨x.nm, c.g0, c.g1, x.sz⟩)).toArray) [(gk1, 31, Cm.cells c), (gk3, 36, Av.cells avZ)]) := HF.out.via (Kept.setRow _ _ _) (fun k e => ⟨(show k = g from e) ▸ hgl, e⟩)
      have HG : Hid (Box (wk8.setRow g (putL cur off (En.cs ⟨x.nm, c.g0, c.g1, x.sz⟩)).toArray) g 34 (putL cur off (En.cs ⟨x.nm, c.g0, c.g1, x.sz⟩)).toArray) := HG.out.setRow _
      generalize wk8.setRow g (putL cur off (En.cs ⟨x.nm, c.g0, c.g1, x.sz⟩)).toArray = wk9 at HF HG hH ⊢
      refine aK (i := 9) (oi := { dst := some 47, op := Op.nilCheck (Operand.tmp 40), type := 0, pos := "step.go:94", after := #[{ on := 1, ground := Ground.data }, { on := 0, ground := Ground.phase }, { on := 1, ground := Ground.phase }, { on := 2, ground := Ground.phase }, { on := 3, ground := Ground.phase }, { on := 4, ground := Ground.phase }, { on := 5, ground := Ground.phase }, { on := 6, ground := Ground.phase }, { on := 7, ground := Ground.phase }, { on := 8, ground := Ground.phase }], guard := none }) (v := .pointer (some ⟨g, off, none⟩)) hH ?_
      try simp only [pA, pB, p1, p2, p3]
      refine aK (i := 10) (oi := { dst := some 48, op := Op.fieldAddr 34 (Operand.tmp 47) 2, type := 0, pos := "step.go:94", after := #[{ on := 9, ground := Ground.data }, { on := 0, ground := Ground.phase }, { on := 1, ground := Ground.phase }, { on := 2, ground := Ground.phase }, { on := 3, ground := Ground.phase }, { on := 4, ground := Ground.phase }, { on := 5, ground := Ground.phase }, { on := 6, ground := Ground.phase }, { on := 7, ground := Ground.phase }, { on := 8, ground := Ground.phase }], guard := none }) (v := .pointer (some ⟨g, off + 3, none⟩)) hH ?_
      try simp only [pA, pB, p1, p2, p3]
      refine any_store (i := 11) (o := { dst := none, op := Op.store 3 (Operand.tmp 48) (Operand.tmp 44), type := 0, pos := "step.go:94", after := #[{ on := 10, ground := Ground.data }, { on := 5, ground := Ground.data }, { on := 8, ground := Ground.chain }, { on := 0, ground := Ground.phase }, { on := 1, ground := Ground.phase }, { on := 2, ground := Ground.phase }, { on := 3, ground := Ground.phase }, { on := 4, ground := Ground.phase }, { on := 5, ground := Ground.phase }, { on := 6, ground := Ground.phase }, { on := 7, ground := Ground.phase }, { on := 8, ground := Ground.phase }], guard := none }) (w' := wk9.setRow g (putL cur off (En.cs ⟨x.nm, c.g0, c.g1, c.sz⟩)).toArray) rfl (by kernel_rfl) (by kernel_rfl) 3 _ _ rfl ⟨g, off + 3, none⟩ (.int .i64 c.sz) (by kernel_rfl) (by kernel_rfl) (stR3 (x := ⟨x.nm, c.g0, c.g1, x.sz⟩) HG.out hl _) (hH.rowNe (Ne.symm (box_ne HG.out (HF.out.box 0 _ _ _ rfl) (by decide))) _) (fun hH => ?_)
      try simp only [pA, pB, p1, p2, p3]
      have HF : Hid (Fr (Only g) w (wk9.setRow g (putL cur off (En.cs ⟨x.nm, c.g0, c.g1, c.sz⟩)).toArray) [(gk1, 31, Cm.cells c), (gk3, 36, Av.cells avZ)]) := HF.out.via (Kept.setRow _ _ _) (fun k e => ⟨(show k = g from e) ▸ hgl, e⟩)
      have HG : Hid (Box (wk9.setRow g (putL cur off (En.cs ⟨x.nm, c.g0, c.g1, c.sz⟩)).toArray) g 34 (putL cur off (En.cs ⟨x.nm, c.g0, c.g1, c.sz⟩)).toArray) := HG.out.setRow _
      generalize wk9.setRow g (putL cur off (En.cs ⟨x.nm, c.g0, c.g1, c.sz⟩)).toArray = wk10 at HF HG hH ⊢
      refine wpAnyH_done (by kernel_rfl) ?_ _
      try simp only [pA, pB, p1, p2, p3]
      clear hH
      go_upto_region 10 with fail
      refine WL.start ?_
      refine tK (.pointer (some ⟨g, off, none⟩)) ?_
      try simp only [pA, pB, p1, p2, p3]
      refine tK (.pointer (some ⟨g, off, none⟩)) ?_
      try simp only [pA, pB, p1, p2, p3]
      refine tW (.agg (En.cells ⟨x.nm, c.g0, c.g1, c.sz⟩)) (exec_load 34 _ rfl ⟨g, off, none⟩ (by kernel_rfl) (.agg (En.cells ⟨x.nm, c.g0, c.g1, c.sz⟩)) (ldR54 (x := ⟨x.nm, c.g0, c.g1, c.sz⟩) (HG.out) hl)) ?_
      try simp only [pA, pB, p1, p2, p3]
      refine tW (.agg (Av.cells ⟨0, ⟨x.nm, c.g0, c.g1, c.sz⟩, ⟨none, 0, 0⟩⟩)) (exec_build 36 _ rfl (Av.cells ⟨0, ⟨x.nm, c.g0, c.g1, c.sz⟩, ⟨none, 0, 0⟩⟩) (by kernel_rfl)) ?_
      try simp only [pA, pB, p1, p2, p3]
      refine wp_storeW 36 _ _ rfl ⟨gk3, 0, none⟩ (.agg (Av.cells ⟨0, ⟨x.nm, c.g0, c.g1, c.sz⟩, ⟨none, 0, 0⟩⟩)) (by kernel_rfl) (by kernel_rfl) (wk10.setRow gk3 (Av.cells ⟨0, ⟨x.nm, c.g0, c.g1, c.sz⟩, ⟨none, 0, 0⟩⟩)) (st56 (HF.out.box 1 _ _ _ rfl) rfl) (by kernel_rfl) ?_
      try simp only [pA, pB, p1, p2, p3]
      have HG : Hid (Box (wk10.setRow gk3 (Av.cells ⟨0, ⟨x.nm, c.g0, c.g1, c.sz⟩, ⟨none, 0, 0⟩⟩)) g 34 (putL cur off (En.cs ⟨x.nm, c.g0, c.g1, c.sz⟩)).toArray) := HG.out.rowNe (box_ne HG.out (HF.out.box 1 _ _ _ rfl) (by decide)) _
      have HF : Hid (Fr (Only g) w (wk10.setRow gk3 (Av.cells ⟨0, ⟨x.nm, c.g0, c.g1, c.sz⟩, ⟨none, 0, 0⟩⟩)) [(gk1, 31, Cm.cells c), (gk3, 36, Av.cells ⟨0, ⟨x.nm, c.g0, c.g1, c.sz⟩, ⟨none, 0, 0⟩⟩)]) := HF.out.set 1 rfl _
      generalize wk10.setRow gk3 (Av.cells ⟨0, ⟨x.nm, c.g0, c.g1, c.sz⟩, ⟨none, 0, 0⟩⟩) = wk11 at HF HG ⊢
      refine WL.nil ?_
      try simp only [pA, pB, p1, p2, p3]
      go_wp2
      rw [HC.out]
      refine bodyPost_ret (results_row1 (by rfl) _ _ gk3 (Av.cells ⟨0, ⟨x.nm, c.g0, c.g1, c.sz⟩, ⟨none, 0, 0⟩⟩) (by rfl) (ld56 (HF.out.box 1 _ _ _ rfl))) rfl ?_
      have hce : chgE x c = ⟨x.nm, c.g0, c.g1, c.sz⟩ := by rw [HCE.out]; simp only [q2, q3, q4]; first | rfl | simp
      refine ⟨?_, ?_, HF.out.kept⟩
      · rw [chgS_yes q1, hce]; try rfl
      · rw [chgS_yes q1, hce]; exact HG.out
    ·skip
     refine tW (.bool true) (exec_bin .eql 3 _ _ _ rfl (.int .i64 c.k) (.int .i64 6) (.bool true) (by kernel_rfl) (by kernel_rfl) (by kernel_rfl) (by rw [b_eql, q3]; try rfl)) ?_
     try simp only [pA, pB, p1, p2, p3]
     refine tK (.bool true) ?_
     try simp only [pA, pB, p1, p2, p3]
     refine WL.nil ?_
     try simp only [pA, pB, p1, p2, p3]
     go_upto_region 7 with fail
     refine wp_region_held_drew (S := fun _ => True) rfl trivial (fun hH => ?_)
     have HG : Hid (Box (wk5.drew) g 34 (putL cur off (En.cs x)).toArray) := HG.out.no (Kept.refl No _).drew
     have HF : Hid (Fr (Only g) w (wk5.drew) [(gk1, 31, Cm.cells c), (gk3, 36, Av.cells avZ)]) := HF.out.drew
     generalize wk5.drew = wk12 at HF HG hH ⊢
     refine aK (i := 0) (oi := { dst := some 27, op := Op.move (Operand.tmp 0), type := 83, pos := "step.go:92", after := #[], guard := none }) (v := .pointer (some ⟨g, off, none⟩)) hH ?_
     try simp only [pA, pB, p1, p2, p3]
     refine aK (i := 1) (oi := { dst := some 28, op := Op.move (Operand.tmp 0), type := 83, pos := "step.go:92", after := #[], guard := none }) (v := .pointer (some ⟨g, off, none⟩)) hH ?_
     try simp only [pA, pB, p1, p2, p3]
     refine aK (i := 2) (oi := { dst := some 29, op := Op.nilCheck (Operand.tmp 28), type := 0, pos := "step.go:92", after := #[{ on := 1, ground := Ground.data }], guard := none }) (v := .pointer (some ⟨g, off, none⟩)) hH ?_
     try simp only [pA, pB, p1, p2, p3]
     refine aK (i := 3) (oi := { dst := some 30, op := Op.fieldAddr 34 (Operand.tmp 29) 2, type := 0, pos := "step.go:92", after := #[{ on := 2, ground := Ground.data }], guard := none }) (v := .pointer (some ⟨g, off + 3, none⟩)) hH ?_
     try simp only [pA, pB, p1, p2, p3]
     refine aK (i := 5) (oi := { dst := some 32, op := Op.fieldAddr 31 (Operand.tmp 3) 6, type := 0, pos := "step.go:92", after := #[], guard := none }) (v := .pointer (some ⟨gk1, 8, none⟩)) hH ?_
     try simp only [pA, pB, p1, p2, p3]
     refine any_pick (rs := [4, 6]) (by kernel_rfl) (by simp) ?_
     intro i hi
     rcases pick2 hi with rfl | rfl
     ·skip
      clear hi
      refine step_run (i := 4) (o := { dst := some 31, op := Op.load 3 (Operand.tmp 30), type := 3, pos := "step.go:92", after := #[{ on := 3, ground := Ground.data }], guard := none }) rfl (by kernel_rfl) (exec_load 3 _ rfl ⟨g, off + 3, none⟩ (by kernel_rfl) (.int .i64 x.sz) (ldR3 (x := x) (HG.out) hl)) trivial (fun hH => ?_)
      try simp only [pA, pB, p1, p2, p3]
      refine any_step (i := 6) (o := { dst := some 33, op := Op.load 3 (Operand.tmp 32), type := 3, pos := "step.go:92", after := #[{ on := 5, ground := Ground.data }], guard := none }) rfl (by kernel_rfl) (by kernel_rfl) (exec_load 3 _ rfl ⟨gk1, 8, none⟩ (by kernel_rfl) (.int .i64 c.sz) (ld3 ((HF.out.box 0 _ _ _ rfl).cell 8))) trivial (fun hH => ?_)
      try simp only [pA, pB, p1, p2, p3]
      refine aT (i := 7) (oi := { dst := some 34, op := Op.call { callee := Callee.builtin Builtin.max, args := #[Operand.tmp 31, Operand.tmp 33], argTypes := #[3, 3] }, type := 3, pos := "step.go:92", after := #[{ on := 4, ground := Ground.data }, { on := 6, ground := Ground.data }], guard := none }) (v := .int .i64 (max x.sz c.sz)) (fun w' hw => exec_max _ _ 3 3 rfl x.sz c.sz (by kernel_rfl) (by kernel_rfl)) hH ?_
      try simp only [pA, pB, p1, p2, p3]
      refine aK (i := 8) (oi := { dst := some 35, op := Op.nilCheck (Operand.tmp 27), type := 0, pos := "step.go:92", after := #[{ on := 0, ground := Ground.data }, { on := 0, ground := Ground.phase }, { on := 1, ground := Ground.phase }, { on := 2, ground := Ground.phase }, { on := 3, ground := Ground.phase }, { on := 4, ground := Ground.phase }, { on := 5, ground := Ground.phase }, { on := 6, ground := Ground.phase }, { on := 7, ground := Ground.phase }], guard := none }) (v := .pointer (some ⟨g, off, none⟩)) hH ?_
      try simp only [pA, pB, p1, p2, p3]
      refine aK (i := 9) (oi := { dst := some 36, op := Op.fieldAddr 34 (Operand.tmp 35) 2, type := 0, pos := "step.go:92", after := #[{ on := 8, ground := Ground.data }, { on := 0, ground := Ground.phase }, { on := 1, ground := Ground.phase }, { on := 2, ground := Ground.phase }, { on := 3, ground := Ground.phase }, { on := 4, ground := Ground.phase }, { on := 5, ground := Ground.phase }, { on := 6, ground := Ground.phase }, { on := 7, ground := Ground.phase }], guard := none }) (v := .pointer (some ⟨g, off + 3, none⟩)) hH ?_
      try simp only [pA, pB, p1, p2, p3]
      refine any_store (i := 10) (o := { dst := none, op := Op.store 3 (Operand.tmp 36) (Operand.tmp 34), type := 0, pos := "step.go:92", after := #[{ on := 9, ground := Ground.data }, { on := 7, ground := Ground.data }, { on := 0, ground := Ground.phase }, { on := 1, ground := Ground.phase }, { on := 2, ground := Ground.phase }, { on := 3, ground := Ground.phase }, { on := 4, ground := Ground.phase }, { on := 5, ground := Ground.phase }, { on := 6, ground := Ground.phase }, { on := 7, ground := Ground.phase }], guard := none }) (w' := wk12.setRow g (putL cur off (En.cs ⟨x.nm, x.f0, x.f1, (max x.sz c.sz)⟩)).toArray) rfl (by kernel_rfl) (by kernel_rfl) 3 _ _ rfl ⟨g, off + 3, none⟩ (.int .i64 (max x.sz c.sz)) (by kernel_rfl) (by kernel_rfl) (stR3 (x := x) HG.out hl _) (trivial) (fun hH => ?_)
      try simp only [pA, pB, p1, p2, p3]
      have HF : Hid (Fr (Only g) w (wk12.setRow g (putL cur off (En.cs ⟨x.nm, x.f0, x.f1, (max x.sz c.sz)⟩)).toArray) [(gk1, 31, Cm.cells c), (gk3, 36, Av.cells avZ)]) := HF.out.via (Kept.setRow _ _ _) (fun k e => ⟨(show k = g from e) ▸ hgl, e⟩)
      have HG : Hid (Box (wk12.setRow g (putL cur off (En.cs ⟨x.nm, x.f0, x.f1, (max x.sz c.sz)⟩)).toArray) g 34 (putL cur off (En.cs ⟨x.nm, x.f0, x.f1, (max x.sz c.sz)⟩)).toArray) := HG.out.setRow _
      generalize wk12.setRow g (putL cur off (En.cs ⟨x.nm, x.f0, x.f1, (max x.sz c.sz)⟩)).toArray = wk13 at HF HG hH ⊢
      refine wpAnyH_done (by kernel_rfl) ?_ _
      try simp only [pA, pB, p1, p2, p3]
      go_upto_region 10 with fail
      refine WL.start ?_
      refine tK (.pointer (some ⟨g, off, none⟩)) ?_
      try simp only [pA, pB, p1, p2, p3]
      refine tK (.pointer (some ⟨g, off, none⟩)) ?_
      try simp only [pA, pB, p1, p2, p3]
      refine tW (.agg (En.cells ⟨x.nm, x.f0, x.f1, (max x.sz c.sz)⟩)) (exec_load 34 _ rfl ⟨g, off, none⟩ (by kernel_rfl) (.agg (En.cells ⟨x.nm, x.f0, x.f1, (max x.sz c.sz)⟩)) (ldR54 (x := ⟨x.nm, x.f0, x.f1, (max x.sz c.sz)⟩) (HG.out) hl)) ?_
      try simp only [pA, pB, p1, p2, p3]
      refine tW (.agg (Av.cells ⟨0, ⟨x.nm, x.f0, x.f1, (max x.sz c.sz)⟩, ⟨none, 0, 0⟩⟩)) (exec_build 36 _ rfl (Av.cells ⟨0, ⟨x.nm, x.f0, x.f1, (max x.sz c.sz)⟩, ⟨none, 0, 0⟩⟩) (by kernel_rfl)) ?_
      try simp only [pA, pB, p1, p2, p3]
      refine wp_storeW 36 _ _ rfl ⟨gk3, 0, none⟩ (.agg (Av.cells ⟨0, ⟨x.nm, x.f0, x.f1, (max x.sz c.sz)⟩, ⟨none, 0, 0⟩⟩)) (by kernel_rfl) (by kernel_rfl) (wk13.setRow gk3 (Av.cells ⟨0, ⟨x.nm, x.f0, x.f1, (max x.sz c.sz)⟩, ⟨none, 0, 0⟩⟩)) (st56 (HF.out.box 1 _ _ _ rfl) rfl) (by kernel_rfl) ?_
      try simp only [pA, pB, p1, p2, p3]
      have HG : Hid (Box (wk13.setRow gk3 (Av.cells ⟨0, ⟨x.nm, x.f0, x.f1, (max x.sz c.sz)⟩, ⟨none, 0, 0⟩⟩)) g 34 (putL cur off (En.cs ⟨x.nm, x.f0, x.f1, (max x.sz c.sz)⟩)).toArray) := HG.out.rowNe (box_ne HG.out (HF.out.box 1 _ _ _ rfl) (by decide)) _
      have HF : Hid (Fr (Only g) w (wk13.setRow gk3 (Av.cells ⟨0, ⟨x.nm, x.f0, x.f1, (max x.sz c.sz)⟩, ⟨none, 0, 0⟩⟩)) [(gk1, 31, Cm.cells c), (gk3, 36, Av.cells ⟨0, ⟨x.nm, x.f0, x.f1, (max x.sz c.sz)⟩, ⟨none, 0, 0⟩⟩)]) := HF.out.set 1 rfl _
      generalize wk13.setRow gk3 (Av.cells ⟨0, ⟨x.nm, x.f0, x.f1, (max x.sz c.sz)⟩, ⟨none, 0, 0⟩⟩) = wk14 at HF HG ⊢
      refine WL.nil ?_
      try simp only [pA, pB, p1, p2, p3]
      go_wp2
      rw [HC.out]
      refine bodyPost_ret (results_row1 (by rfl) _ _ gk3 (Av.cells ⟨0, ⟨x.nm, x.f0, x.f1, (max x.sz c.sz)⟩, ⟨none, 0, 0⟩⟩) (by rfl) (ld56 (HF.out.box 1 _ _ _ rfl))) rfl ?_
      have hce : chgE x c = ⟨x.nm, x.f0, x.f1, (max x.sz c.sz)⟩ := by rw [HCE.out]; simp only [q2, q3]; first | rfl | simp
      refine ⟨?_, ?_, HF.out.kept⟩
      · rw [chgS_yes q1, hce]; try rfl
      · rw [chgS_yes q1, hce]; exact HG.out
     ·skip
      clear hi
      refine step_run (i := 6) (o := { dst := some 33, op := Op.load 3 (Operand.tmp 32), type := 3, pos := "step.go:92", after := #[{ on := 5, ground := Ground.data }], guard := none }) rfl (by kernel_rfl) (exec_load 3 _ rfl ⟨gk1, 8, none⟩ (by kernel_rfl) (.int .i64 c.sz) (ld3 ((HF.out.box 0 _ _ _ rfl).cell 8))) trivial (fun hH => ?_)
      try simp only [pA, pB, p1, p2, p3]
      refine any_step (i := 4) (o := { dst := some 31, op := Op.load 3 (Operand.tmp 30), type := 3, pos := "step.go:92", after := #[{ on := 3, ground := Ground.data }], guard := none }) rfl (by kernel_rfl) (by kernel_rfl) (exec_load 3 _ rfl ⟨g, off + 3, none⟩ (by kernel_rfl) (.int .i64 x.sz) (ldR3 (x := x) (HG.out) hl)) trivial (fun hH => ?_)
      try simp only [pA, pB, p1, p2, p3]
      refine aT (i := 7) (oi := { dst := some 34, op := Op.call { callee := Callee.builtin Builtin.max, args := #[Operand.tmp 31, Operand.tmp 33], argTypes := #[3, 3] }, type := 3, pos := "step.go:92", after := #[{ on := 4, ground := Ground.data }, { on := 6, ground := Ground.data }], guard := none }) (v := .int .i64 (max x.sz c.sz)) (fun w' hw => exec_max _ _ 3 3 rfl x.sz c.sz (by kernel_rfl) (by kernel_rfl)) hH ?_
      try simp only [pA, pB, p1, p2, p3]
      refine aK (i := 8) (oi := { dst := some 35, op := Op.nilCheck (Operand.tmp 27), type := 0, pos := "step.go:92", after := #[{ on := 0, ground := Ground.data }, { on := 0, ground := Ground.phase }, { on := 1, ground := Ground.phase }, { on := 2, ground := Ground.phase }, { on := 3, ground := Ground.phase }, { on := 4, ground := Ground.phase }, { on := 5, ground := Ground.phase }, { on := 6, ground := Ground.phase }, { on := 7, ground := Ground.phase }], guard := none }) (v := .pointer (some ⟨g, off, none⟩)) hH ?_
      try simp only [pA, pB, p1, p2, p3]
      refine aK (i := 9) (oi := { dst := some 36, op := Op.fieldAddr 34 (Operand.tmp 35) 2, type := 0, pos := "step.go:92", after := #[{ on := 8, ground := Ground.data }, { on := 0, ground := Ground.phase }, { on := 1, ground := Ground.phase }, { on := 2, ground := Ground.phase }, { on := 3, ground := Ground.phase }, { on := 4, ground := Ground.phase }, { on := 5, ground := Ground.phase }, { on := 6, ground := Ground.phase }, { on := 7, ground := Ground.phase }], guard := none }) (v := .pointer (some ⟨g, off + 3, none⟩)) hH ?_
      try simp only [pA, pB, p1, p2, p3]
      refine any_store (i := 10) (o := { dst := none, op := Op.store 3 (Operand.tmp 36) (Operand.tmp 34), type := 0, pos := "step.go:92", after := #[{ on := 9, ground := Ground.data }, { on := 7, ground := Ground.data }, { on := 0, ground := Ground.phase }, { on := 1, ground := Ground.phase }, { on := 2, ground := Ground.phase }, { on := 3, ground := Ground.phase }, { on := 4, ground := Ground.phase }, { on := 5, ground := Ground.phase }, { on := 6, ground := Ground.phase }, { on := 7, ground := Ground.phase }], guard := none }) (w' := wk12.setRow g (putL cur off (En.cs ⟨x.nm, x.f0, x.f1, (max x.sz c.sz)⟩)).toArray) rfl (by kernel_rfl) (by kernel_rfl) 3 _ _ rfl ⟨g, off + 3, none⟩ (.int .i64 (max x.sz c.sz)) (by kernel_rfl) (by kernel_rfl) (stR3 (x := x) HG.out hl _) (trivial) (fun hH => ?_)
      try simp only [pA, pB, p1, p2, p3]
      have HF : Hid (Fr (Only g) w (wk12.setRow g (putL cur off (En.cs ⟨x.nm, x.f0, x.f1, (max x.sz c.sz)⟩)).toArray) [(gk1, 31, Cm.cells c), (gk3, 36, Av.cells avZ)]) := HF.out.via (Kept.setRow _ _ _) (fun k e => ⟨(show k = g from e) ▸ hgl, e⟩)
      have HG : Hid (Box (wk12.setRow g (putL cur off (En.cs ⟨x.nm, x.f0, x.f1, (max x.sz c.sz)⟩)).toArray) g 34 (putL cur off (En.cs ⟨x.nm, x.f0, x.f1, (max x.sz c.sz)⟩)).toArray) := HG.out.setRow _
      generalize wk12.setRow g (putL cur off (En.cs ⟨x.nm, x.f0, x.f1, (max x.sz c.sz)⟩)).toArray = wk15 at HF HG hH ⊢
      refine wpAnyH_done (by kernel_rfl) ?_ _
      try simp only [pA, pB, p1, p2, p3]
      go_upto_region 10 with fail
      refine WL.start ?_
      refine tK (.pointer (some ⟨g, off, none⟩)) ?_
      try simp only [pA, pB, p1, p2, p3]
      refine tK (.pointer (some ⟨g, off, none⟩)) ?_
      try simp only [pA, pB, p1, p2, p3]
      refine tW (.agg (En.cells ⟨x.nm, x.f0, x.f1, (max x.sz c.sz)⟩)) (exec_load 34 _ rfl ⟨g, off, none⟩ (by kernel_rfl) (.agg (En.cells ⟨x.nm, x.f0, x.f1, (max x.sz c.sz)⟩)) (ldR54 (x := ⟨x.nm, x.f0, x.f1, (max x.sz c.sz)⟩) (HG.out) hl)) ?_
      try simp only [pA, pB, p1, p2, p3]
      refine tW (.agg (Av.cells ⟨0, ⟨x.nm, x.f0, x.f1, (max x.sz c.sz)⟩, ⟨none, 0, 0⟩⟩)) (exec_build 36 _ rfl (Av.cells ⟨0, ⟨x.nm, x.f0, x.f1, (max x.sz c.sz)⟩, ⟨none, 0, 0⟩⟩) (by kernel_rfl)) ?_
      try simp only [pA, pB, p1, p2, p3]
      refine wp_storeW 36 _ _ rfl ⟨gk3, 0, none⟩ (.agg (Av.cells ⟨0, ⟨x.nm, x.f0, x.f1, (max x.sz c.sz)⟩, ⟨none, 0, 0⟩⟩)) (by kernel_rfl) (by kernel_rfl) (wk15.setRow gk3 (Av.cells ⟨0, ⟨x.nm, x.f0, x.f1, (max x.sz c.sz)⟩, ⟨none, 0, 0⟩⟩)) (st56 (HF.out.box 1 _ _ _ rfl) rfl) (by kernel_rfl) ?_
      try simp only [pA, pB, p1, p2, p3]
      have HG : Hid (Box (wk15.setRow gk3 (Av.cells ⟨0, ⟨x.nm, x.f0, x.f1, (max x.sz c.sz)⟩, ⟨none, 0, 0⟩⟩)) g 34 (putL cur off (En.cs ⟨x.nm, x.f0, x.f1, (max x.sz c.sz)⟩)).toArray) := HG.out.rowNe (box_ne HG.out (HF.out.box 1 _ _ _ rfl) (by decide)) _
      have HF : Hid (Fr (Only g) w (wk15.setRow gk3 (Av.cells ⟨0, ⟨x.nm, x.f0, x.f1, (max x.sz c.sz)⟩, ⟨none, 0, 0⟩⟩)) [(gk1, 31, Cm.cells c), (gk3, 36, Av.cells ⟨0, ⟨x.nm, x.f0, x.f1, (max x.sz c.sz)⟩, ⟨none, 0, 0⟩⟩)]) := HF.out.set 1 rfl _
      generalize wk15.setRow gk3 (Av.cells ⟨0, ⟨x.nm, x.f0, x.f1, (max x.sz c.sz)⟩, ⟨none, 0, 0⟩⟩) = wk16 at HF HG ⊢
      refine WL.nil ?_
      try simp only [pA, pB, p1, p2, p3]
      go_wp2
      rw [HC.out]
      refine bodyPost_ret (results_row1 (by rfl) _ _ gk3 (Av.cells ⟨0, ⟨x.nm, x.f0, x.f1, (max x.sz c.sz)⟩, ⟨none, 0, 0⟩⟩) (by rfl) (ld56 (HF.out.box 1 _ _ _ rfl))) rfl ?_
      have hce : chgE x c = ⟨x.nm, x.f0, x.f1, (max x.sz c.sz)⟩ := by rw [HCE.out]; simp only [q2, q3]; first | rfl | simp
      refine ⟨?_, ?_, HF.out.kept⟩
      · rw [chgS_yes q1, hce]; try rfl
      · rw [chgS_yes q1, hce]; exact HG.out
   ·skip
    refine tW (.bool true) (exec_bin .eql 3 _ _ _ rfl (.int .i64 c.k) (.int .i64 5) (.bool true) (by kernel_rfl) (by kernel_rfl) (by kernel_rfl) (by rw [b_eql, q2]; try rfl)) ?_
    try simp only [pA, pB, p1, p2, p3]
    refine tK (.bool true) ?_
    try simp only [pA, pB, p1, p2, p3]
    refine WL.nil ?_
    try simp only [pA, pB, p1, p2, p3]
    go_upto_region 5 with fail
    refine WL.start ?_
    refine tK (.pointer (some ⟨g, off, none⟩)) ?_
    try simp only [pA, pB, p1, p2, p3]
    refine tK (.pointer (some ⟨gk1, 8, none⟩)) ?_
    try simp only [pA, pB, p1, p2, p3]
    refine tW (.int .i64 c.sz) (exec_load 3 _ rfl ⟨gk1, 8, none⟩ (by kernel_rfl) (.int .i64 c.sz) (ld3 ((HF.out.box 0 _ _ _ rfl).cell 8))) ?_
    try simp only [pA, pB, p1, p2, p3]
    refine tK (.pointer (some ⟨g, off, none⟩)) ?_
    try simp only [pA, pB, p1, p2, p3]
    refine tK (.pointer (some ⟨g, off + 3, none⟩)) ?_
    try simp only [pA, pB, p1, p2, p3]
    refine wp_storeW 3 _ _ rfl ⟨g, off + 3, none⟩ (.int .i64 c.sz) (by kernel_rfl) (by kernel_rfl) (wk5.setRow g (putL cur off (En.cs ⟨x.nm, x.f0, x.f1, c.sz⟩)).toArray) (stR3 (x := x) HG.out hl _) (by kernel_rfl) ?_
    try simp only [pA, pB, p1, p2, p3]
    have HF : Hid (Fr (Only g) w (wk5.setRow g (putL cur off (En.cs ⟨x.nm, x.f0, x.f1, c.sz⟩)).toArray) [(gk1, 31, Cm.cells c), (gk3, 36, Av.cells avZ)]) := HF.out.via (Kept.setRow _ _ _) (fun k e => ⟨(show k = g from e) ▸ hgl, e⟩)
    have HG : Hid (Box (wk5.setRow g (putL cur off (En.cs ⟨x.nm, x.f0, x.f1, c.sz⟩)).toArray) g 34 (putL cur off (En.cs ⟨x.nm, x.f0, x.f1, c.sz⟩)).toArray) := HG.out.setRow _
    generalize wk5.setRow g (putL cur off (En.cs ⟨x.nm, x.f0, x.f1, c.sz⟩)).toArray = wk17 at HF HG ⊢
    refine WL.nil ?_
    try simp only [pA, pB, p1, p2, p3]
    go_upto_region 10 with fail
    refine WL.start ?_
    refine tK (.pointer (some ⟨g, off, none⟩)) ?_
    try simp only [pA, pB, p1, p2, p3]
    refine tK (.pointer (some ⟨g, off, none⟩)) ?_
    try simp only [pA, pB, p1, p2, p3]
    refine tW (.agg (En.cells ⟨x.nm, x.f0, x.f1, c.sz⟩)) (exec_load 34 _ rfl ⟨g, off, none⟩ (by kernel_rfl) (.agg (En.cells ⟨x.nm, x.f0, x.f1, c.sz⟩)) (ldR54 (x := ⟨x.nm, x.f0, x.f1, c.sz⟩) (HG.out) hl)) ?_
    try simp only [pA, pB, p1, p2, p3]
    refine tW (.agg (Av.cells ⟨0, ⟨x.nm, x.f0, x.f1, c.sz⟩, ⟨none, 0, 0⟩⟩)) (exec_build 36 _ rfl (Av.cells ⟨0, ⟨x.nm, x.f0, x.f1, c.sz⟩, ⟨none, 0, 0⟩⟩) (by kernel_rfl)) ?_
    try simp only [pA, pB, p1, p2, p3]
    refine wp_storeW 36 _ _ rfl ⟨gk3, 0, none⟩ (.agg (Av.cells ⟨0, ⟨x.nm, x.f0, x.f1, c.sz⟩, ⟨none, 0, 0⟩⟩)) (by kernel_rfl) (by kernel_rfl) (wk17.setRow gk3 (Av.cells ⟨0, ⟨x.nm, x.f0, x.f1, c.sz⟩, ⟨none, 0, 0⟩⟩)) (st56 (HF.out.box 1 _ _ _ rfl) rfl) (by kernel_rfl) ?_
    try simp only [pA, pB, p1, p2, p3]
    have HG : Hid (Box (wk17.setRow gk3 (Av.cells ⟨0, ⟨x.nm, x.f0, x.f1, c.sz⟩, ⟨none, 0, 0⟩⟩)) g 34 (putL cur off (En.cs ⟨x.nm, x.f0, x.f1, c.sz⟩)).toArray) := HG.out.rowNe (box_ne HG.out (HF.out.box 1 _ _ _ rfl) (by decide)) _
    have HF : Hid (Fr (Only g) w (wk17.setRow gk3 (Av.cells ⟨0, ⟨x.nm, x.f0, x.f1, c.sz⟩, ⟨none, 0, 0⟩⟩)) [(gk1, 31, Cm.cells c), (gk3, 36, Av.cells ⟨0, ⟨x.nm, x.f0, x.f1, c.sz⟩, ⟨none, 0, 0⟩⟩)]) := HF.out.set 1 rfl _
    generalize wk17.setRow gk3 (Av.cells ⟨0, ⟨x.nm, x.f0, x.f1, c.sz⟩, ⟨none, 0, 0⟩⟩) = wk18 at HF HG ⊢
    refine WL.nil ?_
    try simp only [pA, pB, p1, p2, p3]
    go_wp2
    rw [HC.out]
    refine bodyPost_ret (results_row1 (by rfl) _ _ gk3 (Av.cells ⟨0, ⟨x.nm, x.f0, x.f1, c.sz⟩, ⟨none, 0, 0⟩⟩) (by rfl) (ld56 (HF.out.box 1 _ _ _ rfl))) rfl ?_
    have hce : chgE x c = ⟨x.nm, x.f0, x.f1, c.sz⟩ := by rw [HCE.out]; simp only [q2]; first | rfl | simp
    refine ⟨?_, ?_, HF.out.kept⟩
    · rw [chgS_yes q1, hce]; try rfl
    · rw [chgS_yes q1, hce]; exact HG.out

end Go.Proofs.Ytfemlnfknebalab
