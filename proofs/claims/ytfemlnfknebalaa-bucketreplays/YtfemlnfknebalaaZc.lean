import Derived.Test.YtfemlnfknebalaaZb
namespace Go.Proofs.Ytfemlnfknebalaa
open Go.RowKit
set_option linter.unusedVariables false
set_option linter.unusedSimpArgs false
@[reducible] def oqZc0 : Oper := { dst := some 14, op := Op.move (Operand.tmp 6), type := 4, pos := "ref.go:179", after := #[], guard := none }
@[reducible] def oqZc1 : Oper := { dst := some 15, op := Op.unOp UnOp.not 4 (Operand.tmp 14), type := 4, pos := "ref.go:179", after := #[{ on := 0, ground := Ground.data }], guard := none }
@[reducible] def oqZc2 : Oper := { dst := some 16, op := Op.move (Operand.tmp 15), type := 4, pos := "ref.go:179", after := #[{ on := 1, ground := Ground.data }], guard := none }
@[reducible] def oqZc3 : Oper := { dst := some 17, op := Op.move (Operand.tmp 0), type := 23, pos := "ref.go:179", after := #[{ on := 2, ground := Ground.guard }], guard := some (2, true) }
@[reducible] def oqZc4 : Oper := { dst := some 18, op := Op.move (Operand.tmp 7), type := 3, pos := "ref.go:179", after := #[{ on := 2, ground := Ground.guard }], guard := some (2, true) }
@[reducible] def oqZc5 : Oper := { dst := some 19, op := Op.indexAddr 23 (Operand.tmp 17) (Operand.tmp 18), type := 0, pos := "ref.go:179", after := #[{ on := 3, ground := Ground.data }, { on := 4, ground := Ground.data }, { on := 2, ground := Ground.guard }], guard := some (2, true) }
@[reducible] def oqZc6 : Oper := { dst := some 20, op := Op.fieldAddr 64 (Operand.tmp 19) 0, type := 0, pos := "ref.go:179", after := #[{ on := 5, ground := Ground.data }, { on := 2, ground := Ground.guard }], guard := some (2, true) }
@[reducible] def oqZc7 : Oper := { dst := some 21, op := Op.load 3 (Operand.tmp 20), type := 3, pos := "ref.go:179", after := #[{ on := 6, ground := Ground.data }, { on := 2, ground := Ground.guard }], guard := some (2, true) }
@[reducible] def oqZc8 : Oper := { dst := some 22, op := Op.fieldAddr 64 (Operand.tmp 3) 0, type := 0, pos := "ref.go:179", after := #[{ on := 2, ground := Ground.guard }], guard := some (2, true) }
@[reducible] def oqZc9 : Oper := { dst := some 23, op := Op.load 3 (Operand.tmp 22), type := 3, pos := "ref.go:179", after := #[{ on := 8, ground := Ground.data }, { on := 2, ground := Ground.guard }], guard := some (2, true) }
@[reducible] def oqZc10 : Oper := { dst := some 24, op := Op.binOp BinOp.geq 3 (Operand.tmp 21) (Operand.tmp 23) 3, type := 4, pos := "ref.go:179", after := #[{ on := 7, ground := Ground.data }, { on := 9, ground := Ground.data }, { on := 2, ground := Ground.guard }], guard := some (2, true) }
@[reducible] def oqZc11 : Oper := { dst := some 25, op := Op.pick (Operand.tmp 16) (Operand.tmp 24) (Operand.const (Value.bool false)), type := 4, pos := "ref.go:179", after := #[{ on := 2, ground := Ground.data }, { on := 10, ground := Ground.data }], guard := none }
@[reducible] def oqZc12 : Oper := { dst := some 30, op := Op.move (Operand.tmp 0), type := 23, pos := "ref.go:183", after := #[], guard := none }
@[reducible] def oqZc13 : Oper := { dst := some 31, op := Op.move (Operand.tmp 7), type := 3, pos := "ref.go:183", after := #[], guard := none }
@[reducible] def oqZc14 : Oper := { dst := some 32, op := Op.indexAddr 23 (Operand.tmp 30) (Operand.tmp 31), type := 0, pos := "ref.go:183", after := #[{ on := 0, ground := Ground.data }, { on := 1, ground := Ground.data }], guard := none }
@[reducible] def oqZc15 : Oper := { dst := some 33, op := Op.fieldAddr 64 (Operand.tmp 32) 0, type := 0, pos := "ref.go:183", after := #[{ on := 2, ground := Ground.data }], guard := none }
@[reducible] def oqZc16 : Oper := { dst := some 34, op := Op.load 3 (Operand.tmp 33), type := 3, pos := "ref.go:183", after := #[{ on := 3, ground := Ground.data }], guard := none }
@[reducible] def oqZc17 : Oper := { dst := some 35, op := Op.fieldAddr 64 (Operand.tmp 3) 0, type := 0, pos := "ref.go:183", after := #[], guard := none }
@[reducible] def oqZc18 : Oper := { dst := some 36, op := Op.load 3 (Operand.tmp 35), type := 3, pos := "ref.go:183", after := #[{ on := 5, ground := Ground.data }], guard := none }
@[reducible] def oqZc19 : Oper := { dst := some 37, op := Op.binOp BinOp.neq 3 (Operand.tmp 34) (Operand.tmp 36) 3, type := 4, pos := "ref.go:183", after := #[{ on := 4, ground := Ground.data }, { on := 6, ground := Ground.data }], guard := none }

/-- The reference's Lasts behind a command. -/
def noteS : List La → La → Bool → List La
  | [], x, dn => if dn then [] else [x]
  | y :: t, x, dn => (if !dn && decide (x.cl ≤ y.cl) then [x] else []) ++ ((if y.cl == x.cl then [] else [y]) ++ noteS t x (dn || decide (x.cl ≤ y.cl)))
theorem mul56 {t : Nat} (h : t ≤ 2513169434916) : t * 56 ≤ 140737488355328 := by omega
theorem app1L {w W : World} {sa : Option Addr} {n c : Nat} {out : List La} (hw : Kept No w W) (ho : OwL W w.heap.size ⟨sa, n, c⟩ out) (y : La) (hb : (n + 1) * 56 ≤ 140737488355328) :
    ∃ a' c' W2, (Builtin.append_ #[23, 23] 23 #[.slice sa n c, .slice (some ⟨W.heap.size, 0, none⟩) 1 1]).run Try.prog (W.alloc (.cells y.cells 64)) = .ok (.slice a' (n + 1) c') W2 ∧ OwL W2 w.heap.size ⟨a', n + 1, c'⟩ (out ++ [y]) ∧ Kept No w W2 := by
  have h1 : Kept No W (W.alloc (.cells y.cells 64)) := (Kept.refl No _).alloc _
  have ho1 := ho.no h1
  have hx := Box.new W 64 y.cells
  obtain ⟨a', c', W2, hrun, hO, hk, hA⟩ := run_appN (w := W.alloc (.cells y.cells 64)) 23 23 64 7 56 (.agg laZ.cells) Try.und23 Try.info64 rfl (by omega) w.heap.size n c sa (laL out) ho1.own (some ⟨W.heap.size, 0, none⟩) 1 1 y.cs rfl (fun e => by cases e) (fun j u hj => ⟨_, rfl, by rw [addr_add, Nat.zero_add, hx.cell]; show y.cs.toArray[j]? = _; rw [List.getElem?_toArray]; exact hj⟩) y.oneL (by omega) (by omega) (Nat.le_trans hw.size h1.size)
  have hol : out.length = n := ho.len
  exact ⟨a', c', W2, hrun, ⟨by rw [laL_app, laL_1]; exact hO, by show (out ++ [y]).length = n + 1; rw [List.length_append, hol]; rfl⟩, (hw.no h1).trans hk (fun _ e => e) (fun i hi e => by have := ho1.own.base e; omega)⟩
set_option maxRecDepth 100000 in
set_option maxHeartbeats 1600000 in
theorem noted_any (a : Option Addr) (m c : Nat) (ls : List La) (x : La) (w0 : World) (hr : RdL w0 ⟨a, m, c⟩ ls) (hb : (m + 1) * 56 ≤ 140737488355328) : Calls Try.prog 44 #[.slice a m c, .agg (La.cells x)] w0 (fun e w' => ∃ s : Sl, e = .returned s.v ∧ OwL w' w0.heap.size s (noteS ls x false) ∧ Kept No w0 w') := by
  obtain ⟨C, hC⟩ : ∃ C : Ending → World → Prop, C = (fun e w' => ∃ s : Sl, e = .returned s.v ∧ OwL w' w0.heap.size s (noteS ls x false) ∧ Kept No w0 w') := ⟨_, rfl⟩
  have HC : Hid (C = (fun e w' => ∃ s : Sl, e = .returned s.v ∧ OwL w' w0.heap.size s (noteS ls x false) ∧ Kept No w0 w')) := hC
  rw [← hC]
  clear hC
  go_enter Try.func44, Try.ntmps44
  go_upto_region 0 with fail
  refine WL.start ?_
  refine wp_runW (.pointer (some ⟨w0.heap.size, 0, none⟩)) (w0.alloc (.cells (La.cells x) 64)) (exec_box 64 _ rfl (La.cells x) (by kernel_rfl)) (by kernel_rfl) ?_
  try simp only [pA, pB, p1, p2, p3]
  have HB : Hid (Box (w0.alloc (.cells (La.cells x) 64)) w0.heap.size 64 (La.cells x)) := Box.new _ _ _
  have HK0 : Hid (Kept No w0 (w0.alloc (.cells (La.cells x) 64))) := (Kept.refl No _).alloc _
  have HR : Hid (RdL (w0.alloc (.cells (La.cells x) 64)) ⟨a, m, c⟩ ls) := hr.no HK0.out
  have hm : m + 1 ≤ 2513169434916 := by omega
  clear hr hb
  generalize w0.alloc (.cells (La.cells x) 64) = w at HB HK0 HR ⊢
  obtain ⟨g, hg⟩ : ∃ g, g = w0.heap.size := ⟨_, rfl⟩
  rw [← hg] at HB ⊢
  clear hg
  have HF : Hid (Fr No w w []) := Fr.start _ _
  have HLN : Hid (ls.length = m) := HR.out.len
  refine tK (.slice none 0 0) ?_
  try simp only [pA, pB, p1, p2, p3]
  refine WL.nil ?_
  try simp only [pA, pB, p1, p2, p3]
  go_upto_region 1 with fail
  refine WL.start ?_
  refine tK (.slice none 0 0) ?_
  try simp only [pA, pB, p1, p2, p3]
  refine WL.nil ?_
  try simp only [pA, pB, p1, p2, p3]
  go_upto_region 2 with fail
  refine WL.start ?_
  refine tK (.bool false) ?_
  try simp only [pA, pB, p1, p2, p3]
  refine WL.nil ?_
  try simp only [pA, pB, p1, p2, p3]
  go_upto_region 3 with fail
  refine WL.start ?_
  refine tK (.int .i64 0) ?_
  try simp only [pA, pB, p1, p2, p3]
  refine WL.nil ?_
  try simp only [pA, pB, p1, p2, p3]
  go_wp2
  go_loopw [5, 6, 7] (fun v5 v6 v7 wr => ∃ (i : Nat) (dn : Bool) (sa : Option Addr) (n sc : Nat) (O : List La), v5 = .slice sa n sc ∧ v6 = .bool dn ∧ v7 = .int .i64 ((i : Nat) : Int) ∧ i ≤ m ∧ (n ≤ i + 1 ∧ (dn = false → n ≤ i)) ∧ Hid (OwL wr w.heap.size ⟨sa, n, sc⟩ O) ∧ Hid (O ++ noteS (ls.drop i) x dn = noteS ls x false) ∧ Hid (Fr No w wr [])) (fun _ _ i _ => m - (intOf i).toNat)
  case atStart => exact ⟨0, false, none, 0, 0, [], rfl, rfl, by go_num, by omega, ⟨by omega, fun _ => by omega⟩, OwL.nil _ _, rfl, HF⟩
  case round =>
    clear HF
    obtain ⟨i, dn, sa, n, sc, O, rfl, rfl, rfl, hi, hn, HO, HV, HF⟩ := hrel
    by_cases hlt : i < m
    · obtain ⟨xb, xo, e0, hcx⟩ := Ls.at HR.out.row (i := i) (by rw [HLN.out]; exact hlt)
      have e0 : a = some ⟨xb, xo, none⟩ := e0
      subst e0
      have HCX : Hid (∀ (j : Nat) v, (lAt ls i).cs[j]? = some v → w.cell? ⟨xb, xo + i * 7 + j, none⟩ = some v) := hcx
      have hd : ls.drop i = lAt ls i :: ls.drop (i + 1) := by
        have h0 : i < ls.length := by rw [HLN.out]; exact hlt
        rw [List.drop_eq_getElem_cons h0]
        have h1 := lAt_some h0
        rw [List.getElem?_eq_getElem h0] at h1
        rw [Option.some.inj h1]
      have HV : Hid (O ++ ((if !dn && decide (x.cl ≤ (lAt ls i).cl) then [x] else []) ++ ((if (lAt ls i).cl == x.cl then [] else [lAt ls i]) ++ noteS (ls.drop (i + 1)) x (dn || decide (x.cl ≤ (lAt ls i).cl)))) = noteS ls x false) := by
        have := HV.out
        rw [hd] at this
        exact this
      clear hcx hd
      generalize lAt ls i = y at HCX HV
      rcases dn with _ | _
      ·skip
       have hn0 : n ≤ i := hn.2 rfl
       clear hn
       go_upto_region 4 with fail
       refine WL.start ?_
       refine tK (.int .i64 ((i : Nat) : Int)) ?_
       refine tK (.slice (some ⟨xb, xo, none⟩) m c) ?_
       refine tK (.int .i64 ((m : Nat) : Int)) ?_
       refine tW (.bool true) (exec_bin .lss 3 _ _ _ rfl (.int .i64 ((i : Nat) : Int)) (.int .i64 ((m : Nat) : Int)) (.bool true) (by kernel_rfl) (by kernel_rfl) (by kernel_rfl) (by rw [b_lss, decide_eq_true (by omega)])) ?_
       try simp only [pA, pB, p1, p2, p3]
       refine WL.nil ?_
       try simp only [pA, pB, p1, p2, p3]
       go_upto_region 6 with fail
       refine wp_region_held_drew (S := fun w' => Fr No w w' []) rfl HF.out.drew (fun hH => ?_)
       have HO : Hid (OwL (wr.drew) w.heap.size ⟨sa, n, sc⟩ O) := HO.out.no (Kept.refl No _).drew
       have HF : Hid (Fr No w (wr.drew) []) := HF.out.drew
       generalize wr.drew = wk1 at HF HO hH ⊢
       refine aT (i := 0) (oi := oqZc0) (v := .bool false) (fun _ _ => by kernel_rfl) hH ?_
       refine aT (i := 1) (oi := oqZc1) (v := .bool true) (fun _ _ => by kernel_rfl) hH ?_
       refine aT (i := 2) (oi := oqZc2) (v := .bool true) (fun _ _ => by kernel_rfl) hH ?_
       refine aT (i := 3) (oi := oqZc3) (v := .slice (some ⟨xb, xo, none⟩) m c) (fun _ _ => by kernel_rfl) hH ?_
       refine aT (i := 4) (oi := oqZc4) (v := .int .i64 ((i : Nat) : Int)) (fun _ _ => by kernel_rfl) hH ?_
       refine aT (i := 5) (oi := oqZc5) (v := .pointer (some ⟨xb, xo + i * 7, none⟩)) (fun w' hw => exec_ixA 23 7 Try.und23e Try.size23e _ _ rfl xb xo m c i (by kernel_rfl) (by kernel_rfl) hlt) hH ?_
       refine aT (i := 6) (oi := oqZc6) (v := .pointer (some ⟨xb, xo + i * 7, none⟩)) (fun _ _ => by kernel_rfl) hH ?_
       refine aT (i := 7) (oi := oqZc7) (v := .int .i64 y.cl) (fun w' hw => exec_load 3 _ rfl ⟨xb, xo + i * 7, none⟩ (by kernel_rfl) (.int .i64 y.cl) (ld3 (hw.kept.cell (HCX.out 0 _ rfl) (fun e => e)))) hH ?_
       refine aT (i := 8) (oi := oqZc8) (v := .pointer (some ⟨g, 0, none⟩)) (fun _ _ => by kernel_rfl) hH ?_
       refine aT (i := 9) (oi := oqZc9) (v := .int .i64 x.cl) (fun w' hw => exec_load 3 _ rfl ⟨g, 0, none⟩ (by kernel_rfl) (.int .i64 x.cl) (ld3 ((HB.out.kept hw.kept (fun e => e)).cell 0))) hH ?_
       try simp only [pA, pB, p1, p2, p3]
       cases q1 : (decide (x.cl ≤ y.cl))
       ·skip
        refine aT (i := 10) (oi := oqZc10) (v := .bool false) (fun w' hw => exec_bin .geq 3 _ _ _ rfl (.int .i64 y.cl) (.int .i64 x.cl) (.bool false) (by kernel_rfl) (by kernel_rfl) (by kernel_rfl) (by rw [b_geq, q1]; try rfl)) hH ?_
        refine aT (i := 11) (oi := oqZc11) (v := .bool false) (fun _ _ => by kernel_rfl) hH ?_
        try simp only [pA, pB, p1, p2, p3]
        refine wpAnyH_done (by kernel_rfl) ?_ _
        try simp only [pA, pB, p1, p2, p3]
        clear hH
        go_upto_region 9 with fail
        refine wp_region_held_drew (S := fun w' => Fr No w w' []) rfl HF.out.drew (fun hH => ?_)
        have HO : Hid (OwL (wk1.drew) w.heap.size ⟨sa, n, sc⟩ O) := HO.out.no (Kept.refl No _).drew
        have HF : Hid (Fr No w (wk1.drew) []) := HF.out.drew
        generalize wk1.drew = wk2 at HF HO hH ⊢
        refine aT (i := 0) (oi := oqZc12) (v := .slice (some ⟨xb, xo, none⟩) m c) (fun _ _ => by kernel_rfl) hH ?_
        refine aT (i := 1) (oi := oqZc13) (v := .int .i64 ((i : Nat) : Int)) (fun _ _ => by kernel_rfl) hH ?_
        refine aT (i := 2) (oi := oqZc14) (v := .pointer (some ⟨xb, xo + i * 7, none⟩)) (fun w' hw => exec_ixA 23 7 Try.und23e Try.size23e _ _ rfl xb xo m c i (by kernel_rfl) (by kernel_rfl) hlt) hH ?_
        refine aT (i := 3) (oi := oqZc15) (v := .pointer (some ⟨xb, xo + i * 7, none⟩)) (fun _ _ => by kernel_rfl) hH ?_
        refine aT (i := 4) (oi := oqZc16) (v := .int .i64 y.cl) (fun w' hw => exec_load 3 _ rfl ⟨xb, xo + i * 7, none⟩ (by kernel_rfl) (.int .i64 y.cl) (ld3 (hw.kept.cell (HCX.out 0 _ rfl) (fun e => e)))) hH ?_
        refine aT (i := 5) (oi := oqZc17) (v := .pointer (some ⟨g, 0, none⟩)) (fun _ _ => by kernel_rfl) hH ?_
        refine aT (i := 6) (oi := oqZc18) (v := .int .i64 x.cl) (fun w' hw => exec_load 3 _ rfl ⟨g, 0, none⟩ (by kernel_rfl) (.int .i64 x.cl) (ld3 ((HB.out.kept hw.kept (fun e => e)).cell 0))) hH ?_
        try simp only [pA, pB, p1, p2, p3]
        cases q2 : (y.cl == x.cl)
        ·skip
         refine aT (i := 7) (oi := oqZc19) (v := .bool true) (fun w' hw => exec_bin .neq 3 _ _ _ rfl (.int .i64 y.cl) (.int .i64 x.cl) (.bool true) (by kernel_rfl) (by kernel_rfl) (by kernel_rfl) (by rw [b_neq, q2]; try rfl)) hH ?_
         try simp only [pA, pB, p1, p2, p3]
         refine wpAnyH_done (by kernel_rfl) ?_ _
         try simp only [pA, pB, p1, p2, p3]
         clear hH
         go_upto_region 10 with fail
         refine WL.start ?_
         refine tK (.slice sa n sc) ?_
         refine tK (.slice (some ⟨xb, xo, none⟩) m c) ?_
         refine tK (.int .i64 ((i : Nat) : Int)) ?_
         refine tW (.pointer (some ⟨xb, xo + i * 7, none⟩)) (exec_ixA 23 7 Try.und23e Try.size23e _ _ rfl xb xo m c i (by kernel_rfl) (by kernel_rfl) hlt) ?_
         refine tW (.agg (La.cells y)) (exec_load 64 _ rfl ⟨xb, xo + i * 7, none⟩ (by kernel_rfl) (.agg (La.cells y)) (load_L (fun j v h => HF.out.kept.cell (HCX.out j v h) (fun e => e)))) ?_
         try simp only [pA, pB, p1, p2, p3]
         obtain ⟨o1a, o1c, wk3, hrun, hO, hk⟩ := app1L (n := n) HF.out.kept HO.out y (mul56 (by omega))
         refine wp_runW (.slice (some ⟨wk2.heap.size, 0, none⟩) 1 1) (wk2.alloc (.cells (La.cells y) 64)) (exec_slice2 23 64 _ rfl (La.cells y) (.agg (La.cells y)) (by kernel_rfl) (slice1_la y _)) (by kernel_rfl) ?_
         try simp only [pA, pB, p1, p2, p3]
         refine wp_runW (.slice o1a (n + 1) o1c) wk3 (exec_appN _ _ 23 23 rfl _ _ (by kernel_rfl) (by kernel_rfl) hrun) (by kernel_rfl) ?_
         try simp only [pA, pB, p1, p2, p3]
         have HO : Hid (OwL wk3 w.heap.size ⟨o1a, (n + 1), o1c⟩ (O ++ [y])) := hO
         have HF : Hid (Fr No w wk3 []) := ⟨hk, by simp, by simp, by simp⟩
         clear hrun hO hk
         refine tK (.slice o1a (n + 1) o1c) ?_
         try simp only [pA, pB, p1, p2, p3]
         refine WL.nil ?_
         try simp only [pA, pB, p1, p2, p3]
         have HV : Hid ((O ++ [y]) ++ noteS (ls.drop (i + 1)) x false = noteS ls x false) := by
           have := HV.out
           rw [q1, q2] at this
           (try simp only [List.append_assoc])
           exact this
         go_wp2
         go_roundw
         case rel => exact ⟨i + 1, false, o1a, (n + 1), o1c, O ++ [y], rfl, rfl, by go_num, by omega, ⟨by omega, fun e => by first | omega | (cases e; done)⟩, HO, HV, HF⟩
         case measure => simp [intOf]; omega
        ·skip
         refine aT (i := 7) (oi := oqZc19) (v := .bool false) (fun w' hw => exec_bin .neq 3 _ _ _ rfl (.int .i64 y.cl) (.int .i64 x.cl) (.bool false) (by kernel_rfl) (by kernel_rfl) (by kernel_rfl) (by rw [b_neq, q2]; try rfl)) hH ?_
         try simp only [pA, pB, p1, p2, p3]
         refine wpAnyH_done (by kernel_rfl) ?_ _
         try simp only [pA, pB, p1, p2, p3]
         clear hH
         have HV : Hid (O ++ noteS (ls.drop (i + 1)) x false = noteS ls x false) := by
           have := HV.out
           rw [q1, q2] at this
           (try simp only [List.append_assoc])
           exact this
         go_wp2
         go_roundw
         case rel => exact ⟨i + 1, false, sa, n, sc, O, rfl, rfl, by go_num, by omega, ⟨by omega, fun e => by first | omega | (cases e; done)⟩, HO, HV, HF⟩
         case measure => simp [intOf]; omega
       ·skip
        refine aT (i := 10) (oi := oqZc10) (v := .bool true) (fun w' hw => exec_bin .geq 3 _ _ _ rfl (.int .i64 y.cl) (.int .i64 x.cl) (.bool true) (by kernel_rfl) (by kernel_rfl) (by kernel_rfl) (by rw [b_geq, q1]; try rfl)) hH ?_
        refine aT (i := 11) (oi := oqZc11) (v := .bool true) (fun _ _ => by kernel_rfl) hH ?_
        try simp only [pA, pB, p1, p2, p3]
        refine wpAnyH_done (by kernel_rfl) ?_ _
        try simp only [pA, pB, p1, p2, p3]
        clear hH
        go_upto_region 7 with fail
        refine WL.start ?_
        refine tK (.slice sa n sc) ?_
        refine tW (.agg (La.cells x)) (exec_load 64 _ rfl ⟨g, 0, none⟩ (by kernel_rfl) (.agg (La.cells x)) (ld64 (HB.out.kept HF.out.kept (fun e => e)))) ?_
        try simp only [pA, pB, p1, p2, p3]
        obtain ⟨o1a, o1c, wk4, hrun, hO, hk⟩ := app1L (n := n) HF.out.kept HO.out x (mul56 (by omega))
        refine wp_runW (.slice (some ⟨wk1.heap.size, 0, none⟩) 1 1) (wk1.alloc (.cells (La.cells x) 64)) (exec_slice2 23 64 _ rfl (La.cells x) (.agg (La.cells x)) (by kernel_rfl) (slice1_la x _)) (by kernel_rfl) ?_
        try simp only [pA, pB, p1, p2, p3]
        refine wp_runW (.slice o1a (n + 1) o1c) wk4 (exec_appN _ _ 23 23 rfl _ _ (by kernel_rfl) (by kernel_rfl) hrun) (by kernel_rfl) ?_
        try simp only [pA, pB, p1, p2, p3]
        have HO : Hid (OwL wk4 w.heap.size ⟨o1a, (n + 1), o1c⟩ (O ++ [x])) := hO
        have HF : Hid (Fr No w wk4 []) := ⟨hk, by simp, by simp, by simp⟩
        clear hrun hO hk
        refine tK (.slice o1a (n + 1) o1c) ?_
        try simp only [pA, pB, p1, p2, p3]
        refine WL.nil ?_
        try simp only [pA, pB, p1, p2, p3]
        go_upto_region 8 with fail
        refine WL.start ?_
        refine tK (.bool true) ?_
        try simp only [pA, pB, p1, p2, p3]
        refine WL.nil ?_
        try simp only [pA, pB, p1, p2, p3]
        go_upto_region 9 with fail
        refine wp_region_held_drew (S := fun w' => Fr No w w' []) rfl HF.out.drew (fun hH => ?_)
        have HO : Hid (OwL (wk4.drew) w.heap.size ⟨o1a, (n + 1), o1c⟩ (O ++ [x])) := HO.out.no (Kept.refl No _).drew
        have HF : Hid (Fr No w (wk4.drew) []) := HF.out.drew
        generalize wk4.drew = wk5 at HF HO hH ⊢
        refine aT (i := 0) (oi := oqZc12) (v := .slice (some ⟨xb, xo, none⟩) m c) (fun _ _ => by kernel_rfl) hH ?_
        refine aT (i := 1) (oi := oqZc13) (v := .int .i64 ((i : Nat) : Int)) (fun _ _ => by kernel_rfl) hH ?_
        refine aT (i := 2) (oi := oqZc14) (v := .pointer (some ⟨xb, xo + i * 7, none⟩)) (fun w' hw => exec_ixA 23 7 Try.und23e Try.size23e _ _ rfl xb xo m c i (by kernel_rfl) (by kernel_rfl) hlt) hH ?_
        refine aT (i := 3) (oi := oqZc15) (v := .pointer (some ⟨xb, xo + i * 7, none⟩)) (fun _ _ => by kernel_rfl) hH ?_
        refine aT (i := 4) (oi := oqZc16) (v := .int .i64 y.cl) (fun w' hw => exec_load 3 _ rfl ⟨xb, xo + i * 7, none⟩ (by kernel_rfl) (.int .i64 y.cl) (ld3 (hw.kept.cell (HCX.out 0 _ rfl) (fun e => e)))) hH ?_
        refine aT (i := 5) (oi := oqZc17) (v := .pointer (some ⟨g, 0, none⟩)) (fun _ _ => by kernel_rfl) hH ?_
        refine aT (i := 6) (oi := oqZc18) (v := .int .i64 x.cl) (fun w' hw => exec_load 3 _ rfl ⟨g, 0, none⟩ (by kernel_rfl) (.int .i64 x.cl) (ld3 ((HB.out.kept hw.kept (fun e => e)).cell 0))) hH ?_
        try simp only [pA, pB, p1, p2, p3]
        cases q3 : (y.cl == x.cl)
        ·skip
         refine aT (i := 7) (oi := oqZc19) (v := .bool true) (fun w' hw => exec_bin .neq 3 _ _ _ rfl (.int .i64 y.cl) (.int .i64 x.cl) (.bool true) (by kernel_rfl) (by kernel_rfl) (by kernel_rfl) (by rw [b_neq, q3]; try rfl)) hH ?_
         try simp only [pA, pB, p1, p2, p3]
         refine wpAnyH_done (by kernel_rfl) ?_ _
         try simp only [pA, pB, p1, p2, p3]
         clear hH
         go_upto_region 10 with fail
         refine WL.start ?_
         refine tK (.slice o1a (n + 1) o1c) ?_
         refine tK (.slice (some ⟨xb, xo, none⟩) m c) ?_
         refine tK (.int .i64 ((i : Nat) : Int)) ?_
         refine tW (.pointer (some ⟨xb, xo + i * 7, none⟩)) (exec_ixA 23 7 Try.und23e Try.size23e _ _ rfl xb xo m c i (by kernel_rfl) (by kernel_rfl) hlt) ?_
         refine tW (.agg (La.cells y)) (exec_load 64 _ rfl ⟨xb, xo + i * 7, none⟩ (by kernel_rfl) (.agg (La.cells y)) (load_L (fun j v h => HF.out.kept.cell (HCX.out j v h) (fun e => e)))) ?_
         try simp only [pA, pB, p1, p2, p3]
         obtain ⟨o2a, o2c, wk6, hrun, hO, hk⟩ := app1L (n := (n + 1)) HF.out.kept HO.out y (mul56 (by omega))
         refine wp_runW (.slice (some ⟨wk5.heap.size, 0, none⟩) 1 1) (wk5.alloc (.cells (La.cells y) 64)) (exec_slice2 23 64 _ rfl (La.cells y) (.agg (La.cells y)) (by kernel_rfl) (slice1_la y _)) (by kernel_rfl) ?_
         try simp only [pA, pB, p1, p2, p3]
         refine wp_runW (.slice o2a ((n + 1) + 1) o2c) wk6 (exec_appN _ _ 23 23 rfl _ _ (by kernel_rfl) (by kernel_rfl) hrun) (by kernel_rfl) ?_
         try simp only [pA, pB, p1, p2, p3]
         have HO : Hid (OwL wk6 w.heap.size ⟨o2a, ((n + 1) + 1), o2c⟩ (O ++ [x] ++ [y])) := hO
         have HF : Hid (Fr No w wk6 []) := ⟨hk, by simp, by simp, by simp⟩
         clear hrun hO hk
         refine tK (.slice o2a ((n + 1) + 1) o2c) ?_
         try simp only [pA, pB, p1, p2, p3]
         refine WL.nil ?_
         try simp only [pA, pB, p1, p2, p3]
         have HV : Hid ((O ++ [x] ++ [y]) ++ noteS (ls.drop (i + 1)) x true = noteS ls x false) := by
           have := HV.out
           rw [q1, q3] at this
           (try simp only [List.append_assoc])
           exact this
         go_wp2
         go_roundw
         case rel => exact ⟨i + 1, true, o2a, ((n + 1) + 1), o2c, O ++ [x] ++ [y], rfl, rfl, by go_num, by omega, ⟨by omega, fun e => by first | omega | (cases e; done)⟩, HO, HV, HF⟩
         case measure => simp [intOf]; omega
        ·skip
         refine aT (i := 7) (oi := oqZc19) (v := .bool false) (fun w' hw => exec_bin .neq 3 _ _ _ rfl (.int .i64 y.cl) (.int .i64 x.cl) (.bool false) (by kernel_rfl) (by kernel_rfl) (by kernel_rfl) (by rw [b_neq, q3]; try rfl)) hH ?_
         try simp only [pA, pB, p1, p2, p3]
         refine wpAnyH_done (by kernel_rfl) ?_ _
         try simp only [pA, pB, p1, p2, p3]
         clear hH
         have HV : Hid ((O ++ [x]) ++ noteS (ls.drop (i + 1)) x true = noteS ls x false) := by
           have := HV.out
           rw [q1, q3] at this
           (try simp only [List.append_assoc])
           exact this
         go_wp2
         go_roundw
         case rel => exact ⟨i + 1, true, o1a, (n + 1), o1c, O ++ [x], rfl, rfl, by go_num, by omega, ⟨by omega, fun e => by first | omega | (cases e; done)⟩, HO, HV, HF⟩
         case measure => simp [intOf]; omega
      ·skip
       have hn0 : n ≤ i + 1 := hn.1
       clear hn
       go_upto_region 4 with fail
       refine WL.start ?_
       refine tK (.int .i64 ((i : Nat) : Int)) ?_
       refine tK (.slice (some ⟨xb, xo, none⟩) m c) ?_
       refine tK (.int .i64 ((m : Nat) : Int)) ?_
       refine tW (.bool true) (exec_bin .lss 3 _ _ _ rfl (.int .i64 ((i : Nat) : Int)) (.int .i64 ((m : Nat) : Int)) (.bool true) (by kernel_rfl) (by kernel_rfl) (by kernel_rfl) (by rw [b_lss, decide_eq_true (by omega)])) ?_
       try simp only [pA, pB, p1, p2, p3]
       refine WL.nil ?_
       try simp only [pA, pB, p1, p2, p3]
       go_upto_region 6 with fail
       refine wp_region_held_drew (S := fun w' => Fr No w w' []) rfl HF.out.drew (fun hH => ?_)
       have HO : Hid (OwL (wr.drew) w.heap.size ⟨sa, n, sc⟩ O) := HO.out.no (Kept.refl No _).drew
       have HF : Hid (Fr No w (wr.drew) []) := HF.out.drew
       generalize wr.drew = wk7 at HF HO hH ⊢
       refine aT (i := 0) (oi := oqZc0) (v := .bool true) (fun _ _ => by kernel_rfl) hH ?_
       refine aT (i := 1) (oi := oqZc1) (v := .bool false) (fun _ _ => by kernel_rfl) hH ?_
       refine aT (i := 2) (oi := oqZc2) (v := .bool false) (fun _ _ => by kernel_rfl) hH ?_
       refine aS (i := 3) (oi := oqZc3) hH ?_
       refine aS (i := 4) (oi := oqZc4) hH ?_
       refine aS (i := 5) (oi := oqZc5) hH ?_
       refine aS (i := 6) (oi := oqZc6) hH ?_
       refine aS (i := 7) (oi := oqZc7) hH ?_
       refine aS (i := 8) (oi := oqZc8) hH ?_
       refine aS (i := 9) (oi := oqZc9) hH ?_
       refine aS (i := 10) (oi := oqZc10) hH ?_
       refine aT (i := 11) (oi := oqZc11) (v := .bool false) (fun _ _ => by kernel_rfl) hH ?_
       try simp only [pA, pB, p1, p2, p3]
       refine wpAnyH_done (by kernel_rfl) ?_ _
       try simp only [pA, pB, p1, p2, p3]
       clear hH
       go_upto_region 9 with fail
       refine wp_region_held_drew (S := fun w' => Fr No w w' []) rfl HF.out.drew (fun hH => ?_)
       have HO : Hid (OwL (wk7.drew) w.heap.size ⟨sa, n, sc⟩ O) := HO.out.no (Kept.refl No _).drew
       have HF : Hid (Fr No w (wk7.drew) []) := HF.out.drew
       generalize wk7.drew = wk8 at HF HO hH ⊢
       refine aT (i := 0) (oi := oqZc12) (v := .slice (some ⟨xb, xo, none⟩) m c) (fun _ _ => by kernel_rfl) hH ?_
       refine aT (i := 1) (oi := oqZc13) (v := .int .i64 ((i : Nat) : Int)) (fun _ _ => by kernel_rfl) hH ?_
       refine aT (i := 2) (oi := oqZc14) (v := .pointer (some ⟨xb, xo + i * 7, none⟩)) (fun w' hw => exec_ixA 23 7 Try.und23e Try.size23e _ _ rfl xb xo m c i (by kernel_rfl) (by kernel_rfl) hlt) hH ?_
       refine aT (i := 3) (oi := oqZc15) (v := .pointer (some ⟨xb, xo + i * 7, none⟩)) (fun _ _ => by kernel_rfl) hH ?_
       refine aT (i := 4) (oi := oqZc16) (v := .int .i64 y.cl) (fun w' hw => exec_load 3 _ rfl ⟨xb, xo + i * 7, none⟩ (by kernel_rfl) (.int .i64 y.cl) (ld3 (hw.kept.cell (HCX.out 0 _ rfl) (fun e => e)))) hH ?_
       refine aT (i := 5) (oi := oqZc17) (v := .pointer (some ⟨g, 0, none⟩)) (fun _ _ => by kernel_rfl) hH ?_
       refine aT (i := 6) (oi := oqZc18) (v := .int .i64 x.cl) (fun w' hw => exec_load 3 _ rfl ⟨g, 0, none⟩ (by kernel_rfl) (.int .i64 x.cl) (ld3 ((HB.out.kept hw.kept (fun e => e)).cell 0))) hH ?_
       try simp only [pA, pB, p1, p2, p3]
       cases q4 : (y.cl == x.cl)
       ·skip
        refine aT (i := 7) (oi := oqZc19) (v := .bool true) (fun w' hw => exec_bin .neq 3 _ _ _ rfl (.int .i64 y.cl) (.int .i64 x.cl) (.bool true) (by kernel_rfl) (by kernel_rfl) (by kernel_rfl) (by rw [b_neq, q4]; try rfl)) hH ?_
        try simp only [pA, pB, p1, p2, p3]
        refine wpAnyH_done (by kernel_rfl) ?_ _
        try simp only [pA, pB, p1, p2, p3]
        clear hH
        go_upto_region 10 with fail
        refine WL.start ?_
        refine tK (.slice sa n sc) ?_
        refine tK (.slice (some ⟨xb, xo, none⟩) m c) ?_
        refine tK (.int .i64 ((i : Nat) : Int)) ?_
        refine tW (.pointer (some ⟨xb, xo + i * 7, none⟩)) (exec_ixA 23 7 Try.und23e Try.size23e _ _ rfl xb xo m c i (by kernel_rfl) (by kernel_rfl) hlt) ?_
        refine tW (.agg (La.cells y)) (exec_load 64 _ rfl ⟨xb, xo + i * 7, none⟩ (by kernel_rfl) (.agg (La.cells y)) (load_L (fun j v h => HF.out.kept.cell (HCX.out j v h) (fun e => e)))) ?_
        try simp only [pA, pB, p1, p2, p3]
        obtain ⟨o1a, o1c, wk9, hrun, hO, hk⟩ := app1L (n := n) HF.out.kept HO.out y (mul56 (by omega))
        refine wp_runW (.slice (some ⟨wk8.heap.size, 0, none⟩) 1 1) (wk8.alloc (.cells (La.cells y) 64)) (exec_slice2 23 64 _ rfl (La.cells y) (.agg (La.cells y)) (by kernel_rfl) (slice1_la y _)) (by kernel_rfl) ?_
        try simp only [pA, pB, p1, p2, p3]
        refine wp_runW (.slice o1a (n + 1) o1c) wk9 (exec_appN _ _ 23 23 rfl _ _ (by kernel_rfl) (by kernel_rfl) hrun) (by kernel_rfl) ?_
        try simp only [pA, pB, p1, p2, p3]
        have HO : Hid (OwL wk9 w.heap.size ⟨o1a, (n + 1), o1c⟩ (O ++ [y])) := hO
        have HF : Hid (Fr No w wk9 []) := ⟨hk, by simp, by simp, by simp⟩
        clear hrun hO hk
        refine tK (.slice o1a (n + 1) o1c) ?_
        try simp only [pA, pB, p1, p2, p3]
        refine WL.nil ?_
        try simp only [pA, pB, p1, p2, p3]
        have HV : Hid ((O ++ [y]) ++ noteS (ls.drop (i + 1)) x true = noteS ls x false) := by
          have := HV.out
          rw [q4] at this
          (try simp only [List.append_assoc])
          exact this
        go_wp2
        go_roundw
        case rel => exact ⟨i + 1, true, o1a, (n + 1), o1c, O ++ [y], rfl, rfl, by go_num, by omega, ⟨by omega, fun e => by first | omega | (cases e; done)⟩, HO, HV, HF⟩
        case measure => simp [intOf]; omega
       ·skip
        refine aT (i := 7) (oi := oqZc19) (v := .bool false) (fun w' hw => exec_bin .neq 3 _ _ _ rfl (.int .i64 y.cl) (.int .i64 x.cl) (.bool false) (by kernel_rfl) (by kernel_rfl) (by kernel_rfl) (by rw [b_neq, q4]; try rfl)) hH ?_
        try simp only [pA, pB, p1, p2, p3]
        refine wpAnyH_done (by kernel_rfl) ?_ _
        try simp only [pA, pB, p1, p2, p3]
        clear hH
        have HV : Hid (O ++ noteS (ls.drop (i + 1)) x true = noteS ls x false) := by
          have := HV.out
          rw [q4] at this
          (try simp only [List.append_assoc])
          exact this
        go_wp2
        go_roundw
        case rel => exact ⟨i + 1, true, sa, n, sc, O, rfl, rfl, by go_num, by omega, ⟨by omega, fun e => by first | omega | (cases e; done)⟩, HO, HV, HF⟩
        case measure => simp [intOf]; omega
    · skip
      have HV : Hid (O ++ (if dn then [] else [x]) = noteS ls x false) := by
        have := HV.out
        rw [List.drop_of_length_le (by rw [HLN.out]; omega)] at this
        exact this
      rcases dn with _ | _
      · skip
        have hn0 : n ≤ i := hn.2 rfl
        clear hn
        go_upto_region 4 with fail
        refine WL.start ?_
        refine tK (.int .i64 ((i : Nat) : Int)) ?_
        refine tK (.slice a m c) ?_
        refine tK (.int .i64 ((m : Nat) : Int)) ?_
        refine tW (.bool false) (exec_bin .lss 3 _ _ _ rfl (.int .i64 ((i : Nat) : Int)) (.int .i64 ((m : Nat) : Int)) (.bool false) (by kernel_rfl) (by kernel_rfl) (by kernel_rfl) (by rw [b_lss, decide_eq_false (by omega)])) ?_
        try simp only [pA, pB, p1, p2, p3]
        refine WL.nil ?_
        try simp only [pA, pB, p1, p2, p3]
        go_upto_region 11 with fail
        refine WL.start ?_
        refine tK (.bool false) ?_
        refine tK (.bool true) ?_
        try simp only [pA, pB, p1, p2, p3]
        refine WL.nil ?_
        try simp only [pA, pB, p1, p2, p3]
        go_upto_region 12 with fail
        refine WL.start ?_
        refine tK (.slice sa n sc) ?_
        refine tW (.agg (La.cells x)) (exec_load 64 _ rfl ⟨g, 0, none⟩ (by kernel_rfl) (.agg (La.cells x)) (ld64 (HB.out.kept HF.out.kept (fun e => e)))) ?_
        try simp only [pA, pB, p1, p2, p3]
        obtain ⟨o1a, o1c, wk10, hrun, hO, hk⟩ := app1L (n := n) HF.out.kept HO.out x (mul56 (by omega))
        refine wp_runW (.slice (some ⟨wr.heap.size, 0, none⟩) 1 1) (wr.alloc (.cells (La.cells x) 64)) (exec_slice2 23 64 _ rfl (La.cells x) (.agg (La.cells x)) (by kernel_rfl) (slice1_la x _)) (by kernel_rfl) ?_
        try simp only [pA, pB, p1, p2, p3]
        refine wp_runW (.slice o1a (n + 1) o1c) wk10 (exec_appN _ _ 23 23 rfl _ _ (by kernel_rfl) (by kernel_rfl) hrun) (by kernel_rfl) ?_
        try simp only [pA, pB, p1, p2, p3]
        have HO : Hid (OwL wk10 w.heap.size ⟨o1a, (n + 1), o1c⟩ (O ++ [x])) := hO
        have HF : Hid (Fr No w wk10 []) := ⟨hk, by simp, by simp, by simp⟩
        clear hrun hO hk
        refine tK (.slice o1a (n + 1) o1c) ?_
        try simp only [pA, pB, p1, p2, p3]
        refine WL.nil ?_
        try simp only [pA, pB, p1, p2, p3]
        go_upto_region 13 with fail
        refine WL.start ?_
        refine tK (.slice o1a (n + 1) o1c) ?_
        refine tK (.slice o1a (n + 1) o1c) ?_
        try simp only [pA, pB, p1, p2, p3]
        refine WL.nil ?_
        try simp only [pA, pB, p1, p2, p3]
        go_wp2
        rw [HC.out]
        exact ⟨⟨_, _, _⟩, rfl, by have := HV.out; rw [← this]; exact HO.out.lower HK0.out.size, HK0.out.no HF.out.kept⟩
      · skip
        go_upto_region 4 with fail
        refine WL.start ?_
        refine tK (.int .i64 ((i : Nat) : Int)) ?_
        refine tK (.slice a m c) ?_
        refine tK (.int .i64 ((m : Nat) : Int)) ?_
        refine tW (.bool false) (exec_bin .lss 3 _ _ _ rfl (.int .i64 ((i : Nat) : Int)) (.int .i64 ((m : Nat) : Int)) (.bool false) (by kernel_rfl) (by kernel_rfl) (by kernel_rfl) (by rw [b_lss, decide_eq_false (by omega)])) ?_
        try simp only [pA, pB, p1, p2, p3]
        refine WL.nil ?_
        try simp only [pA, pB, p1, p2, p3]
        go_upto_region 11 with fail
        refine WL.start ?_
        refine tK (.bool true) ?_
        refine tK (.bool false) ?_
        try simp only [pA, pB, p1, p2, p3]
        refine WL.nil ?_
        try simp only [pA, pB, p1, p2, p3]
        go_upto_region 13 with fail
        refine WL.start ?_
        refine tK (.slice sa n sc) ?_
        refine tK (.slice sa n sc) ?_
        try simp only [pA, pB, p1, p2, p3]
        refine WL.nil ?_
        try simp only [pA, pB, p1, p2, p3]
        go_wp2
        rw [HC.out]
        exact ⟨⟨_, _, _⟩, rfl, by have := HV.out; rw [← this]; exact (show OwL _ _ _ (O ++ []) from by rw [List.append_nil]; exact HO.out.lower HK0.out.size), HK0.out.no HF.out.kept⟩

end Go.Proofs.Ytfemlnfknebalaa
