import Derived.Test.YtapjnanenfcdjaaH
namespace Go.Proofs.Ytapjnanenfcdjaa
open Go.RowKit
set_option linter.unusedVariables false
set_option linter.unusedSimpArgs false

def badAt (nm : ByteArray) (i : Nat) : Bool := ((nm[i]?.getD 1).toNat == 0) || ((nm[i]?.getD 1).toNat == 47)
def nameB (nm : ByteArray) : Bool := decide (1 ≤ nm.size) && (decide (nm.size ≤ 255) && (List.range nm.size).all (fun i => !badAt nm i))
theorem nameB_true {nm : ByteArray} (h1 : 1 ≤ nm.size) (h2 : nm.size ≤ 255) (h : ∀ j, j < nm.size → badAt nm j = false) : nameB nm = true := by
  simp only [nameB, Bool.and_eq_true, decide_eq_true_eq, List.all_eq_true, List.mem_range]
  exact ⟨h1, h2, fun j hj => by rw [h j hj]; rfl⟩
theorem nameB_false {nm : ByteArray} {j : Nat} (hj : j < nm.size) (h : badAt nm j = true) : nameB nm = false := by
  cases hn : nameB nm
  · rfl
  · simp only [nameB, Bool.and_eq_true, decide_eq_true_eq, List.all_eq_true, List.mem_range] at hn
    have := hn.2.2 j hj
    rw [h] at this
    cases this
theorem eqlU (a b : Int) (w : World) : (binOp .eql 5 (.int .u8 a) (.int .u8 b)).run Try.prog w = .ok (.bool (a == b)) w := by kernel_rfl
theorem run_ix (nm : ByteArray) (i : Nat) (hi : i < nm.size) (w : World) : (Instr.index 9 (.string nm) (.int .i64 i)).run Try.prog w = .ok (.int .u8 ((nm[i]?.getD 1).toNat : Nat)) w := by
  rw [run_index_string w 9 nm .i64 i Try.und9, dif_pos ⟨by omega, by omega⟩]
  simp [hi]
theorem exec_ix {o : Oper} {a : Act} {w : World} (x y : Operand) (ho : o.op = .index 9 x y) (nm : ByteArray) (i : Nat) (hx : a.eval x = .string nm) (hy : a.eval y = .int .i64 i) (hi : i < nm.size) : (execOp a.eval o).run Try.prog w = .ok (.value (.int .u8 ((nm[i]?.getD 1).toNat : Nat))) w := by
  simp only [execOp, ho, hx, hy, Sem.run_bind, run_ix nm i hi, Result.andThen_ok, Sem.run_pure]

set_option maxRecDepth 100000 in
set_option maxHeartbeats 1000000 in
theorem name_any (nm : ByteArray) (w : World) : Calls Try.prog 28 #[.string nm] w (fun e w' => e = .returned (.bool (nameB nm)) ∧ w' = w) := by
  by_cases hs : (nm.size : Int) < 1
  · have HN : Hid (nameB nm = false) := by
      have : ¬ 1 ≤ nm.size := by omega
      simp [Hid, nameB, this]
    go_enter Try.func28, Try.ntmps28
    go_wp2
    go_ret
    exact ⟨by rw [HN.out]; rfl, rfl⟩
  by_cases hs2 : 255 < (nm.size : Int)
  · have HN : Hid (nameB nm = false) := by
      have : ¬ nm.size ≤ 255 := by omega
      simp [Hid, nameB, this]
    go_enter Try.func28, Try.ntmps28
    go_wp2
    go_ret
    exact ⟨by rw [HN.out]; rfl, rfl⟩
  have HS : Hid (1 ≤ nm.size ∧ nm.size ≤ 255) := ⟨by omega, by omega⟩
  go_enter Try.func28, Try.ntmps28
  go_wp2
  go_loopw [3] (fun vi wr => ∃ (i : Nat), vi = .int .i64 i ∧ i ≤ nm.size ∧ Hid (∀ j, j < i → badAt nm j = false) ∧ wr = w) (fun i _ => nm.size - (intOf i).toNat)
  case atStart => exact ⟨0, by go_num, by omega, fun j hj => absurd hj (Nat.not_lt_zero _), rfl⟩
  case round =>
    obtain ⟨i, rfl, hi, HB, rfl⟩ := hrel
    by_cases hlt : i < nm.size
    · have hlt' : (i : Int) < (nm.size : Int) := by omega
      go_upto_region 6 with fail
      obtain ⟨y, hy⟩ : ∃ y, y = ((nm[i]?.getD 1).toNat : Int) := ⟨_, rfl⟩
      cases h0 : (y == 0)
      · cases h47 : (y == 47)
        · have HG : Hid (badAt nm i = false) := by
            show badAt nm i = false
            have e0 : ((nm[i]?.getD 1).toNat == 0) = false := by rw [hy] at h0; simp at h0 ⊢; omega
            have e1 : ((nm[i]?.getD 1).toNat == 47) = false := by rw [hy] at h47; simp at h47 ⊢; omega
            simp only [badAt, e0, e1]; rfl
          refine WL.start ?_
          refine wp_takeW (o := { dst := some 18, op := Op.move (Operand.tmp 0), type := 9, pos := "ref.go:50", after := #[], guard := none }) (.string nm) (by kernel_rfl) (by kernel_rfl) ?_
          try simp only [Act.put, List.setIfInBounds_toArray, List.set_cons_zero, List.set_cons_succ]
          refine wp_takeW (o := { dst := some 19, op := Op.move (Operand.tmp 3), type := 3, pos := "ref.go:50", after := #[], guard := none }) (.int .i64 i) (by kernel_rfl) (by kernel_rfl) ?_
          try simp only [Act.put, List.setIfInBounds_toArray, List.set_cons_zero, List.set_cons_succ]
          refine wp_takeW (o := { dst := some 20, op := Op.index 9 (Operand.tmp 18) (Operand.tmp 19), type := 5, pos := "ref.go:50", after := #[{ on := 0, ground := Ground.data }, { on := 1, ground := Ground.data }], guard := none }) (.int .u8 y) (by rw [hy]; exact exec_ix _ _ rfl nm i (by kernel_rfl) (by kernel_rfl) hlt) (by kernel_rfl) ?_
          try simp only [Act.put, List.setIfInBounds_toArray, List.set_cons_zero, List.set_cons_succ]
          refine wp_takeW (o := { dst := some 21, op := Op.binOp BinOp.eql 5 (Operand.tmp 20) (Operand.const (Value.int IntKind.u8 0)) 5, type := 4, pos := "ref.go:50", after := #[{ on := 2, ground := Ground.data }], guard := none }) (.bool false) (exec_bin .eql 5 _ _ _ rfl (.int .u8 y) (.int .u8 0) (.bool false) (by kernel_rfl) (by kernel_rfl) (by kernel_rfl) (by rw [eqlU, h0])) (by kernel_rfl) ?_
          try simp only [Act.put, List.setIfInBounds_toArray, List.set_cons_zero, List.set_cons_succ]
          refine wp_takeW (o := { dst := some 22, op := Op.move (Operand.tmp 21), type := 4, pos := "ref.go:50", after := #[{ on := 3, ground := Ground.data }], guard := none }) (.bool false) (by kernel_rfl) (by kernel_rfl) ?_
          try simp only [Act.put, List.setIfInBounds_toArray, List.set_cons_zero, List.set_cons_succ]
          refine wp_takeW (o := { dst := some 23, op := Op.move (Operand.tmp 0), type := 9, pos := "ref.go:50", after := #[{ on := 4, ground := Ground.guard }], guard := some (4, false) }) (.string nm) (by kernel_rfl) (by kernel_rfl) ?_
          try simp only [Act.put, List.setIfInBounds_toArray, List.set_cons_zero, List.set_cons_succ]
          refine wp_takeW (o := { dst := some 24, op := Op.move (Operand.tmp 3), type := 3, pos := "ref.go:50", after := #[{ on := 4, ground := Ground.guard }], guard := some (4, false) }) (.int .i64 i) (by kernel_rfl) (by kernel_rfl) ?_
          try simp only [Act.put, List.setIfInBounds_toArray, List.set_cons_zero, List.set_cons_succ]
          refine wp_takeW (o := { dst := some 25, op := Op.index 9 (Operand.tmp 23) (Operand.tmp 24), type := 5, pos := "ref.go:50", after := #[{ on := 5, ground := Ground.data }, { on := 6, ground := Ground.data }, { on := 4, ground := Ground.guard }], guard := some (4, false) }) (.int .u8 y) (by rw [hy]; exact exec_ix _ _ rfl nm i (by kernel_rfl) (by kernel_rfl) hlt) (by kernel_rfl) ?_
          try simp only [Act.put, List.setIfInBounds_toArray, List.set_cons_zero, List.set_cons_succ]
          refine wp_takeW (o := { dst := some 26, op := Op.binOp BinOp.eql 5 (Operand.tmp 25) (Operand.const (Value.int IntKind.u8 47)) 5, type := 4, pos := "ref.go:50", after := #[{ on := 7, ground := Ground.data }, { on := 4, ground := Ground.guard }], guard := some (4, false) }) (.bool false) (exec_bin .eql 5 _ _ _ rfl (.int .u8 y) (.int .u8 47) (.bool false) (by kernel_rfl) (by kernel_rfl) (by kernel_rfl) (by rw [eqlU, h47])) (by kernel_rfl) ?_
          try simp only [Act.put, List.setIfInBounds_toArray, List.set_cons_zero, List.set_cons_succ]
          refine wp_takeW (o := { dst := some 27, op := Op.pick (Operand.tmp 22) (Operand.const (Value.bool true)) (Operand.tmp 26), type := 4, pos := "ref.go:50", after := #[{ on := 4, ground := Ground.data }, { on := 8, ground := Ground.data }], guard := none }) (.bool false) (by kernel_rfl) (by kernel_rfl) ?_
          try simp only [Act.put, List.setIfInBounds_toArray, List.set_cons_zero, List.set_cons_succ]
          refine WL.nil ?_
          try simp only [Act.put, List.setIfInBounds_toArray, List.set_cons_zero, List.set_cons_succ]
          go_wp2
          go_roundw
          case measure => simp [intOf]; omega
          case rel => exact ⟨i + 1, by go_num, by omega, fun j hj => by rcases Nat.lt_succ_iff_lt_or_eq.1 hj with h | rfl; exact HB.out j h; exact HG.out, by first | trivial | rfl⟩
        · have HN : Hid (nameB nm = false) := nameB_false hlt (by
            have e1 : ((nm[i]?.getD 1).toNat == 47) = true := by rw [hy] at h47; simp at h47 ⊢; omega
            simp only [badAt, e1, Bool.or_true])
          refine WL.start ?_
          refine wp_takeW (o := { dst := some 18, op := Op.move (Operand.tmp 0), type := 9, pos := "ref.go:50", after := #[], guard := none }) (.string nm) (by kernel_rfl) (by kernel_rfl) ?_
          try simp only [Act.put, List.setIfInBounds_toArray, List.set_cons_zero, List.set_cons_succ]
          refine wp_takeW (o := { dst := some 19, op := Op.move (Operand.tmp 3), type := 3, pos := "ref.go:50", after := #[], guard := none }) (.int .i64 i) (by kernel_rfl) (by kernel_rfl) ?_
          try simp only [Act.put, List.setIfInBounds_toArray, List.set_cons_zero, List.set_cons_succ]
          refine wp_takeW (o := { dst := some 20, op := Op.index 9 (Operand.tmp 18) (Operand.tmp 19), type := 5, pos := "ref.go:50", after := #[{ on := 0, ground := Ground.data }, { on := 1, ground := Ground.data }], guard := none }) (.int .u8 y) (by rw [hy]; exact exec_ix _ _ rfl nm i (by kernel_rfl) (by kernel_rfl) hlt) (by kernel_rfl) ?_
          try simp only [Act.put, List.setIfInBounds_toArray, List.set_cons_zero, List.set_cons_succ]
          refine wp_takeW (o := { dst := some 21, op := Op.binOp BinOp.eql 5 (Operand.tmp 20) (Operand.const (Value.int IntKind.u8 0)) 5, type := 4, pos := "ref.go:50", after := #[{ on := 2, ground := Ground.data }], guard := none }) (.bool false) (exec_bin .eql 5 _ _ _ rfl (.int .u8 y) (.int .u8 0) (.bool false) (by kernel_rfl) (by kernel_rfl) (by kernel_rfl) (by rw [eqlU, h0])) (by kernel_rfl) ?_
          try simp only [Act.put, List.setIfInBounds_toArray, List.set_cons_zero, List.set_cons_succ]
          refine wp_takeW (o := { dst := some 22, op := Op.move (Operand.tmp 21), type := 4, pos := "ref.go:50", after := #[{ on := 3, ground := Ground.data }], guard := none }) (.bool false) (by kernel_rfl) (by kernel_rfl) ?_
          try simp only [Act.put, List.setIfInBounds_toArray, List.set_cons_zero, List.set_cons_succ]
          refine wp_takeW (o := { dst := some 23, op := Op.move (Operand.tmp 0), type := 9, pos := "ref.go:50", after := #[{ on := 4, ground := Ground.guard }], guard := some (4, false) }) (.string nm) (by kernel_rfl) (by kernel_rfl) ?_
          try simp only [Act.put, List.setIfInBounds_toArray, List.set_cons_zero, List.set_cons_succ]
          refine wp_takeW (o := { dst := some 24, op := Op.move (Operand.tmp 3), type := 3, pos := "ref.go:50", after := #[{ on := 4, ground := Ground.guard }], guard := some (4, false) }) (.int .i64 i) (by kernel_rfl) (by kernel_rfl) ?_
          try simp only [Act.put, List.setIfInBounds_toArray, List.set_cons_zero, List.set_cons_succ]
          refine wp_takeW (o := { dst := some 25, op := Op.index 9 (Operand.tmp 23) (Operand.tmp 24), type := 5, pos := "ref.go:50", after := #[{ on := 5, ground := Ground.data }, { on := 6, ground := Ground.data }, { on := 4, ground := Ground.guard }], guard := some (4, false) }) (.int .u8 y) (by rw [hy]; exact exec_ix _ _ rfl nm i (by kernel_rfl) (by kernel_rfl) hlt) (by kernel_rfl) ?_
          try simp only [Act.put, List.setIfInBounds_toArray, List.set_cons_zero, List.set_cons_succ]
          refine wp_takeW (o := { dst := some 26, op := Op.binOp BinOp.eql 5 (Operand.tmp 25) (Operand.const (Value.int IntKind.u8 47)) 5, type := 4, pos := "ref.go:50", after := #[{ on := 7, ground := Ground.data }, { on := 4, ground := Ground.guard }], guard := some (4, false) }) (.bool true) (exec_bin .eql 5 _ _ _ rfl (.int .u8 y) (.int .u8 47) (.bool true) (by kernel_rfl) (by kernel_rfl) (by kernel_rfl) (by rw [eqlU, h47])) (by kernel_rfl) ?_
          try simp only [Act.put, List.setIfInBounds_toArray, List.set_cons_zero, List.set_cons_succ]
          refine wp_takeW (o := { dst := some 27, op := Op.pick (Operand.tmp 22) (Operand.const (Value.bool true)) (Operand.tmp 26), type := 4, pos := "ref.go:50", after := #[{ on := 4, ground := Ground.data }, { on := 8, ground := Ground.data }], guard := none }) (.bool true) (by kernel_rfl) (by kernel_rfl) ?_
          try simp only [Act.put, List.setIfInBounds_toArray, List.set_cons_zero, List.set_cons_succ]
          refine WL.nil ?_
          try simp only [Act.put, List.setIfInBounds_toArray, List.set_cons_zero, List.set_cons_succ]
          go_wp2
          go_ret
          exact ⟨by rw [HN.out]; rfl, rfl⟩
      · have HN : Hid (nameB nm = false) := nameB_false hlt (by
          have e1 : ((nm[i]?.getD 1).toNat == 0) = true := by rw [hy] at h0; simp at h0 ⊢; omega
          simp only [badAt, e1, Bool.true_or])
        refine WL.start ?_
        refine wp_takeW (o := { dst := some 18, op := Op.move (Operand.tmp 0), type := 9, pos := "ref.go:50", after := #[], guard := none }) (.string nm) (by kernel_rfl) (by kernel_rfl) ?_
        try simp only [Act.put, List.setIfInBounds_toArray, List.set_cons_zero, List.set_cons_succ]
        refine wp_takeW (o := { dst := some 19, op := Op.move (Operand.tmp 3), type := 3, pos := "ref.go:50", after := #[], guard := none }) (.int .i64 i) (by kernel_rfl) (by kernel_rfl) ?_
        try simp only [Act.put, List.setIfInBounds_toArray, List.set_cons_zero, List.set_cons_succ]
        refine wp_takeW (o := { dst := some 20, op := Op.index 9 (Operand.tmp 18) (Operand.tmp 19), type := 5, pos := "ref.go:50", after := #[{ on := 0, ground := Ground.data }, { on := 1, ground := Ground.data }], guard := none }) (.int .u8 y) (by rw [hy]; exact exec_ix _ _ rfl nm i (by kernel_rfl) (by kernel_rfl) hlt) (by kernel_rfl) ?_
        try simp only [Act.put, List.setIfInBounds_toArray, List.set_cons_zero, List.set_cons_succ]
        refine wp_takeW (o := { dst := some 21, op := Op.binOp BinOp.eql 5 (Operand.tmp 20) (Operand.const (Value.int IntKind.u8 0)) 5, type := 4, pos := "ref.go:50", after := #[{ on := 2, ground := Ground.data }], guard := none }) (.bool true) (exec_bin .eql 5 _ _ _ rfl (.int .u8 y) (.int .u8 0) (.bool true) (by kernel_rfl) (by kernel_rfl) (by kernel_rfl) (by rw [eqlU, h0])) (by kernel_rfl) ?_
        try simp only [Act.put, List.setIfInBounds_toArray, List.set_cons_zero, List.set_cons_succ]
        refine wp_takeW (o := { dst := some 22, op := Op.move (Operand.tmp 21), type := 4, pos := "ref.go:50", after := #[{ on := 3, ground := Ground.data }], guard := none }) (.bool true) (by kernel_rfl) (by kernel_rfl) ?_
        try simp only [Act.put, List.setIfInBounds_toArray, List.set_cons_zero, List.set_cons_succ]
        refine wp_skip (o := { dst := some 23, op := Op.move (Operand.tmp 0), type := 9, pos := "ref.go:50", after := #[{ on := 4, ground := Ground.guard }], guard := some (4, false) }) (by kernel_rfl) ?_
        try simp only [Act.put, List.setIfInBounds_toArray, List.set_cons_zero, List.set_cons_succ]
        refine wp_skip (o := { dst := some 24, op := Op.move (Operand.tmp 3), type := 3, pos := "ref.go:50", after := #[{ on := 4, ground := Ground.guard }], guard := some (4, false) }) (by kernel_rfl) ?_
        try simp only [Act.put, List.setIfInBounds_toArray, List.set_cons_zero, List.set_cons_succ]
        refine wp_skip (o := { dst := some 25, op := Op.index 9 (Operand.tmp 23) (Operand.tmp 24), type := 5, pos := "ref.go:50", after := #[{ on := 5, ground := Ground.data }, { on := 6, ground := Ground.data }, { on := 4, ground := Ground.guard }], guard := some (4, false) }) (by kernel_rfl) ?_
        try simp only [Act.put, List.setIfInBounds_toArray, List.set_cons_zero, List.set_cons_succ]
        refine wp_skip (o := { dst := some 26, op := Op.binOp BinOp.eql 5 (Operand.tmp 25) (Operand.const (Value.int IntKind.u8 47)) 5, type := 4, pos := "ref.go:50", after := #[{ on := 7, ground := Ground.data }, { on := 4, ground := Ground.guard }], guard := some (4, false) }) (by kernel_rfl) ?_
        try simp only [Act.put, List.setIfInBounds_toArray, List.set_cons_zero, List.set_cons_succ]
        refine wp_takeW (o := { dst := some 27, op := Op.pick (Operand.tmp 22) (Operand.const (Value.bool true)) (Operand.tmp 26), type := 4, pos := "ref.go:50", after := #[{ on := 4, ground := Ground.data }, { on := 8, ground := Ground.data }], guard := none }) (.bool true) (by kernel_rfl) (by kernel_rfl) ?_
        try simp only [Act.put, List.setIfInBounds_toArray, List.set_cons_zero, List.set_cons_succ]
        refine WL.nil ?_
        try simp only [Act.put, List.setIfInBounds_toArray, List.set_cons_zero, List.set_cons_succ]
        go_wp2
        go_ret
        exact ⟨by rw [HN.out]; rfl, rfl⟩
    · have e : i = nm.size := by omega
      have HN : Hid (nameB nm = true) := nameB_true HS.out.1 HS.out.2 (fun j hj => HB.out j (by omega))
      have hlt' : ¬ (i : Int) < (nm.size : Int) := by omega
      go_wp2
      go_ret
      exact ⟨by rw [HN.out]; rfl, rfl⟩


/-- The configuration in which the most may be. -/
def wideC (a : Option Addr) : Array Value := #[.slice a 3 3, .int .i64 1, .int .i64 1, .int .i64 256, .int .i64 4096, .int .i64 256]
def cfZ : Array Value := #[.slice none 0 0, .int .i64 0, .int .i64 0, .int .i64 0, .int .i64 0, .int .i64 0]
theorem zero35 : (Try.prog.info? 35).bind (·.zero) = some (.agg cfZ) := by kernel_rfl
theorem Try.size35 : (Try.prog.info? 35).map (·.size) = some 6 := by kernel_rfl
theorem Try.und35 : Try.prog.underlying 35 = some (.struct (Try.prog.fieldsOf 35)) := by kernel_rfl
theorem load_W {w : World} {g : Nat} {a : Option Addr} (hb : Box w g 35 (wideC a)) : (loadVar 35 ⟨g, 0, none⟩).run Try.prog w = .ok (.agg (wideC a)) w := run_load_part (cs := [.slice a 3 3, .int .i64 1, .int .i64 1, .int .i64 256, .int .i64 4096, .int .i64 256]) hb (Part.all _) Try.und35 rfl Try.size35
set_option maxRecDepth 100000 in
set_option maxHeartbeats 1000000 in
theorem wide_any (w : World) : Calls Try.prog 8 #[] w (fun e w' => ∃ a, e = .returned (.agg (wideC a)) ∧ Kept No w w') := by
  have HX : Hid (Box ((w.alloc (.cells cfZ 35)).alloc (.cells #[.int .i64 1, .int .i64 2, .int .i64 3] 3)) w.heap.size 35 cfZ) := (Box.new _ _ _).alloc _
  go_enter Try.func8, Try.ntmps8
  go_wp2_with (first
    | (refine wp_allocT rfl 35 rfl cfZ zero35 w.heap.size rfl ?_)
    | (refine wp_buildT rfl 35 _ rfl (wideC (some ⟨w.heap.size + 1, 0, none⟩)) (by kernel_rfl) ?_)
    | (refine wp_storeV rfl 35 _ _ rfl ⟨w.heap.size, 0, none⟩ (.agg (wideC (some ⟨w.heap.size + 1, 0, none⟩))) rfl rfl _ (run_storeVar_row _ _ 35 35 cfZ _ HX.out Try.size35 rfl (by simp [wideC, Value.oneCell'])) ?_))
  refine bodyPost_ret (results_cell_row (by rfl) _ _ w.heap.size 35 (wideC (some ⟨w.heap.size + 1, 0, none⟩)) (0, 0) _ (by rfl) (Box.setRow HX.out _) Try.und35 rfl Try.size35) rfl ?_
  exact ⟨_, rfl, (((Kept.refl No w).alloc _).alloc _).newRow (Nat.le_refl _) _⟩

def szB (n : Int) : Bool := inB n 0 4294967296
set_option maxRecDepth 100000 in
set_option maxHeartbeats 1000000 in
theorem size_any (n : Int) (a : Option Addr) (w : World) : Calls Try.prog 30 #[.int .i64 n, .agg (wideC a)] w (fun e w' => e = .returned (.bool (szB n)) ∧ Kept No w w') := by
  unfold wideC
  go_enter Try.func30, Try.ntmps30
  go_wp2_with (go_at_call 27
               refine Calls.mono (within_any _ _ _ _) ?_
               rintro e w' ⟨rfl, rfl⟩)
  go_ret
  exact ⟨rfl, (Kept.refl No w).alloc _⟩

set_option maxRecDepth 100000 in
set_option maxHeartbeats 1000000 in
theorem nocmd_any (c : Cm) (w : World) : Calls Try.prog 26 #[.agg c.cells] w (fun e w' => e = .returned (.bool (eqC c cZ)) ∧ Kept No w w') := by
  have HX : Hid (Box (w.alloc (.cells c.cells 27)) w.heap.size 27 c.cells) := Box.new _ _ _
  go_enter Try.func26, Try.ntmps26
  go_upto_region 1 with (refine wp_boxV rfl 27 _ rfl c.cells rfl w.heap.size rfl ?_)
  refine WL.start ?_
  refine wp_takeW (o := { dst := some 3, op := Op.load 27 (Operand.tmp 1), type := 27, pos := "ref.go:75", after := #[], guard := none }) (.agg c.cells) (exec_load 27 _ rfl ⟨w.heap.size, 0, none⟩ (by kernel_rfl) (.agg c.cells) (load_C HX.out)) (by kernel_rfl) ?_
  try simp only [Act.put, List.setIfInBounds_toArray, List.set_cons_zero, List.set_cons_succ]
  refine wp_takeW (o := { dst := some 4, op := Op.build 27 #[], type := 27, pos := "ref.go:75", after := #[], guard := none }) (.agg (cZ.cells)) (exec_build 27 _ rfl (cZ.cells) (by kernel_rfl)) (by kernel_rfl) ?_
  try simp only [Act.put, List.setIfInBounds_toArray, List.set_cons_zero, List.set_cons_succ]
  refine wp_takeW (o := { dst := some 5, op := Op.binOp BinOp.eql 27 (Operand.tmp 3) (Operand.tmp 4) 27, type := 4, pos := "ref.go:75", after := #[{ on := 0, ground := Ground.data }, { on := 1, ground := Ground.data }], guard := none }) (.bool (eqC c cZ)) (exec_bin .eql 27 _ _ _ rfl (.agg c.cells) (.agg (cZ.cells)) (.bool (eqC c cZ)) (by kernel_rfl) (by kernel_rfl) (guard_C _ (.inl rfl) _ _ _ _ _) (eqlC _ _ _)) (by kernel_rfl) ?_
  try simp only [Act.put, List.setIfInBounds_toArray, List.set_cons_zero, List.set_cons_succ]
  refine wp_takeW (o := { dst := some 2, op := Op.assign (Operand.tmp 5), type := 4, pos := "ref.go:75", after := #[{ on := 2, ground := Ground.data }, { on := 0, ground := Ground.phase }, { on := 1, ground := Ground.phase }, { on := 2, ground := Ground.phase }], guard := none }) (.bool (eqC c cZ)) (by kernel_rfl) (by kernel_rfl) ?_
  try simp only [Act.put, List.setIfInBounds_toArray, List.set_cons_zero, List.set_cons_succ]
  refine WL.nil ?_
  try simp only [Act.put, List.setIfInBounds_toArray, List.set_cons_zero, List.set_cons_succ]
  go_wp2
  go_ret
  exact ⟨rfl, (Kept.refl No w).alloc _⟩

end Go.Proofs.Ytapjnanenfcdjaa
