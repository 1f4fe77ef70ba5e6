import Derived.Test.YtfemlnfknebalaaZ
namespace Go.Proofs.Ytfemlnfknebalaa
open Go.RowKit
set_option linter.unusedVariables false
set_option linter.unusedSimpArgs false
@[reducible] def oqZa0 : Oper := { dst := some 22, op := Op.move (Operand.tmp 6), type := 3, pos := "ref.go:105", after := #[], guard := none }
@[reducible] def oqZa1 : Oper := { dst := some 23, op := Op.move (Operand.tmp 6), type := 3, pos := "ref.go:105", after := #[], guard := none }
@[reducible] def oqZa2 : Oper := { dst := some 24, op := Op.move (Operand.tmp 0), type := 22, pos := "ref.go:105", after := #[], guard := none }
@[reducible] def oqZa3 : Oper := { dst := some 25, op := Op.call { callee := Callee.builtin Builtin.len, args := #[Operand.tmp 24], argTypes := #[22] }, type := 3, pos := "ref.go:105", after := #[{ on := 2, ground := Ground.data }], guard := none }
@[reducible] def oqZa4 : Oper := { dst := some 26, op := Op.binOp BinOp.lss 3 (Operand.tmp 23) (Operand.tmp 25) 3, type := 4, pos := "ref.go:105", after := #[{ on := 1, ground := Ground.data }, { on := 3, ground := Ground.data }], guard := none }
@[reducible] def oqZa5 : Oper := { dst := some 27, op := Op.move (Operand.tmp 26), type := 4, pos := "ref.go:105", after := #[{ on := 4, ground := Ground.data }], guard := none }
@[reducible] def oqZa6 : Oper := { dst := some 28, op := Op.move (Operand.tmp 0), type := 22, pos := "ref.go:105", after := #[{ on := 5, ground := Ground.guard }, { on := 14, ground := Ground.gcOnly Departure.lateStores }], guard := some (5, true) }
@[reducible] def oqZa7 : Oper := { dst := some 29, op := Op.move (Operand.tmp 6), type := 3, pos := "ref.go:105", after := #[{ on := 5, ground := Ground.guard }, { on := 14, ground := Ground.gcOnly Departure.lateStores }], guard := some (5, true) }
@[reducible] def oqZa8 : Oper := { dst := some 30, op := Op.indexAddr 22 (Operand.tmp 28) (Operand.tmp 29), type := 0, pos := "ref.go:105", after := #[{ on := 6, ground := Ground.data }, { on := 7, ground := Ground.data }, { on := 5, ground := Ground.guard }, { on := 14, ground := Ground.gcOnly Departure.lateStores }], guard := some (5, true) }
@[reducible] def oqZa9 : Oper := { dst := some 31, op := Op.fieldAddr 54 (Operand.tmp 30) 0, type := 0, pos := "ref.go:105", after := #[{ on := 8, ground := Ground.data }, { on := 5, ground := Ground.guard }, { on := 14, ground := Ground.gcOnly Departure.lateStores }], guard := some (5, true) }
@[reducible] def oqZa10 : Oper := { dst := some 32, op := Op.load 9 (Operand.tmp 31), type := 9, pos := "ref.go:105", after := #[{ on := 9, ground := Ground.data }, { on := 5, ground := Ground.guard }, { on := 14, ground := Ground.gcOnly Departure.lateStores }], guard := some (5, true) }
@[reducible] def oqZa11 : Oper := { dst := some 33, op := Op.move (Operand.tmp 1), type := 9, pos := "ref.go:105", after := #[{ on := 5, ground := Ground.guard }, { on := 14, ground := Ground.gcOnly Departure.lateStores }], guard := some (5, true) }
@[reducible] def oqZa12 : Oper := { dst := some 34, op := Op.binOp BinOp.eql 9 (Operand.tmp 32) (Operand.tmp 33) 9, type := 4, pos := "ref.go:105", after := #[{ on := 10, ground := Ground.data }, { on := 11, ground := Ground.data }, { on := 5, ground := Ground.guard }, { on := 14, ground := Ground.gcOnly Departure.lateStores }], guard := some (5, true) }
@[reducible] def oqZa13 : Oper := { dst := some 35, op := Op.pick (Operand.tmp 27) (Operand.tmp 34) (Operand.const (Value.bool false)), type := 4, pos := "ref.go:105", after := #[{ on := 5, ground := Ground.data }, { on := 12, ground := Ground.data }, { on := 14, ground := Ground.gcOnly Departure.lateStores }], guard := none }
@[reducible] def oqZa14 : Oper := { dst := some 4, op := Op.assign (Operand.tmp 22), type := 3, pos := "ref.go:105", after := #[{ on := 0, ground := Ground.data }, { on := 5, ground := Ground.chain }, { on := 0, ground := Ground.phase }, { on := 1, ground := Ground.textOnly Departure.lateStores }, { on := 2, ground := Ground.textOnly Departure.lateStores }, { on := 3, ground := Ground.textOnly Departure.lateStoresUnsure }, { on := 4, ground := Ground.textOnly Departure.lateStores }, { on := 5, ground := Ground.textOnly Departure.lateStores }, { on := 6, ground := Ground.textOnly Departure.lateStores }, { on := 7, ground := Ground.textOnly Departure.lateStores }, { on := 8, ground := Ground.textOnly Departure.lateStores }, { on := 9, ground := Ground.textOnly Departure.lateStores }, { on := 10, ground := Ground.textOnly Departure.lateStores }, { on := 11, ground := Ground.textOnly Departure.lateStores }, { on := 12, ground := Ground.textOnly Departure.lateStores }, { on := 13, ground := Ground.textOnly Departure.lateStores }], guard := none }
@[reducible] def oqZa15 : Oper := { dst := some 5, op := Op.assign (Operand.tmp 35), type := 4, pos := "ref.go:105", after := #[{ on := 13, ground := Ground.data }, { on := 14, ground := Ground.chain }, { on := 0, ground := Ground.phase }, { on := 1, ground := Ground.phase }, { on := 2, ground := Ground.phase }, { on := 3, ground := Ground.phase }, { on := 4, ground := Ground.phase }, { on := 5, ground := Ground.phase }, { on := 6, ground := Ground.phase }, { on := 7, ground := Ground.phase }, { on := 8, ground := Ground.phase }, { on := 9, ground := Ground.phase }, { on := 10, ground := Ground.phase }, { on := 11, ground := Ground.phase }, { on := 12, ground := Ground.phase }, { on := 13, ground := Ground.phase }, { on := 14, ground := Ground.phase }], guard := none }

/-- The reference's place. -/
def plc : List En → ByteArray → Nat
  | [], _ => 0
  | e :: t, nm => if ltN e.nm nm then plc t nm + 1 else 0
def pIs (es : List En) (nm : ByteArray) : Bool := decide (plc es nm < es.length) && eqN (eAt es (plc es nm)).nm nm
theorem plc_eq : ∀ (es : List En) (nm : ByteArray) (i : Nat), (∀ j, j < i → ltN (eAt es j).nm nm = true) → i ≤ es.length → (i < es.length → ltN (eAt es i).nm nm = false) → plc es nm = i
  | [], nm, i, _, h2, _ => (Nat.le_zero.1 h2).symm
  | e :: t, nm, 0, _, _, h3 => by
    have : ltN e.nm nm = false := h3 (by simp)
    simp [plc, this]
  | e :: t, nm, i + 1, h1, h2, h3 => by
    have h0 : ltN e.nm nm = true := h1 0 (by omega)
    have := plc_eq t nm i (fun j hj => h1 (j + 1) (by omega)) (by simpa using h2) (fun hi => h3 (by simpa using hi))
    simp [plc, h0, this]
theorem plc_le : ∀ (es : List En) (nm : ByteArray), plc es nm ≤ es.length
  | [], _ => Nat.le_refl _
  | e :: t, nm => by
    have := plc_le t nm
    unfold plc
    split <;> simp <;> omega
/-- Of a rising list it is the place. -/
theorem plc_rise {es : List En} (h : RiseE es) (nm : ByteArray) : plc es nm = eIx es nm := by
  obtain ⟨h1, h2, h3⟩ := gIx_spec (d := enZ) ordB h nm
  refine plc_eq es nm _ (fun j hj => ?_) h3 (fun hi => ?_)
  · exact decide_eq_true (h1 j _ hj (eAt_some (Nat.lt_of_lt_of_le hj h3)))
  · exact decide_eq_false (h2 _ _ (Nat.le_refl _) (eAt_some hi))
theorem pIs_rise {es : List En} (h : RiseE es) (nm : ByteArray) : pIs es nm = eIs es nm := by
  unfold pIs eIs
  rw [plc_rise h]
  congr 1
  by_cases e : (eAt es (eIx es nm)).nm = nm
  · rw [eqN_iff.2 e, (ordB.zero _ _).2 e]; rfl
  · have h1 : eqN (eAt es (eIx es nm)).nm nm = false := by
      cases hz : eqN (eAt es (eIx es nm)).nm nm
      · rfl
      · exact absurd (eqN_iff.1 hz) e
    rw [h1]
    have h2 : cmpB (eAt es (eIx es nm)).nm nm ≠ 0 := fun hz => e ((ordB.zero _ _).1 hz)
    exact (beq_eq_false_iff_ne.2 h2).symm
set_option maxRecDepth 100000 in
set_option maxHeartbeats 4000000 in
theorem place_any (a : Option Addr) (n c : Nat) (es : List En) (nm : ByteArray) (w : World) (hr : RdE w ⟨a, n, c⟩ es) (hb : n ≤ 140737488355328) : Calls Try.prog 47 #[.slice a n c, .string nm] w (fun e w' => e = .returned (.tuple #[.int .i64 ((plc es nm : Nat) : Int), .bool (pIs es nm)]) ∧ Kept No w w') := by
  obtain ⟨C, hC⟩ : ∃ C : Ending → World → Prop, C = (fun e w' => e = .returned (.tuple #[.int .i64 ((plc es nm : Nat) : Int), .bool (pIs es nm)]) ∧ Kept No w w') := ⟨_, rfl⟩
  have HC : Hid (C = (fun e w' => e = .returned (.tuple #[.int .i64 ((plc es nm : Nat) : Int), .bool (pIs es nm)]) ∧ Kept No w w')) := hC
  rw [← hC]
  clear hC
  have HN : Hid (es.length = n) := hr.len
  have HR : Hid (Es w a es) := hr.row
  clear hr
  have HF : Hid (Fr No w w []) := Fr.start _ _
  go_enter Try.func47, Try.ntmps47
  go_wp2
  go_loopw [6] (fun v6 wr => ∃ i : Nat, v6 = .int .i64 ((i : Nat) : Int) ∧ i ≤ n ∧ Hid (∀ j, j < i → ltN (eAt es j).nm nm = true) ∧ Hid (Fr No w wr [])) (fun i _ => n - (intOf i).toNat)
  case atStart => exact ⟨0, by go_num, by omega, fun j hj => absurd hj (Nat.not_lt_zero _), HF⟩
  case round =>
    clear HF
    obtain ⟨i, rfl, hi, HP, HF⟩ := hrel
    by_cases hlt : i < n
    · obtain ⟨xb, xo, e0, hcx⟩ := Es.at HR.out (i := i) (by rw [HN.out]; exact hlt)
      subst e0
      have HCX : Hid (w.cell? ⟨xb, xo + i * 4, none⟩ = some (.string (eAt es i).nm)) := hcx 0 _ rfl
      have HYes : Hid (ltN (eAt es i).nm nm = true → ∀ j, j < i + 1 → ltN (eAt es j).nm nm = true) := fun h j hj => by
        by_cases e : j = i
        · rw [e]; exact h
        · exact HP.out j (by omega)
      have HNo : Hid (ltN (eAt es i).nm nm = false → plc es nm = i ∧ pIs es nm = eqN (eAt es i).nm nm) := fun h => by
        have h1 := plc_eq es nm i HP.out (by rw [HN.out]; exact hi) (fun _ => h)
        refine ⟨h1, ?_⟩
        unfold pIs
        rw [h1, decide_eq_true (show i < es.length by rw [HN.out]; exact hlt)]
        rfl
      clear hcx
      generalize (eAt es i).nm = y at HCX HYes HNo
      go_upto_region 2 with fail
      refine WL.start ?_
      refine tK (.int .i64 ((i : Nat) : Int)) ?_
      try simp only [pA, pB, p1, p2, p3]
      refine tK (.slice (some ⟨xb, xo, none⟩) n c) ?_
      try simp only [pA, pB, p1, p2, p3]
      refine tK (.int .i64 ((n : Nat) : Int)) ?_
      try simp only [pA, pB, p1, p2, p3]
      refine tW (.bool true) (exec_bin .lss 3 _ _ _ rfl (.int .i64 ((i : Nat) : Int)) (.int .i64 ((n : Nat) : Int)) (.bool true) (by kernel_rfl) (by kernel_rfl) (by kernel_rfl) (by rw [b_lss, decide_eq_true (by omega)])) ?_
      try simp only [pA, pB, p1, p2, p3]
      refine tK (.bool true) ?_
      try simp only [pA, pB, p1, p2, p3]
      refine tK (.slice (some ⟨xb, xo, none⟩) n c) ?_
      try simp only [pA, pB, p1, p2, p3]
      refine tK (.int .i64 ((i : Nat) : Int)) ?_
      try simp only [pA, pB, p1, p2, p3]
      refine tW (.pointer (some ⟨xb, xo + i * 4, none⟩)) (exec_ixA 22 4 Try.und22e Try.size22e _ _ rfl xb xo n c i (by kernel_rfl) (by kernel_rfl) hlt) ?_
      try simp only [pA, pB, p1, p2, p3]
      refine tK (.pointer (some ⟨xb, xo + i * 4, none⟩)) ?_
      try simp only [pA, pB, p1, p2, p3]
      refine tW (.string y) (exec_load 9 _ rfl ⟨xb, xo + i * 4, none⟩ (by kernel_rfl) (.string y) (ld9 (HF.out.kept.cell HCX.out (fun e => e)))) ?_
      try simp only [pA, pB, p1, p2, p3]
      refine tK (.string nm) ?_
      try simp only [pA, pB, p1, p2, p3]
      cases q1 : (ltN y nm)
      ·skip
       refine tW (.bool false) (exec_bin .lss 9 _ _ _ rfl (.string y) (.string nm) (.bool false) (by kernel_rfl) (by kernel_rfl) (by kernel_rfl) (by rw [ltN_lss, q1]; try rfl)) ?_
       try simp only [pA, pB, p1, p2, p3]
       refine tK (.bool false) ?_
       try simp only [pA, pB, p1, p2, p3]
       refine WL.nil ?_
       try simp only [pA, pB, p1, p2, p3]
       go_upto_region 4 with fail
       refine wp_region_held_drew (S := fun w' => Fr No w w' []) rfl HF.out.drew (fun hH => ?_)
       have HF : Hid (Fr No w (wr.drew) []) := HF.out.drew
       generalize wr.drew = wk1 at HF hH ⊢
       refine aT (i := 0) (oi := oqZa0) (v := .int .i64 ((i : Nat) : Int)) (fun _ _ => by kernel_rfl) hH ?_
       try simp only [pA, pB, p1, p2, p3]
       refine aT (i := 1) (oi := oqZa1) (v := .int .i64 ((i : Nat) : Int)) (fun _ _ => by kernel_rfl) hH ?_
       try simp only [pA, pB, p1, p2, p3]
       refine aT (i := 2) (oi := oqZa2) (v := .slice (some ⟨xb, xo, none⟩) n c) (fun _ _ => by kernel_rfl) hH ?_
       try simp only [pA, pB, p1, p2, p3]
       refine aT (i := 3) (oi := oqZa3) (v := .int .i64 ((n : Nat) : Int)) (fun _ _ => by kernel_rfl) hH ?_
       try simp only [pA, pB, p1, p2, p3]
       refine aT (i := 4) (oi := oqZa4) (v := .bool true) (fun w' hw => exec_bin .lss 3 _ _ _ rfl (.int .i64 ((i : Nat) : Int)) (.int .i64 ((n : Nat) : Int)) (.bool true) (by kernel_rfl) (by kernel_rfl) (by kernel_rfl) (by rw [b_lss, decide_eq_true (by omega)])) hH ?_
       try simp only [pA, pB, p1, p2, p3]
       refine aT (i := 5) (oi := oqZa5) (v := .bool true) (fun _ _ => by kernel_rfl) hH ?_
       try simp only [pA, pB, p1, p2, p3]
       refine aT (i := 6) (oi := oqZa6) (v := .slice (some ⟨xb, xo, none⟩) n c) (fun _ _ => by kernel_rfl) hH ?_
       try simp only [pA, pB, p1, p2, p3]
       refine aT (i := 7) (oi := oqZa7) (v := .int .i64 ((i : Nat) : Int)) (fun _ _ => by kernel_rfl) hH ?_
       try simp only [pA, pB, p1, p2, p3]
       refine aT (i := 8) (oi := oqZa8) (v := .pointer (some ⟨xb, xo + i * 4, none⟩)) (fun w' hw => exec_ixA 22 4 Try.und22e Try.size22e _ _ rfl xb xo n c i (by kernel_rfl) (by kernel_rfl) hlt) hH ?_
       try simp only [pA, pB, p1, p2, p3]
       refine aT (i := 9) (oi := oqZa9) (v := .pointer (some ⟨xb, xo + i * 4, none⟩)) (fun _ _ => by kernel_rfl) hH ?_
       try simp only [pA, pB, p1, p2, p3]
       refine aT (i := 10) (oi := oqZa10) (v := .string y) (fun w' hw => exec_load 9 _ rfl ⟨xb, xo + i * 4, none⟩ (by kernel_rfl) (.string y) (ld9 (hw.kept.cell HCX.out (fun e => e)))) hH ?_
       try simp only [pA, pB, p1, p2, p3]
       refine aT (i := 11) (oi := oqZa11) (v := .string nm) (fun _ _ => by kernel_rfl) hH ?_
       try simp only [pA, pB, p1, p2, p3]
       cases q2 : (eqN y nm)
       ·skip
        refine aT (i := 12) (oi := oqZa12) (v := .bool false) (fun w' hw => exec_bin .eql 9 _ _ _ rfl (.string y) (.string nm) (.bool false) (by kernel_rfl) (by kernel_rfl) (by kernel_rfl) (by rw [eqN_eql, q2]; try rfl)) hH ?_
        try simp only [pA, pB, p1, p2, p3]
        refine aT (i := 13) (oi := oqZa13) (v := .bool false) (fun _ _ => by kernel_rfl) hH ?_
        try simp only [pA, pB, p1, p2, p3]
        refine aT (i := 14) (oi := oqZa14) (v := .int .i64 ((i : Nat) : Int)) (fun _ _ => by kernel_rfl) hH ?_
        try simp only [pA, pB, p1, p2, p3]
        refine aT (i := 15) (oi := oqZa15) (v := .bool false) (fun _ _ => by kernel_rfl) hH ?_
        try simp only [pA, pB, p1, p2, p3]
        refine wpAnyH_done (by kernel_rfl) ?_ _
        try simp only [pA, pB, p1, p2, p3]
        clear hH
        have hv := HNo.out q1
        go_wp2
        rw [HC.out]
        exact ⟨by rw [hv.1, hv.2, q2]; rfl, HF.out.kept⟩
       ·skip
        refine aT (i := 12) (oi := oqZa12) (v := .bool true) (fun w' hw => exec_bin .eql 9 _ _ _ rfl (.string y) (.string nm) (.bool true) (by kernel_rfl) (by kernel_rfl) (by kernel_rfl) (by rw [eqN_eql, q2]; try rfl)) hH ?_
        try simp only [pA, pB, p1, p2, p3]
        refine aT (i := 13) (oi := oqZa13) (v := .bool true) (fun _ _ => by kernel_rfl) hH ?_
        try simp only [pA, pB, p1, p2, p3]
        refine aT (i := 14) (oi := oqZa14) (v := .int .i64 ((i : Nat) : Int)) (fun _ _ => by kernel_rfl) hH ?_
        try simp only [pA, pB, p1, p2, p3]
        refine aT (i := 15) (oi := oqZa15) (v := .bool true) (fun _ _ => by kernel_rfl) hH ?_
        try simp only [pA, pB, p1, p2, p3]
        refine wpAnyH_done (by kernel_rfl) ?_ _
        try simp only [pA, pB, p1, p2, p3]
        clear hH
        have hv := HNo.out q1
        go_wp2
        rw [HC.out]
        exact ⟨by rw [hv.1, hv.2, q2]; rfl, HF.out.kept⟩
      ·skip
       refine tW (.bool true) (exec_bin .lss 9 _ _ _ rfl (.string y) (.string nm) (.bool true) (by kernel_rfl) (by kernel_rfl) (by kernel_rfl) (by rw [ltN_lss, q1]; try rfl)) ?_
       try simp only [pA, pB, p1, p2, p3]
       refine tK (.bool true) ?_
       try simp only [pA, pB, p1, p2, p3]
       refine WL.nil ?_
       try simp only [pA, pB, p1, p2, p3]
       have HP2 : Hid (∀ j, j < i + 1 → ltN (eAt es j).nm nm = true) := HYes.out q1
       clear HYes HNo HP
       go_wp2
       go_roundw
       case rel => exact ⟨i + 1, by go_num, by omega, HP2, HF⟩
       case measure => simp [intOf]; omega
    · have HV : Hid (plc es nm = i ∧ pIs es nm = false) := by
        have e : i = n := by omega
        have h1 := plc_eq es nm i HP.out (by rw [HN.out]; exact hi) (fun h => by rw [HN.out] at h; omega)
        refine ⟨h1, ?_⟩
        unfold pIs
        rw [h1, decide_eq_false (by rw [HN.out]; exact hlt)]
        rfl
      go_upto_region 2 with fail
      refine WL.start ?_
      refine tK (.int .i64 ((i : Nat) : Int)) ?_
      try simp only [pA, pB, p1, p2, p3]
      refine tK (.slice a n c) ?_
      try simp only [pA, pB, p1, p2, p3]
      refine tK (.int .i64 ((n : Nat) : Int)) ?_
      try simp only [pA, pB, p1, p2, p3]
      refine tW (.bool false) (exec_bin .lss 3 _ _ _ rfl (.int .i64 ((i : Nat) : Int)) (.int .i64 ((n : Nat) : Int)) (.bool false) (by kernel_rfl) (by kernel_rfl) (by kernel_rfl) (by rw [b_lss, decide_eq_false (by omega)])) ?_
      try simp only [pA, pB, p1, p2, p3]
      refine tK (.bool false) ?_
      try simp only [pA, pB, p1, p2, p3]
      refine sK ?_
      try simp only [pA, pB, p1, p2, p3]
      refine sK ?_
      try simp only [pA, pB, p1, p2, p3]
      refine sK ?_
      try simp only [pA, pB, p1, p2, p3]
      refine sK ?_
      try simp only [pA, pB, p1, p2, p3]
      refine sK ?_
      try simp only [pA, pB, p1, p2, p3]
      refine sK ?_
      try simp only [pA, pB, p1, p2, p3]
      refine sK ?_
      try simp only [pA, pB, p1, p2, p3]
      refine tK (.bool false) ?_
      try simp only [pA, pB, p1, p2, p3]
      refine WL.nil ?_
      try simp only [pA, pB, p1, p2, p3]
      go_upto_region 4 with fail
      refine wp_region_held_drew (S := fun w' => Fr No w w' []) rfl HF.out.drew (fun hH => ?_)
      have HF : Hid (Fr No w (wr.drew) []) := HF.out.drew
      generalize wr.drew = wk2 at HF hH ⊢
      refine aT (i := 0) (oi := oqZa0) (v := .int .i64 ((i : Nat) : Int)) (fun _ _ => by kernel_rfl) hH ?_
      try simp only [pA, pB, p1, p2, p3]
      refine aT (i := 1) (oi := oqZa1) (v := .int .i64 ((i : Nat) : Int)) (fun _ _ => by kernel_rfl) hH ?_
      try simp only [pA, pB, p1, p2, p3]
      refine aT (i := 2) (oi := oqZa2) (v := .slice a n c) (fun _ _ => by kernel_rfl) hH ?_
      try simp only [pA, pB, p1, p2, p3]
      refine aT (i := 3) (oi := oqZa3) (v := .int .i64 ((n : Nat) : Int)) (fun _ _ => by kernel_rfl) hH ?_
      try simp only [pA, pB, p1, p2, p3]
      refine aT (i := 4) (oi := oqZa4) (v := .bool false) (fun w' hw => exec_bin .lss 3 _ _ _ rfl (.int .i64 ((i : Nat) : Int)) (.int .i64 ((n : Nat) : Int)) (.bool false) (by kernel_rfl) (by kernel_rfl) (by kernel_rfl) (by rw [b_lss, decide_eq_false (by omega)])) hH ?_
      try simp only [pA, pB, p1, p2, p3]
      refine aT (i := 5) (oi := oqZa5) (v := .bool false) (fun _ _ => by kernel_rfl) hH ?_
      try simp only [pA, pB, p1, p2, p3]
      refine aS (i := 6) (oi := oqZa6) hH ?_
      try simp only [pA, pB, p1, p2, p3]
      refine aS (i := 7) (oi := oqZa7) hH ?_
      try simp only [pA, pB, p1, p2, p3]
      refine aS (i := 8) (oi := oqZa8) hH ?_
      try simp only [pA, pB, p1, p2, p3]
      refine aS (i := 9) (oi := oqZa9) hH ?_
      try simp only [pA, pB, p1, p2, p3]
      refine aS (i := 10) (oi := oqZa10) hH ?_
      try simp only [pA, pB, p1, p2, p3]
      refine aS (i := 11) (oi := oqZa11) hH ?_
      try simp only [pA, pB, p1, p2, p3]
      refine aS (i := 12) (oi := oqZa12) hH ?_
      try simp only [pA, pB, p1, p2, p3]
      refine aT (i := 13) (oi := oqZa13) (v := .bool false) (fun _ _ => by kernel_rfl) hH ?_
      try simp only [pA, pB, p1, p2, p3]
      refine aT (i := 14) (oi := oqZa14) (v := .int .i64 ((i : Nat) : Int)) (fun _ _ => by kernel_rfl) hH ?_
      try simp only [pA, pB, p1, p2, p3]
      refine aT (i := 15) (oi := oqZa15) (v := .bool false) (fun _ _ => by kernel_rfl) hH ?_
      try simp only [pA, pB, p1, p2, p3]
      refine wpAnyH_done (by kernel_rfl) ?_ _
      try simp only [pA, pB, p1, p2, p3]
      clear hH
      go_wp2
      rw [HC.out]
      exact ⟨by rw [HV.out.1, HV.out.2]; rfl, HF.out.kept⟩

end Go.Proofs.Ytfemlnfknebalaa
