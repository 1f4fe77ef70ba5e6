import Derived.Test.YtfemlnfknebalaaVe
import Derived.Test.YtfemlnfknebalaaXa
namespace Go.Proofs.Ytfemlnfknebalaa
open Go.RowKit
set_option linter.unusedVariables false
set_option linter.unusedSimpArgs false
@[reducible] def oqWReplays0 : Oper := { dst := some 134, op := Op.call { callee := Callee.value (Operand.func 18), args := #[Operand.tmp 129, Operand.tmp 130, Operand.tmp 133], argTypes := #[25, 3, 34] }, type := 47, pos := "law.go:203", after := #[{ on := 0, ground := Ground.data }, { on := 1, ground := Ground.data }, { on := 4, ground := Ground.data }], guard := none }
@[reducible] def oqWReplays1 : Oper := { dst := some 128, op := Op.move (Operand.tmp 134), type := 47, pos := "law.go:203", after := #[{ on := 5, ground := Ground.data }], guard := none }
@[reducible] def oqWReplays2 : Oper := { dst := some 135, op := Op.extract (Operand.tmp 128) 0, type := 25, pos := "law.go:203", after := #[{ on := 6, ground := Ground.data }], guard := none }
@[reducible] def oqWReplays3 : Oper := { dst := some 136, op := Op.extract (Operand.tmp 128) 1, type := 45, pos := "law.go:203", after := #[{ on := 6, ground := Ground.data }, { on := 11, ground := Ground.gcOnly Departure.lateStores }], guard := none }
@[reducible] def oqWReplays4 : Oper := { dst := some 137, op := Op.extract (Operand.tmp 128) 2, type := 46, pos := "law.go:203", after := #[{ on := 6, ground := Ground.data }, { on := 12, ground := Ground.gcOnly Departure.lateStores }], guard := none }
@[reducible] def oqWReplays5 : Oper := { dst := some 20, op := Op.alloc 25, type := 0, pos := "law.go:203", after := #[], guard := none }
@[reducible] def oqWReplays6 : Oper := { dst := none, op := Op.store 25 (Operand.tmp 20) (Operand.tmp 135), type := 0, pos := "law.go:203", after := #[{ on := 10, ground := Ground.data }, { on := 7, ground := Ground.data }, { on := 5, ground := Ground.chain }, { on := 0, ground := Ground.phase }, { on := 1, ground := Ground.phase }, { on := 2, ground := Ground.phase }, { on := 3, ground := Ground.phase }, { on := 4, ground := Ground.phase }, { on := 5, ground := Ground.phase }, { on := 6, ground := Ground.phase }, { on := 7, ground := Ground.phase }, { on := 8, ground := Ground.textOnly Departure.lateStores }, { on := 9, ground := Ground.textOnly Departure.lateStores }, { on := 10, ground := Ground.phase }], guard := none }
@[reducible] def oqWReplays7 : Oper := { dst := some 21, op := Op.assign (Operand.tmp 136), type := 45, pos := "law.go:203", after := #[{ on := 8, ground := Ground.data }, { on := 11, ground := Ground.chain }, { on := 0, ground := Ground.phase }, { on := 1, ground := Ground.phase }, { on := 2, ground := Ground.phase }, { on := 3, ground := Ground.phase }, { on := 4, ground := Ground.phase }, { on := 5, ground := Ground.phase }, { on := 6, ground := Ground.phase }, { on := 7, ground := Ground.phase }, { on := 8, ground := Ground.phase }, { on := 9, ground := Ground.textOnly Departure.lateStores }, { on := 10, ground := Ground.phase }, { on := 11, ground := Ground.phase }], guard := none }
@[reducible] def oqWReplays8 : Oper := { dst := some 22, op := Op.assign (Operand.tmp 137), type := 46, pos := "law.go:203", after := #[{ on := 9, ground := Ground.data }, { on := 12, ground := Ground.chain }, { on := 0, ground := Ground.phase }, { on := 1, ground := Ground.phase }, { on := 2, ground := Ground.phase }, { on := 3, ground := Ground.phase }, { on := 4, ground := Ground.phase }, { on := 5, ground := Ground.phase }, { on := 6, ground := Ground.phase }, { on := 7, ground := Ground.phase }, { on := 8, ground := Ground.phase }, { on := 9, ground := Ground.phase }, { on := 10, ground := Ground.phase }, { on := 11, ground := Ground.phase }, { on := 12, ground := Ground.phase }], guard := none }
@[reducible] def oqWReplays9 : Oper := { dst := some 144, op := Op.call { callee := Callee.value (Operand.func 18), args := #[Operand.tmp 139, Operand.tmp 140, Operand.tmp 143], argTypes := #[25, 3, 34] }, type := 47, pos := "law.go:204", after := #[{ on := 0, ground := Ground.data }, { on := 1, ground := Ground.data }, { on := 4, ground := Ground.data }], guard := none }
@[reducible] def oqWReplays10 : Oper := { dst := some 138, op := Op.move (Operand.tmp 144), type := 47, pos := "law.go:204", after := #[{ on := 5, ground := Ground.data }], guard := none }
@[reducible] def oqWReplays11 : Oper := { dst := some 145, op := Op.extract (Operand.tmp 138) 0, type := 25, pos := "law.go:204", after := #[{ on := 6, ground := Ground.data }], guard := none }
@[reducible] def oqWReplays12 : Oper := { dst := some 146, op := Op.extract (Operand.tmp 138) 1, type := 45, pos := "law.go:204", after := #[{ on := 6, ground := Ground.data }, { on := 11, ground := Ground.gcOnly Departure.lateStores }], guard := none }
@[reducible] def oqWReplays13 : Oper := { dst := some 147, op := Op.extract (Operand.tmp 138) 2, type := 46, pos := "law.go:204", after := #[{ on := 6, ground := Ground.data }, { on := 12, ground := Ground.gcOnly Departure.lateStores }], guard := none }
@[reducible] def oqWReplays14 : Oper := { dst := some 23, op := Op.alloc 25, type := 0, pos := "law.go:204", after := #[], guard := none }
@[reducible] def oqWReplays15 : Oper := { dst := none, op := Op.store 25 (Operand.tmp 23) (Operand.tmp 145), type := 0, pos := "law.go:204", after := #[{ on := 10, ground := Ground.data }, { on := 7, ground := Ground.data }, { on := 5, ground := Ground.chain }, { on := 0, ground := Ground.phase }, { on := 1, ground := Ground.phase }, { on := 2, ground := Ground.phase }, { on := 3, ground := Ground.phase }, { on := 4, ground := Ground.phase }, { on := 5, ground := Ground.phase }, { on := 6, ground := Ground.phase }, { on := 7, ground := Ground.phase }, { on := 8, ground := Ground.textOnly Departure.lateStores }, { on := 9, ground := Ground.textOnly Departure.lateStores }, { on := 10, ground := Ground.phase }], guard := none }
@[reducible] def oqWReplays16 : Oper := { dst := some 24, op := Op.assign (Operand.tmp 146), type := 45, pos := "law.go:204", after := #[{ on := 8, ground := Ground.data }, { on := 11, ground := Ground.chain }, { on := 0, ground := Ground.phase }, { on := 1, ground := Ground.phase }, { on := 2, ground := Ground.phase }, { on := 3, ground := Ground.phase }, { on := 4, ground := Ground.phase }, { on := 5, ground := Ground.phase }, { on := 6, ground := Ground.phase }, { on := 7, ground := Ground.phase }, { on := 8, ground := Ground.phase }, { on := 9, ground := Ground.textOnly Departure.lateStores }, { on := 10, ground := Ground.phase }, { on := 11, ground := Ground.phase }], guard := none }
@[reducible] def oqWReplays17 : Oper := { dst := some 25, op := Op.assign (Operand.tmp 147), type := 46, pos := "law.go:204", after := #[{ on := 9, ground := Ground.data }, { on := 12, ground := Ground.chain }, { on := 0, ground := Ground.phase }, { on := 1, ground := Ground.phase }, { on := 2, ground := Ground.phase }, { on := 3, ground := Ground.phase }, { on := 4, ground := Ground.phase }, { on := 5, ground := Ground.phase }, { on := 6, ground := Ground.phase }, { on := 7, ground := Ground.phase }, { on := 8, ground := Ground.phase }, { on := 9, ground := Ground.phase }, { on := 10, ground := Ground.phase }, { on := 11, ground := Ground.phase }, { on := 12, ground := Ground.phase }], guard := none }

theorem runA_len (room : Int) : ∀ (l : List Cm) (b : Bk), (runA room b l).length = l.length
  | [], _ => rfl
  | c :: l, b => by show (runA room _ l).length + 1 = l.length + 1; rw [runA_len room l]
theorem resA_len (room : Int) (b : Bk) (l : List Cm) : (resA room b l).length ≤ l.length := by
  unfold resA
  split
  · rw [runA_len]; exact Nat.le_refl _
  · exact Nat.zero_le _
set_option maxRecDepth 100000 in
set_option maxHeartbeats 4000000 in
theorem replaysWalk (up : Int) (ea : Option Addr) (en ec : Nat) (la : Option Addr) (ln lc : Nat) (room : Int) (ca : Option Addr) (cn cc : Nat) (cut : Int) (es : List En) (ls : List La) (xs : List Cm) (w : World) (he : RdE w ⟨ea, en, ec⟩ es) (hl : RdL w ⟨la, ln, lc⟩ ls) (hec : en ≤ ec) (hbe : en ≤ 140737488355328) (hbl : ln ≤ 140737488355328) (hxl : xs.length = cn) (hbig : cn ≤ 140737488351232) (hX : Cs w ca xs) (hcc : ca = none → cc = 0) (hcnc : cn ≤ cc) (hc1 : -9223372036854775808 ≤ cut) (hc2 : cut ≤ 9223372036854775807) : Calls Try.prog 6 #[.agg (Bv.cells ⟨up, ⟨ea, en, ec⟩, ⟨la, ln, lc⟩⟩), .int .i64 room, .slice ca cn cc, .int .i64 cut] w (fun e w' => e = .returned (.bool true) ∧ Kept No w w') := by
  obtain ⟨C, hC⟩ : ∃ C : Ending → World → Prop, C = (fun e w' => e = .returned (.bool true) ∧ Kept No w w') := ⟨_, rfl⟩
  have HC : Hid (C = (fun e w' => e = .returned (.bool true) ∧ Kept No w w')) := hC
  rw [← hC]
  clear hC
  have HL : Hid (xs.length = cn) := hxl
  have HX : Hid (Cs w ca xs) := hX
  have HE : Hid (RdE w ⟨ea, en, ec⟩ es) := he
  have HLs : Hid (RdL w ⟨la, ln, lc⟩ ls) := hl
  have HEL : Hid (es.length = en) := he.len
  have HLL : Hid (ls.length = ln) := hl.len
  have Hcc : Hid (ca = none → cc = 0) := hcc
  clear hxl hX he hl hcc
  have HF : Hid (Fr No w w []) := Fr.start _ _
  go_enter Try.func6, Try.ntmps6
  go_upto_region 0 with fail
  refine WL.start ?_
  refine wp_runW (.pointer (some ⟨w.heap.size, 0, none⟩)) (w.alloc (.cells (Bv.cells ⟨up, ⟨ea, en, ec⟩, ⟨la, ln, lc⟩⟩) 25)) (exec_box 25 _ rfl (Bv.cells ⟨up, ⟨ea, en, ec⟩, ⟨la, ln, lc⟩⟩) (by kernel_rfl)) (by kernel_rfl) ?_
  try simp only [pA, pB, p1, p2, p3]
  have HF : Hid (Fr No w (w.alloc (.cells (Bv.cells ⟨up, ⟨ea, en, ec⟩, ⟨la, ln, lc⟩⟩) 25)) [(w.heap.size, 25, Bv.cells ⟨up, ⟨ea, en, ec⟩, ⟨la, ln, lc⟩⟩)]) := HF.out.alloc _ _
  generalize w.alloc (.cells (Bv.cells ⟨up, ⟨ea, en, ec⟩, ⟨la, ln, lc⟩⟩) 25) = wk2 at HF ⊢
  generalize w.heap.size = gk1 at HF ⊢
  refine tK (.bool false) ?_
  try simp only [pA, pB, p1, p2, p3]
  refine WL.nil ?_
  try simp only [pA, pB, p1, p2, p3]
  go_upto_region 1 with fail
  refine WL.start ?_
  refine tW (.agg (Bv.cells ⟨up, ⟨ea, en, ec⟩, ⟨la, ln, lc⟩⟩)) (exec_load 25 _ rfl ⟨gk1, 0, none⟩ (by kernel_rfl) (.agg (Bv.cells ⟨up, ⟨ea, en, ec⟩, ⟨la, ln, lc⟩⟩)) (ld25 (HF.out.box 0 _ _ _ rfl))) ?_
  try simp only [pA, pB, p1, p2, p3]
  cases q1 : (bktB up es ls)
  ·skip
   refine wp_callW 11 #[.agg (Bv.cells ⟨up, ⟨ea, en, ec⟩, ⟨la, ln, lc⟩⟩)] (by kernel_rfl) _ (bucket_any up ea en ec la ln lc es ls _ (HE.out.no HF.out.kept) (HLs.out.no HF.out.kept) hbe hbl) (by kernel_rfl) ?_
   rintro e wk3 ⟨rfl, hk⟩
   have HF : Hid (Fr No w (wk3) [(gk1, 25, Bv.cells ⟨up, ⟨ea, en, ec⟩, ⟨la, ln, lc⟩⟩)]) := HF.out.no hk
   clear hk
   refine ⟨.bool false, by rw [q1], ?_⟩
   try simp only [pA, pB, p1, p2, p3]
   refine tK (.bool true) ?_
   refine tK (.bool true) ?_
   refine sK ?_
   refine sK ?_
   refine sK ?_
   refine tK (.bool true) ?_
   try simp only [pA, pB, p1, p2, p3]
   refine WL.nil ?_
   try simp only [pA, pB, p1, p2, p3]
   go_upto_region 2 with fail
   refine WL.start ?_
   refine wp_callW 10 #[] (by kernel_rfl) _ (head_any _) (by kernel_rfl) ?_
   rintro e wk4 ⟨rfl, hk⟩
   have HF : Hid (Fr No w (wk4) [(gk1, 25, Bv.cells ⟨up, ⟨ea, en, ec⟩, ⟨la, ln, lc⟩⟩)]) := HF.out.no hk
   clear hk
   refine ⟨.bool true, rfl, ?_⟩
   try simp only [pA, pB, p1, p2, p3]
   refine tK (.bool true) ?_
   try simp only [pA, pB, p1, p2, p3]
   refine WL.nil ?_
   try simp only [pA, pB, p1, p2, p3]
   go_wp2
   rw [HC.out]
   exact ⟨rfl, HF.out.kept⟩
  ·skip
   refine wp_callW 11 #[.agg (Bv.cells ⟨up, ⟨ea, en, ec⟩, ⟨la, ln, lc⟩⟩)] (by kernel_rfl) _ (bucket_any up ea en ec la ln lc es ls _ (HE.out.no HF.out.kept) (HLs.out.no HF.out.kept) hbe hbl) (by kernel_rfl) ?_
   rintro e wk5 ⟨rfl, hk⟩
   have HF : Hid (Fr No w (wk5) [(gk1, 25, Bv.cells ⟨up, ⟨ea, en, ec⟩, ⟨la, ln, lc⟩⟩)]) := HF.out.no hk
   clear hk
   refine ⟨.bool true, by rw [q1], ?_⟩
   try simp only [pA, pB, p1, p2, p3]
   refine tK (.bool false) ?_
   refine tK (.bool false) ?_
   refine tK (.slice ca cn cc) ?_
   refine tK (.int .i64 ((cn : Nat) : Int)) ?_
   try simp only [pA, pB, p1, p2, p3]
   cases q2 : (decide (400 < ((cn : Nat) : Int)))
   ·skip
    refine tW (.bool false) (exec_bin .gtr 3 _ _ _ rfl (.int .i64 ((cn : Nat) : Int)) (.int .i64 400) (.bool false) (by kernel_rfl) (by kernel_rfl) (by kernel_rfl) (by rw [b_gtr, q2]; try rfl)) ?_
    refine tK (.bool false) ?_
    try simp only [pA, pB, p1, p2, p3]
    refine WL.nil ?_
    try simp only [pA, pB, p1, p2, p3]
    have HGd : Hid (Good up es ls) := bkt_good q1
    have hcn : cn ≤ 400 := by have := of_decide_eq_false q2; omega
    have hen : en ≤ 256 := by have h1 := HGd.out.n; have h2 := HEL.out; omega
    have hln : ln ≤ 255 := by have h1 := HGd.out.ln; have h2 := HLL.out; omega
    clear q1 q2
    go_wp2
    go_loopw [9] (fun v9 wr => ∃ i : Nat, v9 = .int .i64 ((i : Nat) : Int) ∧ i ≤ cn ∧ Hid (Fr No w wr [(gk1, 25, Bv.cells ⟨up, ⟨ea, en, ec⟩, ⟨la, ln, lc⟩⟩)])) (fun i _ => cn - (intOf i).toNat)
    case atStart => exact ⟨0, by go_num, by omega, HF⟩
    case round =>
      clear HF
      obtain ⟨i, rfl, hi, HF⟩ := hrel
      by_cases hlt : i < cn
      · skip
        obtain ⟨xb, xo, e0, hcell⟩ := Cs.at HX.out (i := i) (by rw [HL.out]; exact hlt)
        subst e0
        have HCE : Hid (∀ (j : Nat) v, (cAt xs i).cs[j]? = some v → w.cell? ⟨xb, xo + i * 9 + j, none⟩ = some v) := hcell
        clear hcell
        generalize cAt xs i = x at HCE
        go_upto_region 4 with fail
        refine WL.start ?_
        refine tK (.int .i64 ((i : Nat) : Int)) ?_
        refine tK (.slice (some ⟨xb, xo, none⟩) cn cc) ?_
        refine tK (.int .i64 ((cn : Nat) : Int)) ?_
        refine tW (.bool true) (exec_bin .lss 3 _ _ _ rfl (.int .i64 ((i : Nat) : Int)) (.int .i64 ((cn : Nat) : Int)) (.bool true) (by kernel_rfl) (by kernel_rfl) (by kernel_rfl) (by rw [b_lss, decide_eq_true (by omega)])) ?_
        try simp only [pA, pB, p1, p2, p3]
        refine WL.nil ?_
        try simp only [pA, pB, p1, p2, p3]
        go_upto_region 6 with fail
        refine WL.start ?_
        refine tK (.slice (some ⟨xb, xo, none⟩) cn cc) ?_
        refine tK (.int .i64 ((i : Nat) : Int)) ?_
        refine tW (.pointer (some ⟨xb, xo + i * 9, none⟩)) (exec_ixA 34 9 Try.und34e Try.size34e _ _ rfl xb xo cn cc i (by kernel_rfl) (by kernel_rfl) hlt) ?_
        refine tW (.agg (Cm.cells x)) (exec_load 29 _ rfl ⟨xb, xo + i * 9, none⟩ (by kernel_rfl) (.agg (Cm.cells x)) (load_Ca (fun j v h => HF.out.kept.cell (HCE.out j v h) (fun e => e)))) ?_
        try simp only [pA, pB, p1, p2, p3]
        cases q3 : (badC x)
        ·skip
         refine wp_callW 16 #[.agg (Cm.cells x)] (by kernel_rfl) _ (wrong_any x _) (by kernel_rfl) ?_
         rintro e wk6 ⟨rfl, hk⟩
         have HF : Hid (Fr No w (wk6) [(gk1, 25, Bv.cells ⟨up, ⟨ea, en, ec⟩, ⟨la, ln, lc⟩⟩)]) := HF.out.no hk
         clear hk
         refine ⟨.bool false, by rw [q3], ?_⟩
         try simp only [pA, pB, p1, p2, p3]
         refine tK (.bool true) ?_
         refine tK (.bool true) ?_
         refine tK (.slice (some ⟨xb, xo, none⟩) cn cc) ?_
         refine tK (.int .i64 ((i : Nat) : Int)) ?_
         refine tW (.pointer (some ⟨xb, xo + i * 9, none⟩)) (exec_ixA 34 9 Try.und34e Try.size34e _ _ rfl xb xo cn cc i (by kernel_rfl) (by kernel_rfl) hlt) ?_
         refine tW (.agg (Cm.cells x)) (exec_load 29 _ rfl ⟨xb, xo + i * 9, none⟩ (by kernel_rfl) (.agg (Cm.cells x)) (load_Ca (fun j v h => HF.out.kept.cell (HCE.out j v h) (fun e => e)))) ?_
         try simp only [pA, pB, p1, p2, p3]
         cases q4 : (cmdB x)
         ·skip
          refine wp_callW 12 #[.agg (Cm.cells x)] (by kernel_rfl) _ (command_any x _) (by kernel_rfl) ?_
          rintro e wk7 ⟨rfl, hk⟩
          have HF : Hid (Fr No w (wk7) [(gk1, 25, Bv.cells ⟨up, ⟨ea, en, ec⟩, ⟨la, ln, lc⟩⟩)]) := HF.out.no hk
          clear hk
          refine ⟨.bool false, by rw [q4], ?_⟩
          try simp only [pA, pB, p1, p2, p3]
          refine tK (.bool true) ?_
          refine tK (.bool true) ?_
          try simp only [pA, pB, p1, p2, p3]
          refine WL.nil ?_
          try simp only [pA, pB, p1, p2, p3]
          go_upto_region 7 with fail
          refine WL.start ?_
          refine wp_callW 10 #[] (by kernel_rfl) _ (head_any _) (by kernel_rfl) ?_
          rintro e wk8 ⟨rfl, hk⟩
          have HF : Hid (Fr No w (wk8) [(gk1, 25, Bv.cells ⟨up, ⟨ea, en, ec⟩, ⟨la, ln, lc⟩⟩)]) := HF.out.no hk
          clear hk
          refine ⟨.bool true, rfl, ?_⟩
          try simp only [pA, pB, p1, p2, p3]
          refine tK (.bool true) ?_
          try simp only [pA, pB, p1, p2, p3]
          refine WL.nil ?_
          try simp only [pA, pB, p1, p2, p3]
          go_wp2
          rw [HC.out]
          exact ⟨rfl, HF.out.kept⟩
         ·skip
          refine wp_callW 12 #[.agg (Cm.cells x)] (by kernel_rfl) _ (command_any x _) (by kernel_rfl) ?_
          rintro e wk9 ⟨rfl, hk⟩
          have HF : Hid (Fr No w (wk9) [(gk1, 25, Bv.cells ⟨up, ⟨ea, en, ec⟩, ⟨la, ln, lc⟩⟩)]) := HF.out.no hk
          clear hk
          refine ⟨.bool true, by rw [q4], ?_⟩
          try simp only [pA, pB, p1, p2, p3]
          refine tK (.bool false) ?_
          refine tK (.bool false) ?_
          try simp only [pA, pB, p1, p2, p3]
          refine WL.nil ?_
          try simp only [pA, pB, p1, p2, p3]
          go_wp2
          go_roundw
          case rel => exact ⟨i + 1, by go_num, by omega, HF⟩
          case measure => simp [intOf]; omega
        ·skip
         refine wp_callW 16 #[.agg (Cm.cells x)] (by kernel_rfl) _ (wrong_any x _) (by kernel_rfl) ?_
         rintro e wk10 ⟨rfl, hk⟩
         have HF : Hid (Fr No w (wk10) [(gk1, 25, Bv.cells ⟨up, ⟨ea, en, ec⟩, ⟨la, ln, lc⟩⟩)]) := HF.out.no hk
         clear hk
         refine ⟨.bool true, by rw [q3], ?_⟩
         try simp only [pA, pB, p1, p2, p3]
         refine tK (.bool false) ?_
         refine tK (.bool false) ?_
         refine sK ?_
         refine sK ?_
         refine sK ?_
         refine sK ?_
         refine sK ?_
         refine sK ?_
         refine tK (.bool false) ?_
         try simp only [pA, pB, p1, p2, p3]
         refine WL.nil ?_
         try simp only [pA, pB, p1, p2, p3]
         go_wp2
         go_roundw
         case rel => exact ⟨i + 1, by go_num, by omega, HF⟩
         case measure => simp [intOf]; omega
      · skip
        obtain ⟨er, her⟩ : ∃ z, z = errR room ⟨up, es, ls⟩ xs := ⟨_, rfl⟩
        obtain ⟨RB, hRB⟩ : ∃ z, z = resB room ⟨up, es, ls⟩ xs := ⟨_, rfl⟩
        obtain ⟨RA, hRA⟩ : ∃ z, z = resA room ⟨up, es, ls⟩ xs := ⟨_, rfl⟩
        have HDef : Hid (er = errR room ⟨up, es, ls⟩ xs ∧ RB = resB room ⟨up, es, ls⟩ xs ∧ RA = resA room ⟨up, es, ls⟩ xs) := ⟨her, hRB, hRA⟩
        have HRP : Hid (∀ W g h oa oc, Box W g 54 (enL (es ++ [markE])).toArray → Box W h 64 (laL (ls ++ [markL])).toArray → Cs W oa xs → Calls Try.prog 18 #[.agg (Bv.cells ⟨up, ⟨(some ⟨g, 0, none⟩), en, (en + 1)⟩, ⟨(some ⟨h, 0, none⟩), ln, (ln + 1)⟩⟩), .int .i64 room, .slice oa cn oc] W (RepNew W er RB RA)) := fun W g h oa oc h1 h2 h3 => by
          rw [her, hRB, hRA]
          exact replay_any up (some ⟨g, 0, none⟩) en (en + 1) (some ⟨h, 0, none⟩) ln (ln + 1) room oa cn oc es ls xs 256 W (lent_en h1 HEL.out (by omega)) (lent_la h2 HLL.out (by omega)) HGd.out.fine (by omega) HL.out hcn h3
        have HRR : Hid (∀ W, Kept No w W → Calls Try.prog 20 #[.agg (Bv.cells ⟨up, ⟨ea, en, ec⟩, ⟨la, ln, lc⟩⟩), .int .i64 room, .slice ca cn cc] W (RefOut W er RB RA)) := fun W hk => by
          rw [her, hRB, hRA]
          exact refReplay_any up ea en ec la ln lc room ca cn cc es ls xs W (HE.out.no hk) (HLs.out.no hk) hec (HGd.out.fine.mono (by omega)) HL.out hcn (RowsAt.no HX.out hk)
        clear her hRB hRA
        go_upto_region 4 with fail
        refine WL.start ?_
        refine tK (.int .i64 ((i : Nat) : Int)) ?_
        refine tK (.slice ca cn cc) ?_
        refine tK (.int .i64 ((cn : Nat) : Int)) ?_
        refine tW (.bool false) (exec_bin .lss 3 _ _ _ rfl (.int .i64 ((i : Nat) : Int)) (.int .i64 ((cn : Nat) : Int)) (.bool false) (by kernel_rfl) (by kernel_rfl) (by kernel_rfl) (by rw [b_lss, decide_eq_false (by omega)])) ?_
        try simp only [pA, pB, p1, p2, p3]
        refine WL.nil ?_
        try simp only [pA, pB, p1, p2, p3]
        go_upto_region 8 with fail
        refine WL.start ?_
        refine tW (.agg (Bv.cells ⟨up, ⟨ea, en, ec⟩, ⟨la, ln, lc⟩⟩)) (exec_load 25 _ rfl ⟨gk1, 0, none⟩ (by kernel_rfl) (.agg (Bv.cells ⟨up, ⟨ea, en, ec⟩, ⟨la, ln, lc⟩⟩)) (ld25 (HF.out.box 0 _ _ _ rfl))) ?_
        try simp only [pA, pB, p1, p2, p3]
        refine wp_callW 17 #[.agg (Bv.cells ⟨up, ⟨ea, en, ec⟩, ⟨la, ln, lc⟩⟩)] (by kernel_rfl) _ (lend_any up ea en ec la ln lc es ls _ (HE.out.no HF.out.kept) (HLs.out.no HF.out.kept) (by omega) (by omega)) (by kernel_rfl) ?_
        rintro e wk11 ⟨g, h, rfl, hg0, hh0, hg, hh, hk⟩
        have HF : Hid (Fr No w wk11 [(gk1, 25, Bv.cells ⟨up, ⟨ea, en, ec⟩, ⟨la, ln, lc⟩⟩), (g, 54, (enL (es ++ [markE])).toArray), (h, 64, (laL (ls ++ [markL])).toArray)]) := HF.out.joinV hk hg0 hh0 hg hh (by decide)
        clear hg0 hh0 hg hh hk
        refine ⟨.agg (Bv.cells ⟨up, ⟨(some ⟨g, 0, none⟩), en, (en + 1)⟩, ⟨(some ⟨h, 0, none⟩), ln, (ln + 1)⟩⟩), rfl, ?_⟩
        try simp only [pA, pB, p1, p2, p3]
        refine wp_runW (.pointer (some ⟨wk11.heap.size, 0, none⟩)) (wk11.alloc (.cells (Bv.cells bvZ) 25)) (exec_alloc 25 rfl (Bv.cells bvZ) zero25) (by kernel_rfl) ?_
        try simp only [pA, pB, p1, p2, p3]
        have HF : Hid (Fr No w (wk11.alloc (.cells (Bv.cells bvZ) 25)) [(gk1, 25, Bv.cells ⟨up, ⟨ea, en, ec⟩, ⟨la, ln, lc⟩⟩), (g, 54, (enL (es ++ [markE])).toArray), (h, 64, (laL (ls ++ [markL])).toArray), (wk11.heap.size, 25, Bv.cells bvZ)]) := HF.out.alloc _ _
        generalize wk11.alloc (.cells (Bv.cells bvZ) 25) = wk13 at HF ⊢
        generalize wk11.heap.size = gk12 at HF ⊢
        refine wp_storeW 25 _ _ rfl ⟨gk12, 0, none⟩ (.agg (Bv.cells ⟨up, ⟨(some ⟨g, 0, none⟩), en, (en + 1)⟩, ⟨(some ⟨h, 0, none⟩), ln, (ln + 1)⟩⟩)) (by kernel_rfl) (by kernel_rfl) (wk13.setRow gk12 (Bv.cells ⟨up, ⟨(some ⟨g, 0, none⟩), en, (en + 1)⟩, ⟨(some ⟨h, 0, none⟩), ln, (ln + 1)⟩⟩)) (st25 (HF.out.box 3 _ _ _ rfl) rfl) (by kernel_rfl) ?_
        try simp only [pA, pB, p1, p2, p3]
        have HF : Hid (Fr No w (wk13.setRow gk12 (Bv.cells ⟨up, ⟨(some ⟨g, 0, none⟩), en, (en + 1)⟩, ⟨(some ⟨h, 0, none⟩), ln, (ln + 1)⟩⟩)) [(gk1, 25, Bv.cells ⟨up, ⟨ea, en, ec⟩, ⟨la, ln, lc⟩⟩), (g, 54, (enL (es ++ [markE])).toArray), (h, 64, (laL (ls ++ [markL])).toArray), (gk12, 25, Bv.cells ⟨up, ⟨(some ⟨g, 0, none⟩), en, (en + 1)⟩, ⟨(some ⟨h, 0, none⟩), ln, (ln + 1)⟩⟩)]) := HF.out.set 3 rfl _
        generalize wk13.setRow gk12 (Bv.cells ⟨up, ⟨(some ⟨g, 0, none⟩), en, (en + 1)⟩, ⟨(some ⟨h, 0, none⟩), ln, (ln + 1)⟩⟩) = wk14 at HF ⊢
        refine WL.nil ?_
        try simp only [pA, pB, p1, p2, p3]
        go_upto_region 9 with fail
        refine WL.start ?_
        refine wp_runW (.slice (some ⟨wk14.heap.size, 0, none⟩) 0 0) (wk14.alloc (.cells #[] 29)) (exec_slice0 34 29 rfl (slice0_cm _)) (by kernel_rfl) ?_
        try simp only [pA, pB, p1, p2, p3]
        have HN : Hid (Own 29 9 (wk14.alloc (.cells #[] 29)) w.heap.size (some ⟨wk14.heap.size, 0, none⟩) 0 0 []) := own0 HF.out.kept.size (Box.new _ _ _)
        have HF : Hid (Fr No w (wk14.alloc (.cells #[] 29)) [(gk1, 25, Bv.cells ⟨up, ⟨ea, en, ec⟩, ⟨la, ln, lc⟩⟩), (g, 54, (enL (es ++ [markE])).toArray), (h, 64, (laL (ls ++ [markL])).toArray), (gk12, 25, Bv.cells ⟨up, ⟨(some ⟨g, 0, none⟩), en, (en + 1)⟩, ⟨(some ⟨h, 0, none⟩), ln, (ln + 1)⟩⟩)]) := HF.out.no ((Kept.refl No _).alloc _)
        generalize wk14.alloc (.cells #[] 29) = wk15 at HF HN ⊢
        generalize wk14.heap.size = gk16 at HN ⊢
        refine tK (.slice ca cn cc) ?_
        try simp only [pA, pB, p1, p2, p3]
        obtain ⟨oa, oc, wk17, hrun, hO, hk, hA⟩ := run_appN (w := wk15) 34 34 29 9 80 (.agg cZ.cells) Try.und34 Try.info29 rfl (by omega) w.heap.size 0 0 (some ⟨gk16, 0, none⟩) [] HN.out ca cn cc (cmL xs) (by rw [cmL_len, HL.out]) Hcc.out (Cs.src (RowsAt.no HX.out HF.out.kept)) (cmL_one _) (by omega) (by omega) HF.out.kept.size
        rw [Nat.zero_add] at hrun hO
        refine wp_runW (.slice oa cn oc) wk17 (exec_appN _ _ 34 34 rfl _ _ (by kernel_rfl) (by kernel_rfl) hrun) (by kernel_rfl) ?_
        try simp only [pA, pB, p1, p2, p3]
        have HF : Hid (Fr No w wk17 [(gk1, 25, Bv.cells ⟨up, ⟨ea, en, ec⟩, ⟨la, ln, lc⟩⟩), (g, 54, (enL (es ++ [markE])).toArray), (h, 64, (laL (ls ++ [markL])).toArray), (gk12, 25, Bv.cells ⟨up, ⟨(some ⟨g, 0, none⟩), en, (en + 1)⟩, ⟨(some ⟨h, 0, none⟩), ln, (ln + 1)⟩⟩)]) := HF.out.app HN.out hk (by simp)
        have HOC : Hid (Own 29 9 wk17 w.heap.size oa oc cn (cmL xs)) := hO
        clear hrun hO hk hA HN
        refine tK (.slice oa cn oc) ?_
        try simp only [pA, pB, p1, p2, p3]
        refine WL.nil ?_
        try simp only [pA, pB, p1, p2, p3]
        go_upto_region 10 with fail
        refine WL.start ?_
        refine tW (.agg (Bv.cells ⟨up, ⟨(some ⟨g, 0, none⟩), en, (en + 1)⟩, ⟨(some ⟨h, 0, none⟩), ln, (ln + 1)⟩⟩)) (exec_load 25 _ rfl ⟨gk12, 0, none⟩ (by kernel_rfl) (.agg (Bv.cells ⟨up, ⟨(some ⟨g, 0, none⟩), en, (en + 1)⟩, ⟨(some ⟨h, 0, none⟩), ln, (ln + 1)⟩⟩)) (ld25 (HF.out.box 3 _ _ _ rfl))) ?_
        refine tK (.int .i64 room) ?_
        refine tK (.slice oa cn oc) ?_
        try simp only [pA, pB, p1, p2, p3]
        refine wp_callW 18 #[.agg (Bv.cells ⟨up, ⟨(some ⟨g, 0, none⟩), en, (en + 1)⟩, ⟨(some ⟨h, 0, none⟩), ln, (ln + 1)⟩⟩), .int .i64 room, .slice oa cn oc] (by kernel_rfl) _ (HRP.out _ g h oa oc (HF.out.box 1 _ _ _ rfl) (HF.out.box 2 _ _ _ rfl) (Own.rows HOC.out (cmL_c xs) (by omega))) (by kernel_rfl) ?_
        obtain ⟨b1, hb1⟩ : ∃ b, b = wk17.heap.size := ⟨_, rfl⟩
        rintro e wk18 ⟨⟨xu, ⟨xa, xn, xc⟩, ⟨ta, tn, tc⟩⟩, ⟨aa, an, ac⟩, vs, rfl, hB, hA, hle1, f1, f2, f3, hk⟩
        have hgb : g < b1 := by rw [hb1]; exact (HF.out.box 1 _ _ _ rfl).lt
        have hhb : h < b1 := by rw [hb1]; exact (HF.out.box 2 _ _ _ rfl).lt
        rw [← hb1] at hA f1 f2 f3
        have HX1 : Hid (BkAt wk18 ⟨xu, ⟨xa, xn, xc⟩, ⟨ta, tn, tc⟩⟩ RB) := hB
        have HA1 : Hid (Ans wk18 b1 ⟨aa, an, ac⟩ vs RA) := hA
        have HF1 : Hid ((∀ k, At xa k → b1 ≤ k) ∧ (∀ k, At ta k → b1 ≤ k) ∧ ∀ (i : Nat) x, vs[i]? = some x → ∀ k, At x.l.a k → b1 ≤ k) := ⟨f1, f2, f3⟩
        have HOC : Hid (Own 29 9 (wk18) w.heap.size oa oc cn (cmL xs)) := HOC.out.no hk
        have HF : Hid (Fr No w (wk18) [(gk1, 25, Bv.cells ⟨up, ⟨ea, en, ec⟩, ⟨la, ln, lc⟩⟩), (g, 54, (enL (es ++ [markE])).toArray), (h, 64, (laL (ls ++ [markL])).toArray), (gk12, 25, Bv.cells ⟨up, ⟨(some ⟨g, 0, none⟩), en, (en + 1)⟩, ⟨(some ⟨h, 0, none⟩), ln, (ln + 1)⟩⟩)]) := HF.out.no hk
        clear hB hA hle1 f1 f2 f3 hk hb1 HRP
        refine ⟨.tuple #[.agg (Bv.cells ⟨xu, ⟨xa, xn, xc⟩, ⟨ta, tn, tc⟩⟩), .slice aa an ac, .int .i64 er], rfl, ?_⟩
        try simp only [pA, pB, p1, p2, p3]
        refine tK (.tuple #[.agg (Bv.cells ⟨xu, ⟨xa, xn, xc⟩, ⟨ta, tn, tc⟩⟩), .slice aa an ac, .int .i64 er]) ?_
        refine tK (.agg (Bv.cells ⟨xu, ⟨xa, xn, xc⟩, ⟨ta, tn, tc⟩⟩)) ?_
        refine tK (.slice aa an ac) ?_
        refine tK (.int .i64 er) ?_
        try simp only [pA, pB, p1, p2, p3]
        refine wp_runW (.pointer (some ⟨wk18.heap.size, 0, none⟩)) (wk18.alloc (.cells (Bv.cells bvZ) 25)) (exec_alloc 25 rfl (Bv.cells bvZ) zero25) (by kernel_rfl) ?_
        try simp only [pA, pB, p1, p2, p3]
        have HOC : Hid (Own 29 9 (wk18.alloc (.cells (Bv.cells bvZ) 25)) w.heap.size oa oc cn (cmL xs)) := HOC.out.no ((Kept.refl No _).alloc _)
        have HX1 : Hid (BkAt (wk18.alloc (.cells (Bv.cells bvZ) 25)) ⟨xu, ⟨xa, xn, xc⟩, ⟨ta, tn, tc⟩⟩ RB) := HX1.out.no ((Kept.refl No _).alloc _)
        have HA1 : Hid (Ans (wk18.alloc (.cells (Bv.cells bvZ) 25)) b1 ⟨aa, an, ac⟩ vs RA) := HA1.out.no ((Kept.refl No _).alloc _)
        have HF : Hid (Fr No w (wk18.alloc (.cells (Bv.cells bvZ) 25)) [(gk1, 25, Bv.cells ⟨up, ⟨ea, en, ec⟩, ⟨la, ln, lc⟩⟩), (g, 54, (enL (es ++ [markE])).toArray), (h, 64, (laL (ls ++ [markL])).toArray), (gk12, 25, Bv.cells ⟨up, ⟨(some ⟨g, 0, none⟩), en, (en + 1)⟩, ⟨(some ⟨h, 0, none⟩), ln, (ln + 1)⟩⟩), (wk18.heap.size, 25, Bv.cells bvZ)]) := HF.out.alloc _ _
        generalize wk18.alloc (.cells (Bv.cells bvZ) 25) = wk20 at HF HOC HX1 HA1 ⊢
        generalize wk18.heap.size = gk19 at HF ⊢
        refine wp_storeW 25 _ _ rfl ⟨gk19, 0, none⟩ (.agg (Bv.cells ⟨xu, ⟨xa, xn, xc⟩, ⟨ta, tn, tc⟩⟩)) (by kernel_rfl) (by kernel_rfl) (wk20.setRow gk19 (Bv.cells ⟨xu, ⟨xa, xn, xc⟩, ⟨ta, tn, tc⟩⟩)) (st25 (HF.out.box 4 _ _ _ rfl) rfl) (by kernel_rfl) ?_
        try simp only [pA, pB, p1, p2, p3]
        have HOC : Hid (Own 29 9 (wk20.setRow gk19 (Bv.cells ⟨xu, ⟨xa, xn, xc⟩, ⟨ta, tn, tc⟩⟩)) w.heap.size oa oc cn (cmL xs)) := HOC.out.kept (Kept.setRow _ _ _) (fun k hk e => HOC.out.notBox (HF.out.box 4 _ _ _ rfl) (by decide) ((show k = gk19 from e) ▸ hk))
        have HX1 : Hid (BkAt (wk20.setRow gk19 (Bv.cells ⟨xu, ⟨xa, xn, xc⟩, ⟨ta, tn, tc⟩⟩)) ⟨xu, ⟨xa, xn, xc⟩, ⟨ta, tn, tc⟩⟩ RB) := HX1.out.row (HF.out.box 4 _ _ _ rfl) (by decide) (by decide) _
        have HA1 : Hid (Ans (wk20.setRow gk19 (Bv.cells ⟨xu, ⟨xa, xn, xc⟩, ⟨ta, tn, tc⟩⟩)) b1 ⟨aa, an, ac⟩ vs RA) := HA1.out.row (HF.out.box 4 _ _ _ rfl) (by decide) (by decide) _
        have HF : Hid (Fr No w (wk20.setRow gk19 (Bv.cells ⟨xu, ⟨xa, xn, xc⟩, ⟨ta, tn, tc⟩⟩)) [(gk1, 25, Bv.cells ⟨up, ⟨ea, en, ec⟩, ⟨la, ln, lc⟩⟩), (g, 54, (enL (es ++ [markE])).toArray), (h, 64, (laL (ls ++ [markL])).toArray), (gk12, 25, Bv.cells ⟨up, ⟨(some ⟨g, 0, none⟩), en, (en + 1)⟩, ⟨(some ⟨h, 0, none⟩), ln, (ln + 1)⟩⟩), (gk19, 25, Bv.cells ⟨xu, ⟨xa, xn, xc⟩, ⟨ta, tn, tc⟩⟩)]) := HF.out.set 4 rfl _
        generalize wk20.setRow gk19 (Bv.cells ⟨xu, ⟨xa, xn, xc⟩, ⟨ta, tn, tc⟩⟩) = wk21 at HF HOC HX1 HA1 ⊢
        refine tK (.slice aa an ac) ?_
        refine tK (.int .i64 er) ?_
        try simp only [pA, pB, p1, p2, p3]
        refine WL.nil ?_
        try simp only [pA, pB, p1, p2, p3]
        go_upto_region 11 with fail
        refine WL.start ?_
        refine tW (.agg (Bv.cells ⟨up, ⟨(some ⟨g, 0, none⟩), en, (en + 1)⟩, ⟨(some ⟨h, 0, none⟩), ln, (ln + 1)⟩⟩)) (exec_load 25 _ rfl ⟨gk12, 0, none⟩ (by kernel_rfl) (.agg (Bv.cells ⟨up, ⟨(some ⟨g, 0, none⟩), en, (en + 1)⟩, ⟨(some ⟨h, 0, none⟩), ln, (ln + 1)⟩⟩)) (ld25 (HF.out.box 3 _ _ _ rfl))) ?_
        refine tW (.agg (Bv.cells ⟨up, ⟨ea, en, ec⟩, ⟨la, ln, lc⟩⟩)) (exec_load 25 _ rfl ⟨gk1, 0, none⟩ (by kernel_rfl) (.agg (Bv.cells ⟨up, ⟨ea, en, ec⟩, ⟨la, ln, lc⟩⟩)) (ld25 (HF.out.box 0 _ _ _ rfl))) ?_
        try simp only [pA, pB, p1, p2, p3]
        refine wp_callW 19 #[.agg (Bv.cells ⟨up, ⟨(some ⟨g, 0, none⟩), en, (en + 1)⟩, ⟨(some ⟨h, 0, none⟩), ln, (ln + 1)⟩⟩), .agg (Bv.cells ⟨up, ⟨ea, en, ec⟩, ⟨la, ln, lc⟩⟩)] (by kernel_rfl) _ (back_any g h up ea en ec la ln lc es ls _ (HF.out.box 1 _ _ _ rfl) (HF.out.box 2 _ _ _ rfl) (HE.out.no HF.out.kept) (HLs.out.no HF.out.kept) (by omega) (by omega)) (by kernel_rfl) ?_
        rintro e wk22 ⟨rfl, hk⟩
        have HX1 : Hid (BkAt wk22 ⟨xu, ⟨xa, xn, xc⟩, ⟨ta, tn, tc⟩⟩ RB) := HX1.out.kept2 hk (fun k h1 e => by have := HF1.out.1 k h1; rcases e with rfl | rfl <;> omega) (fun k h1 e => by have := HF1.out.2.1 k h1; rcases e with rfl | rfl <;> omega)
        have HA1 : Hid (Ans wk22 b1 ⟨aa, an, ac⟩ vs RA) := HA1.out.kept hk (fun k h1 e => by have := HA1.out.own.base h1; rcases e with rfl | rfl <;> omega) (fun i x hx k h1 e => by have := HF1.out.2.2 i x hx k h1; rcases e with rfl | rfl <;> omega)
        have HOC : Hid (Own 29 9 wk22 w.heap.size oa oc cn (cmL xs)) := HOC.out.kept hk (fun k h1 e => by
          rcases e with rfl | rfl
          · exact HOC.out.notBox (HF.out.box 1 _ _ _ rfl) (by decide) h1
          · exact HOC.out.notBox (HF.out.box 2 _ _ _ rfl) (by decide) h1)
        have HF : Hid (Fr No w wk22 [(gk1, 25, Bv.cells ⟨up, ⟨ea, en, ec⟩, ⟨la, ln, lc⟩⟩), (gk12, 25, Bv.cells ⟨up, ⟨(some ⟨g, 0, none⟩), en, (en + 1)⟩, ⟨(some ⟨h, 0, none⟩), ln, (ln + 1)⟩⟩), (gk19, 25, Bv.cells ⟨xu, ⟨xa, xn, xc⟩, ⟨ta, tn, tc⟩⟩)]) := HF.out.lendV hk
        clear hk hgb hhb
        refine ⟨.bool true, rfl, ?_⟩
        try simp only [pA, pB, p1, p2, p3]
        refine tK (.bool false) ?_
        try simp only [pA, pB, p1, p2, p3]
        refine WL.nil ?_
        try simp only [pA, pB, p1, p2, p3]
        have HS1 : Hid (∀ k, At aa k → k < wk22.heap.size) := fun k hk => HA1.out.own.lt hk
        clear HF1 HS1
        go_wp2
        go_loopw [15] (fun v15 wr => ∃ (i : Nat) (ys : List Cm), v15 = .int .i64 ((i : Nat) : Int) ∧ i ≤ cn ∧ ys.length = cn ∧ Hid (∀ j, i ≤ j → ys[j]? = xs[j]?) ∧ Hid (Fr No w wr [(gk1, 25, Bv.cells ⟨up, ⟨ea, en, ec⟩, ⟨la, ln, lc⟩⟩), (gk12, 25, Bv.cells ⟨up, ⟨(some ⟨g, 0, none⟩), en, (en + 1)⟩, ⟨(some ⟨h, 0, none⟩), ln, (ln + 1)⟩⟩), (gk19, 25, Bv.cells ⟨xu, ⟨xa, xn, xc⟩, ⟨ta, tn, tc⟩⟩)]) ∧ Hid (BkAt wr ⟨xu, ⟨xa, xn, xc⟩, ⟨ta, tn, tc⟩⟩ RB) ∧ Hid (Ans wr b1 ⟨aa, an, ac⟩ vs RA) ∧ Hid (Own 29 9 wr w.heap.size oa oc cn (cmL ys))) (fun i _ => cn - (intOf i).toNat)
        case atStart => exact ⟨0, xs, by go_num, by omega, HL.out, fun _ _ => rfl, HF, HX1, HA1, HOC⟩
        case round =>
          clear HF HX1 HA1 HOC
          obtain ⟨i, ys, rfl, hi, hyl, HYs, HF, HX1, HA1, HOC⟩ := hrel
          by_cases hlt : i < cn
          · skip
            obtain ⟨xb, xo, e0, hcell⟩ := Cs.at HX.out (i := i) (by rw [HL.out]; exact hlt)
            subst e0
            obtain ⟨gc, _, e1, _⟩ := own_setC HOC.out hyl hlt cZ
            subst e1
            obtain ⟨b', o', e2, hcell2⟩ := Own.rows HOC.out (cmL_c ys) (by omega) i (cAt xs i).cs (by rw [List.getElem?_map, HYs.out i (Nat.le_refl _), cAt_some (by rw [HL.out]; exact hlt)]; rfl)
            cases e2
            have HCE : Hid (∀ (j : Nat) v, (cAt xs i).cs[j]? = some v → wr.cell? ⟨xb, xo + i * 9 + j, none⟩ = some v) := fun j v hv => HF.out.kept.cell (hcell j v hv) (fun e => e)
            have HCa : Hid (∀ (j : Nat) v, (cAt xs i).cs[j]? = some v → wr.cell? ⟨gc, 0 + i * 9 + j, none⟩ = some v) := hcell2
            clear hcell hcell2
            generalize cAt xs i = x at HCE HCa
            go_upto_region 14 with fail
            refine WL.start ?_
            refine tK (.int .i64 ((i : Nat) : Int)) ?_
            refine tK (.slice (some ⟨xb, xo, none⟩) cn cc) ?_
            refine tK (.int .i64 ((cn : Nat) : Int)) ?_
            refine tW (.bool true) (exec_bin .lss 3 _ _ _ rfl (.int .i64 ((i : Nat) : Int)) (.int .i64 ((cn : Nat) : Int)) (.bool true) (by kernel_rfl) (by kernel_rfl) (by kernel_rfl) (by rw [b_lss, decide_eq_true (by omega)])) ?_
            try simp only [pA, pB, p1, p2, p3]
            refine WL.nil ?_
            try simp only [pA, pB, p1, p2, p3]
            go_upto_region 16 with fail
            refine wp_region_held_drew (S := fun w' => Kept No wr w') rfl (Kept.refl No wr).drew (fun hH => ?_)
            have HX1 : Hid (BkAt (wr.drew) ⟨xu, ⟨xa, xn, xc⟩, ⟨ta, tn, tc⟩⟩ RB) := HX1.out.no (Kept.refl No _).drew
            have HA1 : Hid (Ans (wr.drew) b1 ⟨aa, an, ac⟩ vs RA) := HA1.out.no (Kept.refl No _).drew
            have HOC : Hid (Own 29 9 (wr.drew) w.heap.size (some ⟨gc, 0, none⟩) oc cn (cmL ys)) := HOC.out.no (Kept.refl No _).drew
            have HF : Hid (Fr No w (wr.drew) [(gk1, 25, Bv.cells ⟨up, ⟨ea, en, ec⟩, ⟨la, ln, lc⟩⟩), (gk12, 25, Bv.cells ⟨up, ⟨(some ⟨g, 0, none⟩), en, (en + 1)⟩, ⟨(some ⟨h, 0, none⟩), ln, (ln + 1)⟩⟩), (gk19, 25, Bv.cells ⟨xu, ⟨xa, xn, xc⟩, ⟨ta, tn, tc⟩⟩)]) := HF.out.drew
            generalize wr.drew = wk23 at HF HX1 HA1 HOC hH ⊢
            refine aT (i := 0) (oi := { dst := some 79, op := Op.move (Operand.tmp 11), type := 34, pos := "law.go:187", after := #[], guard := none }) (v := .slice (some ⟨gc, 0, none⟩) cn oc) (fun _ _ => by kernel_rfl) hH ?_
            refine aT (i := 1) (oi := { dst := some 80, op := Op.move (Operand.tmp 15), type := 3, pos := "law.go:187", after := #[], guard := none }) (v := .int .i64 ((i : Nat) : Int)) (fun _ _ => by kernel_rfl) hH ?_
            refine aT (i := 2) (oi := { dst := some 81, op := Op.indexAddr 34 (Operand.tmp 79) (Operand.tmp 80), type := 0, pos := "law.go:187", after := #[{ on := 0, ground := Ground.data }, { on := 1, ground := Ground.data }], guard := none }) (v := .pointer (some ⟨gc, 0 + i * 9, none⟩)) (fun w' hw => exec_ixA 34 9 Try.und34e Try.size34e _ _ rfl gc 0 cn oc i (by kernel_rfl) (by kernel_rfl) hlt) hH ?_
            refine aT (i := 3) (oi := { dst := some 82, op := Op.load 29 (Operand.tmp 81), type := 29, pos := "law.go:187", after := #[{ on := 2, ground := Ground.data }], guard := none }) (v := .agg (Cm.cells x)) (fun w' hw => exec_load 29 _ rfl ⟨gc, 0 + i * 9, none⟩ (by kernel_rfl) (.agg (Cm.cells x)) (load_Ca (fun j v h => hw.cell (HCa.out j v h) (fun e => e)))) hH ?_
            refine aT (i := 4) (oi := { dst := some 83, op := Op.move (Operand.tmp 2), type := 34, pos := "law.go:187", after := #[], guard := none }) (v := .slice (some ⟨xb, xo, none⟩) cn cc) (fun _ _ => by kernel_rfl) hH ?_
            refine aT (i := 5) (oi := { dst := some 84, op := Op.move (Operand.tmp 15), type := 3, pos := "law.go:187", after := #[], guard := none }) (v := .int .i64 ((i : Nat) : Int)) (fun _ _ => by kernel_rfl) hH ?_
            refine aT (i := 6) (oi := { dst := some 85, op := Op.indexAddr 34 (Operand.tmp 83) (Operand.tmp 84), type := 0, pos := "law.go:187", after := #[{ on := 4, ground := Ground.data }, { on := 5, ground := Ground.data }], guard := none }) (v := .pointer (some ⟨xb, xo + i * 9, none⟩)) (fun w' hw => exec_ixA 34 9 Try.und34e Try.size34e _ _ rfl xb xo cn cc i (by kernel_rfl) (by kernel_rfl) hlt) hH ?_
            refine aT (i := 7) (oi := { dst := some 86, op := Op.load 29 (Operand.tmp 85), type := 29, pos := "law.go:187", after := #[{ on := 6, ground := Ground.data }], guard := none }) (v := .agg (Cm.cells x)) (fun w' hw => exec_load 29 _ rfl ⟨xb, xo + i * 9, none⟩ (by kernel_rfl) (.agg (Cm.cells x)) (load_Ca (fun j v h => hw.cell (HCE.out j v h) (fun e => e)))) hH ?_
            refine aT (i := 8) (oi := { dst := some 87, op := Op.binOp BinOp.neq 29 (Operand.tmp 82) (Operand.tmp 86) 29, type := 4, pos := "law.go:187", after := #[{ on := 3, ground := Ground.data }, { on := 7, ground := Ground.data }], guard := none }) (v := .bool false) (fun w' hw => exec_bin .neq 29 _ _ _ rfl (.agg (Cm.cells x)) (.agg (Cm.cells x)) (.bool false) (by kernel_rfl) (by kernel_rfl) (by kernel_rfl) (neq29 x _)) hH ?_
            try simp only [pA, pB, p1, p2, p3]
            refine wpAnyH_done (by kernel_rfl) ?_ _
            try simp only [pA, pB, p1, p2, p3]
            clear hH
            go_upto_region 18 with fail
            refine WL.start ?_
            refine tK (.slice (some ⟨gc, 0, none⟩) cn oc) ?_
            refine tK (.int .i64 ((i : Nat) : Int)) ?_
            refine tW (.agg (Cm.cells cZ)) (exec_build 29 _ rfl (Cm.cells cZ) (by kernel_rfl)) ?_
            refine tW (.pointer (some ⟨gc, 0 + i * 9, none⟩)) (exec_ixA 34 9 Try.und34e Try.size34e _ _ rfl gc 0 cn oc i (by kernel_rfl) (by kernel_rfl) hlt) ?_
            try simp only [pA, pB, p1, p2, p3]
            obtain ⟨gc', cur, e0, hgb, hbx, hrun, hown⟩ := own_setC HOC.out hyl hlt cZ
            cases e0
            refine wp_storeW 29 _ _ rfl ⟨gc, 0 + i * 9, none⟩ (.agg (Cm.cells cZ)) (by kernel_rfl) (by kernel_rfl) (wk23.setRow gc (putL cur (0 + i * 9) (Cm.cs cZ)).toArray) hrun (by kernel_rfl) ?_
            try simp only [pA, pB, p1, p2, p3]
            have HF : Hid (Fr No w (wk23.setRow gc (putL cur (0 + i * 9) (Cm.cs cZ)).toArray) [(gk1, 25, Bv.cells ⟨up, ⟨ea, en, ec⟩, ⟨la, ln, lc⟩⟩), (gk12, 25, Bv.cells ⟨up, ⟨(some ⟨g, 0, none⟩), en, (en + 1)⟩, ⟨(some ⟨h, 0, none⟩), ln, (ln + 1)⟩⟩), (gk19, 25, Bv.cells ⟨xu, ⟨xa, xn, xc⟩, ⟨ta, tn, tc⟩⟩)]) := HF.out.rowO hbx hgb (by simp) _
            have HX1 : Hid (BkAt (wk23.setRow gc (putL cur (0 + i * 9) (Cm.cs cZ)).toArray) ⟨xu, ⟨xa, xn, xc⟩, ⟨ta, tn, tc⟩⟩ RB) := HX1.out.row hbx (by decide) (by decide) _
            have HA1 : Hid (Ans (wk23.setRow gc (putL cur (0 + i * 9) (Cm.cs cZ)).toArray) b1 ⟨aa, an, ac⟩ vs RA) := HA1.out.row hbx (by decide) (by decide) _
            have HOC : Hid (Own 29 9 (wk23.setRow gc (putL cur (0 + i * 9) (Cm.cs cZ)).toArray) w.heap.size (some ⟨gc, 0, none⟩) oc cn (cmL (ys.set i cZ))) := hown
            clear hrun hown hbx hgb
            generalize wk23.setRow gc (putL cur (0 + i * 9) (Cm.cs cZ)).toArray = wk24 at HF HX1 HA1 HOC ⊢
            refine WL.nil ?_
            try simp only [pA, pB, p1, p2, p3]
            have HYs2 : Hid (∀ j, i + 1 ≤ j → (ys.set i cZ)[j]? = xs[j]?) := fun j hj => by rw [List.getElem?_set_ne (by omega)]; exact HYs.out j (by omega)
            go_wp2
            go_roundw
            case rel => exact ⟨i + 1, ys.set i cZ, by go_num, by omega, by rw [List.length_set]; exact hyl, HYs2, HF, HX1, HA1, HOC⟩
            case measure => simp [intOf]; omega
          · skip
            clear HOC HYs hyl
            go_upto_region 14 with fail
            refine WL.start ?_
            refine tK (.int .i64 ((i : Nat) : Int)) ?_
            refine tK (.slice ca cn cc) ?_
            refine tK (.int .i64 ((cn : Nat) : Int)) ?_
            refine tW (.bool false) (exec_bin .lss 3 _ _ _ rfl (.int .i64 ((i : Nat) : Int)) (.int .i64 ((cn : Nat) : Int)) (.bool false) (by kernel_rfl) (by kernel_rfl) (by kernel_rfl) (by rw [b_lss, decide_eq_false (by omega)])) ?_
            try simp only [pA, pB, p1, p2, p3]
            refine WL.nil ?_
            try simp only [pA, pB, p1, p2, p3]
            go_upto_region 19 with fail
            refine WL.start ?_
            refine tW (.agg (Bv.cells ⟨up, ⟨ea, en, ec⟩, ⟨la, ln, lc⟩⟩)) (exec_load 25 _ rfl ⟨gk1, 0, none⟩ (by kernel_rfl) (.agg (Bv.cells ⟨up, ⟨ea, en, ec⟩, ⟨la, ln, lc⟩⟩)) (ld25 (HF.out.box 0 _ _ _ rfl))) ?_
            refine tK (.int .i64 room) ?_
            refine tK (.slice ca cn cc) ?_
            try simp only [pA, pB, p1, p2, p3]
            refine wp_callW 20 #[.agg (Bv.cells ⟨up, ⟨ea, en, ec⟩, ⟨la, ln, lc⟩⟩), .int .i64 room, .slice ca cn cc] (by kernel_rfl) _ (HRR.out _ HF.out.kept) (by kernel_rfl) ?_
            obtain ⟨b2, hb2⟩ : ∃ b, b = wr.heap.size := ⟨_, rfl⟩
            rintro e wk25 ⟨⟨ru, ⟨da, dn, dc⟩, ⟨fa0, fn0, fc0⟩⟩, ⟨ga, gn, gd⟩, us, rfl, hu, h1, h2, hA, hk⟩
            rw [← hb2] at hA
            have HU : Hid (xu = ru) := HX1.out.up.trans hu.symm
            have HY1 : Hid (RdE wk25 ⟨da, dn, dc⟩ RB.es) := h1
            have HY2 : Hid (RdL wk25 ⟨fa0, fn0, fc0⟩ RB.ls) := h2
            have HA2 : Hid (Ans wk25 b2 ⟨ga, gn, gd⟩ us RA) := hA
            have HX1 : Hid (BkAt (wk25) ⟨xu, ⟨xa, xn, xc⟩, ⟨ta, tn, tc⟩⟩ RB) := HX1.out.no hk
            have HA1 : Hid (Ans (wk25) b1 ⟨aa, an, ac⟩ vs RA) := HA1.out.no hk
            have HF : Hid (Fr No w (wk25) [(gk1, 25, Bv.cells ⟨up, ⟨ea, en, ec⟩, ⟨la, ln, lc⟩⟩), (gk12, 25, Bv.cells ⟨up, ⟨(some ⟨g, 0, none⟩), en, (en + 1)⟩, ⟨(some ⟨h, 0, none⟩), ln, (ln + 1)⟩⟩), (gk19, 25, Bv.cells ⟨xu, ⟨xa, xn, xc⟩, ⟨ta, tn, tc⟩⟩)]) := HF.out.no hk
            clear hu h1 h2 hA hk hb2 HRR
            refine ⟨.tuple #[.agg (Bv.cells ⟨ru, ⟨da, dn, dc⟩, ⟨fa0, fn0, fc0⟩⟩), .slice ga gn gd, .int .i64 er], rfl, ?_⟩
            try simp only [pA, pB, p1, p2, p3]
            refine tK (.tuple #[.agg (Bv.cells ⟨ru, ⟨da, dn, dc⟩, ⟨fa0, fn0, fc0⟩⟩), .slice ga gn gd, .int .i64 er]) ?_
            refine tK (.agg (Bv.cells ⟨ru, ⟨da, dn, dc⟩, ⟨fa0, fn0, fc0⟩⟩)) ?_
            refine tK (.slice ga gn gd) ?_
            refine tK (.int .i64 er) ?_
            try simp only [pA, pB, p1, p2, p3]
            refine wp_runW (.pointer (some ⟨wk25.heap.size, 0, none⟩)) (wk25.alloc (.cells (Bv.cells bvZ) 25)) (exec_alloc 25 rfl (Bv.cells bvZ) zero25) (by kernel_rfl) ?_
            try simp only [pA, pB, p1, p2, p3]
            have HX1_s : Hid (BkAt wk25 ⟨xu, ⟨xa, xn, xc⟩, ⟨ta, tn, tc⟩⟩ RB) := HX1
            have HA1_s : Hid (Ans wk25 b1 ⟨aa, an, ac⟩ vs RA) := HA1
            have HY1_s : Hid (RdE wk25 ⟨da, dn, dc⟩ RB.es) := HY1
            have HY2_s : Hid (RdL wk25 ⟨fa0, fn0, fc0⟩ RB.ls) := HY2
            have HA2_s : Hid (Ans wk25 b2 ⟨ga, gn, gd⟩ us RA) := HA2
            have HKs : Hid (Kept No wk25 wk25) := Kept.refl _ _
            have HG_gk26 : Hid (wk25.heap.size ≤ wk25.heap.size) := Nat.le_refl _
            have HX1 : Hid (BkAt (wk25.alloc (.cells (Bv.cells bvZ) 25)) ⟨xu, ⟨xa, xn, xc⟩, ⟨ta, tn, tc⟩⟩ RB) := HX1.out.no ((Kept.refl No _).alloc _)
            have HA1 : Hid (Ans (wk25.alloc (.cells (Bv.cells bvZ) 25)) b1 ⟨aa, an, ac⟩ vs RA) := HA1.out.no ((Kept.refl No _).alloc _)
            have HY1 : Hid (RdE (wk25.alloc (.cells (Bv.cells bvZ) 25)) ⟨da, dn, dc⟩ RB.es) := HY1.out.no ((Kept.refl No _).alloc _)
            have HY2 : Hid (RdL (wk25.alloc (.cells (Bv.cells bvZ) 25)) ⟨fa0, fn0, fc0⟩ RB.ls) := HY2.out.no ((Kept.refl No _).alloc _)
            have HA2 : Hid (Ans (wk25.alloc (.cells (Bv.cells bvZ) 25)) b2 ⟨ga, gn, gd⟩ us RA) := HA2.out.no ((Kept.refl No _).alloc _)
            have HKs : Hid (Kept No wk25 (wk25.alloc (.cells (Bv.cells bvZ) 25))) := HKs.out.no ((Kept.refl No _).alloc _)
            have HF : Hid (Fr No w (wk25.alloc (.cells (Bv.cells bvZ) 25)) [(gk1, 25, Bv.cells ⟨up, ⟨ea, en, ec⟩, ⟨la, ln, lc⟩⟩), (gk12, 25, Bv.cells ⟨up, ⟨(some ⟨g, 0, none⟩), en, (en + 1)⟩, ⟨(some ⟨h, 0, none⟩), ln, (ln + 1)⟩⟩), (gk19, 25, Bv.cells ⟨xu, ⟨xa, xn, xc⟩, ⟨ta, tn, tc⟩⟩), (wk25.heap.size, 25, Bv.cells bvZ)]) := HF.out.alloc _ _
            generalize wk25.alloc (.cells (Bv.cells bvZ) 25) = wk27 at HF HX1 HA1 HY1 HY2 HA2 HKs ⊢
            obtain ⟨gk26, hg⟩ : ∃ g, g = wk25.heap.size := ⟨_, rfl⟩
            have HG_gk26 : Hid (wk25.heap.size ≤ gk26) := by show _ ≤ _; rw [hg]; exact HG_gk26.out
            rw [← hg] at HF ⊢
            clear hg
            refine wp_storeW 25 _ _ rfl ⟨gk26, 0, none⟩ (.agg (Bv.cells ⟨ru, ⟨da, dn, dc⟩, ⟨fa0, fn0, fc0⟩⟩)) (by kernel_rfl) (by kernel_rfl) (wk27.setRow gk26 (Bv.cells ⟨ru, ⟨da, dn, dc⟩, ⟨fa0, fn0, fc0⟩⟩)) (st25 (HF.out.box 3 _ _ _ rfl) rfl) (by kernel_rfl) ?_
            try simp only [pA, pB, p1, p2, p3]
            have HX1 : Hid (BkAt (wk27.setRow gk26 (Bv.cells ⟨ru, ⟨da, dn, dc⟩, ⟨fa0, fn0, fc0⟩⟩)) ⟨xu, ⟨xa, xn, xc⟩, ⟨ta, tn, tc⟩⟩ RB) := HX1_s.out.no (HKs.out.newRow HG_gk26.out _)
            have HA1 : Hid (Ans (wk27.setRow gk26 (Bv.cells ⟨ru, ⟨da, dn, dc⟩, ⟨fa0, fn0, fc0⟩⟩)) b1 ⟨aa, an, ac⟩ vs RA) := HA1_s.out.no (HKs.out.newRow HG_gk26.out _)
            have HY1 : Hid (RdE (wk27.setRow gk26 (Bv.cells ⟨ru, ⟨da, dn, dc⟩, ⟨fa0, fn0, fc0⟩⟩)) ⟨da, dn, dc⟩ RB.es) := HY1_s.out.no (HKs.out.newRow HG_gk26.out _)
            have HY2 : Hid (RdL (wk27.setRow gk26 (Bv.cells ⟨ru, ⟨da, dn, dc⟩, ⟨fa0, fn0, fc0⟩⟩)) ⟨fa0, fn0, fc0⟩ RB.ls) := HY2_s.out.no (HKs.out.newRow HG_gk26.out _)
            have HA2 : Hid (Ans (wk27.setRow gk26 (Bv.cells ⟨ru, ⟨da, dn, dc⟩, ⟨fa0, fn0, fc0⟩⟩)) b2 ⟨ga, gn, gd⟩ us RA) := HA2_s.out.no (HKs.out.newRow HG_gk26.out _)
            have HKs : Hid (Kept No wk25 (wk27.setRow gk26 (Bv.cells ⟨ru, ⟨da, dn, dc⟩, ⟨fa0, fn0, fc0⟩⟩))) := HKs.out.newRow HG_gk26.out _
            have HF : Hid (Fr No w (wk27.setRow gk26 (Bv.cells ⟨ru, ⟨da, dn, dc⟩, ⟨fa0, fn0, fc0⟩⟩)) [(gk1, 25, Bv.cells ⟨up, ⟨ea, en, ec⟩, ⟨la, ln, lc⟩⟩), (gk12, 25, Bv.cells ⟨up, ⟨(some ⟨g, 0, none⟩), en, (en + 1)⟩, ⟨(some ⟨h, 0, none⟩), ln, (ln + 1)⟩⟩), (gk19, 25, Bv.cells ⟨xu, ⟨xa, xn, xc⟩, ⟨ta, tn, tc⟩⟩), (gk26, 25, Bv.cells ⟨ru, ⟨da, dn, dc⟩, ⟨fa0, fn0, fc0⟩⟩)]) := HF.out.set 3 rfl _
            generalize wk27.setRow gk26 (Bv.cells ⟨ru, ⟨da, dn, dc⟩, ⟨fa0, fn0, fc0⟩⟩) = wk28 at HF HX1 HA1 HY1 HY2 HA2 HKs ⊢
            refine tK (.slice ga gn gd) ?_
            refine tK (.int .i64 er) ?_
            try simp only [pA, pB, p1, p2, p3]
            refine WL.nil ?_
            try simp only [pA, pB, p1, p2, p3]
            clear HKs HX1_s HA1_s HY1_s HY2_s HA2_s HG_gk26
            have hxn : xn ≤ 140737488355328 := by have e : RB.es.length = xn := HX1.out.e.len; have := HX1.out.ne; omega
            have htn : tn ≤ 140737488355328 := by have e : RB.ls.length = tn := HX1.out.l.len; have := HX1.out.nl; omega
            have han1 : an ≤ 1000000 := by
              have e : RA.length = an := HA1.out.la
              rw [HDef.out.2.2] at e
              have := resA_len room ⟨up, es, ls⟩ xs
              rw [HL.out] at this
              omega
            go_upto_region 20 with fail
            refine WL.start ?_
            refine tK (.int .i64 er) ?_
            refine tK (.int .i64 er) ?_
            refine tW (.bool false) (exec_bin .neq 3 _ _ _ rfl (.int .i64 er) (.int .i64 er) (.bool false) (by kernel_rfl) (by kernel_rfl) (by kernel_rfl) (by rw [b_neq]; simp)) ?_
            refine tK (.bool false) ?_
            refine tW (.agg (Bv.cells ⟨xu, ⟨xa, xn, xc⟩, ⟨ta, tn, tc⟩⟩)) (exec_load 25 _ rfl ⟨gk19, 0, none⟩ (by kernel_rfl) (.agg (Bv.cells ⟨xu, ⟨xa, xn, xc⟩, ⟨ta, tn, tc⟩⟩)) (ld25 (HF.out.box 2 _ _ _ rfl))) ?_
            refine tW (.agg (Bv.cells ⟨ru, ⟨da, dn, dc⟩, ⟨fa0, fn0, fc0⟩⟩)) (exec_load 25 _ rfl ⟨gk26, 0, none⟩ (by kernel_rfl) (.agg (Bv.cells ⟨ru, ⟨da, dn, dc⟩, ⟨fa0, fn0, fc0⟩⟩)) (ld25 (HF.out.box 3 _ _ _ rfl))) ?_
            try simp only [pA, pB, p1, p2, p3]
            refine wp_callW 15 #[.agg (Bv.cells ⟨xu, ⟨xa, xn, xc⟩, ⟨ta, tn, tc⟩⟩), .agg (Bv.cells ⟨ru, ⟨da, dn, dc⟩, ⟨fa0, fn0, fc0⟩⟩)] (by kernel_rfl) _ (sameB_any xu xa xn xc ta tn tc ru da dn dc fa0 fn0 fc0 RB.es RB.es RB.ls RB.ls _ HX1.out.e HY1.out HX1.out.l HY2.out hxn htn) (by kernel_rfl) ?_
            rintro e wk29 ⟨rfl, hk⟩
            have HX1 : Hid (BkAt (wk29) ⟨xu, ⟨xa, xn, xc⟩, ⟨ta, tn, tc⟩⟩ RB) := HX1.out.no hk
            have HA1 : Hid (Ans (wk29) b1 ⟨aa, an, ac⟩ vs RA) := HA1.out.no hk
            have HY1 : Hid (RdE (wk29) ⟨da, dn, dc⟩ RB.es) := HY1.out.no hk
            have HY2 : Hid (RdL (wk29) ⟨fa0, fn0, fc0⟩ RB.ls) := HY2.out.no hk
            have HA2 : Hid (Ans (wk29) b2 ⟨ga, gn, gd⟩ us RA) := HA2.out.no hk
            have HF : Hid (Fr No w (wk29) [(gk1, 25, Bv.cells ⟨up, ⟨ea, en, ec⟩, ⟨la, ln, lc⟩⟩), (gk12, 25, Bv.cells ⟨up, ⟨(some ⟨g, 0, none⟩), en, (en + 1)⟩, ⟨(some ⟨h, 0, none⟩), ln, (ln + 1)⟩⟩), (gk19, 25, Bv.cells ⟨xu, ⟨xa, xn, xc⟩, ⟨ta, tn, tc⟩⟩), (gk26, 25, Bv.cells ⟨ru, ⟨da, dn, dc⟩, ⟨fa0, fn0, fc0⟩⟩)]) := HF.out.no hk
            clear hk
            refine ⟨.bool true, by rw [HU.out, sameB_refl], ?_⟩
            try simp only [pA, pB, p1, p2, p3]
            refine tK (.bool false) ?_
            refine tK (.bool false) ?_
            refine tK (.bool false) ?_
            refine tK (.slice aa an ac) ?_
            refine tK (.slice ga gn gd) ?_
            try simp only [pA, pB, p1, p2, p3]
            refine wp_callW 21 #[.slice aa an ac, .slice ga gn gd] (by kernel_rfl) _ (sameAns_any2 aa an ac ga gn gd vs us RA b1 b2 _ HA1.out HA2.out han1) (by kernel_rfl) ?_
            rintro e wk30 ⟨rfl, hk⟩
            have HX1 : Hid (BkAt (wk30) ⟨xu, ⟨xa, xn, xc⟩, ⟨ta, tn, tc⟩⟩ RB) := HX1.out.no hk
            have HA1 : Hid (Ans (wk30) b1 ⟨aa, an, ac⟩ vs RA) := HA1.out.no hk
            have HY1 : Hid (RdE (wk30) ⟨da, dn, dc⟩ RB.es) := HY1.out.no hk
            have HY2 : Hid (RdL (wk30) ⟨fa0, fn0, fc0⟩ RB.ls) := HY2.out.no hk
            have HA2 : Hid (Ans (wk30) b2 ⟨ga, gn, gd⟩ us RA) := HA2.out.no hk
            have HF : Hid (Fr No w (wk30) [(gk1, 25, Bv.cells ⟨up, ⟨ea, en, ec⟩, ⟨la, ln, lc⟩⟩), (gk12, 25, Bv.cells ⟨up, ⟨(some ⟨g, 0, none⟩), en, (en + 1)⟩, ⟨(some ⟨h, 0, none⟩), ln, (ln + 1)⟩⟩), (gk19, 25, Bv.cells ⟨xu, ⟨xa, xn, xc⟩, ⟨ta, tn, tc⟩⟩), (gk26, 25, Bv.cells ⟨ru, ⟨da, dn, dc⟩, ⟨fa0, fn0, fc0⟩⟩)]) := HF.out.no hk
            clear hk
            refine ⟨.bool true, rfl, ?_⟩
            try simp only [pA, pB, p1, p2, p3]
            refine tK (.bool false) ?_
            refine tK (.bool false) ?_
            try simp only [pA, pB, p1, p2, p3]
            refine WL.nil ?_
            try simp only [pA, pB, p1, p2, p3]
            clear HY1 HY2 HA2 HU hxn htn
            have HF : Hid (Fr No w wk30 [(gk1, 25, Bv.cells ⟨up, ⟨ea, en, ec⟩, ⟨la, ln, lc⟩⟩), (gk12, 25, Bv.cells ⟨up, ⟨(some ⟨g, 0, none⟩), en, (en + 1)⟩, ⟨(some ⟨h, 0, none⟩), ln, (ln + 1)⟩⟩), (gk19, 25, Bv.cells ⟨xu, ⟨xa, xn, xc⟩, ⟨ta, tn, tc⟩⟩)]) := (show Fr No w wk30 ([(gk1, 25, Bv.cells ⟨up, ⟨ea, en, ec⟩, ⟨la, ln, lc⟩⟩), (gk12, 25, Bv.cells ⟨up, ⟨(some ⟨g, 0, none⟩), en, (en + 1)⟩, ⟨(some ⟨h, 0, none⟩), ln, (ln + 1)⟩⟩), (gk19, 25, Bv.cells ⟨xu, ⟨xa, xn, xc⟩, ⟨ta, tn, tc⟩⟩)] ++ [(gk26, 25, Bv.cells ⟨ru, ⟨da, dn, dc⟩, ⟨fa0, fn0, fc0⟩⟩)]) from HF.out).front
            go_upto_region 22 with fail
            refine WL.start ?_
            refine tK (.int .i64 0) ?_
            try simp only [pA, pB, p1, p2, p3]
            refine WL.nil ?_
            try simp only [pA, pB, p1, p2, p3]
            go_upto_region 23 with fail
            refine WL.start ?_
            refine tK (.slice ca cn cc) ?_
            refine tK (.int .i64 ((cn : Nat) : Int)) ?_
            refine tW (.bool (decide ((0 : Int) < ((cn : Nat) : Int)))) (exec_bin .gtr 3 _ _ _ rfl (.int .i64 ((cn : Nat) : Int)) (.int .i64 0) (.bool (decide ((0 : Int) < ((cn : Nat) : Int)))) (by kernel_rfl) (by kernel_rfl) (by kernel_rfl) (b_gtr _ _ _)) ?_
            try simp only [pA, pB, p1, p2, p3]
            refine WL.nil ?_
            try simp only [pA, pB, p1, p2, p3]
            go_upto_if 117 with fail
            go_cut [19] from 26 (fun v19 wc => ∃ r : Int, v19 = .int .i64 r ∧ (r = 0 ∨ (-((cn : Nat) : Int) < r ∧ r < ((cn : Nat) : Int))) ∧ wc = wk30)
            case first =>
             rename_i J0 K0 hJ0 hK0
             by_cases hc0 : 0 < cn
             ·skip
              simp only [decide_eq_true (show (0 : Int) < ((cn : Nat) : Int) by omega)]
              go_upto_region 24 with fail
              refine WL.start ?_
              refine tK (.int .i64 cut) ?_
              refine tK (.slice ca cn cc) ?_
              refine tK (.int .i64 ((cn : Nat) : Int)) ?_
              refine tW (.int .i64 (cut.tmod ((cn : Nat) : Int))) (exec_bin .rem 3 _ _ _ rfl (.int .i64 cut) (.int .i64 ((cn : Nat) : Int)) (.int .i64 (cut.tmod ((cn : Nat) : Int))) (by kernel_rfl) (by kernel_rfl) (by kernel_rfl) (b_rem cut _ hc1 hc2 (by omega) (by omega) _)) ?_
              refine tK (.int .i64 (cut.tmod ((cn : Nat) : Int))) ?_
              try simp only [pA, pB, p1, p2, p3]
              refine WL.nil ?_
              try simp only [pA, pB, p1, p2, p3]
              refine hK0 _ _ (Met.intro (hJ0 _ _ ?_))
              (repeat apply Exists.intro)
              refine ⟨?_, rfl⟩
              exact ⟨_, rfl, .inr ⟨Int.lt_tmod_of_pos _ (by omega), Int.tmod_lt_of_pos _ (by omega)⟩, rfl⟩
             ·skip
              simp only [decide_eq_false (show ¬ (0 : Int) < ((cn : Nat) : Int) by omega)]
              go_wp2
              go_meet
              case rel => exact ⟨0, rfl, .inl rfl, rfl⟩
            case rest =>
             obtain ⟨r, rfl, hr, hwc⟩ := hcut
             rw [hwc]
             clear hwc
             go_upto_region 25 with fail
             refine WL.start ?_
             refine tK (.int .i64 r) ?_
             refine tW (.bool (decide (r < 0))) (exec_bin .lss 3 _ _ _ rfl (.int .i64 r) (.int .i64 0) (.bool (decide (r < 0))) (by kernel_rfl) (by kernel_rfl) (by kernel_rfl) (b_lss _ _ _)) ?_
             try simp only [pA, pB, p1, p2, p3]
             refine WL.nil ?_
             try simp only [pA, pB, p1, p2, p3]
             go_upto_if 123 with fail
             go_cut [19] from 26 (fun v19 wc => ∃ kk : Nat, v19 = .int .i64 ((kk : Nat) : Int) ∧ kk ≤ cn ∧ wc = wk30)
             case first =>
              rename_i J0 K0 hJ0 hK0
              by_cases hr0 : r < 0
              ·skip
               simp only [decide_eq_true hr0]
               go_upto_region 26 with fail
               refine WL.start ?_
               refine tK (.int .i64 r) ?_
               refine tK (.slice ca cn cc) ?_
               refine tK (.int .i64 ((cn : Nat) : Int)) ?_
               refine tW (.int .i64 (r + ((cn : Nat) : Int))) (exec_bin .add 3 _ _ _ rfl (.int .i64 r) (.int .i64 ((cn : Nat) : Int)) (.int .i64 (r + ((cn : Nat) : Int))) (by kernel_rfl) (by kernel_rfl) (by kernel_rfl) (b_addR _ _ (by omega) (by omega) _)) ?_
               refine tK (.int .i64 (r + ((cn : Nat) : Int))) ?_
               try simp only [pA, pB, p1, p2, p3]
               refine WL.nil ?_
               try simp only [pA, pB, p1, p2, p3]
               refine hK0 _ _ (Met.intro (hJ0 _ _ ?_))
               (repeat apply Exists.intro)
               refine ⟨?_, rfl⟩
               exact ⟨(r + ((cn : Nat) : Int)).toNat, by rw [Int.toNat_of_nonneg (by omega)], by omega, rfl⟩
              ·skip
               simp only [decide_eq_false hr0]
               go_wp2
               go_meet
               case rel => exact ⟨r.toNat, by rw [Int.toNat_of_nonneg (by omega)], by omega, rfl⟩
             case rest =>
              obtain ⟨kk, rfl, hkk, hwc⟩ := hcut
              rw [hwc]
              clear hwc hr
              obtain ⟨sa, sc, hs1, hs2⟩ := sliced_cs HX.out HL.out 0 kk (by omega) hkk hcnc
              obtain ⟨ua, uc, hu1, hu2⟩ := sliced_cs HX.out HL.out kk cn hkk (Nat.le_refl _) hcnc
              have HSl1 : Hid (sliced ca 0 kk cc 9 = .slice sa kk sc) := hs1
              have HSl2 : Hid (sliced ca kk cn cc 9 = .slice ua (cn - kk) uc) := hu1
              have HCs1 : Hid (Cs w sa (xs.take kk)) := by rw [List.drop_zero, Nat.sub_zero] at hs2; exact hs2
              have HCs2 : Hid (Cs w ua (xs.drop kk)) := by rw [List.take_of_length_le (by rw [List.length_drop, HL.out]; exact Nat.le_refl _)] at hu2; exact hu2
              clear hs1 hs2 hu1 hu2
              obtain ⟨er1, h11⟩ : ∃ z, z = errR room ⟨up, es, ls⟩ (xs.take kk) := ⟨_, rfl⟩
              obtain ⟨RB1, h12⟩ : ∃ z, z = resB room ⟨up, es, ls⟩ (xs.take kk) := ⟨_, rfl⟩
              obtain ⟨RA1, h13⟩ : ∃ z, z = resA room ⟨up, es, ls⟩ (xs.take kk) := ⟨_, rfl⟩
              obtain ⟨er2, h21⟩ : ∃ z, z = errR room RB1 (xs.drop kk) := ⟨_, rfl⟩
              obtain ⟨RB2, h22⟩ : ∃ z, z = resB room RB1 (xs.drop kk) := ⟨_, rfl⟩
              obtain ⟨RA2, h23⟩ : ∃ z, z = resA room RB1 (xs.drop kk) := ⟨_, rfl⟩
              have HZero : Hid (er = 0 → er1 = 0 ∧ er2 = 0 ∧ RB2 = RB ∧ RA1 ++ RA2 = RA) := fun h => by
                have := rep_zero (room := room) (b := ⟨up, es, ls⟩) (xs := xs) kk (by rw [← HDef.out.1]; exact h)
                rw [← h11, ← h12, ← h13, ← h21, ← h22, ← h23, ← HDef.out.2.1, ← HDef.out.2.2] at this
                exact this
              have HErr : Hid (er ≠ 0 → er1 = 0 → er2 ≠ 0) := fun h h1 => by
                have := rep_err (room := room) (b := ⟨up, es, ls⟩) (xs := xs) kk (by rw [← HDef.out.1]; exact h) (by rw [← h11]; exact h1)
                rw [← h12, ← h21] at this
                exact this
              have HNil : Hid (er ≠ 0 → RA = []) := fun h => by rw [HDef.out.2.2]; exact (resB_1 (by rw [← HDef.out.1]; exact h)).2
              have HFk : Hid (Fine (256 + kk) RB1) := by
                have := HGd.out.fine.res (room := room) (xs.take kk)
                rw [List.length_take, HL.out, Nat.min_eq_left hkk, ← h12] at this
                exact this
              have HR1 : Hid (∀ W, Kept No w W → Calls Try.prog 18 #[.agg (Bv.cells ⟨up, ⟨ea, en, ec⟩, ⟨la, ln, lc⟩⟩), .int .i64 room, .slice sa kk sc] W (RepNew W er1 RB1 RA1)) := fun W hk => by
                rw [h11, h12, h13]
                exact replay_any up ea en ec la ln lc room sa kk sc es ls (xs.take kk) 256 W (HE.out.no hk) (HLs.out.no hk) HGd.out.fine (by omega) (by rw [List.length_take, HL.out]; omega) (by omega) (RowsAt.no HCs1.out hk)
              have HR2 : Hid (∀ W yu ya yn yc za zn zc, BkAt W ⟨yu, ⟨ya, yn, yc⟩, ⟨za, zn, zc⟩⟩ RB1 → Kept No w W → Calls Try.prog 18 #[.agg (Bv.cells ⟨yu, ⟨ya, yn, yc⟩, ⟨za, zn, zc⟩⟩), .int .i64 room, .slice ua (cn - kk) uc] W (RepNew W er2 RB2 RA2)) := fun W yu ya yn yc za zn zc hb hk => by
                have hu : yu = RB1.up := hb.up
                subst hu
                rw [h21, h22, h23]
                exact replay_any RB1.up ya yn yc za zn zc room ua (cn - kk) uc RB1.es RB1.ls (xs.drop kk) (256 + kk) W hb.e hb.l HFk.out (by omega) (by rw [List.length_drop, HL.out]) (by omega) (RowsAt.no HCs2.out hk)
              have hl1 : RA1.length ≤ 400 := by
                have := resA_len room ⟨up, es, ls⟩ (xs.take kk)
                rw [← h13, List.length_take, HL.out] at this
                omega
              have hl2 : RA2.length ≤ 400 := by
                have := resA_len room RB1 (xs.drop kk)
                rw [← h23, List.length_drop, HL.out] at this
                omega
              clear h11 h12 h13 h21 h22 h23 HDef HCs1 HCs2 HGd HFk
              obtain ⟨b3, hb30⟩ : ∃ b, b = wk30.heap.size := ⟨_, rfl⟩
              have hb3 : w.heap.size ≤ b3 := by rw [hb30]; exact HF.out.kept.size
              have HAb : Hid (∀ k, At aa k → k < b3) := fun k hk => by rw [hb30]; exact HA1.out.own.lt hk
              have hB3 : b3 ≤ wk30.heap.size := by omega
              clear hb30
              go_upto_region 27 with fail
              go_cut [20, 21, 22] from 128 to 137 (fun v20 v21 v22 wc => ∃ (g20 : Nat) (yu : Int) (ya : Option Addr) (yn yc : Nat) (za : Option Addr) (zn zc : Nat) (fa : Option Addr) (fn fc : Nat) (vs1 : List Av), v20 = .pointer (some ⟨g20, 0, none⟩) ∧ v21 = .slice fa fn fc ∧ v22 = .int .i64 er1 ∧ Hid (Fr No w wc [(gk1, 25, Bv.cells ⟨up, ⟨ea, en, ec⟩, ⟨la, ln, lc⟩⟩), (gk12, 25, Bv.cells ⟨up, ⟨(some ⟨g, 0, none⟩), en, (en + 1)⟩, ⟨(some ⟨h, 0, none⟩), ln, (ln + 1)⟩⟩), (gk19, 25, Bv.cells ⟨xu, ⟨xa, xn, xc⟩, ⟨ta, tn, tc⟩⟩), (g20, 25, Bv.cells ⟨yu, ⟨ya, yn, yc⟩, ⟨za, zn, zc⟩⟩)]) ∧ Hid (Kept No wk30 wc) ∧ Hid (BkAt wc ⟨yu, ⟨ya, yn, yc⟩, ⟨za, zn, zc⟩⟩ RB1) ∧ Hid (Ans wc b3 ⟨fa, fn, fc⟩ vs1 RA1))
              case first =>
               rename_i J0 K0 hJ0 hK0
               have HKs : Hid (Kept No wk30 wk30) := Kept.refl _ _
               refine wp_region_held_drew (S := fun w' => Fr No w w' [(gk1, 25, Bv.cells ⟨up, ⟨ea, en, ec⟩, ⟨la, ln, lc⟩⟩), (gk12, 25, Bv.cells ⟨up, ⟨(some ⟨g, 0, none⟩), en, (en + 1)⟩, ⟨(some ⟨h, 0, none⟩), ln, (ln + 1)⟩⟩), (gk19, 25, Bv.cells ⟨xu, ⟨xa, xn, xc⟩, ⟨ta, tn, tc⟩⟩)]) rfl HF.out.drew (fun hH => ?_)
               have HKs : Hid (Kept No wk30 (wk30.drew)) := HKs.out.no (Kept.refl No _).drew
               have HF : Hid (Fr No w (wk30.drew) [(gk1, 25, Bv.cells ⟨up, ⟨ea, en, ec⟩, ⟨la, ln, lc⟩⟩), (gk12, 25, Bv.cells ⟨up, ⟨(some ⟨g, 0, none⟩), en, (en + 1)⟩, ⟨(some ⟨h, 0, none⟩), ln, (ln + 1)⟩⟩), (gk19, 25, Bv.cells ⟨xu, ⟨xa, xn, xc⟩, ⟨ta, tn, tc⟩⟩)]) := HF.out.drew
               generalize wk30.drew = wk31 at HF HKs hH ⊢
               refine aT (i := 0) (oi := { dst := some 129, op := Op.load 25 (Operand.tmp 4), type := 25, pos := "law.go:203", after := #[], guard := none }) (v := .agg (Bv.cells ⟨up, ⟨ea, en, ec⟩, ⟨la, ln, lc⟩⟩)) (fun w' hw => exec_load 25 _ rfl ⟨gk1, 0, none⟩ (by kernel_rfl) (.agg (Bv.cells ⟨up, ⟨ea, en, ec⟩, ⟨la, ln, lc⟩⟩)) (ld25 (hw.box 0 _ _ _ rfl))) hH ?_
               refine aT (i := 1) (oi := { dst := some 130, op := Op.move (Operand.tmp 1), type := 3, pos := "law.go:203", after := #[], guard := none }) (v := .int .i64 room) (fun _ _ => by kernel_rfl) hH ?_
               refine aT (i := 2) (oi := { dst := some 131, op := Op.move (Operand.tmp 2), type := 34, pos := "law.go:203", after := #[], guard := none }) (v := .slice ca cn cc) (fun _ _ => by kernel_rfl) hH ?_
               refine aT (i := 3) (oi := { dst := some 132, op := Op.move (Operand.tmp 19), type := 3, pos := "law.go:203", after := #[], guard := none }) (v := .int .i64 ((kk : Nat) : Int)) (fun _ _ => by kernel_rfl) hH ?_
               refine aT (i := 4) (oi := { dst := some 133, op := Op.slice 34 (Operand.tmp 131) none (some (Operand.tmp 132)) none, type := 34, pos := "law.go:203", after := #[{ on := 2, ground := Ground.data }, { on := 3, ground := Ground.data }], guard := none }) (v := .slice sa kk sc) (fun w' hw => by rw [exec_slH 34 _ _ rfl 9 Try.und34e Try.size34e ca cn cc kk (by kernel_rfl) (by kernel_rfl) (by omega), HSl1.out]) hH ?_
               try simp only [pA, pB, p1, p2, p3]
               refine any_pick (rs := [5, 10]) (by kernel_rfl) (by simp) ?_
               intro i hi
               rcases pick2 hi with rfl | rfl
               ·skip
                clear hi
                have HS0 : Hid (b3 ≤ wk31.heap.size) := Nat.le_trans hB3 HKs.out.size
                refine step_call (i := 5) (o := oqWReplays0) rfl (by kernel_rfl) 18 #[.agg (Bv.cells ⟨up, ⟨ea, en, ec⟩, ⟨la, ln, lc⟩⟩), .int .i64 room, .slice sa kk sc] (by kernel_rfl) _ (HR1.out _ HF.out.kept) ?_
                rintro e wk32 ⟨⟨yu, ⟨ya, yn, yc⟩, ⟨za, zn, zc⟩⟩, ⟨fa, fn, fc⟩, vs1, rfl, hB, hA, -, -, -, -, hk⟩
                have hH2 : Fr No w wk32 [(gk1, 25, Bv.cells ⟨up, ⟨ea, en, ec⟩, ⟨la, ln, lc⟩⟩), (gk12, 25, Bv.cells ⟨up, ⟨(some ⟨g, 0, none⟩), en, (en + 1)⟩, ⟨(some ⟨h, 0, none⟩), ln, (ln + 1)⟩⟩), (gk19, 25, Bv.cells ⟨xu, ⟨xa, xn, xc⟩, ⟨ta, tn, tc⟩⟩)] := hH.no hk
                have HY : Hid (BkAt wk32 ⟨yu, ⟨ya, yn, yc⟩, ⟨za, zn, zc⟩⟩ RB1) := hB
                have HP1 : Hid (Ans wk32 b3 ⟨fa, fn, fc⟩ vs1 RA1) := hA.lower HS0.out
                have HKs : Hid (Kept No wk30 (wk32)) := HKs.out.no hk
                have HF : Hid (Fr No w (wk32) [(gk1, 25, Bv.cells ⟨up, ⟨ea, en, ec⟩, ⟨la, ln, lc⟩⟩), (gk12, 25, Bv.cells ⟨up, ⟨(some ⟨g, 0, none⟩), en, (en + 1)⟩, ⟨(some ⟨h, 0, none⟩), ln, (ln + 1)⟩⟩), (gk19, 25, Bv.cells ⟨xu, ⟨xa, xn, xc⟩, ⟨ta, tn, tc⟩⟩)]) := HF.out.no hk
                clear hB hA hk HS0
                refine ⟨.tuple #[.agg (Bv.cells ⟨yu, ⟨ya, yn, yc⟩, ⟨za, zn, zc⟩⟩), .slice fa fn fc, .int .i64 er1], rfl, hH2, fun hH => ?_⟩
                clear hH2
                try simp only [pA, pB, p1, p2, p3]
                refine aT (i := 6) (oi := oqWReplays1) (v := .tuple #[.agg (Bv.cells ⟨yu, ⟨ya, yn, yc⟩, ⟨za, zn, zc⟩⟩), .slice fa fn fc, .int .i64 er1]) (fun _ _ => by kernel_rfl) hH ?_
                refine aT (i := 7) (oi := oqWReplays2) (v := .agg (Bv.cells ⟨yu, ⟨ya, yn, yc⟩, ⟨za, zn, zc⟩⟩)) (fun _ _ => by kernel_rfl) hH ?_
                refine aT (i := 8) (oi := oqWReplays3) (v := .slice fa fn fc) (fun _ _ => by kernel_rfl) hH ?_
                refine aT (i := 9) (oi := oqWReplays4) (v := .int .i64 er1) (fun _ _ => by kernel_rfl) hH ?_
                try simp only [pA, pB, p1, p2, p3]
                refine any_step (i := 10) (o := oqWReplays5) rfl (by kernel_rfl) (by kernel_rfl) (exec_alloc 25 rfl (Bv.cells bvZ) zero25) ((hH.alloc _ _).front) (fun hH => ?_)
                try simp only [pA, pB, p1, p2, p3]
                have HG_gk33 : Hid (wk30.heap.size ≤ wk32.heap.size) := HKs.out.size
                have HY : Hid (BkAt (wk32.alloc (.cells (Bv.cells bvZ) 25)) ⟨yu, ⟨ya, yn, yc⟩, ⟨za, zn, zc⟩⟩ RB1) := HY.out.no ((Kept.refl No _).alloc _)
                have HP1 : Hid (Ans (wk32.alloc (.cells (Bv.cells bvZ) 25)) b3 ⟨fa, fn, fc⟩ vs1 RA1) := HP1.out.no ((Kept.refl No _).alloc _)
                have HKs : Hid (Kept No wk30 (wk32.alloc (.cells (Bv.cells bvZ) 25))) := HKs.out.no ((Kept.refl No _).alloc _)
                have HF : Hid (Fr No w (wk32.alloc (.cells (Bv.cells bvZ) 25)) [(gk1, 25, Bv.cells ⟨up, ⟨ea, en, ec⟩, ⟨la, ln, lc⟩⟩), (gk12, 25, Bv.cells ⟨up, ⟨(some ⟨g, 0, none⟩), en, (en + 1)⟩, ⟨(some ⟨h, 0, none⟩), ln, (ln + 1)⟩⟩), (gk19, 25, Bv.cells ⟨xu, ⟨xa, xn, xc⟩, ⟨ta, tn, tc⟩⟩), (wk32.heap.size, 25, Bv.cells bvZ)]) := HF.out.alloc _ _
                generalize wk32.alloc (.cells (Bv.cells bvZ) 25) = wk34 at HF HKs HY HP1 hH ⊢
                obtain ⟨gk33, hg⟩ : ∃ g, g = wk32.heap.size := ⟨_, rfl⟩
                have HG_gk33 : Hid (wk30.heap.size ≤ gk33) := by show _ ≤ _; rw [hg]; exact HG_gk33.out
                rw [← hg] at HF ⊢
                clear hg
                refine any_store (i := 11) (o := oqWReplays6) (w' := wk34.setRow gk33 (Bv.cells ⟨yu, ⟨ya, yn, yc⟩, ⟨za, zn, zc⟩⟩)) rfl (by kernel_rfl) (by kernel_rfl) 25 _ _ rfl ⟨gk33, 0, none⟩ (.agg (Bv.cells ⟨yu, ⟨ya, yn, yc⟩, ⟨za, zn, zc⟩⟩)) (by kernel_rfl) (by kernel_rfl) (st25 (HF.out.box 3 _ _ _ rfl) rfl) ((show Fr No w _ ([(gk1, 25, Bv.cells ⟨up, ⟨ea, en, ec⟩, ⟨la, ln, lc⟩⟩), (gk12, 25, Bv.cells ⟨up, ⟨(some ⟨g, 0, none⟩), en, (en + 1)⟩, ⟨(some ⟨h, 0, none⟩), ln, (ln + 1)⟩⟩), (gk19, 25, Bv.cells ⟨xu, ⟨xa, xn, xc⟩, ⟨ta, tn, tc⟩⟩)] ++ [(gk33, 25, Bv.cells ⟨yu, ⟨ya, yn, yc⟩, ⟨za, zn, zc⟩⟩)]) from HF.out.set 3 rfl _).front) (fun hH => ?_)
                try simp only [pA, pB, p1, p2, p3]
                have HY : Hid (BkAt (wk34.setRow gk33 (Bv.cells ⟨yu, ⟨ya, yn, yc⟩, ⟨za, zn, zc⟩⟩)) ⟨yu, ⟨ya, yn, yc⟩, ⟨za, zn, zc⟩⟩ RB1) := HY.out.row (HF.out.box 3 _ _ _ rfl) (by decide) (by decide) _
                have HP1 : Hid (Ans (wk34.setRow gk33 (Bv.cells ⟨yu, ⟨ya, yn, yc⟩, ⟨za, zn, zc⟩⟩)) b3 ⟨fa, fn, fc⟩ vs1 RA1) := HP1.out.row (HF.out.box 3 _ _ _ rfl) (by decide) (by decide) _
                have HKs : Hid (Kept No wk30 (wk34.setRow gk33 (Bv.cells ⟨yu, ⟨ya, yn, yc⟩, ⟨za, zn, zc⟩⟩))) := HKs.out.newRow HG_gk33.out _
                have HF : Hid (Fr No w (wk34.setRow gk33 (Bv.cells ⟨yu, ⟨ya, yn, yc⟩, ⟨za, zn, zc⟩⟩)) [(gk1, 25, Bv.cells ⟨up, ⟨ea, en, ec⟩, ⟨la, ln, lc⟩⟩), (gk12, 25, Bv.cells ⟨up, ⟨(some ⟨g, 0, none⟩), en, (en + 1)⟩, ⟨(some ⟨h, 0, none⟩), ln, (ln + 1)⟩⟩), (gk19, 25, Bv.cells ⟨xu, ⟨xa, xn, xc⟩, ⟨ta, tn, tc⟩⟩), (gk33, 25, Bv.cells ⟨yu, ⟨ya, yn, yc⟩, ⟨za, zn, zc⟩⟩)]) := HF.out.set 3 rfl _
                generalize wk34.setRow gk33 (Bv.cells ⟨yu, ⟨ya, yn, yc⟩, ⟨za, zn, zc⟩⟩) = wk35 at HF HKs HY HP1 hH ⊢
                refine aT (i := 12) (oi := oqWReplays7) (v := .slice fa fn fc) (fun _ _ => by kernel_rfl) hH ?_
                refine aT (i := 13) (oi := oqWReplays8) (v := .int .i64 er1) (fun _ _ => by kernel_rfl) hH ?_
                try simp only [pA, pB, p1, p2, p3]
                refine wpAnyH_done (by kernel_rfl) ?_ _
                try simp only [pA, pB, p1, p2, p3]
                refine hK0 _ _ (Met.intro (hJ0 _ _ ?_))
                (repeat apply Exists.intro)
                refine ⟨?_, rfl⟩
                exact ⟨gk33, yu, ya, yn, yc, za, zn, zc, fa, fn, fc, vs1, rfl, rfl, rfl, HF, HKs, HY, HP1⟩
               ·skip
                clear hi
                refine step_run (i := 10) (o := oqWReplays5) rfl (by kernel_rfl) (exec_alloc 25 rfl (Bv.cells bvZ) zero25) ((hH.alloc _ _).front) (fun hH => ?_)
                try simp only [pA, pB, p1, p2, p3]
                have HG_gk36 : Hid (wk30.heap.size ≤ wk31.heap.size) := HKs.out.size
                have HKs : Hid (Kept No wk30 (wk31.alloc (.cells (Bv.cells bvZ) 25))) := HKs.out.no ((Kept.refl No _).alloc _)
                have HF : Hid (Fr No w (wk31.alloc (.cells (Bv.cells bvZ) 25)) [(gk1, 25, Bv.cells ⟨up, ⟨ea, en, ec⟩, ⟨la, ln, lc⟩⟩), (gk12, 25, Bv.cells ⟨up, ⟨(some ⟨g, 0, none⟩), en, (en + 1)⟩, ⟨(some ⟨h, 0, none⟩), ln, (ln + 1)⟩⟩), (gk19, 25, Bv.cells ⟨xu, ⟨xa, xn, xc⟩, ⟨ta, tn, tc⟩⟩), (wk31.heap.size, 25, Bv.cells bvZ)]) := HF.out.alloc _ _
                generalize wk31.alloc (.cells (Bv.cells bvZ) 25) = wk37 at HF HKs hH ⊢
                obtain ⟨gk36, hg⟩ : ∃ g, g = wk31.heap.size := ⟨_, rfl⟩
                have HG_gk36 : Hid (wk30.heap.size ≤ gk36) := by show _ ≤ _; rw [hg]; exact HG_gk36.out
                rw [← hg] at HF ⊢
                clear hg
                have HS0 : Hid (b3 ≤ wk37.heap.size) := Nat.le_trans hB3 HKs.out.size
                refine any_call (i := 5) (o := oqWReplays0) rfl (by kernel_rfl) (by kernel_rfl) 18 #[.agg (Bv.cells ⟨up, ⟨ea, en, ec⟩, ⟨la, ln, lc⟩⟩), .int .i64 room, .slice sa kk sc] (by kernel_rfl) _ (HR1.out _ HF.out.kept) ?_
                rintro e wk38 ⟨⟨yu, ⟨ya, yn, yc⟩, ⟨za, zn, zc⟩⟩, ⟨fa, fn, fc⟩, vs1, rfl, hB, hA, -, -, -, -, hk⟩
                have hH2 : Fr No w wk38 [(gk1, 25, Bv.cells ⟨up, ⟨ea, en, ec⟩, ⟨la, ln, lc⟩⟩), (gk12, 25, Bv.cells ⟨up, ⟨(some ⟨g, 0, none⟩), en, (en + 1)⟩, ⟨(some ⟨h, 0, none⟩), ln, (ln + 1)⟩⟩), (gk19, 25, Bv.cells ⟨xu, ⟨xa, xn, xc⟩, ⟨ta, tn, tc⟩⟩)] := hH.no hk
                have HY : Hid (BkAt wk38 ⟨yu, ⟨ya, yn, yc⟩, ⟨za, zn, zc⟩⟩ RB1) := hB
                have HP1 : Hid (Ans wk38 b3 ⟨fa, fn, fc⟩ vs1 RA1) := hA.lower HS0.out
                have HKs : Hid (Kept No wk30 (wk38)) := HKs.out.no hk
                have HF : Hid (Fr No w (wk38) [(gk1, 25, Bv.cells ⟨up, ⟨ea, en, ec⟩, ⟨la, ln, lc⟩⟩), (gk12, 25, Bv.cells ⟨up, ⟨(some ⟨g, 0, none⟩), en, (en + 1)⟩, ⟨(some ⟨h, 0, none⟩), ln, (ln + 1)⟩⟩), (gk19, 25, Bv.cells ⟨xu, ⟨xa, xn, xc⟩, ⟨ta, tn, tc⟩⟩), (gk36, 25, Bv.cells bvZ)]) := HF.out.no hk
                clear hB hA hk HS0
                refine ⟨.tuple #[.agg (Bv.cells ⟨yu, ⟨ya, yn, yc⟩, ⟨za, zn, zc⟩⟩), .slice fa fn fc, .int .i64 er1], rfl, hH2, fun hH => ?_⟩
                clear hH2
                try simp only [pA, pB, p1, p2, p3]
                refine aT (i := 6) (oi := oqWReplays1) (v := .tuple #[.agg (Bv.cells ⟨yu, ⟨ya, yn, yc⟩, ⟨za, zn, zc⟩⟩), .slice fa fn fc, .int .i64 er1]) (fun _ _ => by kernel_rfl) hH ?_
                refine aT (i := 7) (oi := oqWReplays2) (v := .agg (Bv.cells ⟨yu, ⟨ya, yn, yc⟩, ⟨za, zn, zc⟩⟩)) (fun _ _ => by kernel_rfl) hH ?_
                refine aT (i := 8) (oi := oqWReplays3) (v := .slice fa fn fc) (fun _ _ => by kernel_rfl) hH ?_
                refine aT (i := 9) (oi := oqWReplays4) (v := .int .i64 er1) (fun _ _ => by kernel_rfl) hH ?_
                try simp only [pA, pB, p1, p2, p3]
                refine any_store (i := 11) (o := oqWReplays6) (w' := wk38.setRow gk36 (Bv.cells ⟨yu, ⟨ya, yn, yc⟩, ⟨za, zn, zc⟩⟩)) rfl (by kernel_rfl) (by kernel_rfl) 25 _ _ rfl ⟨gk36, 0, none⟩ (.agg (Bv.cells ⟨yu, ⟨ya, yn, yc⟩, ⟨za, zn, zc⟩⟩)) (by kernel_rfl) (by kernel_rfl) (st25 (HF.out.box 3 _ _ _ rfl) rfl) ((show Fr No w _ ([(gk1, 25, Bv.cells ⟨up, ⟨ea, en, ec⟩, ⟨la, ln, lc⟩⟩), (gk12, 25, Bv.cells ⟨up, ⟨(some ⟨g, 0, none⟩), en, (en + 1)⟩, ⟨(some ⟨h, 0, none⟩), ln, (ln + 1)⟩⟩), (gk19, 25, Bv.cells ⟨xu, ⟨xa, xn, xc⟩, ⟨ta, tn, tc⟩⟩)] ++ [(gk36, 25, Bv.cells ⟨yu, ⟨ya, yn, yc⟩, ⟨za, zn, zc⟩⟩)]) from HF.out.set 3 rfl _).front) (fun hH => ?_)
                try simp only [pA, pB, p1, p2, p3]
                have HY : Hid (BkAt (wk38.setRow gk36 (Bv.cells ⟨yu, ⟨ya, yn, yc⟩, ⟨za, zn, zc⟩⟩)) ⟨yu, ⟨ya, yn, yc⟩, ⟨za, zn, zc⟩⟩ RB1) := HY.out.row (HF.out.box 3 _ _ _ rfl) (by decide) (by decide) _
                have HP1 : Hid (Ans (wk38.setRow gk36 (Bv.cells ⟨yu, ⟨ya, yn, yc⟩, ⟨za, zn, zc⟩⟩)) b3 ⟨fa, fn, fc⟩ vs1 RA1) := HP1.out.row (HF.out.box 3 _ _ _ rfl) (by decide) (by decide) _
                have HKs : Hid (Kept No wk30 (wk38.setRow gk36 (Bv.cells ⟨yu, ⟨ya, yn, yc⟩, ⟨za, zn, zc⟩⟩))) := HKs.out.newRow HG_gk36.out _
                have HF : Hid (Fr No w (wk38.setRow gk36 (Bv.cells ⟨yu, ⟨ya, yn, yc⟩, ⟨za, zn, zc⟩⟩)) [(gk1, 25, Bv.cells ⟨up, ⟨ea, en, ec⟩, ⟨la, ln, lc⟩⟩), (gk12, 25, Bv.cells ⟨up, ⟨(some ⟨g, 0, none⟩), en, (en + 1)⟩, ⟨(some ⟨h, 0, none⟩), ln, (ln + 1)⟩⟩), (gk19, 25, Bv.cells ⟨xu, ⟨xa, xn, xc⟩, ⟨ta, tn, tc⟩⟩), (gk36, 25, Bv.cells ⟨yu, ⟨ya, yn, yc⟩, ⟨za, zn, zc⟩⟩)]) := HF.out.set 3 rfl _
                generalize wk38.setRow gk36 (Bv.cells ⟨yu, ⟨ya, yn, yc⟩, ⟨za, zn, zc⟩⟩) = wk39 at HF HKs HY HP1 hH ⊢
                refine aT (i := 12) (oi := oqWReplays7) (v := .slice fa fn fc) (fun _ _ => by kernel_rfl) hH ?_
                refine aT (i := 13) (oi := oqWReplays8) (v := .int .i64 er1) (fun _ _ => by kernel_rfl) hH ?_
                try simp only [pA, pB, p1, p2, p3]
                refine wpAnyH_done (by kernel_rfl) ?_ _
                try simp only [pA, pB, p1, p2, p3]
                refine hK0 _ _ (Met.intro (hJ0 _ _ ?_))
                (repeat apply Exists.intro)
                refine ⟨?_, rfl⟩
                exact ⟨gk36, yu, ya, yn, yc, za, zn, zc, fa, fn, fc, vs1, rfl, rfl, rfl, HF, HKs, HY, HP1⟩
              case rest =>
               obtain ⟨g20, yu, ya, yn, yc, za, zn, zc, fa, fn, fc, vs1, rfl, rfl, rfl, HF, HKc, HY, HP1⟩ := hcut
               have HX1 : Hid (BkAt wc ⟨xu, ⟨xa, xn, xc⟩, ⟨ta, tn, tc⟩⟩ RB) := HX1.out.no HKc.out
               have HA1 : Hid (Ans wc b1 ⟨aa, an, ac⟩ vs RA) := HA1.out.no HKc.out
               have hB3 : b3 ≤ wc.heap.size := Nat.le_trans hB3 HKc.out.size
               clear HKc HR1
               generalize wc = w2 at HF HX1 HA1 HY HP1 hB3 ⊢
               go_upto_region 28 with fail
               go_cut [23, 24, 25] from 138 to 147 (fun v23 v24 v25 wc => ∃ (g23 : Nat) (vu : Int) (va : Option Addr) (vn vc : Nat) (wa : Option Addr) (wn wd : Nat) (ra : Option Addr) (rn rc : Nat) (vs2 : List Av), v23 = .pointer (some ⟨g23, 0, none⟩) ∧ v24 = .slice ra rn rc ∧ v25 = .int .i64 er2 ∧ Hid (Fr No w wc [(gk1, 25, Bv.cells ⟨up, ⟨ea, en, ec⟩, ⟨la, ln, lc⟩⟩), (gk12, 25, Bv.cells ⟨up, ⟨(some ⟨g, 0, none⟩), en, (en + 1)⟩, ⟨(some ⟨h, 0, none⟩), ln, (ln + 1)⟩⟩), (gk19, 25, Bv.cells ⟨xu, ⟨xa, xn, xc⟩, ⟨ta, tn, tc⟩⟩), (g20, 25, Bv.cells ⟨yu, ⟨ya, yn, yc⟩, ⟨za, zn, zc⟩⟩), (g23, 25, Bv.cells ⟨vu, ⟨va, vn, vc⟩, ⟨wa, wn, wd⟩⟩)]) ∧ Hid (Kept No w2 wc) ∧ Hid (BkAt wc ⟨vu, ⟨va, vn, vc⟩, ⟨wa, wn, wd⟩⟩ RB2) ∧ Hid (Ans wc b3 ⟨ra, rn, rc⟩ vs2 RA2))
               case first =>
                rename_i J0 K0 hJ0 hK0
                have HKs : Hid (Kept No w2 w2) := Kept.refl _ _
                refine wp_region_held_drew (S := fun w' => Fr No w w' [(gk1, 25, Bv.cells ⟨up, ⟨ea, en, ec⟩, ⟨la, ln, lc⟩⟩), (gk12, 25, Bv.cells ⟨up, ⟨(some ⟨g, 0, none⟩), en, (en + 1)⟩, ⟨(some ⟨h, 0, none⟩), ln, (ln + 1)⟩⟩), (gk19, 25, Bv.cells ⟨xu, ⟨xa, xn, xc⟩, ⟨ta, tn, tc⟩⟩), (g20, 25, Bv.cells ⟨yu, ⟨ya, yn, yc⟩, ⟨za, zn, zc⟩⟩)]) rfl HF.out.drew (fun hH => ?_)
                have HKs : Hid (Kept No w2 (w2.drew)) := HKs.out.no (Kept.refl No _).drew
                have HF : Hid (Fr No w (w2.drew) [(gk1, 25, Bv.cells ⟨up, ⟨ea, en, ec⟩, ⟨la, ln, lc⟩⟩), (gk12, 25, Bv.cells ⟨up, ⟨(some ⟨g, 0, none⟩), en, (en + 1)⟩, ⟨(some ⟨h, 0, none⟩), ln, (ln + 1)⟩⟩), (gk19, 25, Bv.cells ⟨xu, ⟨xa, xn, xc⟩, ⟨ta, tn, tc⟩⟩), (g20, 25, Bv.cells ⟨yu, ⟨ya, yn, yc⟩, ⟨za, zn, zc⟩⟩)]) := HF.out.drew
                generalize w2.drew = wk40 at HF HKs hH ⊢
                refine aT (i := 0) (oi := { dst := some 139, op := Op.load 25 (Operand.tmp 20), type := 25, pos := "law.go:204", after := #[], guard := none }) (v := .agg (Bv.cells ⟨yu, ⟨ya, yn, yc⟩, ⟨za, zn, zc⟩⟩)) (fun w' hw => exec_load 25 _ rfl ⟨g20, 0, none⟩ (by kernel_rfl) (.agg (Bv.cells ⟨yu, ⟨ya, yn, yc⟩, ⟨za, zn, zc⟩⟩)) (ld25 (hw.box 3 _ _ _ rfl))) hH ?_
                refine aT (i := 1) (oi := { dst := some 140, op := Op.move (Operand.tmp 1), type := 3, pos := "law.go:204", after := #[], guard := none }) (v := .int .i64 room) (fun _ _ => by kernel_rfl) hH ?_
                refine aT (i := 2) (oi := { dst := some 141, op := Op.move (Operand.tmp 2), type := 34, pos := "law.go:204", after := #[], guard := none }) (v := .slice ca cn cc) (fun _ _ => by kernel_rfl) hH ?_
                refine aT (i := 3) (oi := { dst := some 142, op := Op.move (Operand.tmp 19), type := 3, pos := "law.go:204", after := #[], guard := none }) (v := .int .i64 ((kk : Nat) : Int)) (fun _ _ => by kernel_rfl) hH ?_
                refine aT (i := 4) (oi := { dst := some 143, op := Op.slice 34 (Operand.tmp 141) (some (Operand.tmp 142)) none none, type := 34, pos := "law.go:204", after := #[{ on := 2, ground := Ground.data }, { on := 3, ground := Ground.data }], guard := none }) (v := .slice ua (cn - kk) uc) (fun w' hw => by rw [exec_slL 34 _ _ rfl 9 Try.und34e Try.size34e ca cn cc kk (by kernel_rfl) (by kernel_rfl) (by omega), HSl2.out]) hH ?_
                try simp only [pA, pB, p1, p2, p3]
                refine any_pick (rs := [5, 10]) (by kernel_rfl) (by simp) ?_
                intro i hi
                rcases pick2 hi with rfl | rfl
                ·skip
                 clear hi
                 have HS0 : Hid (b3 ≤ wk40.heap.size) := Nat.le_trans hB3 HKs.out.size
                 refine step_call (i := 5) (o := oqWReplays9) rfl (by kernel_rfl) 18 #[.agg (Bv.cells ⟨yu, ⟨ya, yn, yc⟩, ⟨za, zn, zc⟩⟩), .int .i64 room, .slice ua (cn - kk) uc] (by kernel_rfl) _ (HR2.out _ yu ya yn yc za zn zc (HY.out.no HKs.out) HF.out.kept) ?_
                 rintro e wk41 ⟨⟨vu, ⟨va, vn, vc⟩, ⟨wa, wn, wd⟩⟩, ⟨ra, rn, rc⟩, vs2, rfl, hB, hA, -, -, -, -, hk⟩
                 have hH2 : Fr No w wk41 [(gk1, 25, Bv.cells ⟨up, ⟨ea, en, ec⟩, ⟨la, ln, lc⟩⟩), (gk12, 25, Bv.cells ⟨up, ⟨(some ⟨g, 0, none⟩), en, (en + 1)⟩, ⟨(some ⟨h, 0, none⟩), ln, (ln + 1)⟩⟩), (gk19, 25, Bv.cells ⟨xu, ⟨xa, xn, xc⟩, ⟨ta, tn, tc⟩⟩), (g20, 25, Bv.cells ⟨yu, ⟨ya, yn, yc⟩, ⟨za, zn, zc⟩⟩)] := hH.no hk
                 have HZ1 : Hid (BkAt wk41 ⟨vu, ⟨va, vn, vc⟩, ⟨wa, wn, wd⟩⟩ RB2) := hB
                 have HP2 : Hid (Ans wk41 b3 ⟨ra, rn, rc⟩ vs2 RA2) := hA.lower HS0.out
                 have HKs : Hid (Kept No w2 (wk41)) := HKs.out.no hk
                 have HF : Hid (Fr No w (wk41) [(gk1, 25, Bv.cells ⟨up, ⟨ea, en, ec⟩, ⟨la, ln, lc⟩⟩), (gk12, 25, Bv.cells ⟨up, ⟨(some ⟨g, 0, none⟩), en, (en + 1)⟩, ⟨(some ⟨h, 0, none⟩), ln, (ln + 1)⟩⟩), (gk19, 25, Bv.cells ⟨xu, ⟨xa, xn, xc⟩, ⟨ta, tn, tc⟩⟩), (g20, 25, Bv.cells ⟨yu, ⟨ya, yn, yc⟩, ⟨za, zn, zc⟩⟩)]) := HF.out.no hk
                 clear hB hA hk HS0
                 refine ⟨.tuple #[.agg (Bv.cells ⟨vu, ⟨va, vn, vc⟩, ⟨wa, wn, wd⟩⟩), .slice ra rn rc, .int .i64 er2], rfl, hH2, fun hH => ?_⟩
                 clear hH2
                 try simp only [pA, pB, p1, p2, p3]
                 refine aT (i := 6) (oi := oqWReplays10) (v := .tuple #[.agg (Bv.cells ⟨vu, ⟨va, vn, vc⟩, ⟨wa, wn, wd⟩⟩), .slice ra rn rc, .int .i64 er2]) (fun _ _ => by kernel_rfl) hH ?_
                 refine aT (i := 7) (oi := oqWReplays11) (v := .agg (Bv.cells ⟨vu, ⟨va, vn, vc⟩, ⟨wa, wn, wd⟩⟩)) (fun _ _ => by kernel_rfl) hH ?_
                 refine aT (i := 8) (oi := oqWReplays12) (v := .slice ra rn rc) (fun _ _ => by kernel_rfl) hH ?_
                 refine aT (i := 9) (oi := oqWReplays13) (v := .int .i64 er2) (fun _ _ => by kernel_rfl) hH ?_
                 try simp only [pA, pB, p1, p2, p3]
                 refine any_step (i := 10) (o := oqWReplays14) rfl (by kernel_rfl) (by kernel_rfl) (exec_alloc 25 rfl (Bv.cells bvZ) zero25) ((hH.alloc _ _).front) (fun hH => ?_)
                 try simp only [pA, pB, p1, p2, p3]
                 have HG_gk42 : Hid (w2.heap.size ≤ wk41.heap.size) := HKs.out.size
                 have HZ1 : Hid (BkAt (wk41.alloc (.cells (Bv.cells bvZ) 25)) ⟨vu, ⟨va, vn, vc⟩, ⟨wa, wn, wd⟩⟩ RB2) := HZ1.out.no ((Kept.refl No _).alloc _)
                 have HP2 : Hid (Ans (wk41.alloc (.cells (Bv.cells bvZ) 25)) b3 ⟨ra, rn, rc⟩ vs2 RA2) := HP2.out.no ((Kept.refl No _).alloc _)
                 have HKs : Hid (Kept No w2 (wk41.alloc (.cells (Bv.cells bvZ) 25))) := HKs.out.no ((Kept.refl No _).alloc _)
                 have HF : Hid (Fr No w (wk41.alloc (.cells (Bv.cells bvZ) 25)) [(gk1, 25, Bv.cells ⟨up, ⟨ea, en, ec⟩, ⟨la, ln, lc⟩⟩), (gk12, 25, Bv.cells ⟨up, ⟨(some ⟨g, 0, none⟩), en, (en + 1)⟩, ⟨(some ⟨h, 0, none⟩), ln, (ln + 1)⟩⟩), (gk19, 25, Bv.cells ⟨xu, ⟨xa, xn, xc⟩, ⟨ta, tn, tc⟩⟩), (g20, 25, Bv.cells ⟨yu, ⟨ya, yn, yc⟩, ⟨za, zn, zc⟩⟩), (wk41.heap.size, 25, Bv.cells bvZ)]) := HF.out.alloc _ _
                 generalize wk41.alloc (.cells (Bv.cells bvZ) 25) = wk43 at HF HKs HZ1 HP2 hH ⊢
                 obtain ⟨gk42, hg⟩ : ∃ g, g = wk41.heap.size := ⟨_, rfl⟩
                 have HG_gk42 : Hid (w2.heap.size ≤ gk42) := by show _ ≤ _; rw [hg]; exact HG_gk42.out
                 rw [← hg] at HF ⊢
                 clear hg
                 refine any_store (i := 11) (o := oqWReplays15) (w' := wk43.setRow gk42 (Bv.cells ⟨vu, ⟨va, vn, vc⟩, ⟨wa, wn, wd⟩⟩)) rfl (by kernel_rfl) (by kernel_rfl) 25 _ _ rfl ⟨gk42, 0, none⟩ (.agg (Bv.cells ⟨vu, ⟨va, vn, vc⟩, ⟨wa, wn, wd⟩⟩)) (by kernel_rfl) (by kernel_rfl) (st25 (HF.out.box 4 _ _ _ rfl) rfl) ((show Fr No w _ ([(gk1, 25, Bv.cells ⟨up, ⟨ea, en, ec⟩, ⟨la, ln, lc⟩⟩), (gk12, 25, Bv.cells ⟨up, ⟨(some ⟨g, 0, none⟩), en, (en + 1)⟩, ⟨(some ⟨h, 0, none⟩), ln, (ln + 1)⟩⟩), (gk19, 25, Bv.cells ⟨xu, ⟨xa, xn, xc⟩, ⟨ta, tn, tc⟩⟩), (g20, 25, Bv.cells ⟨yu, ⟨ya, yn, yc⟩, ⟨za, zn, zc⟩⟩)] ++ [(gk42, 25, Bv.cells ⟨vu, ⟨va, vn, vc⟩, ⟨wa, wn, wd⟩⟩)]) from HF.out.set 4 rfl _).front) (fun hH => ?_)
                 try simp only [pA, pB, p1, p2, p3]
                 have HZ1 : Hid (BkAt (wk43.setRow gk42 (Bv.cells ⟨vu, ⟨va, vn, vc⟩, ⟨wa, wn, wd⟩⟩)) ⟨vu, ⟨va, vn, vc⟩, ⟨wa, wn, wd⟩⟩ RB2) := HZ1.out.row (HF.out.box 4 _ _ _ rfl) (by decide) (by decide) _
                 have HP2 : Hid (Ans (wk43.setRow gk42 (Bv.cells ⟨vu, ⟨va, vn, vc⟩, ⟨wa, wn, wd⟩⟩)) b3 ⟨ra, rn, rc⟩ vs2 RA2) := HP2.out.row (HF.out.box 4 _ _ _ rfl) (by decide) (by decide) _
                 have HKs : Hid (Kept No w2 (wk43.setRow gk42 (Bv.cells ⟨vu, ⟨va, vn, vc⟩, ⟨wa, wn, wd⟩⟩))) := HKs.out.newRow HG_gk42.out _
                 have HF : Hid (Fr No w (wk43.setRow gk42 (Bv.cells ⟨vu, ⟨va, vn, vc⟩, ⟨wa, wn, wd⟩⟩)) [(gk1, 25, Bv.cells ⟨up, ⟨ea, en, ec⟩, ⟨la, ln, lc⟩⟩), (gk12, 25, Bv.cells ⟨up, ⟨(some ⟨g, 0, none⟩), en, (en + 1)⟩, ⟨(some ⟨h, 0, none⟩), ln, (ln + 1)⟩⟩), (gk19, 25, Bv.cells ⟨xu, ⟨xa, xn, xc⟩, ⟨ta, tn, tc⟩⟩), (g20, 25, Bv.cells ⟨yu, ⟨ya, yn, yc⟩, ⟨za, zn, zc⟩⟩), (gk42, 25, Bv.cells ⟨vu, ⟨va, vn, vc⟩, ⟨wa, wn, wd⟩⟩)]) := HF.out.set 4 rfl _
                 generalize wk43.setRow gk42 (Bv.cells ⟨vu, ⟨va, vn, vc⟩, ⟨wa, wn, wd⟩⟩) = wk44 at HF HKs HZ1 HP2 hH ⊢
                 refine aT (i := 12) (oi := oqWReplays16) (v := .slice ra rn rc) (fun _ _ => by kernel_rfl) hH ?_
                 refine aT (i := 13) (oi := oqWReplays17) (v := .int .i64 er2) (fun _ _ => by kernel_rfl) hH ?_
                 try simp only [pA, pB, p1, p2, p3]
                 refine wpAnyH_done (by kernel_rfl) ?_ _
                 try simp only [pA, pB, p1, p2, p3]
                 refine hK0 _ _ (Met.intro (hJ0 _ _ ?_))
                 (repeat apply Exists.intro)
                 refine ⟨?_, rfl⟩
                 exact ⟨gk42, vu, va, vn, vc, wa, wn, wd, ra, rn, rc, vs2, rfl, rfl, rfl, HF, HKs, HZ1, HP2⟩
                ·skip
                 clear hi
                 refine step_run (i := 10) (o := oqWReplays14) rfl (by kernel_rfl) (exec_alloc 25 rfl (Bv.cells bvZ) zero25) ((hH.alloc _ _).front) (fun hH => ?_)
                 try simp only [pA, pB, p1, p2, p3]
                 have HG_gk45 : Hid (w2.heap.size ≤ wk40.heap.size) := HKs.out.size
                 have HKs : Hid (Kept No w2 (wk40.alloc (.cells (Bv.cells bvZ) 25))) := HKs.out.no ((Kept.refl No _).alloc _)
                 have HF : Hid (Fr No w (wk40.alloc (.cells (Bv.cells bvZ) 25)) [(gk1, 25, Bv.cells ⟨up, ⟨ea, en, ec⟩, ⟨la, ln, lc⟩⟩), (gk12, 25, Bv.cells ⟨up, ⟨(some ⟨g, 0, none⟩), en, (en + 1)⟩, ⟨(some ⟨h, 0, none⟩), ln, (ln + 1)⟩⟩), (gk19, 25, Bv.cells ⟨xu, ⟨xa, xn, xc⟩, ⟨ta, tn, tc⟩⟩), (g20, 25, Bv.cells ⟨yu, ⟨ya, yn, yc⟩, ⟨za, zn, zc⟩⟩), (wk40.heap.size, 25, Bv.cells bvZ)]) := HF.out.alloc _ _
                 generalize wk40.alloc (.cells (Bv.cells bvZ) 25) = wk46 at HF HKs hH ⊢
                 obtain ⟨gk45, hg⟩ : ∃ g, g = wk40.heap.size := ⟨_, rfl⟩
                 have HG_gk45 : Hid (w2.heap.size ≤ gk45) := by show _ ≤ _; rw [hg]; exact HG_gk45.out
                 rw [← hg] at HF ⊢
                 clear hg
                 have HS0 : Hid (b3 ≤ wk46.heap.size) := Nat.le_trans hB3 HKs.out.size
                 refine any_call (i := 5) (o := oqWReplays9) rfl (by kernel_rfl) (by kernel_rfl) 18 #[.agg (Bv.cells ⟨yu, ⟨ya, yn, yc⟩, ⟨za, zn, zc⟩⟩), .int .i64 room, .slice ua (cn - kk) uc] (by kernel_rfl) _ (HR2.out _ yu ya yn yc za zn zc (HY.out.no HKs.out) HF.out.kept) ?_
                 rintro e wk47 ⟨⟨vu, ⟨va, vn, vc⟩, ⟨wa, wn, wd⟩⟩, ⟨ra, rn, rc⟩, vs2, rfl, hB, hA, -, -, -, -, hk⟩
                 have hH2 : Fr No w wk47 [(gk1, 25, Bv.cells ⟨up, ⟨ea, en, ec⟩, ⟨la, ln, lc⟩⟩), (gk12, 25, Bv.cells ⟨up, ⟨(some ⟨g, 0, none⟩), en, (en + 1)⟩, ⟨(some ⟨h, 0, none⟩), ln, (ln + 1)⟩⟩), (gk19, 25, Bv.cells ⟨xu, ⟨xa, xn, xc⟩, ⟨ta, tn, tc⟩⟩), (g20, 25, Bv.cells ⟨yu, ⟨ya, yn, yc⟩, ⟨za, zn, zc⟩⟩)] := hH.no hk
                 have HZ1 : Hid (BkAt wk47 ⟨vu, ⟨va, vn, vc⟩, ⟨wa, wn, wd⟩⟩ RB2) := hB
                 have HP2 : Hid (Ans wk47 b3 ⟨ra, rn, rc⟩ vs2 RA2) := hA.lower HS0.out
                 have HKs : Hid (Kept No w2 (wk47)) := HKs.out.no hk
                 have HF : Hid (Fr No w (wk47) [(gk1, 25, Bv.cells ⟨up, ⟨ea, en, ec⟩, ⟨la, ln, lc⟩⟩), (gk12, 25, Bv.cells ⟨up, ⟨(some ⟨g, 0, none⟩), en, (en + 1)⟩, ⟨(some ⟨h, 0, none⟩), ln, (ln + 1)⟩⟩), (gk19, 25, Bv.cells ⟨xu, ⟨xa, xn, xc⟩, ⟨ta, tn, tc⟩⟩), (g20, 25, Bv.cells ⟨yu, ⟨ya, yn, yc⟩, ⟨za, zn, zc⟩⟩), (gk45, 25, Bv.cells bvZ)]) := HF.out.no hk
                 clear hB hA hk HS0
                 refine ⟨.tuple #[.agg (Bv.cells ⟨vu, ⟨va, vn, vc⟩, ⟨wa, wn, wd⟩⟩), .slice ra rn rc, .int .i64 er2], rfl, hH2, fun hH => ?_⟩
                 clear hH2
                 try simp only [pA, pB, p1, p2, p3]
                 refine aT (i := 6) (oi := oqWReplays10) (v := .tuple #[.agg (Bv.cells ⟨vu, ⟨va, vn, vc⟩, ⟨wa, wn, wd⟩⟩), .slice ra rn rc, .int .i64 er2]) (fun _ _ => by kernel_rfl) hH ?_
                 refine aT (i := 7) (oi := oqWReplays11) (v := .agg (Bv.cells ⟨vu, ⟨va, vn, vc⟩, ⟨wa, wn, wd⟩⟩)) (fun _ _ => by kernel_rfl) hH ?_
                 refine aT (i := 8) (oi := oqWReplays12) (v := .slice ra rn rc) (fun _ _ => by kernel_rfl) hH ?_
                 refine aT (i := 9) (oi := oqWReplays13) (v := .int .i64 er2) (fun _ _ => by kernel_rfl) hH ?_
                 try simp only [pA, pB, p1, p2, p3]
                 refine any_store (i := 11) (o := oqWReplays15) (w' := wk47.setRow gk45 (Bv.cells ⟨vu, ⟨va, vn, vc⟩, ⟨wa, wn, wd⟩⟩)) rfl (by kernel_rfl) (by kernel_rfl) 25 _ _ rfl ⟨gk45, 0, none⟩ (.agg (Bv.cells ⟨vu, ⟨va, vn, vc⟩, ⟨wa, wn, wd⟩⟩)) (by kernel_rfl) (by kernel_rfl) (st25 (HF.out.box 4 _ _ _ rfl) rfl) ((show Fr No w _ ([(gk1, 25, Bv.cells ⟨up, ⟨ea, en, ec⟩, ⟨la, ln, lc⟩⟩), (gk12, 25, Bv.cells ⟨up, ⟨(some ⟨g, 0, none⟩), en, (en + 1)⟩, ⟨(some ⟨h, 0, none⟩), ln, (ln + 1)⟩⟩), (gk19, 25, Bv.cells ⟨xu, ⟨xa, xn, xc⟩, ⟨ta, tn, tc⟩⟩), (g20, 25, Bv.cells ⟨yu, ⟨ya, yn, yc⟩, ⟨za, zn, zc⟩⟩)] ++ [(gk45, 25, Bv.cells ⟨vu, ⟨va, vn, vc⟩, ⟨wa, wn, wd⟩⟩)]) from HF.out.set 4 rfl _).front) (fun hH => ?_)
                 try simp only [pA, pB, p1, p2, p3]
                 have HZ1 : Hid (BkAt (wk47.setRow gk45 (Bv.cells ⟨vu, ⟨va, vn, vc⟩, ⟨wa, wn, wd⟩⟩)) ⟨vu, ⟨va, vn, vc⟩, ⟨wa, wn, wd⟩⟩ RB2) := HZ1.out.row (HF.out.box 4 _ _ _ rfl) (by decide) (by decide) _
                 have HP2 : Hid (Ans (wk47.setRow gk45 (Bv.cells ⟨vu, ⟨va, vn, vc⟩, ⟨wa, wn, wd⟩⟩)) b3 ⟨ra, rn, rc⟩ vs2 RA2) := HP2.out.row (HF.out.box 4 _ _ _ rfl) (by decide) (by decide) _
                 have HKs : Hid (Kept No w2 (wk47.setRow gk45 (Bv.cells ⟨vu, ⟨va, vn, vc⟩, ⟨wa, wn, wd⟩⟩))) := HKs.out.newRow HG_gk45.out _
                 have HF : Hid (Fr No w (wk47.setRow gk45 (Bv.cells ⟨vu, ⟨va, vn, vc⟩, ⟨wa, wn, wd⟩⟩)) [(gk1, 25, Bv.cells ⟨up, ⟨ea, en, ec⟩, ⟨la, ln, lc⟩⟩), (gk12, 25, Bv.cells ⟨up, ⟨(some ⟨g, 0, none⟩), en, (en + 1)⟩, ⟨(some ⟨h, 0, none⟩), ln, (ln + 1)⟩⟩), (gk19, 25, Bv.cells ⟨xu, ⟨xa, xn, xc⟩, ⟨ta, tn, tc⟩⟩), (g20, 25, Bv.cells ⟨yu, ⟨ya, yn, yc⟩, ⟨za, zn, zc⟩⟩), (gk45, 25, Bv.cells ⟨vu, ⟨va, vn, vc⟩, ⟨wa, wn, wd⟩⟩)]) := HF.out.set 4 rfl _
                 generalize wk47.setRow gk45 (Bv.cells ⟨vu, ⟨va, vn, vc⟩, ⟨wa, wn, wd⟩⟩) = wk48 at HF HKs HZ1 HP2 hH ⊢
                 refine aT (i := 12) (oi := oqWReplays16) (v := .slice ra rn rc) (fun _ _ => by kernel_rfl) hH ?_
                 refine aT (i := 13) (oi := oqWReplays17) (v := .int .i64 er2) (fun _ _ => by kernel_rfl) hH ?_
                 try simp only [pA, pB, p1, p2, p3]
                 refine wpAnyH_done (by kernel_rfl) ?_ _
                 try simp only [pA, pB, p1, p2, p3]
                 refine hK0 _ _ (Met.intro (hJ0 _ _ ?_))
                 (repeat apply Exists.intro)
                 refine ⟨?_, rfl⟩
                 exact ⟨gk45, vu, va, vn, vc, wa, wn, wd, ra, rn, rc, vs2, rfl, rfl, rfl, HF, HKs, HZ1, HP2⟩
               case rest =>
                obtain ⟨g23, vu, va, vn, vc, wa, wn, wd, ra, rn, rc, vs2, rfl, rfl, rfl, HF, HKc, HZ1, HP2⟩ := hcut
                have HX1 : Hid (BkAt wc ⟨xu, ⟨xa, xn, xc⟩, ⟨ta, tn, tc⟩⟩ RB) := HX1.out.no HKc.out
                have HA1 : Hid (Ans wc b1 ⟨aa, an, ac⟩ vs RA) := HA1.out.no HKc.out
                have HP1 : Hid (Ans wc b3 ⟨fa, fn, fc⟩ vs1 RA1) := HP1.out.no HKc.out
                have HS3 : Hid (b3 ≤ wc.heap.size) := Nat.le_trans hB3 HKc.out.size
                have hfr : fn + rn ≤ 1000000 := by have e1 : RA1.length = fn := HP1.out.la; have e2 : RA2.length = rn := HP2.out.la; omega
                clear HKc HR2 HY hB3
                go_upto_region 29 with fail
                refine WL.start ?_
                refine tK (.int .i64 er) ?_
                try simp only [pA, pB, p1, p2, p3]
                cases q5 : (er == 0)
                ·skip
                 refine tW (.bool true) (exec_bin .neq 3 _ _ _ rfl (.int .i64 er) (.int .i64 0) (.bool true) (by kernel_rfl) (by kernel_rfl) (by kernel_rfl) (by rw [b_neq, q5]; try rfl)) ?_
                 try simp only [pA, pB, p1, p2, p3]
                 refine WL.nil ?_
                 try simp only [pA, pB, p1, p2, p3]
                 have hne : er ≠ 0 := by have := q5; simpa using this
                 have han : an = 0 := by have e : RA.length = an := HA1.out.la; rw [HNil.out hne] at e; exact e.symm
                 clear HX1 HA1 HP1 HZ1 HP2
                 go_upto_region 30 with fail
                 refine WL.start ?_
                 refine tK (.slice aa an ac) ?_
                 refine tK (.int .i64 ((an : Nat) : Int)) ?_
                 refine tW (.bool true) (exec_bin .eql 3 _ _ _ rfl (.int .i64 ((an : Nat) : Int)) (.int .i64 0) (.bool true) (by kernel_rfl) (by kernel_rfl) (by kernel_rfl) (by rw [b_eql, han]; rfl)) ?_
                 refine tK (.bool true) ?_
                 refine tK (.int .i64 er1) ?_
                 try simp only [pA, pB, p1, p2, p3]
                 cases q6 : (er1 == 0)
                 ·skip
                  refine tW (.bool true) (exec_bin .neq 3 _ _ _ rfl (.int .i64 er1) (.int .i64 0) (.bool true) (by kernel_rfl) (by kernel_rfl) (by kernel_rfl) (by rw [b_neq, q6]; try rfl)) ?_
                  refine tK (.bool true) ?_
                  refine sK ?_
                  refine sK ?_
                  refine tK (.bool true) ?_
                  refine tK (.bool true) ?_
                  refine tK (.bool true) ?_
                  try simp only [pA, pB, p1, p2, p3]
                  refine wp_callW 10 #[] (by kernel_rfl) _ (head_any _) (by kernel_rfl) ?_
                  rintro e wk49 ⟨rfl, hk⟩
                  have HF : Hid (Fr No w (wk49) [(gk1, 25, Bv.cells ⟨up, ⟨ea, en, ec⟩, ⟨la, ln, lc⟩⟩), (gk12, 25, Bv.cells ⟨up, ⟨(some ⟨g, 0, none⟩), en, (en + 1)⟩, ⟨(some ⟨h, 0, none⟩), ln, (ln + 1)⟩⟩), (gk19, 25, Bv.cells ⟨xu, ⟨xa, xn, xc⟩, ⟨ta, tn, tc⟩⟩), (g20, 25, Bv.cells ⟨yu, ⟨ya, yn, yc⟩, ⟨za, zn, zc⟩⟩), (g23, 25, Bv.cells ⟨vu, ⟨va, vn, vc⟩, ⟨wa, wn, wd⟩⟩)]) := HF.out.no hk
                  clear hk
                  refine ⟨.bool true, rfl, ?_⟩
                  try simp only [pA, pB, p1, p2, p3]
                  refine tK (.bool true) ?_
                  refine tK (.bool true) ?_
                  try simp only [pA, pB, p1, p2, p3]
                  refine WL.nil ?_
                  try simp only [pA, pB, p1, p2, p3]
                  go_wp2
                  rw [HC.out]
                  exact ⟨rfl, HF.out.kept⟩
                 ·skip
                  refine tW (.bool false) (exec_bin .neq 3 _ _ _ rfl (.int .i64 er1) (.int .i64 0) (.bool false) (by kernel_rfl) (by kernel_rfl) (by kernel_rfl) (by rw [b_neq, q6]; try rfl)) ?_
                  refine tK (.bool false) ?_
                  refine tK (.int .i64 er2) ?_
                  try simp only [pA, pB, p1, p2, p3]
                  cases q7 : (er2 == 0)
                  ·skip
                   refine tW (.bool true) (exec_bin .neq 3 _ _ _ rfl (.int .i64 er2) (.int .i64 0) (.bool true) (by kernel_rfl) (by kernel_rfl) (by kernel_rfl) (by rw [b_neq, q7]; try rfl)) ?_
                   refine tK (.bool true) ?_
                   refine tK (.bool true) ?_
                   refine tK (.bool true) ?_
                   try simp only [pA, pB, p1, p2, p3]
                   refine wp_callW 10 #[] (by kernel_rfl) _ (head_any _) (by kernel_rfl) ?_
                   rintro e wk50 ⟨rfl, hk⟩
                   have HF : Hid (Fr No w (wk50) [(gk1, 25, Bv.cells ⟨up, ⟨ea, en, ec⟩, ⟨la, ln, lc⟩⟩), (gk12, 25, Bv.cells ⟨up, ⟨(some ⟨g, 0, none⟩), en, (en + 1)⟩, ⟨(some ⟨h, 0, none⟩), ln, (ln + 1)⟩⟩), (gk19, 25, Bv.cells ⟨xu, ⟨xa, xn, xc⟩, ⟨ta, tn, tc⟩⟩), (g20, 25, Bv.cells ⟨yu, ⟨ya, yn, yc⟩, ⟨za, zn, zc⟩⟩), (g23, 25, Bv.cells ⟨vu, ⟨va, vn, vc⟩, ⟨wa, wn, wd⟩⟩)]) := HF.out.no hk
                   clear hk
                   refine ⟨.bool true, rfl, ?_⟩
                   try simp only [pA, pB, p1, p2, p3]
                   refine tK (.bool true) ?_
                   refine tK (.bool true) ?_
                   try simp only [pA, pB, p1, p2, p3]
                   refine WL.nil ?_
                   try simp only [pA, pB, p1, p2, p3]
                   go_wp2
                   rw [HC.out]
                   exact ⟨rfl, HF.out.kept⟩
                  · exact absurd (show er2 = 0 by have := q7; simpa using this) (HErr.out hne (by have := q6; simpa using this))
                ·skip
                 refine tW (.bool false) (exec_bin .neq 3 _ _ _ rfl (.int .i64 er) (.int .i64 0) (.bool false) (by kernel_rfl) (by kernel_rfl) (by kernel_rfl) (by rw [b_neq, q5]; try rfl)) ?_
                 try simp only [pA, pB, p1, p2, p3]
                 refine WL.nil ?_
                 try simp only [pA, pB, p1, p2, p3]
                 have he0 : er = 0 := by have := q5; simpa using this
                 obtain ⟨z1, z2, z3, z4⟩ := HZero.out he0
                 have he1 : (er1 == 0) = true := by rw [z1]; rfl
                 have he2 : (er2 == 0) = true := by rw [z2]; rfl
                 have HRq : Hid (RB2 = RB ∧ RA1 ++ RA2 = RA) := ⟨z3, z4⟩
                 have HZ1 : Hid (BkAt wc ⟨vu, ⟨va, vn, vc⟩, ⟨wa, wn, wd⟩⟩ RB) := by have := HZ1.out; rw [z3] at this; exact this
                 have HU3 : Hid (vu = xu) := HZ1.out.up.trans HX1.out.up.symm
                 have hvn : vn ≤ 140737488355328 := by have e : RB.es.length = vn := HZ1.out.e.len; have := HX1.out.ne; omega
                 have hwn : wn ≤ 140737488355328 := by have e : RB.ls.length = wn := HZ1.out.l.len; have := HX1.out.nl; omega
                 have HKw : Hid (Kept No wc wc) := Kept.refl _ _
                 clear z1 z2 z3 z4
                 go_upto_region 31 with fail
                 refine WL.start ?_
                 refine tK (.int .i64 er1) ?_
                 refine tW (.bool true) (exec_bin .eql 3 _ _ _ rfl (.int .i64 er1) (.int .i64 0) (.bool true) (by kernel_rfl) (by kernel_rfl) (by kernel_rfl) (by rw [b_eql, he1]; try rfl)) ?_
                 refine tK (.bool true) ?_
                 refine tK (.int .i64 er2) ?_
                 refine tW (.bool true) (exec_bin .eql 3 _ _ _ rfl (.int .i64 er2) (.int .i64 0) (.bool true) (by kernel_rfl) (by kernel_rfl) (by kernel_rfl) (by rw [b_eql, he2]; try rfl)) ?_
                 refine tK (.bool true) ?_
                 refine tK (.bool true) ?_
                 refine tW (.agg (Bv.cells ⟨vu, ⟨va, vn, vc⟩, ⟨wa, wn, wd⟩⟩)) (exec_load 25 _ rfl ⟨g23, 0, none⟩ (by kernel_rfl) (.agg (Bv.cells ⟨vu, ⟨va, vn, vc⟩, ⟨wa, wn, wd⟩⟩)) (ld25 (HF.out.box 4 _ _ _ rfl))) ?_
                 refine tW (.agg (Bv.cells ⟨xu, ⟨xa, xn, xc⟩, ⟨ta, tn, tc⟩⟩)) (exec_load 25 _ rfl ⟨gk19, 0, none⟩ (by kernel_rfl) (.agg (Bv.cells ⟨xu, ⟨xa, xn, xc⟩, ⟨ta, tn, tc⟩⟩)) (ld25 (HF.out.box 2 _ _ _ rfl))) ?_
                 try simp only [pA, pB, p1, p2, p3]
                 refine wp_callW 15 #[.agg (Bv.cells ⟨vu, ⟨va, vn, vc⟩, ⟨wa, wn, wd⟩⟩), .agg (Bv.cells ⟨xu, ⟨xa, xn, xc⟩, ⟨ta, tn, tc⟩⟩)] (by kernel_rfl) _ (sameB_any vu va vn vc wa wn wd xu xa xn xc ta tn tc RB.es RB.es RB.ls RB.ls _ HZ1.out.e HX1.out.e HZ1.out.l HX1.out.l hvn hwn) (by kernel_rfl) ?_
                 rintro e wk51 ⟨rfl, hk⟩
                 have HX1 : Hid (BkAt (wk51) ⟨xu, ⟨xa, xn, xc⟩, ⟨ta, tn, tc⟩⟩ RB) := HX1.out.no hk
                 have HA1 : Hid (Ans (wk51) b1 ⟨aa, an, ac⟩ vs RA) := HA1.out.no hk
                 have HP1 : Hid (Ans (wk51) b3 ⟨fa, fn, fc⟩ vs1 RA1) := HP1.out.no hk
                 have HZ1 : Hid (BkAt (wk51) ⟨vu, ⟨va, vn, vc⟩, ⟨wa, wn, wd⟩⟩ RB) := HZ1.out.no hk
                 have HP2 : Hid (Ans (wk51) b3 ⟨ra, rn, rc⟩ vs2 RA2) := HP2.out.no hk
                 have HKw : Hid (Kept No wc (wk51)) := HKw.out.no hk
                 have HF : Hid (Fr No w (wk51) [(gk1, 25, Bv.cells ⟨up, ⟨ea, en, ec⟩, ⟨la, ln, lc⟩⟩), (gk12, 25, Bv.cells ⟨up, ⟨(some ⟨g, 0, none⟩), en, (en + 1)⟩, ⟨(some ⟨h, 0, none⟩), ln, (ln + 1)⟩⟩), (gk19, 25, Bv.cells ⟨xu, ⟨xa, xn, xc⟩, ⟨ta, tn, tc⟩⟩), (g20, 25, Bv.cells ⟨yu, ⟨ya, yn, yc⟩, ⟨za, zn, zc⟩⟩), (g23, 25, Bv.cells ⟨vu, ⟨va, vn, vc⟩, ⟨wa, wn, wd⟩⟩)]) := HF.out.no hk
                 clear hk
                 refine ⟨.bool true, by rw [HU3.out, sameB_refl], ?_⟩
                 try simp only [pA, pB, p1, p2, p3]
                 refine tK (.bool true) ?_
                 refine tK (.bool true) ?_
                 refine tK (.slice fa fn fc) ?_
                 refine tK (.slice ra rn rc) ?_
                 try simp only [pA, pB, p1, p2, p3]
                 obtain ⟨pa, pc, wk52, hrun, hO, hk⟩ := appA HP1.out HP2.out (Nat.le_trans HS3.out HKw.out.size) hfr
                 refine wp_runW (.slice pa (fn + rn) pc) wk52 (exec_appN _ _ 45 45 rfl _ _ (by kernel_rfl) (by kernel_rfl) hrun) (by kernel_rfl) ?_
                 try simp only [pA, pB, p1, p2, p3]
                 have HF : Hid (Fr No w wk52 [(gk1, 25, Bv.cells ⟨up, ⟨ea, en, ec⟩, ⟨la, ln, lc⟩⟩), (gk12, 25, Bv.cells ⟨up, ⟨(some ⟨g, 0, none⟩), en, (en + 1)⟩, ⟨(some ⟨h, 0, none⟩), ln, (ln + 1)⟩⟩), (gk19, 25, Bv.cells ⟨xu, ⟨xa, xn, xc⟩, ⟨ta, tn, tc⟩⟩), (g20, 25, Bv.cells ⟨yu, ⟨ya, yn, yc⟩, ⟨za, zn, zc⟩⟩), (g23, 25, Bv.cells ⟨vu, ⟨va, vn, vc⟩, ⟨wa, wn, wd⟩⟩)]) := HF.out.off hk (fun k e => Nat.le_trans hb3 (HP1.out.own.base e)) (by
                   intro x hx e
                   obtain ⟨cs, hb⟩ := HP1.out.own.ty e
                   obtain ⟨i, hi⟩ := List.mem_iff_getElem?.1 hx
                   have hT : x.2.1 ≠ 56 := by
                     simp only [List.mem_cons, List.not_mem_nil, or_false] at hx
                     rcases hx with rfl | rfl | rfl | rfl | rfl <;> exact (by decide : (25 : Nat) ≠ 56)
                   exact box_ne (HF.out.box i x.1 x.2.1 x.2.2 hi) hb hT rfl)
                 have HA1 : Hid (Ans wk52 b1 ⟨aa, an, ac⟩ vs RA) := HA1.out.kept hk (fun k q1 q2 => by have := HAb.out k q1; have := HP1.out.own.base q2; omega) (fun i x hx k q1 q2 => by
                   obtain ⟨a, _, ha⟩ := HA1.out.get i x hx
                   obtain ⟨cs, hb⟩ := HP1.out.own.ty q2
                   exact ha.not hb (by decide) q1)
                 have HQ : Hid (Ans wk52 b3 ⟨pa, fn + rn, pc⟩ (vs1 ++ vs2) RA) := by have := hO; rw [HRq.out.2] at this; exact this
                 clear hrun hO hk HP1 HP2
                 refine tK (.slice aa an ac) ?_
                 try simp only [pA, pB, p1, p2, p3]
                 refine wp_callW 21 #[.slice pa (fn + rn) pc, .slice aa an ac] (by kernel_rfl) _ (sameAns_any2 pa (fn + rn) pc aa an ac (vs1 ++ vs2) vs RA b3 b1 _ HQ.out HA1.out hfr) (by kernel_rfl) ?_
                 rintro e wk53 ⟨rfl, hk⟩
                 have HA1 : Hid (Ans (wk53) b1 ⟨aa, an, ac⟩ vs RA) := HA1.out.no hk
                 have HQ : Hid (Ans (wk53) b3 ⟨pa, fn + rn, pc⟩ (vs1 ++ vs2) RA) := HQ.out.no hk
                 have HF : Hid (Fr No w (wk53) [(gk1, 25, Bv.cells ⟨up, ⟨ea, en, ec⟩, ⟨la, ln, lc⟩⟩), (gk12, 25, Bv.cells ⟨up, ⟨(some ⟨g, 0, none⟩), en, (en + 1)⟩, ⟨(some ⟨h, 0, none⟩), ln, (ln + 1)⟩⟩), (gk19, 25, Bv.cells ⟨xu, ⟨xa, xn, xc⟩, ⟨ta, tn, tc⟩⟩), (g20, 25, Bv.cells ⟨yu, ⟨ya, yn, yc⟩, ⟨za, zn, zc⟩⟩), (g23, 25, Bv.cells ⟨vu, ⟨va, vn, vc⟩, ⟨wa, wn, wd⟩⟩)]) := HF.out.no hk
                 clear hk
                 refine ⟨.bool true, rfl, ?_⟩
                 try simp only [pA, pB, p1, p2, p3]
                 refine tK (.bool true) ?_
                 refine tK (.bool true) ?_
                 try simp only [pA, pB, p1, p2, p3]
                 refine wp_callW 10 #[] (by kernel_rfl) _ (head_any _) (by kernel_rfl) ?_
                 rintro e wk54 ⟨rfl, hk⟩
                 have HA1 : Hid (Ans (wk54) b1 ⟨aa, an, ac⟩ vs RA) := HA1.out.no hk
                 have HQ : Hid (Ans (wk54) b3 ⟨pa, fn + rn, pc⟩ (vs1 ++ vs2) RA) := HQ.out.no hk
                 have HF : Hid (Fr No w (wk54) [(gk1, 25, Bv.cells ⟨up, ⟨ea, en, ec⟩, ⟨la, ln, lc⟩⟩), (gk12, 25, Bv.cells ⟨up, ⟨(some ⟨g, 0, none⟩), en, (en + 1)⟩, ⟨(some ⟨h, 0, none⟩), ln, (ln + 1)⟩⟩), (gk19, 25, Bv.cells ⟨xu, ⟨xa, xn, xc⟩, ⟨ta, tn, tc⟩⟩), (g20, 25, Bv.cells ⟨yu, ⟨ya, yn, yc⟩, ⟨za, zn, zc⟩⟩), (g23, 25, Bv.cells ⟨vu, ⟨va, vn, vc⟩, ⟨wa, wn, wd⟩⟩)]) := HF.out.no hk
                 clear hk
                 refine ⟨.bool true, rfl, ?_⟩
                 try simp only [pA, pB, p1, p2, p3]
                 refine tK (.bool true) ?_
                 refine tK (.bool true) ?_
                 try simp only [pA, pB, p1, p2, p3]
                 refine WL.nil ?_
                 try simp only [pA, pB, p1, p2, p3]
                 go_wp2
                 rw [HC.out]
                 exact ⟨rfl, HF.out.kept⟩
   ·skip
    refine tW (.bool true) (exec_bin .gtr 3 _ _ _ rfl (.int .i64 ((cn : Nat) : Int)) (.int .i64 400) (.bool true) (by kernel_rfl) (by kernel_rfl) (by kernel_rfl) (by rw [b_gtr, q2]; try rfl)) ?_
    refine tK (.bool true) ?_
    try simp only [pA, pB, p1, p2, p3]
    refine WL.nil ?_
    try simp only [pA, pB, p1, p2, p3]
    go_upto_region 2 with fail
    refine WL.start ?_
    refine wp_callW 10 #[] (by kernel_rfl) _ (head_any _) (by kernel_rfl) ?_
    rintro e wk55 ⟨rfl, hk⟩
    have HF : Hid (Fr No w (wk55) [(gk1, 25, Bv.cells ⟨up, ⟨ea, en, ec⟩, ⟨la, ln, lc⟩⟩)]) := HF.out.no hk
    clear hk
    refine ⟨.bool true, rfl, ?_⟩
    try simp only [pA, pB, p1, p2, p3]
    refine tK (.bool true) ?_
    try simp only [pA, pB, p1, p2, p3]
    refine WL.nil ?_
    try simp only [pA, pB, p1, p2, p3]
    go_wp2
    rw [HC.out]
    exact ⟨rfl, HF.out.kept⟩

end Go.Proofs.Ytfemlnfknebalaa
