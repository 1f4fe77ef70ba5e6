import Derived.Test.YtcgnbpaaalmkoabBe
namespace Go.Proofs.Ytcgnbpaaalmkoab
open Go.RowKit
set_option linter.unusedVariables false
set_option linter.unusedSimpArgs false

set_option maxRecDepth 100000 in
set_option maxHeartbeats 4000000 in
theorem backB_any (s : Sl) (g : Nat) (bs : List Int) (w : World) (hb : RdB w s bs) (hg : Box w g 5 (u8L (tab (s.l + 67) (lntB s.l bs))).toArray) (hn : s.l ≤ 140737488351232) : Calls Try.prog 27 #[.slice (some ⟨g, 0, none⟩) s.l (s.l + 67), s.v] w (fun e w' => e = .returned (.bool true) ∧ Kept No w w') := by
  obtain ⟨C, hC⟩ : ∃ C : Ending → World → Prop, C = (fun e w' => e = .returned (.bool true) ∧ Kept No w w') := ⟨_, rfl⟩
  have HC : Hid (C = (fun e w' => e = .returned (.bool true) ∧ Kept No w w')) := hC
  rw [← hC]
  clear hC
  have HB : Hid (RdB w s bs) := hb
  have HG : Hid (Box w g 5 (u8L (tab (s.l + 67) (lntB s.l bs))).toArray) := hg
  clear hb hg
  have HF : Hid (Fr No w w []) := Fr.start _ _
  go_enter Try.func27, Try.ntmps27
  go_upto_region 0 with fail
  refine WL.start ?_
  refine tK (.bool false) ?_
  try simp only [pS]
  refine WL.nil ?_
  try simp only [pS]
  go_upto_region 1 with fail
  refine WL.start ?_
  refine tK (.slice (some ⟨g, 0, none⟩) s.l (s.l + 67)) ?_
  refine tK (s.v) ?_
  try simp only [pS]
  refine wp_callW 17 #[.slice (some ⟨g, 0, none⟩) s.l (s.l + 67), s.v] (by kernel_rfl) _ (sameB_any (lent s g) s bs _ (rd_B HB.out.len HG.out) HB.out) (by kernel_rfl) ?_
  rintro e wq ⟨rfl, hwq⟩
  rw [hwq]
  clear hwq wq
  refine ⟨.bool true, rfl, ?_⟩
  try simp only [pS]
  refine tK (.bool false) ?_
  try simp only [pS]
  refine WL.nil ?_
  try simp only [pS]
  go_upto_region 3 with fail
  refine WL.start ?_
  refine tK (.slice (some ⟨g, 0, none⟩) s.l (s.l + 67)) ?_
  refine tK (s.v) ?_
  refine tK (.int .i64 ((s.l : Nat) : Int)) ?_
  refine tW (.int .i64 (((s.l + 67) : Nat) : Int)) (eB .add 3 _ _ _ rfl (.int .i64 ((s.l : Nat) : Int)) (.int .i64 67) _ (b_addw _ _ _ (by rw [IntKind.wrap_i64]; omega) _)) ?_
  refine tW (.slice (some ⟨g, 0, none⟩) (s.l + 67) (s.l + 67)) ((exec_slH 24 _ _ rfl 1 Try.und26e Try.size26e (some ⟨g, 0, none⟩) s.l (s.l + 67) (s.l + 67) (by kernel_rfl) (by kernel_rfl) (by omega)).trans (by rw [sliced0 _ _ _ _ (by omega)])) ?_
  refine tK (.slice (some ⟨g, 0, none⟩) (s.l + 67) (s.l + 67)) ?_
  try simp only [pS]
  refine WL.nil ?_
  try simp only [pS]
  go_upto_region 4 with fail
  refine WL.start ?_
  refine tK (s.v) ?_
  refine tK (.int .i64 ((s.l : Nat) : Int)) ?_
  refine tK (.int .i64 ((s.l : Nat) : Int)) ?_
  try simp only [pS]
  refine WL.nil ?_
  try simp only [pS]
  go_wp2
  go_loopw [6] (fun v6 wr => ∃ i : Nat, v6 = .int .i64 ((i : Nat) : Int) ∧ s.l ≤ i ∧ i ≤ s.l + 67 ∧ Hid (Fr No w wr [])) (fun i _ => s.l + 67 - (intOf i).toNat)
  case atStart => exact ⟨s.l, rfl, by omega, by omega, HF⟩
  case round =>
    clear HF
    obtain ⟨i, rfl, hi0, hi, HF⟩ := hrel
    by_cases hlt : i < s.l + 67
    · skip
      go_upto_region 5 with fail
      refine WL.start ?_
      refine tK (.int .i64 ((i : Nat) : Int)) ?_
      refine tK (.slice (some ⟨g, 0, none⟩) (s.l + 67) (s.l + 67)) ?_
      refine tK (.int .i64 (((s.l + 67) : Nat) : Int)) ?_
      refine tW (.bool true) (eB .lss 3 _ _ _ rfl (.int .i64 ((i : Nat) : Int)) (.int .i64 (((s.l + 67) : Nat) : Int)) _ (by rw [b_lss, decide_eq_true (by omega)])) ?_
      try simp only [pS]
      refine WL.nil ?_
      try simp only [pS]
      go_upto_region 7 with fail
      refine WL.start ?_
      refine tK (.slice (some ⟨g, 0, none⟩) (s.l + 67) (s.l + 67)) ?_
      refine tK (.int .i64 ((i : Nat) : Int)) ?_
      refine tW (.pointer (some ⟨g, 0 + i * 1, none⟩)) (exec_ixA 24 1 Try.und26e Try.size26e _ _ rfl g 0 (s.l + 67) (s.l + 67) i (by kernel_rfl) (by kernel_rfl) (by omega)) ?_
      refine tW (.int .u8 201) (eL 5 _ rfl ⟨g, 0 + i * 1, none⟩ (load_one ((row_B (HG.out.no HF.out.kept) (tab_get hlt)).trans (by rw [show lntB s.l bs i = 201 from lnt_ge hi0])) Try.und5 rfl)) ?_
      refine tW (.bool false) (eB .neq 5 _ _ _ rfl (.int .u8 201) (.int .u8 201) _ (by kernel_rfl)) ?_
      try simp only [pS]
      refine WL.nil ?_
      try simp only [pS]
      go_upto_region 6 with fail
      refine WL.start ?_
      refine tK (.int .i64 ((i : Nat) : Int)) ?_
      refine tW (.int .i64 (((i + 1) : Nat) : Int)) (eB .add 3 _ _ _ rfl (.int .i64 ((i : Nat) : Int)) (.int .i64 1) _ (b_addw _ _ _ (by rw [IntKind.wrap_i64]; omega) _)) ?_
      refine tK (.int .i64 (((i + 1) : Nat) : Int)) ?_
      try simp only [pS]
      refine WL.nil ?_
      try simp only [pS]
      go_wp2
      go_roundw
      case rel => exact ⟨i + 1, by go_num, by omega, by omega, HF⟩
      case measure => simp [intOf]; omega
    · skip
      go_upto_region 5 with fail
      refine WL.start ?_
      refine tK (.int .i64 ((i : Nat) : Int)) ?_
      refine tK (.slice (some ⟨g, 0, none⟩) (s.l + 67) (s.l + 67)) ?_
      refine tK (.int .i64 (((s.l + 67) : Nat) : Int)) ?_
      refine tW (.bool false) (eB .lss 3 _ _ _ rfl (.int .i64 ((i : Nat) : Int)) (.int .i64 (((s.l + 67) : Nat) : Int)) _ (by rw [b_lss, decide_eq_false (by omega)])) ?_
      try simp only [pS]
      refine WL.nil ?_
      try simp only [pS]
      go_upto_region 9 with fail
      refine WL.start ?_
      refine tK (.bool true) ?_
      try simp only [pS]
      refine WL.nil ?_
      try simp only [pS]
      go_wp2
      rw [HC.out]
      exact ⟨rfl, HF.out.kept⟩
set_option maxRecDepth 100000 in
set_option maxHeartbeats 4000000 in
theorem sameK_any (u : Int) (xa ya xb yb : Option Addr) (n m xk yk xj yj : Nat) (es : List En) (ls : List La) (w : World) (h1 : RdE w ⟨xa, n, xk⟩ es) (h2 : RdE w ⟨ya, n, yk⟩ es) (h3 : RdL w ⟨xb, m, xj⟩ ls) (h4 : RdL w ⟨yb, m, yj⟩ ls) (hn : n ≤ 4000000000000) (hm : m ≤ 4000000000000) : Calls Try.prog 26 #[.agg (Bv.cells ⟨u, ⟨xa, n, xk⟩, ⟨xb, m, xj⟩⟩), .agg (Bv.cells ⟨u, ⟨ya, n, yk⟩, ⟨yb, m, yj⟩⟩)] w (fun e w' => e = .returned (.bool true) ∧ Kept No w w') := by
  obtain ⟨C, hC⟩ : ∃ C : Ending → World → Prop, C = (fun e w' => e = .returned (.bool true) ∧ Kept No w w') := ⟨_, rfl⟩
  have HC : Hid (C = (fun e w' => e = .returned (.bool true) ∧ Kept No w w')) := hC
  rw [← hC]
  clear hC
  have H1 : Hid (RdE w ⟨xa, n, xk⟩ es) := h1
  have H2 : Hid (RdE w ⟨ya, n, yk⟩ es) := h2
  have H3 : Hid (RdL w ⟨xb, m, xj⟩ ls) := h3
  have H4 : Hid (RdL w ⟨yb, m, yj⟩ ls) := h4
  have L1 : Hid (es.length = n) := h1.len
  have L3 : Hid (ls.length = m) := h3.len
  clear h1 h2 h3 h4
  have HF : Hid (Fr No w w []) := Fr.start _ _
  go_enter Try.func26, Try.ntmps26
  go_upto_region 0 with fail
  refine WL.start ?_
  refine wp_runW (.pointer (some ⟨w.heap.size, 0, none⟩)) (w.alloc (.cells (Bv.cells ⟨u, ⟨xa, n, xk⟩, ⟨xb, m, xj⟩⟩) 30)) (exec_box 30 _ rfl (Bv.cells ⟨u, ⟨xa, n, xk⟩, ⟨xb, m, xj⟩⟩) (by kernel_rfl)) (by kernel_rfl) ?_
  try simp only [pS]
  have HF : Hid (Fr No w _ [(w.heap.size, 30, Bv.cells ⟨u, ⟨xa, n, xk⟩, ⟨xb, m, xj⟩⟩)]) := HF.out.alloc _ _
  generalize w.alloc (.cells (Bv.cells ⟨u, ⟨xa, n, xk⟩, ⟨xb, m, xj⟩⟩) 30) = wk2 at HF ⊢
  generalize w.heap.size = gk1 at HF ⊢
  refine wp_runW (.pointer (some ⟨wk2.heap.size, 0, none⟩)) (wk2.alloc (.cells (Bv.cells ⟨u, ⟨ya, n, yk⟩, ⟨yb, m, yj⟩⟩) 30)) (exec_box 30 _ rfl (Bv.cells ⟨u, ⟨ya, n, yk⟩, ⟨yb, m, yj⟩⟩) (by kernel_rfl)) (by kernel_rfl) ?_
  try simp only [pS]
  have HF : Hid (Fr No w _ [(gk1, 30, Bv.cells ⟨u, ⟨xa, n, xk⟩, ⟨xb, m, xj⟩⟩), (wk2.heap.size, 30, Bv.cells ⟨u, ⟨ya, n, yk⟩, ⟨yb, m, yj⟩⟩)]) := HF.out.alloc _ _
  generalize wk2.alloc (.cells (Bv.cells ⟨u, ⟨ya, n, yk⟩, ⟨yb, m, yj⟩⟩) 30) = wk4 at HF ⊢
  generalize wk2.heap.size = gk3 at HF ⊢
  refine tK (.bool false) ?_
  try simp only [pS]
  refine WL.nil ?_
  try simp only [pS]
  go_upto_region 1 with fail
  refine WL.start ?_
  refine tK (.pointer (some ⟨gk1, 0, none⟩)) ?_
  refine tW (.int .i64 u) (eL 3 _ rfl ⟨gk1, 0, none⟩ (load_one ((HF.out.box 0 _ _ _ rfl).cell 0 |>.trans (by kernel_rfl)) Try.und3 rfl)) ?_
  refine tK (.pointer (some ⟨gk3, 0, none⟩)) ?_
  refine tW (.int .i64 u) (eL 3 _ rfl ⟨gk3, 0, none⟩ (load_one ((HF.out.box 1 _ _ _ rfl).cell 0 |>.trans (by kernel_rfl)) Try.und3 rfl)) ?_
  refine tW (.bool false) (eB .neq 3 _ _ _ rfl (.int .i64 u) (.int .i64 u) _ (by rw [b_neq, beq_self_eq_true]; rfl)) ?_
  refine tK (.bool false) ?_
  refine tK (.pointer (some ⟨gk1, 1, none⟩)) ?_
  refine tW (.slice xa n xk) (eL 27 _ rfl ⟨gk1, 1, none⟩ (load_one ((HF.out.box 0 _ _ _ rfl).cell 1 |>.trans (by kernel_rfl)) Try.und29 rfl)) ?_
  refine tK (.int .i64 ((n : Nat) : Int)) ?_
  refine tK (.pointer (some ⟨gk3, 1, none⟩)) ?_
  refine tW (.slice ya n yk) (eL 27 _ rfl ⟨gk3, 1, none⟩ (load_one ((HF.out.box 1 _ _ _ rfl).cell 1 |>.trans (by kernel_rfl)) Try.und29 rfl)) ?_
  refine tK (.int .i64 ((n : Nat) : Int)) ?_
  refine tW (.bool false) (eB .neq 3 _ _ _ rfl (.int .i64 ((n : Nat) : Int)) (.int .i64 ((n : Nat) : Int)) _ (by rw [b_neq, beq_self_eq_true]; rfl)) ?_
  refine tK (.bool false) ?_
  refine tK (.bool false) ?_
  refine tK (.pointer (some ⟨gk1, 2, none⟩)) ?_
  refine tW (.slice xb m xj) (eL 28 _ rfl ⟨gk1, 2, none⟩ (load_one ((HF.out.box 0 _ _ _ rfl).cell 2 |>.trans (by kernel_rfl)) Try.und30 rfl)) ?_
  refine tK (.int .i64 ((m : Nat) : Int)) ?_
  refine tK (.pointer (some ⟨gk3, 2, none⟩)) ?_
  refine tW (.slice yb m yj) (eL 28 _ rfl ⟨gk3, 2, none⟩ (load_one ((HF.out.box 1 _ _ _ rfl).cell 2 |>.trans (by kernel_rfl)) Try.und30 rfl)) ?_
  refine tK (.int .i64 ((m : Nat) : Int)) ?_
  refine tW (.bool false) (eB .neq 3 _ _ _ rfl (.int .i64 ((m : Nat) : Int)) (.int .i64 ((m : Nat) : Int)) _ (by rw [b_neq, beq_self_eq_true]; rfl)) ?_
  refine tK (.bool false) ?_
  try simp only [pS]
  refine WL.nil ?_
  try simp only [pS]
  go_upto_region 3 with fail
  refine WL.start ?_
  refine tK (.int .i64 0) ?_
  try simp only [pS]
  refine WL.nil ?_
  try simp only [pS]
  go_wp2
  go_loopw [5] (fun v5 wr => ∃ i : Nat, v5 = .int .i64 ((i : Nat) : Int) ∧ i ≤ n ∧ Hid (Fr No w wr [(gk1, 30, Bv.cells ⟨u, ⟨xa, n, xk⟩, ⟨xb, m, xj⟩⟩), (gk3, 30, Bv.cells ⟨u, ⟨ya, n, yk⟩, ⟨yb, m, yj⟩⟩)])) (fun i _ => n - (intOf i).toNat)
  case atStart => exact ⟨0, by go_num, by omega, HF⟩
  case round =>
    clear HF
    obtain ⟨i, rfl, hi, HF⟩ := hrel
    by_cases hlt : i < n
    · skip
      obtain ⟨pb, po, hcx⟩ := Es.at H1.out.row (i := i) (by rw [L1.out]; exact hlt)
      have hca := hcx.1
      have hcc := hcx.2
      obtain ⟨qb, qo, hdx⟩ := Es.at H2.out.row (i := i) (by rw [L1.out]; exact hlt)
      have hda := hdx.1
      have hdd := hdx.2
      clear hcx hdx
      have hs1 : Hid (Value.slice xa n xk = .slice (some ⟨pb, po, none⟩) n xk) := congrArg (fun a => Value.slice a n xk) hca
      have hs2 : Hid (Value.slice ya n yk = .slice (some ⟨qb, qo, none⟩) n yk) := congrArg (fun a => Value.slice a n yk) hda
      obtain ⟨x, hx⟩ : ∃ x, x = eAt es i := ⟨_, rfl⟩
      rw [← hx] at hcc hdd
      have cp : Hid (∀ (j : Nat) v, (En.cs x)[j]? = some v → w.cell? ⟨pb, po + i * 4 + j, none⟩ = some v) := hcc
      have cq : Hid (∀ (j : Nat) v, (En.cs x)[j]? = some v → w.cell? ⟨qb, qo + i * 4 + j, none⟩ = some v) := hdd
      clear hcc hdd hx hca hda
      go_upto_region 4 with fail
      refine WL.start ?_
      refine tK (.int .i64 ((i : Nat) : Int)) ?_
      refine tK (.pointer (some ⟨gk1, 1, none⟩)) ?_
      refine tW (.slice xa n xk) (eL 27 _ rfl ⟨gk1, 1, none⟩ (load_one ((HF.out.box 0 _ _ _ rfl).cell 1 |>.trans (by kernel_rfl)) Try.und29 rfl)) ?_
      refine tK (.int .i64 ((n : Nat) : Int)) ?_
      refine tW (.bool true) (eB .lss 3 _ _ _ rfl (.int .i64 ((i : Nat) : Int)) (.int .i64 ((n : Nat) : Int)) _ (by rw [b_lss, decide_eq_true (by omega)])) ?_
      try simp only [pS]
      refine WL.nil ?_
      try simp only [pS]
      go_upto_region 6 with fail
      refine wp_region_held_drew (S := fun w' => Fr No w w' [(gk1, 30, Bv.cells ⟨u, ⟨xa, n, xk⟩, ⟨xb, m, xj⟩⟩), (gk3, 30, Bv.cells ⟨u, ⟨ya, n, yk⟩, ⟨yb, m, yj⟩⟩)]) rfl (HF.out.drew) (fun hH => ?_)
      have HF : Hid (Fr No w (wr.drew) [(gk1, 30, Bv.cells ⟨u, ⟨xa, n, xk⟩, ⟨xb, m, xj⟩⟩), (gk3, 30, Bv.cells ⟨u, ⟨ya, n, yk⟩, ⟨yb, m, yj⟩⟩)]) := HF.out.drew
      generalize wr.drew = wk5 at HF hH ⊢
      refine aT (i := 0) (oi := { dst := some 37, op := Op.fieldAddr 30 (Operand.tmp 2) 1, type := 0, pos := "same.go:14", after := #[], guard := none }) (v := .pointer (some ⟨gk1, 1, none⟩)) (fun _ _ => by kernel_rfl) hH ?_
      try simp only [pS]
      refine aT (i := 1) (oi := { dst := some 38, op := Op.load 27 (Operand.tmp 37), type := 27, pos := "same.go:14", after := #[{ on := 0, ground := Ground.data }], guard := none }) (v := .slice xa n xk) (fun w' hw => eL 27 _ rfl ⟨gk1, 1, none⟩ (load_one ((hw.box 0 _ _ _ rfl).cell 1 |>.trans (by kernel_rfl)) Try.und29 rfl)) hH ?_
      try simp only [pS]
      refine aT (i := 2) (oi := { dst := some 39, op := Op.move (Operand.tmp 5), type := 3, pos := "same.go:14", after := #[], guard := none }) (v := .int .i64 ((i : Nat) : Int)) (fun _ _ => by kernel_rfl) hH ?_
      try simp only [pS]
      refine aT (i := 3) (oi := { dst := some 40, op := Op.indexAddr 27 (Operand.tmp 38) (Operand.tmp 39), type := 0, pos := "same.go:14", after := #[{ on := 1, ground := Ground.data }, { on := 2, ground := Ground.data }], guard := none }) (v := .pointer (some ⟨pb, po + i * 4, none⟩)) (fun w' hw => exec_ixA 27 4 Try.und29e Try.size29e _ _ rfl pb po n xk i (Eq.trans (b := .slice xa n xk) (by kernel_rfl) hs1.out) (by kernel_rfl) hlt) hH ?_
      try simp only [pS]
      refine aT (i := 4) (oi := { dst := some 41, op := Op.load 91 (Operand.tmp 40), type := 91, pos := "same.go:14", after := #[{ on := 3, ground := Ground.data }], guard := none }) (v := .agg (En.cells x)) (fun w' hw => eL 91 _ rfl ⟨pb, po + i * 4, none⟩ (load_E (fun j v hv => hw.kept.cell (cp.out j v hv) (fun e => e)))) hH ?_
      try simp only [pS]
      refine aT (i := 5) (oi := { dst := some 42, op := Op.fieldAddr 30 (Operand.tmp 3) 1, type := 0, pos := "same.go:14", after := #[], guard := none }) (v := .pointer (some ⟨gk3, 1, none⟩)) (fun _ _ => by kernel_rfl) hH ?_
      try simp only [pS]
      refine aT (i := 6) (oi := { dst := some 43, op := Op.load 27 (Operand.tmp 42), type := 27, pos := "same.go:14", after := #[{ on := 5, ground := Ground.data }], guard := none }) (v := .slice ya n yk) (fun w' hw => eL 27 _ rfl ⟨gk3, 1, none⟩ (load_one ((hw.box 1 _ _ _ rfl).cell 1 |>.trans (by kernel_rfl)) Try.und29 rfl)) hH ?_
      try simp only [pS]
      refine aT (i := 7) (oi := { dst := some 44, op := Op.move (Operand.tmp 5), type := 3, pos := "same.go:14", after := #[], guard := none }) (v := .int .i64 ((i : Nat) : Int)) (fun _ _ => by kernel_rfl) hH ?_
      try simp only [pS]
      refine aT (i := 8) (oi := { dst := some 45, op := Op.indexAddr 27 (Operand.tmp 43) (Operand.tmp 44), type := 0, pos := "same.go:14", after := #[{ on := 6, ground := Ground.data }, { on := 7, ground := Ground.data }], guard := none }) (v := .pointer (some ⟨qb, qo + i * 4, none⟩)) (fun w' hw => exec_ixA 27 4 Try.und29e Try.size29e _ _ rfl qb qo n yk i (Eq.trans (b := .slice ya n yk) (by kernel_rfl) hs2.out) (by kernel_rfl) hlt) hH ?_
      try simp only [pS]
      refine aT (i := 9) (oi := { dst := some 46, op := Op.load 91 (Operand.tmp 45), type := 91, pos := "same.go:14", after := #[{ on := 8, ground := Ground.data }], guard := none }) (v := .agg (En.cells x)) (fun w' hw => eL 91 _ rfl ⟨qb, qo + i * 4, none⟩ (load_E (fun j v hv => hw.kept.cell (cq.out j v hv) (fun e => e)))) hH ?_
      try simp only [pS]
      refine aT (i := 10) (oi := { dst := some 47, op := Op.binOp BinOp.neq 91 (Operand.tmp 41) (Operand.tmp 46) 91, type := 4, pos := "same.go:14", after := #[{ on := 4, ground := Ground.data }, { on := 9, ground := Ground.data }], guard := none }) (v := .bool false) (fun w' hw => eB .neq 91 _ _ _ rfl (.agg (En.cells x)) (.agg (En.cells x)) _ (by rw [eqE_neq, eqE_refl]; rfl)) hH ?_
      try simp only [pS]
      refine wpAnyH_done (by kernel_rfl) ?_ _
      try simp only [pS]
      clear hH
      go_upto_region 5 with fail
      refine WL.start ?_
      refine tK (.int .i64 ((i : Nat) : Int)) ?_
      refine tW (.int .i64 (((i + 1) : Nat) : Int)) (eB .add 3 _ _ _ rfl (.int .i64 ((i : Nat) : Int)) (.int .i64 1) _ (b_addw _ _ _ (by rw [IntKind.wrap_i64]; omega) _)) ?_
      refine tK (.int .i64 (((i + 1) : Nat) : Int)) ?_
      try simp only [pS]
      refine WL.nil ?_
      try simp only [pS]
      go_wp2
      go_roundw
      case rel => exact ⟨i + 1, by go_num, by omega, HF⟩
      case measure => simp [intOf]; omega
    · skip
      go_upto_region 4 with fail
      refine WL.start ?_
      refine tK (.int .i64 ((i : Nat) : Int)) ?_
      refine tK (.pointer (some ⟨gk1, 1, none⟩)) ?_
      refine tW (.slice xa n xk) (eL 27 _ rfl ⟨gk1, 1, none⟩ (load_one ((HF.out.box 0 _ _ _ rfl).cell 1 |>.trans (by kernel_rfl)) Try.und29 rfl)) ?_
      refine tK (.int .i64 ((n : Nat) : Int)) ?_
      refine tW (.bool false) (eB .lss 3 _ _ _ rfl (.int .i64 ((i : Nat) : Int)) (.int .i64 ((n : Nat) : Int)) _ (by rw [b_lss, decide_eq_false (by omega)])) ?_
      try simp only [pS]
      refine WL.nil ?_
      try simp only [pS]
      go_upto_region 8 with fail
      refine WL.start ?_
      refine tK (.int .i64 0) ?_
      try simp only [pS]
      refine WL.nil ?_
      try simp only [pS]
      go_wp2
      go_loopw [6] (fun v5 wr => ∃ i : Nat, v5 = .int .i64 ((i : Nat) : Int) ∧ i ≤ m ∧ Hid (Fr No w wr [(gk1, 30, Bv.cells ⟨u, ⟨xa, n, xk⟩, ⟨xb, m, xj⟩⟩), (gk3, 30, Bv.cells ⟨u, ⟨ya, n, yk⟩, ⟨yb, m, yj⟩⟩)])) (fun i _ => m - (intOf i).toNat)
      case atStart => exact ⟨0, by go_num, by omega, HF⟩
      case round =>
        clear HF
        obtain ⟨i, rfl, hi, HF⟩ := hrel
        by_cases hlt : i < m
        · skip
          obtain ⟨pb, po, hcx⟩ := Ls.at H3.out.row (i := i) (by rw [L3.out]; exact hlt)
          have hca := hcx.1
          have hcc := hcx.2
          obtain ⟨qb, qo, hdx⟩ := Ls.at H4.out.row (i := i) (by rw [L3.out]; exact hlt)
          have hda := hdx.1
          have hdd := hdx.2
          clear hcx hdx
          have hs1 : Hid (Value.slice xb m xj = .slice (some ⟨pb, po, none⟩) m xj) := congrArg (fun a => Value.slice a m xj) hca
          have hs2 : Hid (Value.slice yb m yj = .slice (some ⟨qb, qo, none⟩) m yj) := congrArg (fun a => Value.slice a m yj) hda
          obtain ⟨x, hx⟩ : ∃ x, x = lAt ls i := ⟨_, rfl⟩
          rw [← hx] at hcc hdd
          have cp : Hid (∀ (j : Nat) v, (La.cs x)[j]? = some v → w.cell? ⟨pb, po + i * 7 + j, none⟩ = some v) := hcc
          have cq : Hid (∀ (j : Nat) v, (La.cs x)[j]? = some v → w.cell? ⟨qb, qo + i * 7 + j, none⟩ = some v) := hdd
          clear hcc hdd hx hca hda
          go_upto_region 9 with fail
          refine WL.start ?_
          refine tK (.int .i64 ((i : Nat) : Int)) ?_
          refine tK (.pointer (some ⟨gk1, 2, none⟩)) ?_
          refine tW (.slice xb m xj) (eL 28 _ rfl ⟨gk1, 2, none⟩ (load_one ((HF.out.box 0 _ _ _ rfl).cell 2 |>.trans (by kernel_rfl)) Try.und30 rfl)) ?_
          refine tK (.int .i64 ((m : Nat) : Int)) ?_
          refine tW (.bool true) (eB .lss 3 _ _ _ rfl (.int .i64 ((i : Nat) : Int)) (.int .i64 ((m : Nat) : Int)) _ (by rw [b_lss, decide_eq_true (by omega)])) ?_
          try simp only [pS]
          refine WL.nil ?_
          try simp only [pS]
          go_upto_region 11 with fail
          refine wp_region_held_drew (S := fun w' => Fr No w w' [(gk1, 30, Bv.cells ⟨u, ⟨xa, n, xk⟩, ⟨xb, m, xj⟩⟩), (gk3, 30, Bv.cells ⟨u, ⟨ya, n, yk⟩, ⟨yb, m, yj⟩⟩)]) rfl (HF.out.drew) (fun hH => ?_)
          have HF : Hid (Fr No w (wr.drew) [(gk1, 30, Bv.cells ⟨u, ⟨xa, n, xk⟩, ⟨xb, m, xj⟩⟩), (gk3, 30, Bv.cells ⟨u, ⟨ya, n, yk⟩, ⟨yb, m, yj⟩⟩)]) := HF.out.drew
          generalize wr.drew = wk6 at HF hH ⊢
          refine aT (i := 0) (oi := { dst := some 55, op := Op.fieldAddr 30 (Operand.tmp 2) 2, type := 0, pos := "same.go:19", after := #[], guard := none }) (v := .pointer (some ⟨gk1, 2, none⟩)) (fun _ _ => by kernel_rfl) hH ?_
          try simp only [pS]
          refine aT (i := 1) (oi := { dst := some 56, op := Op.load 28 (Operand.tmp 55), type := 28, pos := "same.go:19", after := #[{ on := 0, ground := Ground.data }], guard := none }) (v := .slice xb m xj) (fun w' hw => eL 28 _ rfl ⟨gk1, 2, none⟩ (load_one ((hw.box 0 _ _ _ rfl).cell 2 |>.trans (by kernel_rfl)) Try.und30 rfl)) hH ?_
          try simp only [pS]
          refine aT (i := 2) (oi := { dst := some 57, op := Op.move (Operand.tmp 6), type := 3, pos := "same.go:19", after := #[], guard := none }) (v := .int .i64 ((i : Nat) : Int)) (fun _ _ => by kernel_rfl) hH ?_
          try simp only [pS]
          refine aT (i := 3) (oi := { dst := some 58, op := Op.indexAddr 28 (Operand.tmp 56) (Operand.tmp 57), type := 0, pos := "same.go:19", after := #[{ on := 1, ground := Ground.data }, { on := 2, ground := Ground.data }], guard := none }) (v := .pointer (some ⟨pb, po + i * 7, none⟩)) (fun w' hw => exec_ixA 28 7 Try.und30e Try.size30e _ _ rfl pb po m xj i (Eq.trans (b := .slice xb m xj) (by kernel_rfl) hs1.out) (by kernel_rfl) hlt) hH ?_
          try simp only [pS]
          refine aT (i := 4) (oi := { dst := some 59, op := Op.load 94 (Operand.tmp 58), type := 94, pos := "same.go:19", after := #[{ on := 3, ground := Ground.data }], guard := none }) (v := .agg (La.cells x)) (fun w' hw => eL 94 _ rfl ⟨pb, po + i * 7, none⟩ (load_L (fun j v hv => hw.kept.cell (cp.out j v hv) (fun e => e)))) hH ?_
          try simp only [pS]
          refine aT (i := 5) (oi := { dst := some 60, op := Op.fieldAddr 30 (Operand.tmp 3) 2, type := 0, pos := "same.go:19", after := #[], guard := none }) (v := .pointer (some ⟨gk3, 2, none⟩)) (fun _ _ => by kernel_rfl) hH ?_
          try simp only [pS]
          refine aT (i := 6) (oi := { dst := some 61, op := Op.load 28 (Operand.tmp 60), type := 28, pos := "same.go:19", after := #[{ on := 5, ground := Ground.data }], guard := none }) (v := .slice yb m yj) (fun w' hw => eL 28 _ rfl ⟨gk3, 2, none⟩ (load_one ((hw.box 1 _ _ _ rfl).cell 2 |>.trans (by kernel_rfl)) Try.und30 rfl)) hH ?_
          try simp only [pS]
          refine aT (i := 7) (oi := { dst := some 62, op := Op.move (Operand.tmp 6), type := 3, pos := "same.go:19", after := #[], guard := none }) (v := .int .i64 ((i : Nat) : Int)) (fun _ _ => by kernel_rfl) hH ?_
          try simp only [pS]
          refine aT (i := 8) (oi := { dst := some 63, op := Op.indexAddr 28 (Operand.tmp 61) (Operand.tmp 62), type := 0, pos := "same.go:19", after := #[{ on := 6, ground := Ground.data }, { on := 7, ground := Ground.data }], guard := none }) (v := .pointer (some ⟨qb, qo + i * 7, none⟩)) (fun w' hw => exec_ixA 28 7 Try.und30e Try.size30e _ _ rfl qb qo m yj i (Eq.trans (b := .slice yb m yj) (by kernel_rfl) hs2.out) (by kernel_rfl) hlt) hH ?_
          try simp only [pS]
          refine aT (i := 9) (oi := { dst := some 64, op := Op.load 94 (Operand.tmp 63), type := 94, pos := "same.go:19", after := #[{ on := 8, ground := Ground.data }], guard := none }) (v := .agg (La.cells x)) (fun w' hw => eL 94 _ rfl ⟨qb, qo + i * 7, none⟩ (load_L (fun j v hv => hw.kept.cell (cq.out j v hv) (fun e => e)))) hH ?_
          try simp only [pS]
          refine aT (i := 10) (oi := { dst := some 65, op := Op.binOp BinOp.neq 94 (Operand.tmp 59) (Operand.tmp 64) 94, type := 4, pos := "same.go:19", after := #[{ on := 4, ground := Ground.data }, { on := 9, ground := Ground.data }], guard := none }) (v := .bool false) (fun w' hw => eB .neq 94 _ _ _ rfl (.agg (La.cells x)) (.agg (La.cells x)) _ (by rw [eqL_neq, eqL_refl]; rfl)) hH ?_
          try simp only [pS]
          refine wpAnyH_done (by kernel_rfl) ?_ _
          try simp only [pS]
          clear hH
          go_upto_region 10 with fail
          refine WL.start ?_
          refine tK (.int .i64 ((i : Nat) : Int)) ?_
          refine tW (.int .i64 (((i + 1) : Nat) : Int)) (eB .add 3 _ _ _ rfl (.int .i64 ((i : Nat) : Int)) (.int .i64 1) _ (b_addw _ _ _ (by rw [IntKind.wrap_i64]; omega) _)) ?_
          refine tK (.int .i64 (((i + 1) : Nat) : Int)) ?_
          try simp only [pS]
          refine WL.nil ?_
          try simp only [pS]
          go_wp2
          go_roundw
          case rel => exact ⟨i + 1, by go_num, by omega, HF⟩
          case measure => simp [intOf]; omega
        · skip
          go_upto_region 9 with fail
          refine WL.start ?_
          refine tK (.int .i64 ((i : Nat) : Int)) ?_
          refine tK (.pointer (some ⟨gk1, 2, none⟩)) ?_
          refine tW (.slice xb m xj) (eL 28 _ rfl ⟨gk1, 2, none⟩ (load_one ((HF.out.box 0 _ _ _ rfl).cell 2 |>.trans (by kernel_rfl)) Try.und30 rfl)) ?_
          refine tK (.int .i64 ((m : Nat) : Int)) ?_
          refine tW (.bool false) (eB .lss 3 _ _ _ rfl (.int .i64 ((i : Nat) : Int)) (.int .i64 ((m : Nat) : Int)) _ (by rw [b_lss, decide_eq_false (by omega)])) ?_
          try simp only [pS]
          refine WL.nil ?_
          try simp only [pS]
          go_upto_region 13 with fail
          refine WL.start ?_
          refine tK (.bool true) ?_
          try simp only [pS]
          refine WL.nil ?_
          try simp only [pS]
          go_wp2
          rw [HC.out]
          exact ⟨rfl, HF.out.kept⟩

end Go.Proofs.Ytcgnbpaaalmkoab
