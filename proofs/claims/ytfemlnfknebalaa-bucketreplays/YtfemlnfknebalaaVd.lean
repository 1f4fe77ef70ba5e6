import Derived.Test.YtfemlnfknebalaaVc
namespace Go.Proofs.Ytfemlnfknebalaa
open Go.RowKit
set_option linter.unusedVariables false
set_option linter.unusedSimpArgs false

theorem sameA_refl (r : Int) (x : En) (l : List En) : sameA r x l r x l = true := by
  unfold sameA
  rw [eqE_iff.2 rfl, sameE_iff.2 rfl]
  simp
set_option maxRecDepth 100000 in
set_option maxHeartbeats 4000000 in
theorem sameAns_any (a : Option Addr) (n c : Nat) (b : Option Addr) (d : Nat) (vs us : List Av) (az : List An) (b1 b2 : Nat) (w : World) (h1 : Ans w b1 ⟨a, n, c⟩ vs az) (h2 : Ans w b2 ⟨b, n, d⟩ us az) (hn : n ≤ 1000000) : Calls Try.prog 21 #[.slice a n c, .slice b n d] w (fun e w' => e = .returned (.bool true) ∧ Kept No w w') := by
  obtain ⟨C, hC⟩ : ∃ C : Ending → World → Prop, C = (fun e w' => e = .returned (.bool true) ∧ Kept No w w') := ⟨_, rfl⟩
  have HC : Hid (C = (fun e w' => e = .returned (.bool true) ∧ Kept No w w')) := hC
  rw [← hC]
  clear hC
  have H1 : Hid (Ans w b1 ⟨a, n, c⟩ vs az) := h1
  have H2 : Hid (Ans w b2 ⟨b, n, d⟩ us az) := h2
  clear h1 h2
  have HF : Hid (Fr No w w []) := Fr.start _ _
  go_enter Try.func21, Try.ntmps21
  go_upto_region 0 with fail
  refine WL.start ?_
  refine tK (.bool false) ?_
  try simp only [pA, pB, p1, p2, p3]
  refine WL.nil ?_
  try simp only [pA, pB, p1, p2, p3]
  go_upto_region 1 with fail
  refine WL.start ?_
  refine tK (.slice a n c) ?_
  try simp only [pA, pB, p1, p2, p3]
  refine tK (.int .i64 ((n : Nat) : Int)) ?_
  try simp only [pA, pB, p1, p2, p3]
  refine tK (.slice b n d) ?_
  try simp only [pA, pB, p1, p2, p3]
  refine tK (.int .i64 ((n : Nat) : Int)) ?_
  try simp only [pA, pB, p1, p2, p3]
  refine tW (.bool false) (exec_bin .neq 3 _ _ _ rfl (.int .i64 ((n : Nat) : Int)) (.int .i64 ((n : Nat) : Int)) (.bool false) (by kernel_rfl) (by kernel_rfl) (by kernel_rfl) (by rw [b_neq]; simp)) ?_
  try simp only [pA, pB, p1, p2, p3]
  refine WL.nil ?_
  try simp only [pA, pB, p1, p2, p3]
  go_wp2
  go_loopw [5] (fun v5 wr => ∃ i : Nat, v5 = .int .i64 ((i : Nat) : Int) ∧ i ≤ n ∧ Hid (Fr No w wr [])) (fun i _ => n - (intOf i).toNat)
  case atStart => exact ⟨0, by go_num, by omega, HF⟩
  case round =>
    clear HF
    obtain ⟨i, rfl, hi, HF⟩ := hrel
    by_cases hlt : i < n
    · skip
      obtain ⟨⟨u1, e1, ⟨va, vn, vc⟩⟩, q, pb, po, f1, f2, f3, f4⟩ := H1.out.at (i := i) hlt
      obtain ⟨⟨u2, e2, ⟨ya, yn, yc⟩⟩, q', sb, so, g1, g2, g3, g4⟩ := H2.out.at (i := i) hlt
      obtain rfl : q = q' := by rw [f1] at g1; exact Option.some.inj g1
      have f3 : a = some ⟨pb, po, none⟩ := f3
      have g3 : b = some ⟨sb, so, none⟩ := g3
      subst f3 g3
      have HC1 : Hid (∀ (j : Nat) v, (Av.cs ⟨u1, e1, ⟨va, vn, vc⟩⟩)[j]? = some v → w.cell? ⟨pb, po + i * 6 + j, none⟩ = some v) := f4
      have HC2 : Hid (∀ (j : Nat) v, (Av.cs ⟨u2, e2, ⟨ya, yn, yc⟩⟩)[j]? = some v → w.cell? ⟨sb, so + i * 6 + j, none⟩ = some v) := g4
      have HA1 : Hid (RdE w ⟨va, vn, vc⟩ q.l) := f2.l
      have HA2 : Hid (RdE w ⟨ya, yn, yc⟩ q.l) := g2.l
      have HU : Hid (u1 = u2 ∧ e1 = e2) := ⟨f2.er.trans g2.er.symm, f2.e.trans g2.e.symm⟩
      have hv1 : vn ≤ 140737488355328 := by have e : q.l.length = vn := f2.l.len; have := f2.n; omega
      clear f1 f2 f4 g1 g2 g4 H1 H2
      go_upto_region 4 with fail
      refine WL.start ?_
      refine tK (.int .i64 ((i : Nat) : Int)) ?_
      try simp only [pA, pB, p1, p2, p3]
      refine tK (.slice (some ⟨pb, po, none⟩) n c) ?_
      try simp only [pA, pB, p1, p2, p3]
      refine tK (.int .i64 ((n : Nat) : Int)) ?_
      try simp only [pA, pB, p1, p2, p3]
      refine tW (.bool true) (exec_bin .lss 3 _ _ _ rfl (.int .i64 ((i : Nat) : Int)) (.int .i64 ((n : Nat) : Int)) (.bool true) (by kernel_rfl) (by kernel_rfl) (by kernel_rfl) (by rw [b_lss, decide_eq_true (by omega)])) ?_
      try simp only [pA, pB, p1, p2, p3]
      refine WL.nil ?_
      try simp only [pA, pB, p1, p2, p3]
      go_upto_region 6 with fail
      refine wp_region_held_drew (S := fun w' => Fr No w w' []) rfl HF.out.drew (fun hH => ?_)
      have HF : Hid (Fr No w (wr.drew) []) := HF.out.drew
      generalize wr.drew = wk1 at HF hH ⊢
      refine aT (i := 0) (oi := { dst := some 17, op := Op.move (Operand.tmp 0), type := 45, pos := "law.go:54", after := #[], guard := none }) (v := .slice (some ⟨pb, po, none⟩) n c) (fun _ _ => by kernel_rfl) hH ?_
      try simp only [pA, pB, p1, p2, p3]
      refine aT (i := 1) (oi := { dst := some 18, op := Op.move (Operand.tmp 5), type := 3, pos := "law.go:54", after := #[], guard := none }) (v := .int .i64 ((i : Nat) : Int)) (fun _ _ => by kernel_rfl) hH ?_
      try simp only [pA, pB, p1, p2, p3]
      refine aT (i := 2) (oi := { dst := some 19, op := Op.indexAddr 45 (Operand.tmp 17) (Operand.tmp 18), type := 0, pos := "law.go:54", after := #[{ on := 0, ground := Ground.data }, { on := 1, ground := Ground.data }], guard := none }) (v := .pointer (some ⟨pb, po + i * 6, none⟩)) (fun w' hw => exec_ixA 45 6 Try.und45e Try.size45e _ _ rfl pb po n c i (by kernel_rfl) (by kernel_rfl) hlt) hH ?_
      try simp only [pA, pB, p1, p2, p3]
      refine aT (i := 3) (oi := { dst := some 20, op := Op.load 56 (Operand.tmp 19), type := 56, pos := "law.go:54", after := #[{ on := 2, ground := Ground.data }], guard := none }) (v := .agg (Av.cells ⟨u1, e1, ⟨va, vn, vc⟩⟩)) (fun w' hw => exec_load 56 _ rfl ⟨pb, po + i * 6, none⟩ (by kernel_rfl) (.agg (Av.cells ⟨u1, e1, ⟨va, vn, vc⟩⟩)) (load_Av (fun j v h => hw.kept.cell (HC1.out j v h) (fun e => e)))) hH ?_
      try simp only [pA, pB, p1, p2, p3]
      refine aT (i := 4) (oi := { dst := some 21, op := Op.move (Operand.tmp 1), type := 45, pos := "law.go:54", after := #[], guard := none }) (v := .slice (some ⟨sb, so, none⟩) n d) (fun _ _ => by kernel_rfl) hH ?_
      try simp only [pA, pB, p1, p2, p3]
      refine aT (i := 5) (oi := { dst := some 22, op := Op.move (Operand.tmp 5), type := 3, pos := "law.go:54", after := #[], guard := none }) (v := .int .i64 ((i : Nat) : Int)) (fun _ _ => by kernel_rfl) hH ?_
      try simp only [pA, pB, p1, p2, p3]
      refine aT (i := 6) (oi := { dst := some 23, op := Op.indexAddr 45 (Operand.tmp 21) (Operand.tmp 22), type := 0, pos := "law.go:54", after := #[{ on := 4, ground := Ground.data }, { on := 5, ground := Ground.data }], guard := none }) (v := .pointer (some ⟨sb, so + i * 6, none⟩)) (fun w' hw => exec_ixA 45 6 Try.und45e Try.size45e _ _ rfl sb so n d i (by kernel_rfl) (by kernel_rfl) hlt) hH ?_
      try simp only [pA, pB, p1, p2, p3]
      refine aT (i := 7) (oi := { dst := some 24, op := Op.load 56 (Operand.tmp 23), type := 56, pos := "law.go:54", after := #[{ on := 6, ground := Ground.data }], guard := none }) (v := .agg (Av.cells ⟨u2, e2, ⟨ya, yn, yc⟩⟩)) (fun w' hw => exec_load 56 _ rfl ⟨sb, so + i * 6, none⟩ (by kernel_rfl) (.agg (Av.cells ⟨u2, e2, ⟨ya, yn, yc⟩⟩)) (load_Av (fun j v h => hw.kept.cell (HC2.out j v h) (fun e => e)))) hH ?_
      try simp only [pA, pB, p1, p2, p3]
      refine any_call (i := 8) (o := { dst := some 25, op := Op.call { callee := Callee.value (Operand.func 27), args := #[Operand.tmp 20, Operand.tmp 24], argTypes := #[56, 56] }, type := 4, pos := "law.go:54", after := #[{ on := 3, ground := Ground.data }, { on := 7, ground := Ground.data }], guard := none }) rfl (by kernel_rfl) (by kernel_rfl) 27 #[.agg (Av.cells ⟨u1, e1, ⟨va, vn, vc⟩⟩), .agg (Av.cells ⟨u2, e2, ⟨ya, yn, yc⟩⟩)] (by kernel_rfl) _ (sameA_any u1 e1 va vn vc u2 e2 ya yn yc q.l q.l _ (HA1.out.no HF.out.kept) (HA2.out.no HF.out.kept) hv1) ?_
      rintro e wk2 ⟨rfl, hk⟩
      have hH2 : Fr No w wk2 [] := hH.no hk
      have HF : Hid (Fr No w (wk2) []) := HF.out.no hk
      clear hk
      refine ⟨.bool true, by rw [HU.out.1, HU.out.2, sameA_refl], hH2, fun hH => ?_⟩
      clear hH2
      try simp only [pA, pB, p1, p2, p3]
      refine aT (i := 9) (oi := { dst := some 26, op := Op.unOp UnOp.not 4 (Operand.tmp 25), type := 4, pos := "law.go:54", after := #[{ on := 8, ground := Ground.data }], guard := none }) (v := .bool false) (fun _ _ => by kernel_rfl) hH ?_
      try simp only [pA, pB, p1, p2, p3]
      refine wpAnyH_done (by kernel_rfl) ?_ _
      try simp only [pA, pB, p1, p2, p3]
      clear hH
      go_wp2
      go_roundw
      case rel => exact ⟨i + 1, by go_num, by omega, HF⟩
      case measure => simp [intOf]; omega
    · skip
      go_upto_region 4 with fail
      refine WL.start ?_
      refine tK (.int .i64 ((i : Nat) : Int)) ?_
      try simp only [pA, pB, p1, p2, p3]
      refine tK (.slice a n c) ?_
      try simp only [pA, pB, p1, p2, p3]
      refine tK (.int .i64 ((n : Nat) : Int)) ?_
      try simp only [pA, pB, p1, p2, p3]
      refine tW (.bool false) (exec_bin .lss 3 _ _ _ rfl (.int .i64 ((i : Nat) : Int)) (.int .i64 ((n : Nat) : Int)) (.bool false) (by kernel_rfl) (by kernel_rfl) (by kernel_rfl) (by rw [b_lss, decide_eq_false (by omega)])) ?_
      try simp only [pA, pB, p1, p2, p3]
      refine WL.nil ?_
      try simp only [pA, pB, p1, p2, p3]
      go_upto_region 8 with fail
      refine WL.start ?_
      refine tK (.bool true) ?_
      try simp only [pA, pB, p1, p2, p3]
      refine WL.nil ?_
      try simp only [pA, pB, p1, p2, p3]
      go_wp2
      rw [HC.out]
      exact ⟨rfl, HF.out.kept⟩

end Go.Proofs.Ytfemlnfknebalaa
