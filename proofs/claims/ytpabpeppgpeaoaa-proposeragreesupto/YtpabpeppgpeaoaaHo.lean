import Derived.Test.YtpabpeppgpeaoaaHn
namespace Go.Proofs.Ytpabpeppgpeaoaa.Md
open Go.RowKit Gx
set_option linter.unusedVariables false
set_option linter.unusedSimpArgs false

/-- The hall while it is opened. -/
def OpH (n i : Nat) : Pax.Hl := ⟨Pax.grp n, List.replicate n Ytpabpeppgpeaoaa.iZ, (List.range i).map (Pax.newP (Pax.grp n)), [], [], [], []⟩
structure OpI (n i : Nat) (v : Hv) : Prop where
  ky : v.ky = ⟨3, 3, 9, 0⟩
  g : v.g.l = n
  p : v.p.l = i
  a : v.a = slZ
  b : v.b = slZ
theorem hk_cells : Ytpabpeppgpeaoaa.Ky.cells Pax.hKey = Ky.cells ⟨3, 3, 9, 0⟩ := rfl
theorem openS_step (n i : Nat) : (List.range (i + 1)).map (Pax.newP (Pax.grp n)) = (List.range i).map (Pax.newP (Pax.grp n)) ++ [Pax.newP (Pax.grp n) i] := by
  rw [List.range_succ, List.map_append]; rfl
set_option maxRecDepth 100000 in
set_option maxHeartbeats 4000000 in
theorem open_any (f : Int) (F np : Nat) (w : World) (hF : (F : Int) = f % 4) (hnp : np ≤ 4) : Calls Try.prog 15 #[.int .i64 f, .int .i64 ((np : Nat) : Int)] w (fun e w' => ∃ (hb : Nat) (J : Nat → Prop) (v : Hv) (pp : List Nat), e = .returned (.tuple #[.pointer (some ⟨hb, 0, none⟩), .bool true]) ∧ Hal w' J hb v pp (Pax.openH (2 * F + 1) np) ∧ (∀ k, J k → w.heap.size ≤ k) ∧ Kept No w w') := by
  refine hideC fun C HC => ?_
  have HF : Hid (Fq No w w []) := Fq.start _ _
  have hF4 : F < 4 := by omega
  go_enter Try.func15, Try.ntmps15
  go_upto_region 0 with fail
  refine WL.start <| uK (.pointer none) <| uK (.bool false) <| WL.nil <| ?_
  try simp only [pS]
  go_upto_region 1 with fail
  refine WL.start <| uW (.agg (Ky.cells ⟨3, 3, 9, 0⟩)) (exec_build 23 _ rfl (Ky.cells ⟨3, 3, 9, 0⟩) (by kernel_rfl)) <| uW (.agg (Hv.cells ⟨⟨3, 3, 9, 0⟩, slZ, slZ, slZ, slZ, slZ, slZ, slZ⟩)) (exec_build 68 _ rfl (Hv.cells ⟨⟨3, 3, 9, 0⟩, slZ, slZ, slZ, slZ, slZ, slZ, slZ⟩) (by kernel_rfl)) <| ?_
  try simp only [pS]
  refine uR (pV w.heap.size 0) (w.alloc (.cells (Hv.cells hvZ) 68)) (exec_alloc 68 rfl (Hv.cells hvZ) Z68) ?_
  try simp only [pS]
  have HF : Hid (Fq No w (w.alloc (.cells (Hv.cells hvZ) 68)) [(w.heap.size, 68, Hv.cells hvZ)]) := HF.out.alloc _ _
  generalize w.alloc (.cells (Hv.cells hvZ) 68) = wk2 at HF ⊢
  generalize w.heap.size = gk1 at HF ⊢
  refine uT 68 ⟨gk1, 0, none⟩ (.agg (Hv.cells ⟨⟨3, 3, 9, 0⟩, slZ, slZ, slZ, slZ, slZ, slZ, slZ⟩)) (wk2.setRow gk1 (Hv.cells ⟨⟨3, 3, 9, 0⟩, slZ, slZ, slZ, slZ, slZ, slZ, slZ⟩)) (rs (Hv.cs hvZ) (Hv.cs ⟨⟨3, 3, 9, 0⟩, slZ, slZ, slZ, slZ, slZ, slZ, slZ⟩) (Hv.cs ⟨⟨3, 3, 9, 0⟩, slZ, slZ, slZ, slZ, slZ, slZ, slZ⟩) (HF.out.box 0 _ _ _ rfl) S68 (Hv.oneL _)) ?_
  try simp only [pS]
  have HF : Hid (Fq No w (wk2.setRow gk1 (Hv.cells ⟨⟨3, 3, 9, 0⟩, slZ, slZ, slZ, slZ, slZ, slZ, slZ⟩)) [(gk1, 68, Hv.cells ⟨⟨3, 3, 9, 0⟩, slZ, slZ, slZ, slZ, slZ, slZ, slZ⟩)]) := HF.out.set 0 rfl _
  generalize wk2.setRow gk1 (Hv.cells ⟨⟨3, 3, 9, 0⟩, slZ, slZ, slZ, slZ, slZ, slZ, slZ⟩) = wk3 at HF ⊢
  refine WL.nil ?_
  try simp only [pS]
  go_upto_region 2 with fail
  refine WL.start <| uK (.int .i64 f) <| ?_
  try simp only [pS]
  refine uC 13 #[.int .i64 f, .int .i64 4] (rnd_eq _ 4 _ (by decide) (by decide)) ?_
  rintro e wk4 ⟨r, hr, hrn, rfl, hwq⟩
  obtain rfl : r = F := by have hr : (r : Int) = f % 4 := hr; omega
  have HF : Hid (Fq No w (wk4) [(gk1, 68, Hv.cells ⟨⟨3, 3, 9, 0⟩, slZ, slZ, slZ, slZ, slZ, slZ, slZ⟩)]) := by rw [hwq]; exact HF
  clear hwq
  refine ⟨.int .i64 ((r : Nat) : Int), rfl, ?_⟩
  try simp only [pS]
  refine uB .mul 3 (.int .i64 2) (.int .i64 ((r : Nat) : Int)) (.int .i64 (((2 * r) : Nat) : Int)) (b_mulN 2 r _ rfl (by omega) _) <| uB .add 3 (.int .i64 (((2 * r) : Nat) : Int)) (.int .i64 1) (.int .i64 ((((2 * r) + 1) : Nat) : Int)) (b_addw _ _ _ (by rw [IntKind.wrap_i64]; omega) _) <| uK (.int .i64 ((((2 * r) + 1) : Nat) : Int)) <| WL.nil <| ?_
  try simp only [pS]
  go_upto_region 3 with fail
  refine WL.start <| uK (.int .i64 0) <| WL.nil <| ?_
  try simp only [pS]
  have HF : Hid (Fq No w wk4 [(gk1, 68, Hv.cells ⟨⟨3, 3, 9, 0⟩, ⟨none, 0, 0⟩, slZ, slZ, slZ, slZ, slZ, slZ⟩)]) := HF
  go_wp2
  go_loopw [8] (fun v8 wr => ∃ (i : Nat) (ga : Option Addr) (gc : Nat), v8 = .int .i64 ((i : Nat) : Int) ∧ i ≤ 2 * r + 1 ∧ Hid (Fq No w wr [(gk1, 68, Hv.cells ⟨⟨3, 3, 9, 0⟩, ⟨ga, i, gc⟩, slZ, slZ, slZ, slZ, slZ, slZ⟩)]) ∧ Hid (OwI wr w.heap.size ⟨ga, i, gc⟩ (Pax.grp i))) (fun i _ => 2 * r + 1 - (intOf i).toNat)
  case atStart => exact ⟨0, none, 0, by go_num, by omega, HF, ⟨Own.nil _ _ _ _, rfl⟩⟩
  case round =>
    clear HF
    obtain ⟨i, ga, gc, rfl, hi, HF, HG⟩ := hrel
    by_cases hlt : i < 2 * r + 1
    · skip
      go_upto_region 4 with fail
      refine WL.start <| uK (.int .i64 ((i : Nat) : Int)) <| uK (.int .i64 ((((2 * r) + 1) : Nat) : Int)) <| uB .lss 3 (.int .i64 ((i : Nat) : Int)) (.int .i64 ((((2 * r) + 1) : Nat) : Int)) (.bool true) (by rw [b_lss, decide_eq_true (by omega)]) <| WL.nil <| ?_
      try simp only [pS]
      go_upto_region 6 with fail
      refine WL.start <| uK (pV gk1 4) <| uL 24 ⟨gk1, 4, none⟩ (.slice ga i gc) (load_one ((HF.out.box 0 _ _ _ rfl).cell 4 |>.trans (by kernel_rfl)) U24 rfl) <| uK (.int .i64 ((i : Nat) : Int)) <| uB .mul 3 (.int .i64 3) (.int .i64 ((i : Nat) : Int)) (.int .i64 (((3 * i) : Nat) : Int)) (b_mulN 3 i _ rfl (by omega) _) <| uB .rem 3 (.int .i64 (((3 * i) : Nat) : Int)) (.int .i64 7) (.int .i64 ((((3 * i) % 7) : Nat) : Int)) (b_remN _ 7 _ rfl (by omega) _) <| uB .add 3 (.int .i64 10) (.int .i64 ((((3 * i) % 7) : Nat) : Int)) (.int .i64 (((10 + ((3 * i) % 7)) : Nat) : Int)) (b_addw _ _ _ (by rw [IntKind.wrap_i64]; omega) _) <| uK (.int .i64 ((i : Nat) : Int)) <| ?_
      try simp only [pS]
      refine uB .mul 3 (.int .i64 10) (.int .i64 ((i : Nat) : Int)) (.int .i64 (((10 * i) : Nat) : Int)) (b_mulN 10 i _ rfl (by omega) _) <| uB .add 3 (.int .i64 (((10 + ((3 * i) % 7)) : Nat) : Int)) (.int .i64 (((10 * i) : Nat) : Int)) (.int .i64 ((((10 + ((3 * i) % 7)) + (10 * i)) : Nat) : Int)) (b_addw _ _ _ (by rw [IntKind.wrap_i64]; omega) _) <| ?_
      try simp only [pS]
      refine uR (.slice (some ⟨wr.heap.size, 0, none⟩) 1 1) (wr.alloc (.cells (#[.int .i64 ((((10 + ((3 * i) % 7)) + (10 * i)) : Nat) : Int)]) 3)) (exec_slice2 24 3 _ rfl (#[.int .i64 ((((10 + ((3 * i) % 7)) + (10 * i)) : Nat) : Int)]) (.int .i64 ((((10 + ((3 * i) % 7)) + (10 * i)) : Nat) : Int)) (by kernel_rfl) (by kernel_rfl)) ?_
      try simp only [pS]
      have HG : Hid (OwI (wr.alloc (.cells (#[.int .i64 ((((10 + ((3 * i) % 7)) + (10 * i)) : Nat) : Int)]) 3)) w.heap.size ⟨ga, i, gc⟩ (Pax.grp i)) := HG.out.no ((Kept.refl No _).alloc _)
      have HF : Hid (Fq No w (wr.alloc (.cells (#[.int .i64 ((((10 + ((3 * i) % 7)) + (10 * i)) : Nat) : Int)]) 3)) [(gk1, 68, Hv.cells ⟨⟨3, 3, 9, 0⟩, ⟨ga, i, gc⟩, slZ, slZ, slZ, slZ, slZ, slZ⟩), (wr.heap.size, 3, #[.int .i64 ((((10 + ((3 * i) % 7)) + (10 * i)) : Nat) : Int)])]) := HF.out.alloc _ _
      generalize wr.alloc (.cells (#[.int .i64 ((((10 + ((3 * i) % 7)) + (10 * i)) : Nat) : Int)]) 3) = wk6 at HF HG ⊢
      generalize wr.heap.size = gk5 at HF ⊢
      obtain ⟨a1, k1, W2, hap, hO, hk, hat⟩ := run_appN (w := wk6) 24 24 3 1 8 (.int .i64 0) U24 I3 rfl (by omega) w.heap.size i gc ga ((Pax.grp i).map (Value.int .i64)) HG.out.own (some ⟨gk5, 0, none⟩) 1 1 [.int .i64 ((((10 + ((3 * i) % 7)) + (10 * i)) : Nat) : Int)] rfl (fun e => by cases e) (fun j u hj => ⟨_, rfl, by rw [addr_add, Nat.zero_add, (HF.out.box 1 _ _ _ rfl).cell]; simpa using hj⟩) (by simp [Value.oneCell']) (by omega) (by omega) HF.out.kept.size
      have hF2 : Fq No w W2 [(gk1, 68, Hv.cells ⟨⟨3, 3, 9, 0⟩, ⟨ga, i, gc⟩, slZ, slZ, slZ, slZ, slZ, slZ⟩)] := by
        have hf := Fq.front (l := [(gk1, 68, Hv.cells ⟨⟨3, 3, 9, 0⟩, ⟨ga, i, gc⟩, slZ, slZ, slZ, slZ, slZ, slZ⟩)]) HF.out
        exact Fq.app hf HG.out.own hk (by simp)
      have hG2 : OwI W2 w.heap.size ⟨a1, i + 1, k1⟩ (Pax.grp (i + 1)) := ⟨by rw [grp_step, List.map_append]; exact hO, by rw [Pax.grp_len]⟩
      refine uR (.slice a1 (i + 1) k1) W2 (exec_appN _ _ 24 24 rfl _ _ (by kernel_rfl) (by kernel_rfl) hap) ?_
      try simp only [pS]
      clear HF HG
      have HF : Hid (Fq No w (W2) [(gk1, 68, Hv.cells ⟨⟨3, 3, 9, 0⟩, ⟨ga, i, gc⟩, slZ, slZ, slZ, slZ, slZ, slZ⟩)]) := hF2
      have HG : Hid (OwI W2 w.heap.size ⟨a1, i + 1, k1⟩ (Pax.grp (i + 1))) := hG2
      clear hF2 hG2 hap hO hk hat
      refine uK (pV gk1 4) ?_
      try simp only [pS]
      refine uT 24 ⟨gk1, 4, none⟩ (.slice a1 (i + 1) k1) (W2.setRow gk1 (Hv.cells ⟨⟨3, 3, 9, 0⟩, ⟨a1, (i + 1), k1⟩, slZ, slZ, slZ, slZ, slZ, slZ⟩)) (rs (Hv.cs ⟨⟨3, 3, 9, 0⟩, ⟨ga, i, gc⟩, slZ, slZ, slZ, slZ, slZ, slZ⟩) ([.slice a1 (i + 1) k1]) (Hv.cs ⟨⟨3, 3, 9, 0⟩, ⟨a1, (i + 1), k1⟩, slZ, slZ, slZ, slZ, slZ, slZ⟩) (HF.out.box 0 _ _ _ rfl) S24 (by simp [Value.oneCell', Sl.v])) ?_
      try simp only [pS]
      have HG : Hid (OwI (W2.setRow gk1 (Hv.cells ⟨⟨3, 3, 9, 0⟩, ⟨a1, (i + 1), k1⟩, slZ, slZ, slZ, slZ, slZ, slZ⟩)) w.heap.size ⟨a1, i + 1, k1⟩ (Pax.grp (i + 1))) := HG.out.kept (Kept.setRow _ _ _) (fun k h e => (HG.out.own.notBox (HF.out.box 0 _ _ _ rfl) (by decide)) ((show k = gk1 from e) ▸ h))
      have HF : Hid (Fq No w (W2.setRow gk1 (Hv.cells ⟨⟨3, 3, 9, 0⟩, ⟨a1, (i + 1), k1⟩, slZ, slZ, slZ, slZ, slZ, slZ⟩)) [(gk1, 68, Hv.cells ⟨⟨3, 3, 9, 0⟩, ⟨a1, (i + 1), k1⟩, slZ, slZ, slZ, slZ, slZ, slZ⟩)]) := HF.out.set 0 rfl _
      generalize W2.setRow gk1 (Hv.cells ⟨⟨3, 3, 9, 0⟩, ⟨a1, (i + 1), k1⟩, slZ, slZ, slZ, slZ, slZ, slZ⟩) = wk7 at HF HG ⊢
      refine WL.nil ?_
      try simp only [pS]
      go_upto_region 5 with fail
      refine WL.start <| uK (.int .i64 ((i : Nat) : Int)) <| uB .add 3 (.int .i64 ((i : Nat) : Int)) (.int .i64 1) (.int .i64 (((i + 1) : Nat) : Int)) (b_addw _ _ _ (by rw [IntKind.wrap_i64]; omega) _) <| uK (.int .i64 (((i + 1) : Nat) : Int)) <| WL.nil <| ?_
      try simp only [pS]
      go_wp2
      go_roundw
      case rel => exact ⟨i + 1, a1, k1, by go_num, by omega, HF, HG⟩
      case measure => simp [intOf]; omega
    · skip
      go_upto_region 4 with fail
      refine WL.start <| uK (.int .i64 ((i : Nat) : Int)) <| uK (.int .i64 ((((2 * r) + 1) : Nat) : Int)) <| uB .lss 3 (.int .i64 ((i : Nat) : Int)) (.int .i64 ((((2 * r) + 1) : Nat) : Int)) (.bool false) (by rw [b_lss, decide_eq_false (by omega)]) <| WL.nil <| ?_
      try simp only [pS]
      go_upto_region 7 with fail
      refine WL.start <| uK (.int .i64 ((((2 * r) + 1) : Nat) : Int)) <| ?_
      try simp only [pS]
      refine uR (.slice (some ⟨wr.heap.size, 0, none⟩) ((2 * r) + 1) ((2 * r) + 1)) (wr.alloc (.cells ((insL (List.replicate ((2 * r) + 1) inZ)).toArray) 142)) (exec_make 64 _ _ rfl _ _ (by kernel_rfl) (by kernel_rfl) (make_N _ ((2 * r) + 1) (by omega))) ?_
      try simp only [pS]
      have HG : Hid (OwI (wr.alloc (.cells ((insL (List.replicate ((2 * r) + 1) inZ)).toArray) 142)) w.heap.size ⟨ga, i, gc⟩ (Pax.grp i)) := HG.out.no ((Kept.refl No _).alloc _)
      have HF : Hid (Fq No w (wr.alloc (.cells ((insL (List.replicate ((2 * r) + 1) inZ)).toArray) 142)) [(gk1, 68, Hv.cells ⟨⟨3, 3, 9, 0⟩, ⟨ga, i, gc⟩, slZ, slZ, slZ, slZ, slZ, slZ⟩), (wr.heap.size, 142, (insL (List.replicate ((2 * r) + 1) inZ)).toArray)]) := HF.out.alloc _ _
      generalize wr.alloc (.cells ((insL (List.replicate ((2 * r) + 1) inZ)).toArray) 142) = wk9 at HF HG ⊢
      generalize wr.heap.size = gk8 at HF ⊢
      refine uK (pV gk1 5) ?_
      try simp only [pS]
      refine uT 64 ⟨gk1, 5, none⟩ (.slice (some ⟨gk8, 0, none⟩) ((2 * r) + 1) ((2 * r) + 1)) (wk9.setRow gk1 (Hv.cells ⟨⟨3, 3, 9, 0⟩, ⟨ga, i, gc⟩, ⟨(some ⟨gk8, 0, none⟩), ((2 * r) + 1), ((2 * r) + 1)⟩, slZ, slZ, slZ, slZ, slZ⟩)) (rs (Hv.cs ⟨⟨3, 3, 9, 0⟩, ⟨ga, i, gc⟩, slZ, slZ, slZ, slZ, slZ, slZ⟩) ([.slice (some ⟨gk8, 0, none⟩) ((2 * r) + 1) ((2 * r) + 1)]) (Hv.cs ⟨⟨3, 3, 9, 0⟩, ⟨ga, i, gc⟩, ⟨(some ⟨gk8, 0, none⟩), ((2 * r) + 1), ((2 * r) + 1)⟩, slZ, slZ, slZ, slZ, slZ⟩) (HF.out.box 0 _ _ _ rfl) S64 (by simp [Value.oneCell', Sl.v])) ?_
      try simp only [pS]
      have HG : Hid (OwI (wk9.setRow gk1 (Hv.cells ⟨⟨3, 3, 9, 0⟩, ⟨ga, i, gc⟩, ⟨(some ⟨gk8, 0, none⟩), ((2 * r) + 1), ((2 * r) + 1)⟩, slZ, slZ, slZ, slZ, slZ⟩)) w.heap.size ⟨ga, i, gc⟩ (Pax.grp i)) := HG.out.kept (Kept.setRow _ _ _) (fun k h e => (HG.out.own.notBox (HF.out.box 0 _ _ _ rfl) (by decide)) ((show k = gk1 from e) ▸ h))
      have HF : Hid (Fq No w (wk9.setRow gk1 (Hv.cells ⟨⟨3, 3, 9, 0⟩, ⟨ga, i, gc⟩, ⟨(some ⟨gk8, 0, none⟩), ((2 * r) + 1), ((2 * r) + 1)⟩, slZ, slZ, slZ, slZ, slZ⟩)) [(gk1, 68, Hv.cells ⟨⟨3, 3, 9, 0⟩, ⟨ga, i, gc⟩, ⟨(some ⟨gk8, 0, none⟩), ((2 * r) + 1), ((2 * r) + 1)⟩, slZ, slZ, slZ, slZ, slZ⟩), (gk8, 142, (insL (List.replicate ((2 * r) + 1) inZ)).toArray)]) := HF.out.set 0 rfl _
      generalize wk9.setRow gk1 (Hv.cells ⟨⟨3, 3, 9, 0⟩, ⟨ga, i, gc⟩, ⟨(some ⟨gk8, 0, none⟩), ((2 * r) + 1), ((2 * r) + 1)⟩, slZ, slZ, slZ, slZ, slZ⟩) = wk10 at HF HG ⊢
      refine WL.nil ?_
      try simp only [pS]
      obtain rfl : i = 2 * r + 1 := by omega
      obtain ⟨v0, hv0⟩ : ∃ v0 : Hv, v0 = ⟨⟨3, 3, 9, 0⟩, ⟨ga, 2 * r + 1, gc⟩, ⟨some ⟨gk8, 0, none⟩, 2 * r + 1, 2 * r + 1⟩, slZ, slZ, slZ, slZ, slZ⟩ := ⟨_, rfl⟩
      have hHal : Hal wk10 (fun k => k = gk1 ∨ At ga k ∨ k = gk8) gk1 v0 [] ⟨Pax.grp (2 * r + 1), List.replicate (2 * r + 1) Ytpabpeppgpeaoaa.iZ, [], [], [], [], []⟩ := by
        rw [hv0]
        exact Hal.first (HF.out.box 0 _ _ _ rfl) ⟨Own.lower HG.out.own (Nat.zero_le _), HG.out.len⟩ (HF.out.box 1 _ _ _ rfl) (by omega)
      have hlow : ∀ k, (k = gk1 ∨ At ga k ∨ k = gk8) → w.heap.size ≤ k := fun k e => by
        rcases e with e | e | e
        · have := HF.out.low 0 _ _ _ rfl
          exact this.elim (fun h => by rw [e]; exact h) (fun h => h.elim)
        · exact Own.base HG.out.own e
        · have := HF.out.low 1 _ _ _ rfl
          exact this.elim (fun h => by rw [e]; exact h) (fun h => h.elim)
      have hh0 : OpI (2 * r + 1) 0 v0 := by rw [hv0]; exact ⟨rfl, rfl, rfl, rfl, rfl⟩
      obtain ⟨J, hJ⟩ : ∃ J : Nat → Prop, J = (fun k => k = gk1 ∨ At ga k ∨ k = gk8) := ⟨_, rfl⟩
      rw [← hJ] at hHal
      have HF : Hid (Hg w wk10 No J gk1 v0 [] (OpH (2 * r + 1) 0) [] []) := ⟨hHal, ⟨HF.out.kept, by simp, by simp, by simp⟩, fun k e => .inr (hlow k (by rw [hJ] at e; exact e)), by simp, by simp, by simp, by simp, by simp⟩
      clear hHal hlow hJ hv0 HG
      go_upto_region 8 with fail
      refine WL.start <| uK (.int .i64 0) <| WL.nil <| ?_
      try simp only [pS]
      go_wp2
      go_loopw [9] (fun v9 wr => ∃ (i : Nat) (J1 : Nat → Prop) (v1 : Hv) (pp1 : List Nat), v9 = .int .i64 ((i : Nat) : Int) ∧ i ≤ np ∧ Hid (OpI (2 * r + 1) i v1) ∧ Hid (Hg w wr No J1 gk1 v1 pp1 (OpH (2 * r + 1) i) [] [])) (fun i _ => np - (intOf i).toNat)
      case atStart => exact ⟨0, J, v0, [], by go_num, by omega, hh0, HF⟩
      case round =>
        clear HF
        obtain ⟨i, J1, v1, pp1, rfl, hi, HI, HF⟩ := hrel
        by_cases hlt : i < np
        · skip
          have H0 : Hid (Hg w wr No J1 gk1 v1 pp1 (OpH (2 * r + 1) i) [] []) := HF
          have hkt : Kept No wr wr := Kept.refl _ _
          have hky := HI.out.ky
          have hgl := HI.out.g
          have hpl := HI.out.p
          have HKN : Hid (Kept No wr wr) := Kept.refl _ _
          go_upto_region 9 with fail
          refine WL.start <| uK (.int .i64 ((i : Nat) : Int)) <| uK (.int .i64 ((np : Nat) : Int)) <| uB .lss 3 (.int .i64 ((i : Nat) : Int)) (.int .i64 ((np : Nat) : Int)) (.bool true) (by rw [b_lss, decide_eq_true (by omega)]) <| WL.nil <| ?_
          try simp only [pS]
          go_upto_region 11 with fail
          refine wp_region_held_drew (S := fun w' => Box w' gk1 68 (Hv.cells v1)) rfl (HF.out.drew.hal.box) (fun hH => ?_)
          have HKN : Hid (Kept No wr (wr.drew)) := HKN.out.drew
          have HF : Hid (Hg w wr.drew No J1 gk1 v1 pp1 (OpH (2 * r + 1) i) [] []) := HF.out.drew
          generalize wr.drew = wk11 at HF HKN hH ⊢
          refine xV 0 42 (.int .i64 ((i : Nat) : Int)) hH <| xB 1 43 .add 3 (.int .i64 ((i : Nat) : Int)) (.int .i64 1) (.int .i64 (((i + 1) : Nat) : Int)) (fun _ _ => b_addw _ _ _ (by rw [IntKind.wrap_i64]; omega) _) hH <| xV 2 44 (pV gk1 0) hH <| xL 3 45 23 ⟨gk1, 0, none⟩ (.agg (Ky.cells v1.ky)) (fun _ hw => run_load_part (cs := Hv.cs v1) (sub := Ky.cs v1.ky) (hw) (part_of (by kernel_rfl)) U23 rfl S23) hH <| xV 4 46 (pV gk1 4) hH <| xL 5 47 24 ⟨gk1, 4, none⟩ v1.g.v (fun _ hw => load_one ((hw).cell 4 |>.trans (by kernel_rfl)) U24 rfl) hH <| ?_
          try simp only [pS]
          refine xV 6 48 (.int .i64 ((i : Nat) : Int)) hH <| xB 7 49 .add 3 (.int .i64 ((i : Nat) : Int)) (.int .i64 1) (.int .i64 (((i + 1) : Nat) : Int)) (fun _ _ => b_addw _ _ _ (by rw [IntKind.wrap_i64]; omega) _) hH <| ?_
          try simp only [pS]
          refine xC 8 50 24 #[.int .i64 (((i + 1) : Nat) : Int)] (command_any _ _) ?_
          rintro e wk12 ⟨rfl, hk⟩
          have hH2 : Box wk12 gk1 68 (Hv.cells v1) := (hH.kept hk (fun e => e))
          have HKN : Hid (Kept No wr (wk12)) := HKN.out.then hk
          have HF : Hid (Hg w wk12 No J1 gk1 v1 pp1 (OpH (2 * r + 1) i) [] []) := HF.out.no hk
          clear hk
          refine ⟨(.agg (Cm.cells (dC' (cmdOf ((i : Int) + 1))))), rfl, hH2, fun hH => ?_⟩
          clear hH2
          try simp only [pS]
          refine any_call (i := 9) (o := { dst := some 51, op := Op.call { callee := Callee.value (Operand.func 9), args := #[Operand.tmp 43, Operand.const (Value.int IntKind.i64 1), Operand.tmp 45, Operand.tmp 47, Operand.tmp 50, Operand.const (Value.int IntKind.i64 1), Operand.const (Value.int IntKind.i64 1)], argTypes := #[3, 3, 23, 24, 28, 3, 3] }, type := 31, pos := "outright.go:35", after := #[{ on := 1, ground := Ground.data }, { on := 3, ground := Ground.data }, { on := 5, ground := Ground.data }, { on := 8, ground := Ground.data }, { on := 8, ground := Ground.chain }], guard := none }) rfl (by kernel_rfl) (by kernel_rfl) 9 #[.int .i64 (((i + 1) : Nat) : Int), .int .i64 1, .agg (Ky.cells v1.ky), v1.g.v, (.agg (Cm.cells (dC' (cmdOf ((i : Int) + 1))))), .int .i64 1, .int .i64 1] (by kernel_rfl) _ (by
            have hcon := new_P ((i : Int) + 1) 1 Pax.hKey v1.g.a v1.g.l v1.g.k (Pax.grp (2 * r + 1)) (cmdOf ((i : Int) + 1)) 1 1 wk12 (by rw [Pax.grp_len, hgl]) (by omega) (HF.out.hal.gr.own.nums (by rw [← HF.out.hal.gr.len]))
            rw [hk_cells, ← hky] at hcon
            exact hcon) ?_
          rintro e wk13 ⟨p, I1, rfl, hP1, hI1, hk⟩
          have hHP : NewP wr wk13 I1 p (Pax.newP (Pax.grp (2 * r + 1)) i) := ⟨hP1, fun k e => ⟨Nat.le_trans HKN.out.size (hI1 k e).1, (hI1 k e).2⟩, HKN.out.then hk⟩
          have hH2 : Box wk13 gk1 68 (Hv.cells v1) := (hH.kept hk (fun e => e))
          have HPN : Hid (NewP wr wk13 I1 p (Pax.newP (Pax.grp (2 * r + 1)) i)) := hHP
          have HF : Hid (Hg w wk13 No J1 gk1 v1 pp1 (OpH (2 * r + 1) i) [] []) := HF.out.no hk
          clear hP1 hI1 hk hHP HKN
          refine ⟨.pointer (some ⟨p, 0, none⟩), rfl, hH2, fun hH => ?_⟩
          clear hH2
          try simp only [pS]
          refine xV 10 10 (pV p 0) hH ?_
          try simp only [pS]
          refine wpAnyH_done (by kernel_rfl) ?_ _
          try simp only [pS]
          clear hH
          go_upto_region 12 with fail
          refine WL.start <| uK (pV p 0) <| uB .eql 31 (pV p 0) (.pointer none) (.bool false) (by kernel_rfl) <| WL.nil <| ?_
          try simp only [pS]
          go_upto_region 14 with fail
          refine WL.start <| uK (pV gk1 6) <| uL 65 ⟨gk1, 6, none⟩ (v1.p.v) (load_one ((HF.out.hal.box).cell 6 |>.trans (by kernel_rfl)) U65 rfl) <| uK (pV p 0) <| ?_
          try simp only [pS]
          refine uR (.slice (some ⟨wk13.heap.size, 0, none⟩) 1 1) (wk13.alloc (.cells (#[pV p 0]) 31)) (exec_slice2 65 31 _ rfl (#[pV p 0]) (pV p 0) (by kernel_rfl) (by kernel_rfl)) ?_
          try simp only [pS]
          have HPN : Hid (NewP wr (wk13.alloc (.cells (#[.pointer (some ⟨p, 0, none⟩)]) 31)) I1 p (Pax.newP (Pax.grp (2 * r + 1)) i)) := HPN.out.no ((Kept.refl No _).alloc _)
          have HF : Hid (Hg w (wk13.alloc (.cells (#[.pointer (some ⟨p, 0, none⟩)]) 31)) No J1 gk1 v1 pp1 (OpH (2 * r + 1) i) [(wk13.heap.size, 31, #[.pointer (some ⟨p, 0, none⟩)])] []) := HF.out.alloc _ _
          generalize wk13.alloc (.cells (#[.pointer (some ⟨p, 0, none⟩)]) 31) = wk15 at HF HPN ⊢
          generalize wk13.heap.size = gk14 at HF ⊢
          obtain ⟨a1, k1, W3, J2, hap, hbx, hG⟩ := H0.out.addP HPN.out (by omega) (ad := ⟨gk14, 0, none⟩) (cc := 1) (by rw [addr_add, (HF.out.box 0 _ _ _ rfl).cell]; rfl)
          have hap : (Builtin.append_ #[65, 65] 65 #[v1.p.v, .slice (some ⟨gk14, 0, none⟩) 1 1]).run Try.prog wk15 = .ok (.slice a1 (v1.p.l + 1) k1) W3 := hap
          refine uR (.slice a1 (v1.p.l + 1) k1) W3 (exec_appN _ _ 65 65 rfl _ _ (by kernel_rfl) (by kernel_rfl) hap) ?_
          try simp only [pS]
          refine uK (pV gk1 6) ?_
          try simp only [pS]
          refine uT 65 ⟨gk1, 6, none⟩ (.slice a1 (v1.p.l + 1) k1) (W3.setRow gk1 (Hv.cells ⟨v1.ky, v1.g, v1.i, ⟨a1, v1.p.l + 1, k1⟩, v1.y, v1.d, v1.a, v1.b⟩)) (rs (Hv.cs v1) ([.slice a1 (v1.p.l + 1) k1]) (Hv.cs ⟨v1.ky, v1.g, v1.i, ⟨a1, v1.p.l + 1, k1⟩, v1.y, v1.d, v1.a, v1.b⟩) (hbx) S65 (by simp [Value.oneCell', Sl.v])) ?_
          try simp only [pS]
          have HF : Hid (Hg w (W3.setRow gk1 (Hv.cells ⟨v1.ky, v1.g, v1.i, ⟨a1, v1.p.l + 1, k1⟩, v1.y, v1.d, v1.a, v1.b⟩)) No J2 gk1 ⟨v1.ky, v1.g, v1.i, ⟨a1, v1.p.l + 1, k1⟩, v1.y, v1.d, v1.a, v1.b⟩ (pp1 ++ [p]) ({ OpH (2 * r + 1) i with ps := (OpH (2 * r + 1) i).ps ++ [Pax.newP (Pax.grp (2 * r + 1)) i] }) [] []) := hG
          clear hG
          generalize W3.setRow gk1 (Hv.cells ⟨v1.ky, v1.g, v1.i, ⟨a1, v1.p.l + 1, k1⟩, v1.y, v1.d, v1.a, v1.b⟩) = wk16 at HF ⊢
          refine WL.nil ?_
          try simp only [pS]
          have HF : Hid (Hg w wk16 No J2 gk1 ⟨v1.ky, v1.g, v1.i, ⟨a1, v1.p.l + 1, k1⟩, v1.y, v1.d, v1.a, v1.b⟩ (pp1 ++ [p]) (OpH (2 * r + 1) (i + 1)) [] []) := by
            have e : OpH (2 * r + 1) (i + 1) = { OpH (2 * r + 1) i with ps := (OpH (2 * r + 1) i).ps ++ [Pax.newP (Pax.grp (2 * r + 1)) i] } := by unfold OpH; rw [openS_step]
            rw [e]
            exact HF
          have HI2 : OpI (2 * r + 1) (i + 1) ⟨v1.ky, v1.g, v1.i, ⟨a1, v1.p.l + 1, k1⟩, v1.y, v1.d, v1.a, v1.b⟩ := ⟨HI.out.ky, HI.out.g, by show v1.p.l + 1 = i + 1; omega, HI.out.a, HI.out.b⟩
          go_upto_region 10 with fail
          refine WL.start <| uK (.int .i64 ((i : Nat) : Int)) <| uB .add 3 (.int .i64 ((i : Nat) : Int)) (.int .i64 1) (.int .i64 (((i + 1) : Nat) : Int)) (b_addw _ _ _ (by rw [IntKind.wrap_i64]; omega) _) <| uK (.int .i64 (((i + 1) : Nat) : Int)) <| WL.nil <| ?_
          try simp only [pS]
          go_wp2
          go_roundw
          case rel => exact ⟨i + 1, J2, ⟨v1.ky, v1.g, v1.i, ⟨a1, v1.p.l + 1, k1⟩, v1.y, v1.d, v1.a, v1.b⟩, pp1 ++ [p], by go_num, by omega, HI2, HF⟩
          case measure => simp [intOf]; omega
        · skip
          obtain rfl : i = np := by omega
          have H0 : Hid (Hg w wr No J1 gk1 v1 pp1 (OpH (2 * r + 1) i) [] []) := HF
          go_upto_region 9 with fail
          refine WL.start <| uK (.int .i64 ((i : Nat) : Int)) <| uK (.int .i64 ((i : Nat) : Int)) <| uB .lss 3 (.int .i64 ((i : Nat) : Int)) (.int .i64 ((i : Nat) : Int)) (.bool false) (by rw [b_lss, decide_eq_false (by omega)]) <| WL.nil <| ?_
          try simp only [pS]
          go_upto_region 15 with fail
          refine WL.start <| uK (.int .i64 ((i : Nat) : Int)) <| ?_
          try simp only [pS]
          have HW0 : Hid (Hg w wr No J1 gk1 v1 pp1 (OpH (2 * r + 1) i) [] []) := HF
          refine uR (.slice (some ⟨wr.heap.size, 0, none⟩) i i) (wr.alloc (.cells ((inL (List.replicate i 0)).toArray) 3)) (exec_make 24 _ _ rfl _ _ (by kernel_rfl) (by kernel_rfl) (make_in _ i (by omega))) ?_
          try simp only [pS]
          have HKZ : Hid (Kept No wr (wr.alloc (.cells ((inL (List.replicate i 0)).toArray) 3))) := (Kept.refl No _).alloc _
          have HBZ : Hid (Box (wr.alloc (.cells ((inL (List.replicate i 0)).toArray) 3)) wr.heap.size 3 ((inL (List.replicate i 0)).toArray)) := Box.new _ _ _
          have HLZ : Hid (wr.heap.size ≤ wr.heap.size) := Nat.le_refl _
          generalize wr.alloc (.cells ((inL (List.replicate i 0)).toArray) 3) = wk18 at HKZ HBZ ⊢
          obtain ⟨gk17, hgz⟩ : ∃ g, g = wr.heap.size := ⟨_, rfl⟩
          rw [← hgz] at HBZ ⊢
          have HLZ : Hid (wr.heap.size ≤ gk17) := by show _ ≤ _; omega
          clear hgz
          refine uK (pV gk1 9) ?_
          try simp only [pS]
          obtain ⟨J3, hG⟩ := HW0.out.mkA HI.out.a HI.out.b HKZ.out HLZ.out HBZ.out (show i ≤ 1000 by omega)
          refine uT 24 ⟨gk1, 9, none⟩ (.slice (some ⟨gk17, 0, none⟩) i i) (wk18.setRow gk1 (Hv.cells ⟨v1.ky, v1.g, v1.i, v1.p, v1.y, v1.d, ⟨some ⟨gk17, 0, none⟩, i, i⟩, v1.b⟩)) (rs (Hv.cs v1) ([.slice (some ⟨gk17, 0, none⟩) i i]) (Hv.cs ⟨v1.ky, v1.g, v1.i, v1.p, v1.y, v1.d, ⟨some ⟨gk17, 0, none⟩, i, i⟩, v1.b⟩) ((HW0.out.hal.no HKZ.out).box) S24 (by simp [Value.oneCell', Sl.v])) ?_
          try simp only [pS]
          have HF : Hid (Hg w (wk18.setRow gk1 (Hv.cells ⟨v1.ky, v1.g, v1.i, v1.p, v1.y, v1.d, ⟨some ⟨gk17, 0, none⟩, i, i⟩, v1.b⟩)) No J3 gk1 ⟨v1.ky, v1.g, v1.i, v1.p, v1.y, v1.d, ⟨some ⟨gk17, 0, none⟩, i, i⟩, v1.b⟩ pp1 ({ OpH (2 * r + 1) i with nkd := List.replicate i 0 }) [] []) := hG
          clear hG
          generalize wk18.setRow gk1 (Hv.cells ⟨v1.ky, v1.g, v1.i, v1.p, v1.y, v1.d, ⟨some ⟨gk17, 0, none⟩, i, i⟩, v1.b⟩) = wk19 at HF ⊢
          clear HW0 HKZ HBZ HLZ
          refine WL.nil ?_
          try simp only [pS]
          go_upto_region 16 with fail
          refine WL.start <| uK (.int .i64 ((i : Nat) : Int)) <| ?_
          try simp only [pS]
          have HW0 : Hid (Hg w wk19 No J3 gk1 ⟨v1.ky, v1.g, v1.i, v1.p, v1.y, v1.d, ⟨some ⟨gk17, 0, none⟩, i, i⟩, v1.b⟩ pp1 ({ OpH (2 * r + 1) i with nkd := List.replicate i 0 }) [] []) := HF
          refine uR (.slice (some ⟨wk19.heap.size, 0, none⟩) i i) (wk19.alloc (.cells ((inL (List.replicate i 0)).toArray) 3)) (exec_make 24 _ _ rfl _ _ (by kernel_rfl) (by kernel_rfl) (make_in _ i (by omega))) ?_
          try simp only [pS]
          have HKZ : Hid (Kept No wk19 (wk19.alloc (.cells ((inL (List.replicate i 0)).toArray) 3))) := (Kept.refl No _).alloc _
          have HBZ : Hid (Box (wk19.alloc (.cells ((inL (List.replicate i 0)).toArray) 3)) wk19.heap.size 3 ((inL (List.replicate i 0)).toArray)) := Box.new _ _ _
          have HLZ : Hid (wk19.heap.size ≤ wk19.heap.size) := Nat.le_refl _
          generalize wk19.alloc (.cells ((inL (List.replicate i 0)).toArray) 3) = wk21 at HKZ HBZ ⊢
          obtain ⟨gk20, hgz⟩ : ∃ g, g = wk19.heap.size := ⟨_, rfl⟩
          rw [← hgz] at HBZ ⊢
          have HLZ : Hid (wk19.heap.size ≤ gk20) := by show _ ≤ _; omega
          clear hgz
          refine uK (pV gk1 10) ?_
          try simp only [pS]
          obtain ⟨J4, hG⟩ := HW0.out.mkB HI.out.b HKZ.out HLZ.out HBZ.out (show i ≤ 1000 by omega)
          refine uT 24 ⟨gk1, 10, none⟩ (.slice (some ⟨gk20, 0, none⟩) i i) (wk21.setRow gk1 (Hv.cells ⟨v1.ky, v1.g, v1.i, v1.p, v1.y, v1.d, ⟨some ⟨gk17, 0, none⟩, i, i⟩, ⟨some ⟨gk20, 0, none⟩, i, i⟩⟩)) (rs (Hv.cs ⟨v1.ky, v1.g, v1.i, v1.p, v1.y, v1.d, ⟨some ⟨gk17, 0, none⟩, i, i⟩, v1.b⟩) ([.slice (some ⟨gk20, 0, none⟩) i i]) (Hv.cs ⟨v1.ky, v1.g, v1.i, v1.p, v1.y, v1.d, ⟨some ⟨gk17, 0, none⟩, i, i⟩, ⟨some ⟨gk20, 0, none⟩, i, i⟩⟩) ((HW0.out.hal.no HKZ.out).box) S24 (by simp [Value.oneCell', Sl.v])) ?_
          try simp only [pS]
          have HF : Hid (Hg w (wk21.setRow gk1 (Hv.cells ⟨v1.ky, v1.g, v1.i, v1.p, v1.y, v1.d, ⟨some ⟨gk17, 0, none⟩, i, i⟩, ⟨some ⟨gk20, 0, none⟩, i, i⟩⟩)) No J4 gk1 ⟨v1.ky, v1.g, v1.i, v1.p, v1.y, v1.d, ⟨some ⟨gk17, 0, none⟩, i, i⟩, ⟨some ⟨gk20, 0, none⟩, i, i⟩⟩ pp1 ({ OpH (2 * r + 1) i with nkd := List.replicate i 0, nks := List.replicate i 0 }) [] []) := hG
          clear hG
          generalize wk21.setRow gk1 (Hv.cells ⟨v1.ky, v1.g, v1.i, v1.p, v1.y, v1.d, ⟨some ⟨gk17, 0, none⟩, i, i⟩, ⟨some ⟨gk20, 0, none⟩, i, i⟩⟩) = wk22 at HF ⊢
          clear HW0 HKZ HBZ HLZ
          refine WL.nil ?_
          try simp only [pS]
          go_upto_region 17 with fail
          refine WL.start <| uK (pV gk1 0) <| uK (.bool true) <| WL.nil <| ?_
          try simp only [pS]
          go_wp2
          rw [HC.out]
          exact ⟨_, _, _, _, rfl, HF.out.hal, fun k e => (HF.out.ja k e).elim (fun f => f.elim) id, HF.out.kept⟩

end Go.Proofs.Ytpabpeppgpeaoaa.Md
