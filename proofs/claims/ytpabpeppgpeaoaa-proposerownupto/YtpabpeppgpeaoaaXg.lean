import Derived.Test.YtpabpeppgpeaoaaXf
namespace Go.Proofs.Ytpabpeppgpeaoaa.Md
open Go.RowKit Gt Gx
set_option linter.unusedVariables false
set_option linter.unusedSimpArgs false

theorem xE85 : Try.prog.underlying 85 = some (.slice (Try.prog.elem 85)) := by kernel_rfl
theorem xF85 : (Try.prog.info? (Try.prog.elem 85)).map (·.size) = some 3 := by kernel_rfl
theorem xE41 : Try.prog.underlying 41 = some (.slice (Try.prog.elem 41)) := by kernel_rfl
theorem xF41 : (Try.prog.info? (Try.prog.elem 41)).map (·.size) = some 4 := by kernel_rfl
theorem xE42 : Try.prog.underlying 42 = some (.slice (Try.prog.elem 42)) := by kernel_rfl
theorem xF42 : (Try.prog.info? (Try.prog.elem 42)).map (·.size) = some 7 := by kernel_rfl
theorem xE128 : Try.prog.underlying 128 = some (.slice (Try.prog.elem 128)) := by kernel_rfl
theorem xF128 : (Try.prog.info? (Try.prog.elem 128)).map (·.size) = some 1 := by kernel_rfl
theorem xE129 : Try.prog.underlying 129 = some (.slice (Try.prog.elem 129)) := by kernel_rfl
theorem xF129 : (Try.prog.info? (Try.prog.elem 129)).map (·.size) = some 1 := by kernel_rfl
theorem xS124 : (Try.prog.info? 124).map (·.size) = some 4 := by kernel_rfl
theorem xS127 : (Try.prog.info? 127).map (·.size) = some 7 := by kernel_rfl
theorem xS41 : (Try.prog.info? 41).map (·.size) = some 1 := by kernel_rfl
theorem xS42 : (Try.prog.info? 42).map (·.size) = some 1 := by kernel_rfl
theorem Z124 : (Try.prog.info? 124).bind (·.zero) = some (.agg (En.cells enZ)) := by kernel_rfl
theorem Z127 : (Try.prog.info? 127).bind (·.zero) = some (.agg (La.cells laZ)) := by kernel_rfl
theorem S124 : (Try.prog.info? 124).map (·.size) = some 4 := by kernel_rfl
theorem U124 : Try.prog.underlying 124 = some (.struct (Try.prog.fieldsOf 124)) := by kernel_rfl
theorem S127 : (Try.prog.info? 127).map (·.size) = some 7 := by kernel_rfl
theorem U127 : Try.prog.underlying 127 = some (.struct (Try.prog.fieldsOf 127)) := by kernel_rfl
theorem xU124 : Try.prog.underlying 124 = some (.struct (Try.prog.fieldsOf 124)) := by kernel_rfl
theorem xU127 : Try.prog.underlying 127 = some (.struct (Try.prog.fieldsOf 127)) := by kernel_rfl
theorem xU41 : Try.prog.underlying 41 = some (.slice 124) := by kernel_rfl
theorem xU42 : Try.prog.underlying 42 = some (.slice 127) := by kernel_rfl
theorem xU128 : Try.prog.underlying 128 = some (.slice 41) := by kernel_rfl
theorem xU129 : Try.prog.underlying 129 = some (.slice 42) := by kernel_rfl
theorem xI41 : (Try.prog.info? 41).map (fun i => (i.zero, i.size, i.bytes)) = some (some (.slice none 0 0), 1, 24) := by kernel_rfl
theorem xI42 : (Try.prog.info? 42).map (fun i => (i.zero, i.size, i.bytes)) = some (some (.slice none 0 0), 1, 24) := by kernel_rfl
theorem xI124 : (Try.prog.info? 124).map (fun i => (i.zero, i.size, i.bytes)) = some (some (.agg (En.cells enZ)), 4, 40) := by kernel_rfl
theorem xI127 : (Try.prog.info? 127).map (fun i => (i.zero, i.size, i.bytes)) = some (some (.agg (La.cells laZ)), 7, 56) := by kernel_rfl
theorem b_mulw (x y z : Int) (h : IntKind.i64.wrap (x * y) = z) (w : World) : (binOp .mul 3 (.int .i64 x) (.int .i64 y)).run Try.prog w = .ok (.int .i64 z) w := by rw [← h]; kernel_rfl
namespace Gx
section
variable {α : Type} {D : Kn α}
theorem Pm.offE {T : Nat → Prop} {wr w' : World} {lo : Nat} {K : List Sl} {i j : Nat} (h : Pm D wr lo K i j) (hk : Kept T wr w') (hT : ∀ k, T k → ∀ cur, ¬ Box wr k D.E cur) : Pm D w' lo K i j := by
  obtain ⟨Z, h1, h2, h3⟩ := h
  exact ⟨Z, h1.kept hk (fun k hk' e => by obtain ⟨_, _, cur, hb⟩ := h1.lo hk'; exact hT k e cur hb), h2, h3⟩
theorem Rw.offR {T : Nat → Prop} {wr w' : World} {base : Nat} {a : Option Addr} {c : Nat} {K : List Sl} (h : Rw D wr base a c K) (hk : Kept T wr w') (hT : ∀ k, T k → ∀ cur, ¬ Box wr k D.R cur) : Rw D w' base a c K := h.kept hk (fun q hq e => by obtain ⟨cs, hb⟩ := h.ty hq; exact hT q e cs hb)
end
theorem tk1 {L : List Sl} {i : Nat} {e : Sl} (h : L[i]? = some e) : L.take (i + 1) = L.take i ++ [e] := by rw [List.take_add_one, h]; rfl
end Gx
set_option maxRecDepth 100000 in
set_option maxHeartbeats 4000000 in
theorem grownB_any (rb rc n lo : Nat) (B : List Bv) (Ze : Nat → List En) (Zl : Nat → List La) (w : World) (hn : B.length = n) (h0 : 0 < n) (h9 : n ≤ 1000) (hB : Bb w w rb B) (hE : Erow DE w lo (bE B) Ze) (hL : Erow DL w lo (bL B) Zl) (hlo : lo ≤ w.heap.size) : Calls Try.prog 32 #[.slice (some ⟨rb, 0, none⟩) n rc] w (fun e w' => e = .returned (.bool true) ∧ Kept (fun k => EB (bE B) k ∨ EB (bL B) k) w w') := by
  obtain ⟨C, hC⟩ : ∃ C : Ending → World → Prop, C = (fun e w' => e = .returned (.bool true) ∧ Kept (fun k => EB (bE B) k ∨ EB (bL B) k) w w') := ⟨_, rfl⟩
  have HC : Hid (C = (fun e w' => e = .returned (.bool true) ∧ Kept (fun k => EB (bE B) k ∨ EB (bL B) k) w w')) := hC
  rw [← hC]
  clear hC
  have HB : Hid (Bb w w rb B) := hB
  have HEe : Hid (Erow DE w lo (bE B) Ze) := hE
  have HEl : Hid (Erow DL w lo (bL B) Zl) := hL
  have getB : ∀ i, i < n → ∃ b, B[i]? = some b ∧ (bE B)[i]? = some b.e ∧ (bL B)[i]? = some b.l := fun i hi => ⟨B[i]'(by rw [hn]; exact hi), List.getElem?_eq_getElem _, by unfold bE; rw [List.getElem?_map, List.getElem?_eq_getElem (by rw [hn]; exact hi)]; rfl, by unfold bL; rw [List.getElem?_map, List.getElem?_eq_getElem (by rw [hn]; exact hi)]; rfl⟩
  have hnE : (bE B).length = n := by unfold bE; rw [List.length_map, hn]
  have hnL : (bL B).length = n := by unfold bL; rw [List.length_map, hn]
  clear hB hE hL
  go_enter Try.func32, Try.ntmps32
  go_upto_region 0 with fail
  refine WL.start <| uK (.bool false) <| WL.nil <| ?_
  try simp only [pS]
  go_upto_region 1 with fail
  refine WL.start <| uK (.slice none 0 0) <| WL.nil <| ?_
  try simp only [pS]
  go_upto_region 2 with fail
  refine WL.start <| uK (.slice none 0 0) <| WL.nil <| ?_
  try simp only [pS]
  go_upto_region 3 with fail
  refine WL.start <| uK (.int .i64 0) <| WL.nil <| ?_
  try simp only [pS]
  go_wp2
  go_loopw [3, 4, 5, 6, 7] (fun v3 v4 v5 v6 v7 wr => ∃ (i : Nat) (ea : Option Addr) (ec : Nat) (la : Option Addr) (lc : Nat), v3 = .slice ea i ec ∧ v4 = .slice la i lc ∧ v5 = .int .i64 ((i : Nat) : Int) ∧ i ≤ n ∧ Hid (Bb w wr rb B) ∧ Hid (Pm DE wr lo (bE B) i 0) ∧ Hid (Pm DL wr lo (bL B) i 0) ∧ Hid (Rw DE wr w.heap.size ea ec ((bE B).take i)) ∧ Hid (Rw DL wr w.heap.size la lc ((bL B).take i))) (fun _ _ i _ _ _ => n - (intOf i).toNat)
  case atStart => exact ⟨0, none, 0, none, 0, rfl, rfl, by go_num, by omega, HB, ⟨Ze, HEe.out, fun q hq => absurd hq (Nat.not_lt_zero _), by simp [marksOf]⟩, ⟨Zl, HEl.out, fun q hq => absurd hq (Nat.not_lt_zero _), by simp [marksOf]⟩, by rw [List.take_zero]; exact Rw.nil _ _, by rw [List.take_zero]; exact Rw.nil _ _⟩
  case round =>
    clear HB
    obtain ⟨i, ea, ec, la, lc, rfl, rfl, rfl, hi, HB, HPe, HPl, HRe, HRl⟩ := hrel
    by_cases hlt : i < n
    · obtain ⟨b, hb, he, hl⟩ := getB i hlt
      have hel : b.e.l ≤ 2000000 := HPe.out.le he
      have hll : b.l.l ≤ 2000000 := HPl.out.le hl
      go_upto_region 4 with fail
      refine WL.start <| uK (.int .i64 ((i : Nat) : Int)) <| uK (.slice (some ⟨rb, 0, none⟩) n rc) <| uK (.int .i64 ((n : Nat) : Int)) <| uB .lss 3 (.int .i64 ((i : Nat) : Int)) (.int .i64 ((n : Nat) : Int)) (.bool true) (by rw [b_lss, decide_eq_true (by omega)]) <| WL.nil <| ?_
      try simp only [pS]
      go_upto_region 6 with fail
      refine WL.start <| uK (.int .i64 0) <| WL.nil <| ?_
      try simp only [pS]
      go_wp2
      go_loopw [6] (fun v6 wr => ∃ (j : Nat), v6 = .int .i64 ((j : Nat) : Int) ∧ j ≤ b.e.l ∧ Hid (Bb w wr rb B) ∧ Hid (Pm DE wr lo (bE B) i j) ∧ Hid (Pm DL wr lo (bL B) i 0) ∧ Hid (Rw DE wr w.heap.size ea ec ((bE B).take i)) ∧ Hid (Rw DL wr w.heap.size la lc ((bL B).take i))) (fun j _ => b.e.l - (intOf j).toNat)
      case atStart => exact ⟨0, by go_num, by omega, HB, HPe, HPl, HRe, HRl⟩
      case round =>
        clear HB HPe HPl HRe HRl
        obtain ⟨j, rfl, hj, HB, HPe, HPl, HRe, HRl⟩ := hrel
        by_cases hlj : j < b.e.l
        · obtain ⟨gbe, hba⟩ := HPe.out.sm he hlj
          have hev : b.e.v = .slice (some ⟨gbe, 0, none⟩) b.e.l b.e.k := by unfold Sl.v; rw [hba]
          obtain ⟨cs1, hst, hP2, cur1, hbx⟩ := HPe.out.set he hlj hba (v := .agg (En.cells (DE.mm i j))) rfl xS124 (En.oneL _)
          have hst : (storeVar 124 ⟨gbe, 0 + j * 4, none⟩ (.agg (En.cells (DE.mm i j)))).run Try.prog wr = .ok () (wr.setRow gbe cs1) := hst
          have hk1 : Kept (Only gbe) wr (wr.setRow gbe cs1) := Kept.setRow _ _ _
          have hbx : Box wr gbe 124 cur1 := hbx
          have on1 : ∀ {t : TypeId}, (124 : TypeId) ≠ t → ∀ q, Only gbe q → ∀ cur, ¬ Box wr q t cur := fun ht q e cur => by rw [show q = gbe from e]; exact ty_off hbx ht
          have HB2 : Hid (Bb w (wr.setRow gbe cs1) rb B) := HB.out.off hk1 (on1 (by decide)) (fun q _ e => .inl ⟨b.e, List.mem_of_getElem? he, _, hba, (show gbe = q from (show q = gbe from e).symm)⟩)
          have HPe2 : Hid (Pm DE (wr.setRow gbe cs1) lo (bE B) i (j + 1)) := hP2
          have HPl2 : Hid (Pm DL (wr.setRow gbe cs1) lo (bL B) i 0) := HPl.out.offE hk1 (on1 (by decide))
          have HRe2 : Hid (Rw DE (wr.setRow gbe cs1) w.heap.size ea ec ((bE B).take i)) := HRe.out.offR hk1 (on1 (by decide))
          have HRl2 : Hid (Rw DL (wr.setRow gbe cs1) w.heap.size la lc ((bL B).take i)) := HRl.out.offR hk1 (on1 (by decide))
          go_upto_region 7 with fail
          refine WL.start <| uK (.int .i64 ((j : Nat) : Int)) <| uK (.slice (some ⟨rb, 0, none⟩) n rc) <| uK (.int .i64 ((i : Nat) : Int)) <| uW (pV rb (0 + i * 3)) (exec_ixA 85 3 xE85 xF85 _ _ rfl rb 0 n rc i (by kernel_rfl) (by kernel_rfl) (by omega)) <| uK (pV rb (0 + i * 3 + 1)) <| uL 41 ⟨rb, 0 + i * 3 + 1, none⟩ (b.e.v) (load_one ((HB.out.row i b hb).1) xU41 rfl) <| uK (.int .i64 ((b.e.l : Nat) : Int)) <| ?_
          try simp only [pS]
          refine uB .lss 3 (.int .i64 ((j : Nat) : Int)) (.int .i64 ((b.e.l : Nat) : Int)) (.bool true) (by rw [b_lss, decide_eq_true (by omega)]) <| WL.nil <| ?_
          try simp only [pS]
          go_upto_region 9 with fail
          refine WL.start <| uK (.slice (some ⟨rb, 0, none⟩) n rc) <| uK (.int .i64 ((i : Nat) : Int)) <| uW (pV rb (0 + i * 3)) (exec_ixA 85 3 xE85 xF85 _ _ rfl rb 0 n rc i (by kernel_rfl) (by kernel_rfl) (by omega)) <| uK (pV rb (0 + i * 3 + 1)) <| uL 41 ⟨rb, 0 + i * 3 + 1, none⟩ (b.e.v) (load_one ((HB.out.row i b hb).1) xU41 rfl) <| uK (.int .i64 ((j : Nat) : Int)) <| uK (.int .i64 ((i : Nat) : Int)) <| ?_
          try simp only [pS]
          refine uB .mul 3 (.int .i64 1000) (.int .i64 ((i : Nat) : Int)) (.int .i64 ((1000 * i : Nat) : Int)) (b_mulw _ _ _ (by rw [IntKind.wrap_i64]; omega) _) <| uK (.int .i64 ((j : Nat) : Int)) <| uB .add 3 (.int .i64 ((1000 * i : Nat) : Int)) (.int .i64 ((j : Nat) : Int)) (.int .i64 ((1000 * i + j : Nat) : Int)) (b_addw _ _ _ (by rw [IntKind.wrap_i64]; omega) _) <| uW (.agg (En.cells ⟨⟨#[109, 97, 114, 107]⟩, 0, 0, ((1000 * i + j : Nat) : Int)⟩)) (exec_build 124 _ rfl (En.cells ⟨⟨#[109, 97, 114, 107]⟩, 0, 0, ((1000 * i + j : Nat) : Int)⟩) (by kernel_rfl)) <| uW (pV gbe (0 + j * 4)) (exec_ixA 41 4 xE41 xF41 _ _ rfl gbe 0 b.e.l b.e.k j (Eq.trans (b := b.e.v) (by kernel_rfl) hev) (by kernel_rfl) (by omega)) <| ?_
          try simp only [pS]
          refine uT 124 ⟨gbe, 0 + j * 4, none⟩ (.agg (En.cells ⟨⟨#[109, 97, 114, 107]⟩, 0, 0, ((1000 * i + j : Nat) : Int)⟩)) (wr.setRow gbe cs1) hst ?_
          try simp only [pS]
          refine WL.nil ?_
          try simp only [pS]
          go_upto_region 8 with fail
          refine WL.start <| uK (.int .i64 ((j : Nat) : Int)) <| uB .add 3 (.int .i64 ((j : Nat) : Int)) (.int .i64 1) (.int .i64 (((j + 1) : Nat) : Int)) (b_addw _ _ _ (by rw [IntKind.wrap_i64]; omega) _) <| uK (.int .i64 (((j + 1) : Nat) : Int)) <| WL.nil <| ?_
          try simp only [pS]
          go_wp2
          go_roundw
          case rel => exact ⟨j + 1, by go_num, by omega, HB2, HPe2, HPl2, HRe2, HRl2⟩
          case measure => simp [intOf]; omega
        · obtain rfl : j = b.e.l := by omega
          go_upto_region 7 with fail
          refine WL.start <| uK (.int .i64 ((b.e.l : Nat) : Int)) <| uK (.slice (some ⟨rb, 0, none⟩) n rc) <| uK (.int .i64 ((i : Nat) : Int)) <| uW (pV rb (0 + i * 3)) (exec_ixA 85 3 xE85 xF85 _ _ rfl rb 0 n rc i (by kernel_rfl) (by kernel_rfl) (by omega)) <| uK (pV rb (0 + i * 3 + 1)) <| uL 41 ⟨rb, 0 + i * 3 + 1, none⟩ (b.e.v) (load_one ((HB.out.row i b hb).1) xU41 rfl) <| uK (.int .i64 ((b.e.l : Nat) : Int)) <| ?_
          try simp only [pS]
          refine uB .lss 3 (.int .i64 ((b.e.l : Nat) : Int)) (.int .i64 ((b.e.l : Nat) : Int)) (.bool false) (by rw [b_lss, decide_eq_false (by omega)]) <| WL.nil <| ?_
          try simp only [pS]
          go_upto_region 10 with fail
          refine WL.start <| uK (.int .i64 0) <| WL.nil <| ?_
          try simp only [pS]
          go_wp2
          go_loopw [7] (fun v7 wr => ∃ (j : Nat), v7 = .int .i64 ((j : Nat) : Int) ∧ j ≤ b.l.l ∧ Hid (Bb w wr rb B) ∧ Hid (Pm DE wr lo (bE B) i b.e.l) ∧ Hid (Pm DL wr lo (bL B) i j) ∧ Hid (Rw DE wr w.heap.size ea ec ((bE B).take i)) ∧ Hid (Rw DL wr w.heap.size la lc ((bL B).take i))) (fun j _ => b.l.l - (intOf j).toNat)
          case atStart => exact ⟨0, by go_num, by omega, HB, HPe, HPl, HRe, HRl⟩
          case round =>
            clear HB HPe HPl HRe HRl
            obtain ⟨j, rfl, hj, HB, HPe, HPl, HRe, HRl⟩ := hrel
            by_cases hlj : j < b.l.l
            · obtain ⟨gbl, hba⟩ := HPl.out.sm hl hlj
              have hlv : b.l.v = .slice (some ⟨gbl, 0, none⟩) b.l.l b.l.k := by unfold Sl.v; rw [hba]
              obtain ⟨cs1, hst, hP2, cur1, hbx⟩ := HPl.out.set hl hlj hba (v := .agg (La.cells (DL.mm i j))) rfl xS127 (La.oneL _)
              have hst : (storeVar 127 ⟨gbl, 0 + j * 7, none⟩ (.agg (La.cells (DL.mm i j)))).run Try.prog wr = .ok () (wr.setRow gbl cs1) := hst
              have hk1 : Kept (Only gbl) wr (wr.setRow gbl cs1) := Kept.setRow _ _ _
              have hbx : Box wr gbl 127 cur1 := hbx
              have on1 : ∀ {t : TypeId}, (127 : TypeId) ≠ t → ∀ q, Only gbl q → ∀ cur, ¬ Box wr q t cur := fun ht q e cur => by rw [show q = gbl from e]; exact ty_off hbx ht
              have HB2 : Hid (Bb w (wr.setRow gbl cs1) rb B) := HB.out.off hk1 (on1 (by decide)) (fun q _ e => .inr ⟨b.l, List.mem_of_getElem? hl, _, hba, (show gbl = q from (show q = gbl from e).symm)⟩)
              have HPl2 : Hid (Pm DL (wr.setRow gbl cs1) lo (bL B) i (j + 1)) := hP2
              have HPe2 : Hid (Pm DE (wr.setRow gbl cs1) lo (bE B) i b.e.l) := HPe.out.offE hk1 (on1 (by decide))
              have HRe2 : Hid (Rw DE (wr.setRow gbl cs1) w.heap.size ea ec ((bE B).take i)) := HRe.out.offR hk1 (on1 (by decide))
              have HRl2 : Hid (Rw DL (wr.setRow gbl cs1) w.heap.size la lc ((bL B).take i)) := HRl.out.offR hk1 (on1 (by decide))
              go_upto_region 11 with fail
              refine WL.start <| uK (.int .i64 ((j : Nat) : Int)) <| uK (.slice (some ⟨rb, 0, none⟩) n rc) <| uK (.int .i64 ((i : Nat) : Int)) <| uW (pV rb (0 + i * 3)) (exec_ixA 85 3 xE85 xF85 _ _ rfl rb 0 n rc i (by kernel_rfl) (by kernel_rfl) (by omega)) <| uK (pV rb (0 + i * 3 + 2)) <| uL 42 ⟨rb, 0 + i * 3 + 2, none⟩ (b.l.v) (load_one ((HB.out.row i b hb).2) xU42 rfl) <| uK (.int .i64 ((b.l.l : Nat) : Int)) <| ?_
              try simp only [pS]
              refine uB .lss 3 (.int .i64 ((j : Nat) : Int)) (.int .i64 ((b.l.l : Nat) : Int)) (.bool true) (by rw [b_lss, decide_eq_true (by omega)]) <| WL.nil <| ?_
              try simp only [pS]
              go_upto_region 13 with fail
              refine WL.start <| uK (.slice (some ⟨rb, 0, none⟩) n rc) <| uK (.int .i64 ((i : Nat) : Int)) <| uW (pV rb (0 + i * 3)) (exec_ixA 85 3 xE85 xF85 _ _ rfl rb 0 n rc i (by kernel_rfl) (by kernel_rfl) (by omega)) <| uK (pV rb (0 + i * 3 + 2)) <| uL 42 ⟨rb, 0 + i * 3 + 2, none⟩ (b.l.v) (load_one ((HB.out.row i b hb).2) xU42 rfl) <| uK (.int .i64 ((j : Nat) : Int)) <| uK (.int .i64 ((i : Nat) : Int)) <| ?_
              try simp only [pS]
              refine uB .add 3 (.int .i64 1) (.int .i64 ((i : Nat) : Int)) (.int .i64 ((1 + i : Nat) : Int)) (b_addw _ _ _ (by rw [IntKind.wrap_i64]; omega) _) <| uK (.int .i64 ((j : Nat) : Int)) <| uW (.agg (La.cells ⟨((1 + i : Nat) : Int), ((j : Nat) : Int), 0, 0, 0, 0, 0⟩)) (exec_build 127 _ rfl (La.cells ⟨((1 + i : Nat) : Int), ((j : Nat) : Int), 0, 0, 0, 0, 0⟩) (by kernel_rfl)) <| uW (pV gbl (0 + j * 7)) (exec_ixA 42 7 xE42 xF42 _ _ rfl gbl 0 b.l.l b.l.k j (Eq.trans (b := b.l.v) (by kernel_rfl) hlv) (by kernel_rfl) (by omega)) <| ?_
              try simp only [pS]
              refine uT 127 ⟨gbl, 0 + j * 7, none⟩ (.agg (La.cells ⟨((1 + i : Nat) : Int), ((j : Nat) : Int), 0, 0, 0, 0, 0⟩)) (wr.setRow gbl cs1) hst ?_
              try simp only [pS]
              refine WL.nil ?_
              try simp only [pS]
              go_upto_region 12 with fail
              refine WL.start <| uK (.int .i64 ((j : Nat) : Int)) <| uB .add 3 (.int .i64 ((j : Nat) : Int)) (.int .i64 1) (.int .i64 (((j + 1) : Nat) : Int)) (b_addw _ _ _ (by rw [IntKind.wrap_i64]; omega) _) <| uK (.int .i64 (((j + 1) : Nat) : Int)) <| WL.nil <| ?_
              try simp only [pS]
              go_wp2
              go_roundw
              case rel => exact ⟨j + 1, by go_num, by omega, HB2, HPe2, HPl2, HRe2, HRl2⟩
              case measure => simp [intOf]; omega
            · obtain rfl : j = b.l.l := by omega
              go_upto_region 11 with fail
              refine WL.start <| uK (.int .i64 ((b.l.l : Nat) : Int)) <| uK (.slice (some ⟨rb, 0, none⟩) n rc) <| uK (.int .i64 ((i : Nat) : Int)) <| uW (pV rb (0 + i * 3)) (exec_ixA 85 3 xE85 xF85 _ _ rfl rb 0 n rc i (by kernel_rfl) (by kernel_rfl) (by omega)) <| uK (pV rb (0 + i * 3 + 2)) <| uL 42 ⟨rb, 0 + i * 3 + 2, none⟩ (b.l.v) (load_one ((HB.out.row i b hb).2) xU42 rfl) <| uK (.int .i64 ((b.l.l : Nat) : Int)) <| ?_
              try simp only [pS]
              refine uB .lss 3 (.int .i64 ((b.l.l : Nat) : Int)) (.int .i64 ((b.l.l : Nat) : Int)) (.bool false) (by rw [b_lss, decide_eq_false (by omega)]) <| WL.nil <| ?_
              try simp only [pS]
              obtain ⟨a5e, c5e, w5e, hape, hR5e, hk5e⟩ := HRe.out.one b.e xU128 xI41 (by rw [List.length_take]; omega) HB.out.kp.size
              rw [List.length_take, hnE, Nat.min_eq_left (by omega)] at hape
              rw [← tk1 he] at hR5e
              have hape : (Builtin.append_ #[128, 128] 128 #[.slice ea i ec, .slice (some ⟨wr.heap.size, 0, none⟩) 1 1]).run Try.prog (wr.alloc (.cells #[b.e.v] 41)) = .ok (.slice a5e (i + 1) c5e) w5e := hape
              have on5e : ∀ {t : TypeId}, (41 : TypeId) ≠ t → ∀ q, At ea q → ∀ cur, ¬ Box wr q t cur := fun ht q e cur => by obtain ⟨c1, b1⟩ := HRe.out.ty e; exact ty_off b1 ht
              have HB5 : Hid (Bb w w5e rb B) := HB.out.off hk5e (on5e (by decide)) (fun q hq e => by have := HRe.out.base e; omega)
              have HPe5 : Hid (Pm DE w5e lo (bE B) i b.e.l) := HPe.out.offE hk5e (on5e (by decide))
              have HPl5 : Hid (Pm DL w5e lo (bL B) i b.l.l) := HPl.out.offE hk5e (on5e (by decide))
              have HRl5 : Hid (Rw DL w5e w.heap.size la lc ((bL B).take i)) := HRl.out.offR hk5e (on5e (by decide))
              have HRe5 : Hid (Rw DE w5e w.heap.size a5e c5e ((bE B).take (i + 1))) := hR5e
              clear hR5e
              go_upto_region 14 with fail
              refine WL.start <| uK (.slice ea i ec) <| uK (.slice (some ⟨rb, 0, none⟩) n rc) <| uK (.int .i64 ((i : Nat) : Int)) <| uW (pV rb (0 + i * 3)) (exec_ixA 85 3 xE85 xF85 _ _ rfl rb 0 n rc i (by kernel_rfl) (by kernel_rfl) (by omega)) <| uK (pV rb (0 + i * 3 + 1)) <| uL 41 ⟨rb, 0 + i * 3 + 1, none⟩ (b.e.v) (load_one ((HB.out.row i b hb).1) xU41 rfl) <| ?_
              try simp only [pS]
              refine uR (.slice (some ⟨wr.heap.size, 0, none⟩) 1 1) (wr.alloc (.cells (#[b.e.v]) 41)) (exec_slice2 128 41 _ rfl (#[b.e.v]) (b.e.v) (by kernel_rfl) (by kernel_rfl)) ?_
              try simp only [pS]
              refine uR (.slice a5e (i + 1) c5e) w5e (exec_appN _ _ 128 128 rfl _ _ (by kernel_rfl) (by kernel_rfl) hape) ?_
              try simp only [pS]
              refine uK (.slice a5e (i + 1) c5e) <| WL.nil <| ?_
              try simp only [pS]
              clear hape hk5e on5e HB HPe HPl HRe HRl
              obtain ⟨a5, c5, w5, hap, hR5, hk5⟩ := HRl5.out.one b.l xU129 xI42 (by rw [List.length_take]; omega) HB5.out.kp.size
              rw [List.length_take, hnL, Nat.min_eq_left (by omega)] at hap
              rw [← tk1 hl] at hR5
              have hap : (Builtin.append_ #[129, 129] 129 #[.slice la i lc, .slice (some ⟨w5e.heap.size, 0, none⟩) 1 1]).run Try.prog (w5e.alloc (.cells #[b.l.v] 42)) = .ok (.slice a5 (i + 1) c5) w5 := hap
              have on5 : ∀ {t : TypeId}, (42 : TypeId) ≠ t → ∀ q, At la q → ∀ cur, ¬ Box w5e q t cur := fun ht q e cur => by obtain ⟨c1, b1⟩ := HRl5.out.ty e; exact ty_off b1 ht
              have HB6 : Hid (Bb w w5 rb B) := HB5.out.off hk5 (on5 (by decide)) (fun q hq e => by have := HRl5.out.base e; omega)
              have HPe6 : Hid (Pm DE w5 lo (bE B) (i + 1) 0) := (HPe5.out.offE hk5 (on5 (by decide))).next he
              have HPl6 : Hid (Pm DL w5 lo (bL B) (i + 1) 0) := (HPl5.out.offE hk5 (on5 (by decide))).next hl
              have HRe6 : Hid (Rw DE w5 w.heap.size a5e c5e ((bE B).take (i + 1))) := HRe5.out.offR hk5 (on5 (by decide))
              have HRl6 : Hid (Rw DL w5 w.heap.size a5 c5 ((bL B).take (i + 1))) := hR5
              have HB : Hid (Bb w w5e rb B) := HB5
              clear hR5
              go_upto_region 15 with fail
              refine WL.start <| uK (.slice la i lc) <| uK (.slice (some ⟨rb, 0, none⟩) n rc) <| uK (.int .i64 ((i : Nat) : Int)) <| uW (pV rb (0 + i * 3)) (exec_ixA 85 3 xE85 xF85 _ _ rfl rb 0 n rc i (by kernel_rfl) (by kernel_rfl) (by omega)) <| uK (pV rb (0 + i * 3 + 2)) <| uL 42 ⟨rb, 0 + i * 3 + 2, none⟩ (b.l.v) (load_one ((HB.out.row i b hb).2) xU42 rfl) <| ?_
              try simp only [pS]
              refine uR (.slice (some ⟨w5e.heap.size, 0, none⟩) 1 1) (w5e.alloc (.cells (#[b.l.v]) 42)) (exec_slice2 129 42 _ rfl (#[b.l.v]) (b.l.v) (by kernel_rfl) (by kernel_rfl)) ?_
              try simp only [pS]
              refine uR (.slice a5 (i + 1) c5) w5 (exec_appN _ _ 129 129 rfl _ _ (by kernel_rfl) (by kernel_rfl) hap) ?_
              try simp only [pS]
              refine uK (.slice a5 (i + 1) c5) <| WL.nil <| ?_
              try simp only [pS]
              go_upto_region 5 with fail
              refine WL.start <| uK (.int .i64 ((i : Nat) : Int)) <| uB .add 3 (.int .i64 ((i : Nat) : Int)) (.int .i64 1) (.int .i64 (((i + 1) : Nat) : Int)) (b_addw _ _ _ (by rw [IntKind.wrap_i64]; omega) _) <| uK (.int .i64 (((i + 1) : Nat) : Int)) <| WL.nil <| ?_
              try simp only [pS]
              go_wp2
              go_roundw
              case rel => exact ⟨i + 1, _, _, _, _, rfl, rfl, by go_num, by omega, HB6, HPe6, HPl6, HRe6, HRl6⟩
              case measure => simp [intOf]; omega
    · obtain rfl : n = i := by omega
      rw [List.take_of_length_le (by rw [hnE]; exact Nat.le_refl _)] at HRe
      rw [List.take_of_length_le (by rw [hnL]; exact Nat.le_refl _)] at HRl
      obtain ⟨me, rfl⟩ := Own.sm HRe.out (by rw [hnE]; exact h0)
      obtain ⟨ml, rfl⟩ := Own.sm HRl.out (by rw [hnL]; exact h0)
      have HGe : Hid (Gy DE w wr lo (bE B) (some ⟨me, 0, none⟩) ec (bE B) (fun _ => 0)) := Gy.start HPe.out hnE ⟨Ze, HEe.out⟩ HB.out.kp.size HRe.out
      have HGl : Hid (Gy DL w wr lo (bL B) (some ⟨ml, 0, none⟩) lc (bL B) (fun _ => 0)) := Gy.start HPl.out hnL ⟨Zl, HEl.out⟩ HB.out.kp.size HRl.out
      clear HPe HPl HRe HRl
      go_upto_region 4 with fail
      refine WL.start <| uK (.int .i64 ((n : Nat) : Int)) <| uK (.slice (some ⟨rb, 0, none⟩) n rc) <| uK (.int .i64 ((n : Nat) : Int)) <| uB .lss 3 (.int .i64 ((n : Nat) : Int)) (.int .i64 ((n : Nat) : Int)) (.bool false) (by rw [b_lss, decide_eq_false (by omega)]) <| WL.nil <| ?_
      try simp only [pS]
      go_upto_region 16 with fail
      refine WL.start <| uK (.int .i64 0) <| WL.nil <| ?_
      try simp only [pS]
      go_wp2
      go_loopw [8, 9] (fun v8 v9 wr => ∃ (k : Nat) (M : List Sl) (c : Nat → Nat) (M' : List Sl) (c' : Nat → Nat), v8 = .int .i64 ((k : Nat) : Int) ∧ k ≤ 300 ∧ Hid (Bb w wr rb B) ∧ Hid (Gy DE w wr lo (bE B) (some ⟨me, 0, none⟩) ec M c) ∧ Hid (Gy DL w wr lo (bL B) (some ⟨ml, 0, none⟩) lc M' c') ∧ Hid (∀ q, c q = k ∧ c' q = k)) (fun i _ _ => 300 - (intOf i).toNat)
      case atStart => exact ⟨0, _, _, _, _, by go_num, by omega, HB, HGe, HGl, show ∀ q : Nat, 0 = 0 ∧ 0 = 0 from fun _ => ⟨rfl, rfl⟩⟩
      case round =>
        clear HB HGe HGl
        obtain ⟨k, M, c, M', c', rfl, hk, HB, HGe, HGl, HCk⟩ := hrel
        by_cases hlk : k < 300
        · skip
          go_upto_region 17 with fail
          refine WL.start <| uK (.int .i64 ((k : Nat) : Int)) <| uB .lss 3 (.int .i64 ((k : Nat) : Int)) (.int .i64 300) (.bool true) (by rw [b_lss, decide_eq_true (by omega)]) <| WL.nil <| ?_
          try simp only [pS]
          go_upto_region 19 with fail
          refine WL.start <| uK (.int .i64 0) <| WL.nil <| ?_
          try simp only [pS]
          go_wp2
          go_loopw [9] (fun v9 wr => ∃ (i : Nat) (M : List Sl) (c : Nat → Nat) (M' : List Sl) (c' : Nat → Nat), v9 = .int .i64 ((i : Nat) : Int) ∧ i ≤ n ∧ Hid (Bb w wr rb B) ∧ Hid (Gy DE w wr lo (bE B) (some ⟨me, 0, none⟩) ec M c) ∧ Hid (Gy DL w wr lo (bL B) (some ⟨ml, 0, none⟩) lc M' c') ∧ Hid (∀ q, c q = (if q < i then k + 1 else k) ∧ c' q = (if q < i then k + 1 else k))) (fun i _ => n - (intOf i).toNat)
          case atStart => exact ⟨0, M, c, M', c', by go_num, by omega, HB, HGe, HGl, show ∀ q, c q = (if q < 0 then k + 1 else k) ∧ c' q = (if q < 0 then k + 1 else k) from fun q => by rw [if_neg (Nat.not_lt_zero q)]; exact HCk.out q⟩
          case round =>
            clear HB HGe HGl HCk
            obtain ⟨i, M, c, M', c', rfl, hi, HB, HGe, HGl, HCi⟩ := hrel
            by_cases hlt : i < n
            · obtain ⟨b, hb, he, hl⟩ := getB i hlt
              obtain ⟨f, hf⟩ : ∃ f, M[i]? = some f := ⟨_, List.getElem?_eq_getElem (by rw [HGe.out.len, hnE]; exact hlt)⟩
              have hck : c i = k := by rw [(HCi.out i).1, if_neg (Nat.lt_irrefl i)]
              have hck' : c' i = k := by rw [(HCi.out i).2, if_neg (Nat.lt_irrefl i)]
              obtain ⟨a4, c4, w4, cs4, hap, hst, hZ2, hk4⟩ := HGe.out.grow he hf xU41 xI124 rfl (En.oneL _) (by decide) (by omega) (Nat.le_trans hlo HB.out.kp.size) xS41
              rw [hck] at hap
              have hap : (Builtin.append_ #[41, 41] 41 #[.slice f.a f.l f.k, .slice (some ⟨wr.heap.size, 0, none⟩) 1 1]).run Try.prog (wr.alloc (.cells (En.cells (DE.mr i k)) 124)) = .ok (.slice a4 (f.l + 1) c4) w4 := hap
              have hst : (storeVar 41 ⟨me, 0 + i * 1, none⟩ (.slice a4 (f.l + 1) c4)).run Try.prog w4 = .ok () (w4.setRow me cs4) := hst
              have on4 : ∀ {t : TypeId}, (124 : TypeId) ≠ t → (41 : TypeId) ≠ t → ∀ q, (At f.a q ∨ q = me) → ∀ cur, ¬ Box wr q t cur := fun h1 h2 q e cur => by
                rcases e with e | e
                · obtain ⟨c1, b1⟩ := (HGe.out.each i _ f he hf).2.2.1.ty e; exact ty_off b1 h1
                · subst e; obtain ⟨c1, b1⟩ := HGe.out.more.ty ⟨_, rfl, rfl⟩; exact ty_off b1 h2
              have HBe : Hid (Bb w (w4.setRow me cs4) rb B) := HB.out.off hk4 (on4 (by decide) (by decide)) (fun q hq e => by
                rcases e with e | e
                · rcases (HGe.out.each i _ f he hf).2.2.2.1 with h | h
                  · rw [h] at e; exact .inl ⟨_, List.mem_of_getElem? he, e⟩
                  · have := h q e; omega
                · have := HGe.out.more.base (k := me) ⟨_, rfl, rfl⟩; omega)
              have HGe2 : Hid (Gy DE w (w4.setRow me cs4) lo (bE B) (some ⟨me, 0, none⟩) ec (M.set i ⟨a4, f.l + 1, c4⟩) (fun q => if q = i then c i + 1 else c q)) := hZ2
              have HGl2 : Hid (Gy DL w (w4.setRow me cs4) lo (bL B) (some ⟨ml, 0, none⟩) lc M' c') := HGl.out.off hk4 (fun q e cur => ⟨on4 (by decide) (by decide) q e cur, on4 (by decide) (by decide) q e cur⟩)
              clear hZ2
              go_upto_region 20 with fail
              refine WL.start <| uK (.int .i64 ((i : Nat) : Int)) <| uK (.slice (some ⟨rb, 0, none⟩) n rc) <| uK (.int .i64 ((n : Nat) : Int)) <| uB .lss 3 (.int .i64 ((i : Nat) : Int)) (.int .i64 ((n : Nat) : Int)) (.bool true) (by rw [b_lss, decide_eq_true (by omega)]) <| WL.nil <| ?_
              try simp only [pS]
              go_upto_region 22 with fail
              refine WL.start <| uK (.slice (some ⟨me, 0, none⟩) n ec) <| uK (.int .i64 ((i : Nat) : Int)) <| uK (.slice (some ⟨me, 0, none⟩) n ec) <| uK (.int .i64 ((i : Nat) : Int)) <| uW (pV me (0 + i * 1)) (exec_ixA 128 1 xE128 xF128 _ _ rfl me 0 n ec i (by kernel_rfl) (by kernel_rfl) (by omega)) <| uL 41 ⟨me, 0 + i * 1, none⟩ (f.v) (load_one ((HGe.out.more.at0 hf rfl).1) xU41 rfl) <| uK (.int .i64 ((i : Nat) : Int)) <| ?_
              try simp only [pS]
              refine uB .mul 3 (.int .i64 1000) (.int .i64 ((i : Nat) : Int)) (.int .i64 ((1000 * i : Nat) : Int)) (b_mulw _ _ _ (by rw [IntKind.wrap_i64]; omega) _) <| uK (.int .i64 ((k : Nat) : Int)) <| uB .add 3 (.int .i64 ((1000 * i : Nat) : Int)) (.int .i64 ((k : Nat) : Int)) (.int .i64 ((1000 * i + k : Nat) : Int)) (b_addw _ _ _ (by rw [IntKind.wrap_i64]; omega) _) <| uW (.agg (En.cells ⟨⟨#[109, 111, 114, 101]⟩, 0, 0, ((1000 * i + k : Nat) : Int)⟩)) (exec_build 124 _ rfl (En.cells ⟨⟨#[109, 111, 114, 101]⟩, 0, 0, ((1000 * i + k : Nat) : Int)⟩) (by kernel_rfl)) <| ?_
              try simp only [pS]
              refine uR (.slice (some ⟨wr.heap.size, 0, none⟩) 1 1) (wr.alloc (.cells (En.cells ⟨⟨#[109, 111, 114, 101]⟩, 0, 0, ((1000 * i + k : Nat) : Int)⟩) 124)) (exec_slice2 41 124 _ rfl (En.cells ⟨⟨#[109, 111, 114, 101]⟩, 0, 0, ((1000 * i + k : Nat) : Int)⟩) (.agg (En.cells ⟨⟨#[109, 111, 114, 101]⟩, 0, 0, ((1000 * i + k : Nat) : Int)⟩)) (by kernel_rfl) (by kernel_rfl)) ?_
              try simp only [pS]
              refine uR (.slice a4 (f.l + 1) c4) w4 (exec_appN _ _ 41 41 rfl _ _ (by kernel_rfl) (by kernel_rfl) hap) ?_
              try simp only [pS]
              refine uW (pV me (0 + i * 1)) (exec_ixA 128 1 xE128 xF128 _ _ rfl me 0 n ec i (by kernel_rfl) (by kernel_rfl) (by omega)) ?_
              try simp only [pS]
              refine uT 41 ⟨me, 0 + i * 1, none⟩ (.slice a4 (f.l + 1) c4) (w4.setRow me cs4) hst ?_
              try simp only [pS]
              refine WL.nil ?_
              try simp only [pS]
              clear hap hst hk4 on4 HB HGe HGl hf
              generalize hw4 : w4.setRow me cs4 = wr at HBe HGe2 HGl2 ⊢
              clear hw4
              obtain ⟨M2, hM2⟩ : ∃ M2, M2 = M.set i ⟨a4, f.l + 1, c4⟩ := ⟨_, rfl⟩
              rw [← hM2] at HGe2
              clear hM2
              have HB : Hid (Bb w wr rb B) := HBe
              obtain ⟨f, hf⟩ : ∃ f, M'[i]? = some f := ⟨_, List.getElem?_eq_getElem (by rw [HGl2.out.len, hnL]; exact hlt)⟩
              obtain ⟨a4, c4, w4, cs4, hap, hst, hZ2, hk4⟩ := HGl2.out.grow hl hf xU42 xI127 rfl (La.oneL _) (by decide) (by omega) (Nat.le_trans hlo HB.out.kp.size) xS42
              rw [hck'] at hap
              have hap : (Builtin.append_ #[42, 42] 42 #[.slice f.a f.l f.k, .slice (some ⟨wr.heap.size, 0, none⟩) 1 1]).run Try.prog (wr.alloc (.cells (La.cells (DL.mr i k)) 127)) = .ok (.slice a4 (f.l + 1) c4) w4 := hap
              have hst : (storeVar 42 ⟨ml, 0 + i * 1, none⟩ (.slice a4 (f.l + 1) c4)).run Try.prog w4 = .ok () (w4.setRow ml cs4) := hst
              have on4 : ∀ {t : TypeId}, (127 : TypeId) ≠ t → (42 : TypeId) ≠ t → ∀ q, (At f.a q ∨ q = ml) → ∀ cur, ¬ Box wr q t cur := fun h1 h2 q e cur => by
                rcases e with e | e
                · obtain ⟨c1, b1⟩ := (HGl2.out.each i _ f hl hf).2.2.1.ty e; exact ty_off b1 h1
                · subst e; obtain ⟨c1, b1⟩ := HGl2.out.more.ty ⟨_, rfl, rfl⟩; exact ty_off b1 h2
              have HBl : Hid (Bb w (w4.setRow ml cs4) rb B) := HB.out.off hk4 (on4 (by decide) (by decide)) (fun q hq e => by
                rcases e with e | e
                · rcases (HGl2.out.each i _ f hl hf).2.2.2.1 with h | h
                  · rw [h] at e; exact .inr ⟨_, List.mem_of_getElem? hl, e⟩
                  · have := h q e; omega
                · have := HGl2.out.more.base (k := ml) ⟨_, rfl, rfl⟩; omega)
              have HGl : Hid (Gy DL w wr lo (bL B) (some ⟨ml, 0, none⟩) lc M' c') := HGl2
              have HGl3 : Hid (Gy DL w (w4.setRow ml cs4) lo (bL B) (some ⟨ml, 0, none⟩) lc (M'.set i ⟨a4, f.l + 1, c4⟩) (fun q => if q = i then c' i + 1 else c' q)) := hZ2
              have HGe3 : Hid (Gy DE w (w4.setRow ml cs4) lo (bE B) (some ⟨me, 0, none⟩) ec M2 (fun q => if q = i then c i + 1 else c q)) := HGe2.out.off hk4 (fun q e cur => ⟨on4 (by decide) (by decide) q e cur, on4 (by decide) (by decide) q e cur⟩)
              have HCi2 : Hid (∀ q, (fun q => if q = i then c i + 1 else c q) q = (if q < i + 1 then k + 1 else k) ∧ (fun q => if q = i then c' i + 1 else c' q) q = (if q < i + 1 then k + 1 else k)) := show ∀ q, (fun q => if q = i then c i + 1 else c q) q = (if q < i + 1 then k + 1 else k) ∧ (fun q => if q = i then c' i + 1 else c' q) q = (if q < i + 1 then k + 1 else k) from fun q => by
                show (if q = i then c i + 1 else c q) = _ ∧ (if q = i then c' i + 1 else c' q) = _
                by_cases hq : q = i
                · rw [if_pos hq, if_pos hq, if_pos (by omega), hck, hck']; exact ⟨rfl, rfl⟩
                · rw [if_neg hq, if_neg hq, (HCi.out q).1, (HCi.out q).2]
                  by_cases hq2 : q < i
                  · rw [if_pos hq2, if_pos (by omega)]; exact ⟨rfl, rfl⟩
                  · rw [if_neg hq2, if_neg (by omega)]; exact ⟨rfl, rfl⟩
              clear hZ2
              go_upto_region 23 with fail
              refine WL.start <| uK (.slice (some ⟨ml, 0, none⟩) n lc) <| uK (.int .i64 ((i : Nat) : Int)) <| uK (.slice (some ⟨ml, 0, none⟩) n lc) <| uK (.int .i64 ((i : Nat) : Int)) <| uW (pV ml (0 + i * 1)) (exec_ixA 129 1 xE129 xF129 _ _ rfl ml 0 n lc i (by kernel_rfl) (by kernel_rfl) (by omega)) <| uL 42 ⟨ml, 0 + i * 1, none⟩ (f.v) (load_one ((HGl.out.more.at0 hf rfl).1) xU42 rfl) <| uK (.int .i64 ((i : Nat) : Int)) <| ?_
              try simp only [pS]
              refine uB .add 3 (.int .i64 101) (.int .i64 ((i : Nat) : Int)) (.int .i64 ((101 + i : Nat) : Int)) (b_addw _ _ _ (by rw [IntKind.wrap_i64]; omega) _) <| uK (.int .i64 ((k : Nat) : Int)) <| uW (.agg (La.cells ⟨((101 + i : Nat) : Int), ((k : Nat) : Int), 0, 0, 0, 0, 0⟩)) (exec_build 127 _ rfl (La.cells ⟨((101 + i : Nat) : Int), ((k : Nat) : Int), 0, 0, 0, 0, 0⟩) (by kernel_rfl)) <| ?_
              try simp only [pS]
              refine uR (.slice (some ⟨wr.heap.size, 0, none⟩) 1 1) (wr.alloc (.cells (La.cells ⟨((101 + i : Nat) : Int), ((k : Nat) : Int), 0, 0, 0, 0, 0⟩) 127)) (exec_slice2 42 127 _ rfl (La.cells ⟨((101 + i : Nat) : Int), ((k : Nat) : Int), 0, 0, 0, 0, 0⟩) (.agg (La.cells ⟨((101 + i : Nat) : Int), ((k : Nat) : Int), 0, 0, 0, 0, 0⟩)) (by kernel_rfl) (by kernel_rfl)) ?_
              try simp only [pS]
              refine uR (.slice a4 (f.l + 1) c4) w4 (exec_appN _ _ 42 42 rfl _ _ (by kernel_rfl) (by kernel_rfl) hap) ?_
              try simp only [pS]
              refine uW (pV ml (0 + i * 1)) (exec_ixA 129 1 xE129 xF129 _ _ rfl ml 0 n lc i (by kernel_rfl) (by kernel_rfl) (by omega)) ?_
              try simp only [pS]
              refine uT 42 ⟨ml, 0 + i * 1, none⟩ (.slice a4 (f.l + 1) c4) (w4.setRow ml cs4) hst ?_
              try simp only [pS]
              refine WL.nil ?_
              try simp only [pS]
              go_upto_region 21 with fail
              refine WL.start <| uK (.int .i64 ((i : Nat) : Int)) <| uB .add 3 (.int .i64 ((i : Nat) : Int)) (.int .i64 1) (.int .i64 (((i + 1) : Nat) : Int)) (b_addw _ _ _ (by rw [IntKind.wrap_i64]; omega) _) <| uK (.int .i64 (((i + 1) : Nat) : Int)) <| WL.nil <| ?_
              try simp only [pS]
              go_wp2
              go_roundw
              case rel => exact ⟨i + 1, _, _, _, _, by go_num, by omega, HBl, HGe3, HGl3, HCi2⟩
              case measure => simp [intOf]; omega
            · obtain rfl : n = i := by omega
              have HC2 : Hid (∃ c1 c1', Gy DE w wr lo (bE B) (some ⟨me, 0, none⟩) ec M c1 ∧ Gy DL w wr lo (bL B) (some ⟨ml, 0, none⟩) lc M' c1' ∧ ∀ q, c1 q = k + 1 ∧ c1' q = k + 1) := ⟨fun _ => k + 1, fun _ => k + 1, ⟨HGe.out.wsz, HGe.out.more, HGe.out.len, fun q e f he hf => by
                have hq : q < n := by rw [← hnE]; exact (List.getElem?_eq_some_iff.1 he).1
                have h1 := HGe.out.each q e f he hf
                rw [(HCi.out q).1, if_pos hq] at h1
                exact h1, HGe.out.dis, HGe.out.old, HGe.out.odis⟩, ⟨HGl.out.wsz, HGl.out.more, HGl.out.len, fun q e f he hf => by
                have hq : q < n := by rw [← hnL]; exact (List.getElem?_eq_some_iff.1 he).1
                have h1 := HGl.out.each q e f he hf
                rw [(HCi.out q).2, if_pos hq] at h1
                exact h1, HGl.out.dis, HGl.out.old, HGl.out.odis⟩, fun _ => ⟨rfl, rfl⟩⟩
              go_upto_region 20 with fail
              refine WL.start <| uK (.int .i64 ((n : Nat) : Int)) <| uK (.slice (some ⟨rb, 0, none⟩) n rc) <| uK (.int .i64 ((n : Nat) : Int)) <| uB .lss 3 (.int .i64 ((n : Nat) : Int)) (.int .i64 ((n : Nat) : Int)) (.bool false) (by rw [b_lss, decide_eq_false (by omega)]) <| WL.nil <| ?_
              try simp only [pS]
              go_upto_region 18 with fail
              refine WL.start <| uK (.int .i64 ((k : Nat) : Int)) <| uB .add 3 (.int .i64 ((k : Nat) : Int)) (.int .i64 1) (.int .i64 (((k + 1) : Nat) : Int)) (b_addw _ _ _ (by rw [IntKind.wrap_i64]; omega) _) <| uK (.int .i64 (((k + 1) : Nat) : Int)) <| WL.nil <| ?_
              try simp only [pS]
              go_wp2
              go_roundw
              case rel => exact (by obtain ⟨c1, c1', h1, h2, h3⟩ := HC2.out; exact ⟨k + 1, M, c1, M', c1', by go_num, by omega, HB, h1, h2, h3⟩)
              case measure => simp [intOf]; omega
        · obtain rfl : k = 300 := by omega
          go_upto_region 17 with fail
          refine WL.start <| uK (.int .i64 ((300 : Nat) : Int)) <| uB .lss 3 (.int .i64 ((300 : Nat) : Int)) (.int .i64 300) (.bool false) (by rw [b_lss, decide_eq_false (by omega)]) <| WL.nil <| ?_
          try simp only [pS]
          go_upto_region 24 with fail
          refine WL.start <| uK (.int .i64 0) <| WL.nil <| ?_
          try simp only [pS]
          go_wp2
          go_loopw [10, 11, 12, 13, 14, 15] (fun v10 v11 v12 v13 v14 v15 wr => ∃ (i : Nat), v10 = .int .i64 ((i : Nat) : Int) ∧ i ≤ n ∧ Hid (Bb w wr rb B) ∧ Hid (Gy DE w wr lo (bE B) (some ⟨me, 0, none⟩) ec M c) ∧ Hid (Gy DL w wr lo (bL B) (some ⟨ml, 0, none⟩) lc M' c')) (fun i _ _ _ _ _ _ => n - (intOf i).toNat)
          case atStart => exact ⟨0, by go_num, by omega, HB, HGe, HGl⟩
          case round =>
            clear HB HGe HGl
            obtain ⟨i, rfl, hi, HB, HGe, HGl⟩ := hrel
            by_cases hlt : i < n
            · obtain ⟨b, hb, he, hl⟩ := getB i hlt
              go_upto_region 25 with fail
              refine WL.start <| uK (.int .i64 ((i : Nat) : Int)) <| uK (.slice (some ⟨rb, 0, none⟩) n rc) <| uK (.int .i64 ((n : Nat) : Int)) <| uB .lss 3 (.int .i64 ((i : Nat) : Int)) (.int .i64 ((n : Nat) : Int)) (.bool true) (by rw [b_lss, decide_eq_true (by omega)]) <| WL.nil <| ?_
              try simp only [pS]
              go_upto_region 27 with fail
              refine WL.start <| uK (.slice (some ⟨rb, 0, none⟩) n rc) <| uK (.int .i64 ((i : Nat) : Int)) <| uW (pV rb (0 + i * 3)) (exec_ixA 85 3 xE85 xF85 _ _ rfl rb 0 n rc i (by kernel_rfl) (by kernel_rfl) (by omega)) <| uK (pV rb (0 + i * 3 + 1)) <| uL 41 ⟨rb, 0 + i * 3 + 1, none⟩ (b.e.v) (load_one ((HB.out.row i b hb).1) xU41 rfl) <| uK (.int .i64 ((b.e.l : Nat) : Int)) <| uK (.int .i64 ((b.e.l : Nat) : Int)) <| WL.nil <| ?_
              try simp only [pS]
              go_upto_region 28 with fail
              refine WL.start <| uK (.int .i64 0) <| WL.nil <| ?_
              try simp only [pS]
              obtain ⟨f, hf⟩ : ∃ f, M[i]? = some f := ⟨_, List.getElem?_eq_getElem (by rw [HGe.out.len, hnE]; exact hlt)⟩
              obtain ⟨hfl, _, hfo, _, hel⟩ := HGe.out.each i _ f he hf
              have hck : c i = 300 := (HCk.out i).1
              rw [hck] at hfl hfo
              obtain ⟨gf, hfa⟩ : ∃ g, f.a = some ⟨g, 0, none⟩ := Own.sm hfo (by rw [gr_len2]; omega)
              have hfv : f.v = .slice (some ⟨gf, 0, none⟩) f.l f.k := by unfold Sl.v; rw [hfa]
              clear hfo
              go_wp2
              go_loopw [12, 13] (fun v12 v13 wr => ∃ (k : Nat), v12 = .int .i64 ((k : Nat) : Int) ∧ k ≤ b.e.l + 300 ∧ Hid (Bb w wr rb B) ∧ Hid (Gy DE w wr lo (bE B) (some ⟨me, 0, none⟩) ec M c) ∧ Hid (Gy DL w wr lo (bL B) (some ⟨ml, 0, none⟩) lc M' c')) (fun i _ _ => b.e.l + 300 - (intOf i).toNat)
              case atStart => exact ⟨0, by go_num, by omega, HB, HGe, HGl⟩
              case round =>
                clear HB HGe HGl
                obtain ⟨k, rfl, hk, HB, HGe, HGl⟩ := hrel
                have HF : Hid (Fq No wr wr []) := Fq.start _ _
                by_cases hlk : k < b.e.l + 300
                · by_cases hke : b.e.l ≤ k
                  · have hN : ∀ (j : Nat) v, (En.cs (DE.mr i (k - b.e.l)))[j]? = some v → wr.cell? ⟨gf, 0 + k * 4 + j, none⟩ = some v := HGe.out.newAt he hf hfa (by rw [hck]; exact mk_hi hke hlk)
                    go_upto_region 29 with fail
                    refine WL.start <| uK (.int .i64 ((k : Nat) : Int)) <| uK (.int .i64 ((b.e.l : Nat) : Int)) <| uB .add 3 (.int .i64 ((b.e.l : Nat) : Int)) (.int .i64 300) (.int .i64 (((b.e.l + 300) : Nat) : Int)) (b_addw _ _ _ (by rw [IntKind.wrap_i64]; omega) _) <| uB .lss 3 (.int .i64 ((k : Nat) : Int)) (.int .i64 (((b.e.l + 300) : Nat) : Int)) (.bool true) (by rw [b_lss, decide_eq_true (by omega)]) <| WL.nil <| ?_
                    try simp only [pS]
                    go_upto_region 31 with fail
                    refine WL.start <| uK (.int .i64 ((i : Nat) : Int)) <| uB .mul 3 (.int .i64 1000) (.int .i64 ((i : Nat) : Int)) (.int .i64 ((1000 * i : Nat) : Int)) (b_mulw _ _ _ (by rw [IntKind.wrap_i64]; omega) _) <| uK (.int .i64 ((k : Nat) : Int)) <| uB .add 3 (.int .i64 ((1000 * i : Nat) : Int)) (.int .i64 ((k : Nat) : Int)) (.int .i64 ((1000 * i + k : Nat) : Int)) (b_addw _ _ _ (by rw [IntKind.wrap_i64]; omega) _) <| uW (.agg (En.cells ⟨⟨#[109, 97, 114, 107]⟩, 0, 0, ((1000 * i + k : Nat) : Int)⟩)) (exec_build 124 _ rfl (En.cells ⟨⟨#[109, 97, 114, 107]⟩, 0, 0, ((1000 * i + k : Nat) : Int)⟩) (by kernel_rfl)) <| ?_
                    try simp only [pS]
                    refine uR (pV wr.heap.size 0) (wr.alloc (.cells (En.cells enZ) 124)) (exec_alloc 124 rfl (En.cells enZ) Z124) ?_
                    try simp only [pS]
                    have HF : Hid (Fq No wr (wr.alloc (.cells (En.cells enZ) 124)) [(wr.heap.size, 124, En.cells enZ)]) := HF.out.alloc _ _
                    generalize wr.alloc (.cells (En.cells enZ) 124) = wk2 at HF ⊢
                    generalize wr.heap.size = gk1 at HF ⊢
                    refine uT 124 ⟨gk1, 0, none⟩ (.agg (En.cells ⟨⟨#[109, 97, 114, 107]⟩, 0, 0, ((1000 * i + k : Nat) : Int)⟩)) (wk2.setRow gk1 (En.cells ⟨⟨#[109, 97, 114, 107]⟩, 0, 0, ((1000 * i + k : Nat) : Int)⟩)) (rs (En.cs enZ) (En.cs ⟨⟨#[109, 97, 114, 107]⟩, 0, 0, ((1000 * i + k : Nat) : Int)⟩) (En.cs ⟨⟨#[109, 97, 114, 107]⟩, 0, 0, ((1000 * i + k : Nat) : Int)⟩) (HF.out.box 0 _ _ _ rfl) S124 (En.oneL _)) ?_
                    try simp only [pS]
                    have HF : Hid (Fq No wr (wk2.setRow gk1 (En.cells ⟨⟨#[109, 97, 114, 107]⟩, 0, 0, ((1000 * i + k : Nat) : Int)⟩)) [(gk1, 124, En.cells ⟨⟨#[109, 97, 114, 107]⟩, 0, 0, ((1000 * i + k : Nat) : Int)⟩)]) := HF.out.set 0 rfl _
                    generalize wk2.setRow gk1 (En.cells ⟨⟨#[109, 97, 114, 107]⟩, 0, 0, ((1000 * i + k : Nat) : Int)⟩) = wk3 at HF ⊢
                    refine WL.nil ?_
                    try simp only [pS]
                    go_upto_region 32 with fail
                    refine WL.start <| uK (.int .i64 ((k : Nat) : Int)) <| uK (.int .i64 ((b.e.l : Nat) : Int)) <| uB .geq 3 (.int .i64 ((k : Nat) : Int)) (.int .i64 ((b.e.l : Nat) : Int)) (.bool true) (by rw [b_geq, decide_eq_true (by omega)]) <| WL.nil <| ?_
                    try simp only [pS]
                    go_upto_region 33 with fail
                    refine WL.start <| uK (.int .i64 ((i : Nat) : Int)) <| uB .mul 3 (.int .i64 1000) (.int .i64 ((i : Nat) : Int)) (.int .i64 ((1000 * i : Nat) : Int)) (b_mulw _ _ _ (by rw [IntKind.wrap_i64]; omega) _) <| uK (.int .i64 ((k : Nat) : Int)) <| uB .add 3 (.int .i64 ((1000 * i : Nat) : Int)) (.int .i64 ((k : Nat) : Int)) (.int .i64 ((1000 * i + k : Nat) : Int)) (b_addw _ _ _ (by rw [IntKind.wrap_i64]; omega) _) <| uK (.int .i64 ((b.e.l : Nat) : Int)) <| uB .sub 3 (.int .i64 ((1000 * i + k : Nat) : Int)) (.int .i64 ((b.e.l : Nat) : Int)) (.int .i64 ((1000 * i + (k - b.e.l) : Nat) : Int)) (b_subw _ _ _ (by rw [IntKind.wrap_i64]; omega) _) <| uW (.agg (En.cells ⟨⟨#[109, 111, 114, 101]⟩, 0, 0, ((1000 * i + (k - b.e.l) : Nat) : Int)⟩)) (exec_build 124 _ rfl (En.cells ⟨⟨#[109, 111, 114, 101]⟩, 0, 0, ((1000 * i + (k - b.e.l) : Nat) : Int)⟩) (by kernel_rfl)) <| ?_
                    try simp only [pS]
                    refine uT 124 ⟨gk1, 0, none⟩ (.agg (En.cells ⟨⟨#[109, 111, 114, 101]⟩, 0, 0, ((1000 * i + (k - b.e.l) : Nat) : Int)⟩)) (wk3.setRow gk1 (En.cells ⟨⟨#[109, 111, 114, 101]⟩, 0, 0, ((1000 * i + (k - b.e.l) : Nat) : Int)⟩)) (rs (En.cs ⟨⟨#[109, 97, 114, 107]⟩, 0, 0, ((1000 * i + k : Nat) : Int)⟩) (En.cs ⟨⟨#[109, 111, 114, 101]⟩, 0, 0, ((1000 * i + (k - b.e.l) : Nat) : Int)⟩) (En.cs ⟨⟨#[109, 111, 114, 101]⟩, 0, 0, ((1000 * i + (k - b.e.l) : Nat) : Int)⟩) (HF.out.box 0 _ _ _ rfl) S124 (En.oneL _)) ?_
                    try simp only [pS]
                    have HF : Hid (Fq No wr (wk3.setRow gk1 (En.cells ⟨⟨#[109, 111, 114, 101]⟩, 0, 0, ((1000 * i + (k - b.e.l) : Nat) : Int)⟩)) [(gk1, 124, En.cells ⟨⟨#[109, 111, 114, 101]⟩, 0, 0, ((1000 * i + (k - b.e.l) : Nat) : Int)⟩)]) := HF.out.set 0 rfl _
                    generalize wk3.setRow gk1 (En.cells ⟨⟨#[109, 111, 114, 101]⟩, 0, 0, ((1000 * i + (k - b.e.l) : Nat) : Int)⟩) = wk4 at HF ⊢
                    refine WL.nil ?_
                    try simp only [pS]
                    go_upto_region 34 with fail
                    refine wp_region_held_drew (S := fun w' => Fq No wr w' [(gk1, 124, En.cells ⟨⟨#[109, 111, 114, 101]⟩, 0, 0, ((1000 * i + (k - b.e.l) : Nat) : Int)⟩)]) rfl (HF.out.drew) (fun hH => ?_)
                    have HF : Hid (Fq No wr (wk4.drew) [(gk1, 124, En.cells ⟨⟨#[109, 111, 114, 101]⟩, 0, 0, ((1000 * i + (k - b.e.l) : Nat) : Int)⟩)]) := HF.out.drew
                    generalize wk4.drew = wk5 at HF hH ⊢
                    refine xV 0 151 (.slice (some ⟨me, 0, none⟩) n ec) hH <| xV 1 152 (.int .i64 ((i : Nat) : Int)) hH <| xU 2 153 (pV me (0 + i * 1)) (fun w' hw => exec_ixA 128 1 xE128 xF128 _ _ rfl me 0 n ec i (by kernel_rfl) (by kernel_rfl) (by omega)) hH <| xL 3 154 41 ⟨me, 0 + i * 1, none⟩ f.v (fun _ hw => load_one (hw.kept.cell ((HGe.out.more.at0 hf rfl).1) (fun e => e)) xU41 rfl) hH <| xV 4 155 (.int .i64 ((k : Nat) : Int)) hH <| xU 5 156 (pV gf (0 + k * 4)) (fun w' hw => exec_ixA 41 4 xE41 xF41 _ _ rfl gf 0 f.l f.k k (Eq.trans (b := f.v) (by kernel_rfl) hfv) (by kernel_rfl) (by omega)) hH <| ?_
                    try simp only [pS]
                    refine xL 6 157 124 ⟨gf, 0 + k * 4, none⟩ (.agg (En.cells ⟨⟨#[109, 111, 114, 101]⟩, 0, 0, ((1000 * i + (k - b.e.l) : Nat) : Int)⟩)) (fun _ hw => load_at (n := 4) (it := En.cs ⟨⟨#[109, 111, 114, 101]⟩, 0, 0, ((1000 * i + (k - b.e.l) : Nat) : Int)⟩) (fun j v hv => hw.kept.cell (hN j v hv) (fun e => e)) xU124 rfl xS124) hH <| xL 7 158 124 ⟨gk1, 0, none⟩ (.agg (En.cells ⟨⟨#[109, 111, 114, 101]⟩, 0, 0, ((1000 * i + (k - b.e.l) : Nat) : Int)⟩)) (fun _ hw => run_load_part (cs := En.cs ⟨⟨#[109, 111, 114, 101]⟩, 0, 0, ((1000 * i + (k - b.e.l) : Nat) : Int)⟩) (sub := En.cs ⟨⟨#[109, 111, 114, 101]⟩, 0, 0, ((1000 * i + (k - b.e.l) : Nat) : Int)⟩) (hw.box 0 _ _ _ rfl) (Part.all _) U124 rfl S124) hH <| xB 8 159 .neq 124 (.agg (En.cells ⟨⟨#[109, 111, 114, 101]⟩, 0, 0, ((1000 * i + (k - b.e.l) : Nat) : Int)⟩)) (.agg (En.cells ⟨⟨#[109, 111, 114, 101]⟩, 0, 0, ((1000 * i + (k - b.e.l) : Nat) : Int)⟩)) (.bool false) (fun _ _ => by rw [eqE_neq, eqE_refl]; rfl) hH <| xV 9 160 (.bool false) hH <| xV 10 161 (.int .i64 ((k : Nat) : Int)) hH <| xV 11 162 (.int .i64 ((b.e.l : Nat) : Int)) hH <| ?_
                    try simp only [pS]
                    refine xB 12 163 .lss 3 (.int .i64 ((k : Nat) : Int)) (.int .i64 ((b.e.l : Nat) : Int)) (.bool false) (fun _ _ => by rw [b_lss, decide_eq_false (by omega)]) hH <| xV 13 164 (.bool false) hH <| xZ 14 165 hH <| xZ 15 166 hH <| xZ 16 167 hH <| xZ 17 168 hH <| ?_
                    try simp only [pS]
                    refine xZ 18 169 hH <| xZ 19 170 hH <| xZ 20 171 hH <| xZ 21 172 hH <| xZ 22 173 hH <| xZ 23 174 hH <| ?_
                    try simp only [pS]
                    refine xV 24 175 (.bool false) hH <| xV 25 176 (.bool false) hH <| ?_
                    try simp only [pS]
                    refine wpAnyH_done (by kernel_rfl) ?_ _
                    try simp only [pS]
                    clear hH
                    go_upto_region 30 with fail
                    refine WL.start <| uK (.int .i64 ((k : Nat) : Int)) <| uB .add 3 (.int .i64 ((k : Nat) : Int)) (.int .i64 1) (.int .i64 (((k + 1) : Nat) : Int)) (b_addw _ _ _ (by rw [IntKind.wrap_i64]; omega) _) <| uK (.int .i64 (((k + 1) : Nat) : Int)) <| WL.nil <| ?_
                    try simp only [pS]
                    go_wp2
                    go_roundw
                    case rel => exact ⟨k + 1, by go_num, by omega, HB.out.no HF.out.kept, HGe.out.off HF.out.kept Off.no, HGl.out.off HF.out.kept Off.no⟩
                    case measure => simp [intOf]; omega
                  · have hN : ∀ (j : Nat) v, (En.cs (DE.mm i k))[j]? = some v → wr.cell? ⟨gf, 0 + k * 4 + j, none⟩ = some v := HGe.out.newAt he hf hfa (by rw [hck]; exact mk_lo (by omega))
                    obtain ⟨gbe, hba⟩ : ∃ g, b.e.a = some ⟨g, 0, none⟩ := Own.sm (HGe.out.each i _ f he hf).2.1 (by rw [marksOf_len]; omega)
                    have hev : b.e.v = .slice (some ⟨gbe, 0, none⟩) b.e.l b.e.k := by unfold Sl.v; rw [hba]
                    have hO : ∀ (j : Nat) v, (En.cs (DE.mm i k))[j]? = some v → wr.cell? ⟨gbe, 0 + k * 4 + j, none⟩ = some v := HGe.out.oldAt he hf hba (by omega)
                    go_upto_region 29 with fail
                    refine WL.start <| uK (.int .i64 ((k : Nat) : Int)) <| uK (.int .i64 ((b.e.l : Nat) : Int)) <| uB .add 3 (.int .i64 ((b.e.l : Nat) : Int)) (.int .i64 300) (.int .i64 (((b.e.l + 300) : Nat) : Int)) (b_addw _ _ _ (by rw [IntKind.wrap_i64]; omega) _) <| uB .lss 3 (.int .i64 ((k : Nat) : Int)) (.int .i64 (((b.e.l + 300) : Nat) : Int)) (.bool true) (by rw [b_lss, decide_eq_true (by omega)]) <| WL.nil <| ?_
                    try simp only [pS]
                    go_upto_region 31 with fail
                    refine WL.start <| uK (.int .i64 ((i : Nat) : Int)) <| uB .mul 3 (.int .i64 1000) (.int .i64 ((i : Nat) : Int)) (.int .i64 ((1000 * i : Nat) : Int)) (b_mulw _ _ _ (by rw [IntKind.wrap_i64]; omega) _) <| uK (.int .i64 ((k : Nat) : Int)) <| uB .add 3 (.int .i64 ((1000 * i : Nat) : Int)) (.int .i64 ((k : Nat) : Int)) (.int .i64 ((1000 * i + k : Nat) : Int)) (b_addw _ _ _ (by rw [IntKind.wrap_i64]; omega) _) <| uW (.agg (En.cells ⟨⟨#[109, 97, 114, 107]⟩, 0, 0, ((1000 * i + k : Nat) : Int)⟩)) (exec_build 124 _ rfl (En.cells ⟨⟨#[109, 97, 114, 107]⟩, 0, 0, ((1000 * i + k : Nat) : Int)⟩) (by kernel_rfl)) <| ?_
                    try simp only [pS]
                    refine uR (pV wr.heap.size 0) (wr.alloc (.cells (En.cells enZ) 124)) (exec_alloc 124 rfl (En.cells enZ) Z124) ?_
                    try simp only [pS]
                    have HF : Hid (Fq No wr (wr.alloc (.cells (En.cells enZ) 124)) [(wr.heap.size, 124, En.cells enZ)]) := HF.out.alloc _ _
                    generalize wr.alloc (.cells (En.cells enZ) 124) = wk7 at HF ⊢
                    generalize wr.heap.size = gk6 at HF ⊢
                    refine uT 124 ⟨gk6, 0, none⟩ (.agg (En.cells ⟨⟨#[109, 97, 114, 107]⟩, 0, 0, ((1000 * i + k : Nat) : Int)⟩)) (wk7.setRow gk6 (En.cells ⟨⟨#[109, 97, 114, 107]⟩, 0, 0, ((1000 * i + k : Nat) : Int)⟩)) (rs (En.cs enZ) (En.cs ⟨⟨#[109, 97, 114, 107]⟩, 0, 0, ((1000 * i + k : Nat) : Int)⟩) (En.cs ⟨⟨#[109, 97, 114, 107]⟩, 0, 0, ((1000 * i + k : Nat) : Int)⟩) (HF.out.box 0 _ _ _ rfl) S124 (En.oneL _)) ?_
                    try simp only [pS]
                    have HF : Hid (Fq No wr (wk7.setRow gk6 (En.cells ⟨⟨#[109, 97, 114, 107]⟩, 0, 0, ((1000 * i + k : Nat) : Int)⟩)) [(gk6, 124, En.cells ⟨⟨#[109, 97, 114, 107]⟩, 0, 0, ((1000 * i + k : Nat) : Int)⟩)]) := HF.out.set 0 rfl _
                    generalize wk7.setRow gk6 (En.cells ⟨⟨#[109, 97, 114, 107]⟩, 0, 0, ((1000 * i + k : Nat) : Int)⟩) = wk8 at HF ⊢
                    refine WL.nil ?_
                    try simp only [pS]
                    go_upto_region 32 with fail
                    refine WL.start <| uK (.int .i64 ((k : Nat) : Int)) <| uK (.int .i64 ((b.e.l : Nat) : Int)) <| uB .geq 3 (.int .i64 ((k : Nat) : Int)) (.int .i64 ((b.e.l : Nat) : Int)) (.bool false) (by rw [b_geq, decide_eq_false (by omega)]) <| WL.nil <| ?_
                    try simp only [pS]
                    go_upto_region 34 with fail
                    refine wp_region_held_drew (S := fun w' => Fq No wr w' [(gk6, 124, En.cells ⟨⟨#[109, 97, 114, 107]⟩, 0, 0, ((1000 * i + k : Nat) : Int)⟩)]) rfl (HF.out.drew) (fun hH => ?_)
                    have HF : Hid (Fq No wr (wk8.drew) [(gk6, 124, En.cells ⟨⟨#[109, 97, 114, 107]⟩, 0, 0, ((1000 * i + k : Nat) : Int)⟩)]) := HF.out.drew
                    generalize wk8.drew = wk9 at HF hH ⊢
                    refine xV 0 151 (.slice (some ⟨me, 0, none⟩) n ec) hH <| xV 1 152 (.int .i64 ((i : Nat) : Int)) hH <| xU 2 153 (pV me (0 + i * 1)) (fun w' hw => exec_ixA 128 1 xE128 xF128 _ _ rfl me 0 n ec i (by kernel_rfl) (by kernel_rfl) (by omega)) hH <| xL 3 154 41 ⟨me, 0 + i * 1, none⟩ f.v (fun _ hw => load_one (hw.kept.cell ((HGe.out.more.at0 hf rfl).1) (fun e => e)) xU41 rfl) hH <| xV 4 155 (.int .i64 ((k : Nat) : Int)) hH <| xU 5 156 (pV gf (0 + k * 4)) (fun w' hw => exec_ixA 41 4 xE41 xF41 _ _ rfl gf 0 f.l f.k k (Eq.trans (b := f.v) (by kernel_rfl) hfv) (by kernel_rfl) (by omega)) hH <| ?_
                    try simp only [pS]
                    refine xL 6 157 124 ⟨gf, 0 + k * 4, none⟩ (.agg (En.cells ⟨⟨#[109, 97, 114, 107]⟩, 0, 0, ((1000 * i + k : Nat) : Int)⟩)) (fun _ hw => load_at (n := 4) (it := En.cs ⟨⟨#[109, 97, 114, 107]⟩, 0, 0, ((1000 * i + k : Nat) : Int)⟩) (fun j v hv => hw.kept.cell (hN j v hv) (fun e => e)) xU124 rfl xS124) hH <| xL 7 158 124 ⟨gk6, 0, none⟩ (.agg (En.cells ⟨⟨#[109, 97, 114, 107]⟩, 0, 0, ((1000 * i + k : Nat) : Int)⟩)) (fun _ hw => run_load_part (cs := En.cs ⟨⟨#[109, 97, 114, 107]⟩, 0, 0, ((1000 * i + k : Nat) : Int)⟩) (sub := En.cs ⟨⟨#[109, 97, 114, 107]⟩, 0, 0, ((1000 * i + k : Nat) : Int)⟩) (hw.box 0 _ _ _ rfl) (Part.all _) U124 rfl S124) hH <| xB 8 159 .neq 124 (.agg (En.cells ⟨⟨#[109, 97, 114, 107]⟩, 0, 0, ((1000 * i + k : Nat) : Int)⟩)) (.agg (En.cells ⟨⟨#[109, 97, 114, 107]⟩, 0, 0, ((1000 * i + k : Nat) : Int)⟩)) (.bool false) (fun _ _ => by rw [eqE_neq, eqE_refl]; rfl) hH <| xV 9 160 (.bool false) hH <| xV 10 161 (.int .i64 ((k : Nat) : Int)) hH <| xV 11 162 (.int .i64 ((b.e.l : Nat) : Int)) hH <| ?_
                    try simp only [pS]
                    refine xB 12 163 .lss 3 (.int .i64 ((k : Nat) : Int)) (.int .i64 ((b.e.l : Nat) : Int)) (.bool true) (fun _ _ => by rw [b_lss, decide_eq_true (by omega)]) hH <| xV 13 164 (.bool true) hH <| xV 14 165 (.slice (some ⟨rb, 0, none⟩) n rc) hH <| xV 15 166 (.int .i64 ((i : Nat) : Int)) hH <| xU 16 167 (pV rb (0 + i * 3)) (fun w' hw => exec_ixA 85 3 xE85 xF85 _ _ rfl rb 0 n rc i (by kernel_rfl) (by kernel_rfl) (by omega)) hH <| xV 17 168 (pV rb (0 + i * 3 + 1)) hH <| ?_
                    try simp only [pS]
                    refine xL 18 169 41 ⟨rb, 0 + i * 3 + 1, none⟩ b.e.v (fun _ hw => load_one (hw.kept.cell ((HB.out.row i b hb).1) (fun e => e)) xU41 rfl) hH <| xV 19 170 (.int .i64 ((k : Nat) : Int)) hH <| xU 20 171 (pV gbe (0 + k * 4)) (fun w' hw => exec_ixA 41 4 xE41 xF41 _ _ rfl gbe 0 b.e.l b.e.k k (Eq.trans (b := b.e.v) (by kernel_rfl) hev) (by kernel_rfl) (by omega)) hH <| xL 21 172 124 ⟨gbe, 0 + k * 4, none⟩ (.agg (En.cells ⟨⟨#[109, 97, 114, 107]⟩, 0, 0, ((1000 * i + k : Nat) : Int)⟩)) (fun _ hw => load_at (n := 4) (it := En.cs ⟨⟨#[109, 97, 114, 107]⟩, 0, 0, ((1000 * i + k : Nat) : Int)⟩) (fun j v hv => hw.kept.cell (hO j v hv) (fun e => e)) xU124 rfl xS124) hH <| xL 22 173 124 ⟨gk6, 0, none⟩ (.agg (En.cells ⟨⟨#[109, 97, 114, 107]⟩, 0, 0, ((1000 * i + k : Nat) : Int)⟩)) (fun _ hw => run_load_part (cs := En.cs ⟨⟨#[109, 97, 114, 107]⟩, 0, 0, ((1000 * i + k : Nat) : Int)⟩) (sub := En.cs ⟨⟨#[109, 97, 114, 107]⟩, 0, 0, ((1000 * i + k : Nat) : Int)⟩) (hw.box 0 _ _ _ rfl) (Part.all _) U124 rfl S124) hH <| xB 23 174 .neq 124 (.agg (En.cells ⟨⟨#[109, 97, 114, 107]⟩, 0, 0, ((1000 * i + k : Nat) : Int)⟩)) (.agg (En.cells ⟨⟨#[109, 97, 114, 107]⟩, 0, 0, ((1000 * i + k : Nat) : Int)⟩)) (.bool false) (fun _ _ => by rw [eqE_neq, eqE_refl]; rfl) hH <| ?_
                    try simp only [pS]
                    refine xV 24 175 (.bool false) hH <| xV 25 176 (.bool false) hH <| ?_
                    try simp only [pS]
                    refine wpAnyH_done (by kernel_rfl) ?_ _
                    try simp only [pS]
                    clear hH
                    go_upto_region 30 with fail
                    refine WL.start <| uK (.int .i64 ((k : Nat) : Int)) <| uB .add 3 (.int .i64 ((k : Nat) : Int)) (.int .i64 1) (.int .i64 (((k + 1) : Nat) : Int)) (b_addw _ _ _ (by rw [IntKind.wrap_i64]; omega) _) <| uK (.int .i64 (((k + 1) : Nat) : Int)) <| WL.nil <| ?_
                    try simp only [pS]
                    go_wp2
                    go_roundw
                    case rel => exact ⟨k + 1, by go_num, by omega, HB.out.no HF.out.kept, HGe.out.off HF.out.kept Off.no, HGl.out.off HF.out.kept Off.no⟩
                    case measure => simp [intOf]; omega
                · clear HF
                  go_upto_region 29 with fail
                  refine WL.start <| uK (.int .i64 ((k : Nat) : Int)) <| uK (.int .i64 ((b.e.l : Nat) : Int)) <| uB .add 3 (.int .i64 ((b.e.l : Nat) : Int)) (.int .i64 300) (.int .i64 (((b.e.l + 300) : Nat) : Int)) (b_addw _ _ _ (by rw [IntKind.wrap_i64]; omega) _) <| uB .lss 3 (.int .i64 ((k : Nat) : Int)) (.int .i64 (((b.e.l + 300) : Nat) : Int)) (.bool false) (by rw [b_lss, decide_eq_false (by omega)]) <| WL.nil <| ?_
                  try simp only [pS]
                  clear hfv hfa hck hfl hf hk hlk
                  go_upto_region 36 with fail
                  refine WL.start <| uK (.slice (some ⟨rb, 0, none⟩) n rc) <| uK (.int .i64 ((i : Nat) : Int)) <| uW (pV rb (0 + i * 3)) (exec_ixA 85 3 xE85 xF85 _ _ rfl rb 0 n rc i (by kernel_rfl) (by kernel_rfl) (by omega)) <| uK (pV rb (0 + i * 3 + 2)) <| uL 42 ⟨rb, 0 + i * 3 + 2, none⟩ (b.l.v) (load_one ((HB.out.row i b hb).2) xU42 rfl) <| uK (.int .i64 ((b.l.l : Nat) : Int)) <| uK (.int .i64 ((b.l.l : Nat) : Int)) <| WL.nil <| ?_
                  try simp only [pS]
                  go_upto_region 37 with fail
                  refine WL.start <| uK (.int .i64 0) <| WL.nil <| ?_
                  try simp only [pS]
                  obtain ⟨f, hf⟩ : ∃ f, M'[i]? = some f := ⟨_, List.getElem?_eq_getElem (by rw [HGl.out.len, hnL]; exact hlt)⟩
                  obtain ⟨hfl, _, hfo, _, hel⟩ := HGl.out.each i _ f hl hf
                  have hck : c' i = 300 := (HCk.out i).2
                  rw [hck] at hfl hfo
                  obtain ⟨gf, hfa⟩ : ∃ g, f.a = some ⟨g, 0, none⟩ := Own.sm hfo (by rw [gr_len2]; omega)
                  have hfv : f.v = .slice (some ⟨gf, 0, none⟩) f.l f.k := by unfold Sl.v; rw [hfa]
                  clear hfo
                  go_wp2
                  go_loopw [14, 15] (fun v14 v15 wr => ∃ (k : Nat), v14 = .int .i64 ((k : Nat) : Int) ∧ k ≤ b.l.l + 300 ∧ Hid (Bb w wr rb B) ∧ Hid (Gy DE w wr lo (bE B) (some ⟨me, 0, none⟩) ec M c) ∧ Hid (Gy DL w wr lo (bL B) (some ⟨ml, 0, none⟩) lc M' c')) (fun i _ _ => b.l.l + 300 - (intOf i).toNat)
                  case atStart => exact ⟨0, by go_num, by omega, HB, HGe, HGl⟩
                  case round =>
                    clear HB HGe HGl
                    obtain ⟨k, rfl, hk, HB, HGe, HGl⟩ := hrel
                    have HF : Hid (Fq No wr wr []) := Fq.start _ _
                    by_cases hlk : k < b.l.l + 300
                    · by_cases hke : b.l.l ≤ k
                      · have hN : ∀ (j : Nat) v, (La.cs (DL.mr i (k - b.l.l)))[j]? = some v → wr.cell? ⟨gf, 0 + k * 7 + j, none⟩ = some v := HGl.out.newAt hl hf hfa (by rw [hck]; exact mk_hi hke hlk)
                        go_upto_region 38 with fail
                        refine WL.start <| uK (.int .i64 ((k : Nat) : Int)) <| uK (.int .i64 ((b.l.l : Nat) : Int)) <| uB .add 3 (.int .i64 ((b.l.l : Nat) : Int)) (.int .i64 300) (.int .i64 (((b.l.l + 300) : Nat) : Int)) (b_addw _ _ _ (by rw [IntKind.wrap_i64]; omega) _) <| uB .lss 3 (.int .i64 ((k : Nat) : Int)) (.int .i64 (((b.l.l + 300) : Nat) : Int)) (.bool true) (by rw [b_lss, decide_eq_true (by omega)]) <| WL.nil <| ?_
                        try simp only [pS]
                        go_upto_region 40 with fail
                        refine WL.start <| uK (.int .i64 ((i : Nat) : Int)) <| uB .add 3 (.int .i64 1) (.int .i64 ((i : Nat) : Int)) (.int .i64 ((1 + i : Nat) : Int)) (b_addw _ _ _ (by rw [IntKind.wrap_i64]; omega) _) <| uK (.int .i64 ((k : Nat) : Int)) <| uW (.agg (La.cells ⟨((1 + i : Nat) : Int), ((k : Nat) : Int), 0, 0, 0, 0, 0⟩)) (exec_build 127 _ rfl (La.cells ⟨((1 + i : Nat) : Int), ((k : Nat) : Int), 0, 0, 0, 0, 0⟩) (by kernel_rfl)) <| ?_
                        try simp only [pS]
                        refine uR (pV wr.heap.size 0) (wr.alloc (.cells (La.cells laZ) 127)) (exec_alloc 127 rfl (La.cells laZ) Z127) ?_
                        try simp only [pS]
                        have HF : Hid (Fq No wr (wr.alloc (.cells (La.cells laZ) 127)) [(wr.heap.size, 127, La.cells laZ)]) := HF.out.alloc _ _
                        generalize wr.alloc (.cells (La.cells laZ) 127) = wk11 at HF ⊢
                        generalize wr.heap.size = gk10 at HF ⊢
                        refine uT 127 ⟨gk10, 0, none⟩ (.agg (La.cells ⟨((1 + i : Nat) : Int), ((k : Nat) : Int), 0, 0, 0, 0, 0⟩)) (wk11.setRow gk10 (La.cells ⟨((1 + i : Nat) : Int), ((k : Nat) : Int), 0, 0, 0, 0, 0⟩)) (rs (La.cs laZ) (La.cs ⟨((1 + i : Nat) : Int), ((k : Nat) : Int), 0, 0, 0, 0, 0⟩) (La.cs ⟨((1 + i : Nat) : Int), ((k : Nat) : Int), 0, 0, 0, 0, 0⟩) (HF.out.box 0 _ _ _ rfl) S127 (La.oneL _)) ?_
                        try simp only [pS]
                        have HF : Hid (Fq No wr (wk11.setRow gk10 (La.cells ⟨((1 + i : Nat) : Int), ((k : Nat) : Int), 0, 0, 0, 0, 0⟩)) [(gk10, 127, La.cells ⟨((1 + i : Nat) : Int), ((k : Nat) : Int), 0, 0, 0, 0, 0⟩)]) := HF.out.set 0 rfl _
                        generalize wk11.setRow gk10 (La.cells ⟨((1 + i : Nat) : Int), ((k : Nat) : Int), 0, 0, 0, 0, 0⟩) = wk12 at HF ⊢
                        refine WL.nil ?_
                        try simp only [pS]
                        go_upto_region 41 with fail
                        refine WL.start <| uK (.int .i64 ((k : Nat) : Int)) <| uK (.int .i64 ((b.l.l : Nat) : Int)) <| uB .geq 3 (.int .i64 ((k : Nat) : Int)) (.int .i64 ((b.l.l : Nat) : Int)) (.bool true) (by rw [b_geq, decide_eq_true (by omega)]) <| WL.nil <| ?_
                        try simp only [pS]
                        go_upto_region 42 with fail
                        refine WL.start <| uK (.int .i64 ((i : Nat) : Int)) <| uB .add 3 (.int .i64 101) (.int .i64 ((i : Nat) : Int)) (.int .i64 ((101 + i : Nat) : Int)) (b_addw _ _ _ (by rw [IntKind.wrap_i64]; omega) _) <| uK (.int .i64 ((k : Nat) : Int)) <| uK (.int .i64 ((b.l.l : Nat) : Int)) <| uB .sub 3 (.int .i64 ((k : Nat) : Int)) (.int .i64 ((b.l.l : Nat) : Int)) (.int .i64 ((k - b.l.l : Nat) : Int)) (b_subw _ _ _ (by rw [IntKind.wrap_i64]; omega) _) <| uW (.agg (La.cells ⟨((101 + i : Nat) : Int), ((k - b.l.l : Nat) : Int), 0, 0, 0, 0, 0⟩)) (exec_build 127 _ rfl (La.cells ⟨((101 + i : Nat) : Int), ((k - b.l.l : Nat) : Int), 0, 0, 0, 0, 0⟩) (by kernel_rfl)) <| ?_
                        try simp only [pS]
                        refine uT 127 ⟨gk10, 0, none⟩ (.agg (La.cells ⟨((101 + i : Nat) : Int), ((k - b.l.l : Nat) : Int), 0, 0, 0, 0, 0⟩)) (wk12.setRow gk10 (La.cells ⟨((101 + i : Nat) : Int), ((k - b.l.l : Nat) : Int), 0, 0, 0, 0, 0⟩)) (rs (La.cs ⟨((1 + i : Nat) : Int), ((k : Nat) : Int), 0, 0, 0, 0, 0⟩) (La.cs ⟨((101 + i : Nat) : Int), ((k - b.l.l : Nat) : Int), 0, 0, 0, 0, 0⟩) (La.cs ⟨((101 + i : Nat) : Int), ((k - b.l.l : Nat) : Int), 0, 0, 0, 0, 0⟩) (HF.out.box 0 _ _ _ rfl) S127 (La.oneL _)) ?_
                        try simp only [pS]
                        have HF : Hid (Fq No wr (wk12.setRow gk10 (La.cells ⟨((101 + i : Nat) : Int), ((k - b.l.l : Nat) : Int), 0, 0, 0, 0, 0⟩)) [(gk10, 127, La.cells ⟨((101 + i : Nat) : Int), ((k - b.l.l : Nat) : Int), 0, 0, 0, 0, 0⟩)]) := HF.out.set 0 rfl _
                        generalize wk12.setRow gk10 (La.cells ⟨((101 + i : Nat) : Int), ((k - b.l.l : Nat) : Int), 0, 0, 0, 0, 0⟩) = wk13 at HF ⊢
                        refine WL.nil ?_
                        try simp only [pS]
                        go_upto_region 43 with fail
                        refine wp_region_held_drew (S := fun w' => Fq No wr w' [(gk10, 127, La.cells ⟨((101 + i : Nat) : Int), ((k - b.l.l : Nat) : Int), 0, 0, 0, 0, 0⟩)]) rfl (HF.out.drew) (fun hH => ?_)
                        have HF : Hid (Fq No wr (wk13.drew) [(gk10, 127, La.cells ⟨((101 + i : Nat) : Int), ((k - b.l.l : Nat) : Int), 0, 0, 0, 0, 0⟩)]) := HF.out.drew
                        generalize wk13.drew = wk14 at HF hH ⊢
                        refine xV 0 202 (.slice (some ⟨ml, 0, none⟩) n lc) hH <| xV 1 203 (.int .i64 ((i : Nat) : Int)) hH <| xU 2 204 (pV ml (0 + i * 1)) (fun w' hw => exec_ixA 129 1 xE129 xF129 _ _ rfl ml 0 n lc i (by kernel_rfl) (by kernel_rfl) (by omega)) hH <| xL 3 205 42 ⟨ml, 0 + i * 1, none⟩ f.v (fun _ hw => load_one (hw.kept.cell ((HGl.out.more.at0 hf rfl).1) (fun e => e)) xU42 rfl) hH <| xV 4 206 (.int .i64 ((k : Nat) : Int)) hH <| xU 5 207 (pV gf (0 + k * 7)) (fun w' hw => exec_ixA 42 7 xE42 xF42 _ _ rfl gf 0 f.l f.k k (Eq.trans (b := f.v) (by kernel_rfl) hfv) (by kernel_rfl) (by omega)) hH <| ?_
                        try simp only [pS]
                        refine xL 6 208 127 ⟨gf, 0 + k * 7, none⟩ (.agg (La.cells ⟨((101 + i : Nat) : Int), ((k - b.l.l : Nat) : Int), 0, 0, 0, 0, 0⟩)) (fun _ hw => load_at (n := 7) (it := La.cs ⟨((101 + i : Nat) : Int), ((k - b.l.l : Nat) : Int), 0, 0, 0, 0, 0⟩) (fun j v hv => hw.kept.cell (hN j v hv) (fun e => e)) xU127 rfl xS127) hH <| xL 7 209 127 ⟨gk10, 0, none⟩ (.agg (La.cells ⟨((101 + i : Nat) : Int), ((k - b.l.l : Nat) : Int), 0, 0, 0, 0, 0⟩)) (fun _ hw => run_load_part (cs := La.cs ⟨((101 + i : Nat) : Int), ((k - b.l.l : Nat) : Int), 0, 0, 0, 0, 0⟩) (sub := La.cs ⟨((101 + i : Nat) : Int), ((k - b.l.l : Nat) : Int), 0, 0, 0, 0, 0⟩) (hw.box 0 _ _ _ rfl) (Part.all _) U127 rfl S127) hH <| xB 8 210 .neq 127 (.agg (La.cells ⟨((101 + i : Nat) : Int), ((k - b.l.l : Nat) : Int), 0, 0, 0, 0, 0⟩)) (.agg (La.cells ⟨((101 + i : Nat) : Int), ((k - b.l.l : Nat) : Int), 0, 0, 0, 0, 0⟩)) (.bool false) (fun _ _ => by rw [eqL_neq, eqL_refl]; rfl) hH <| xV 9 211 (.bool false) hH <| xV 10 212 (.int .i64 ((k : Nat) : Int)) hH <| xV 11 213 (.int .i64 ((b.l.l : Nat) : Int)) hH <| ?_
                        try simp only [pS]
                        refine xB 12 214 .lss 3 (.int .i64 ((k : Nat) : Int)) (.int .i64 ((b.l.l : Nat) : Int)) (.bool false) (fun _ _ => by rw [b_lss, decide_eq_false (by omega)]) hH <| xV 13 215 (.bool false) hH <| xZ 14 216 hH <| xZ 15 217 hH <| xZ 16 218 hH <| xZ 17 219 hH <| ?_
                        try simp only [pS]
                        refine xZ 18 220 hH <| xZ 19 221 hH <| xZ 20 222 hH <| xZ 21 223 hH <| xZ 22 224 hH <| xZ 23 225 hH <| ?_
                        try simp only [pS]
                        refine xV 24 226 (.bool false) hH <| xV 25 227 (.bool false) hH <| ?_
                        try simp only [pS]
                        refine wpAnyH_done (by kernel_rfl) ?_ _
                        try simp only [pS]
                        clear hH
                        go_upto_region 39 with fail
                        refine WL.start <| uK (.int .i64 ((k : Nat) : Int)) <| uB .add 3 (.int .i64 ((k : Nat) : Int)) (.int .i64 1) (.int .i64 (((k + 1) : Nat) : Int)) (b_addw _ _ _ (by rw [IntKind.wrap_i64]; omega) _) <| uK (.int .i64 (((k + 1) : Nat) : Int)) <| WL.nil <| ?_
                        try simp only [pS]
                        go_wp2
                        go_roundw
                        case rel => exact ⟨k + 1, by go_num, by omega, HB.out.no HF.out.kept, HGe.out.off HF.out.kept Off.no, HGl.out.off HF.out.kept Off.no⟩
                        case measure => simp [intOf]; omega
                      · have hN : ∀ (j : Nat) v, (La.cs (DL.mm i k))[j]? = some v → wr.cell? ⟨gf, 0 + k * 7 + j, none⟩ = some v := HGl.out.newAt hl hf hfa (by rw [hck]; exact mk_lo (by omega))
                        obtain ⟨gbl, hba⟩ : ∃ g, b.l.a = some ⟨g, 0, none⟩ := Own.sm (HGl.out.each i _ f hl hf).2.1 (by rw [marksOf_len]; omega)
                        have hlv : b.l.v = .slice (some ⟨gbl, 0, none⟩) b.l.l b.l.k := by unfold Sl.v; rw [hba]
                        have hO : ∀ (j : Nat) v, (La.cs (DL.mm i k))[j]? = some v → wr.cell? ⟨gbl, 0 + k * 7 + j, none⟩ = some v := HGl.out.oldAt hl hf hba (by omega)
                        go_upto_region 38 with fail
                        refine WL.start <| uK (.int .i64 ((k : Nat) : Int)) <| uK (.int .i64 ((b.l.l : Nat) : Int)) <| uB .add 3 (.int .i64 ((b.l.l : Nat) : Int)) (.int .i64 300) (.int .i64 (((b.l.l + 300) : Nat) : Int)) (b_addw _ _ _ (by rw [IntKind.wrap_i64]; omega) _) <| uB .lss 3 (.int .i64 ((k : Nat) : Int)) (.int .i64 (((b.l.l + 300) : Nat) : Int)) (.bool true) (by rw [b_lss, decide_eq_true (by omega)]) <| WL.nil <| ?_
                        try simp only [pS]
                        go_upto_region 40 with fail
                        refine WL.start <| uK (.int .i64 ((i : Nat) : Int)) <| uB .add 3 (.int .i64 1) (.int .i64 ((i : Nat) : Int)) (.int .i64 ((1 + i : Nat) : Int)) (b_addw _ _ _ (by rw [IntKind.wrap_i64]; omega) _) <| uK (.int .i64 ((k : Nat) : Int)) <| uW (.agg (La.cells ⟨((1 + i : Nat) : Int), ((k : Nat) : Int), 0, 0, 0, 0, 0⟩)) (exec_build 127 _ rfl (La.cells ⟨((1 + i : Nat) : Int), ((k : Nat) : Int), 0, 0, 0, 0, 0⟩) (by kernel_rfl)) <| ?_
                        try simp only [pS]
                        refine uR (pV wr.heap.size 0) (wr.alloc (.cells (La.cells laZ) 127)) (exec_alloc 127 rfl (La.cells laZ) Z127) ?_
                        try simp only [pS]
                        have HF : Hid (Fq No wr (wr.alloc (.cells (La.cells laZ) 127)) [(wr.heap.size, 127, La.cells laZ)]) := HF.out.alloc _ _
                        generalize wr.alloc (.cells (La.cells laZ) 127) = wk16 at HF ⊢
                        generalize wr.heap.size = gk15 at HF ⊢
                        refine uT 127 ⟨gk15, 0, none⟩ (.agg (La.cells ⟨((1 + i : Nat) : Int), ((k : Nat) : Int), 0, 0, 0, 0, 0⟩)) (wk16.setRow gk15 (La.cells ⟨((1 + i : Nat) : Int), ((k : Nat) : Int), 0, 0, 0, 0, 0⟩)) (rs (La.cs laZ) (La.cs ⟨((1 + i : Nat) : Int), ((k : Nat) : Int), 0, 0, 0, 0, 0⟩) (La.cs ⟨((1 + i : Nat) : Int), ((k : Nat) : Int), 0, 0, 0, 0, 0⟩) (HF.out.box 0 _ _ _ rfl) S127 (La.oneL _)) ?_
                        try simp only [pS]
                        have HF : Hid (Fq No wr (wk16.setRow gk15 (La.cells ⟨((1 + i : Nat) : Int), ((k : Nat) : Int), 0, 0, 0, 0, 0⟩)) [(gk15, 127, La.cells ⟨((1 + i : Nat) : Int), ((k : Nat) : Int), 0, 0, 0, 0, 0⟩)]) := HF.out.set 0 rfl _
                        generalize wk16.setRow gk15 (La.cells ⟨((1 + i : Nat) : Int), ((k : Nat) : Int), 0, 0, 0, 0, 0⟩) = wk17 at HF ⊢
                        refine WL.nil ?_
                        try simp only [pS]
                        go_upto_region 41 with fail
                        refine WL.start <| uK (.int .i64 ((k : Nat) : Int)) <| uK (.int .i64 ((b.l.l : Nat) : Int)) <| uB .geq 3 (.int .i64 ((k : Nat) : Int)) (.int .i64 ((b.l.l : Nat) : Int)) (.bool false) (by rw [b_geq, decide_eq_false (by omega)]) <| WL.nil <| ?_
                        try simp only [pS]
                        go_upto_region 43 with fail
                        refine wp_region_held_drew (S := fun w' => Fq No wr w' [(gk15, 127, La.cells ⟨((1 + i : Nat) : Int), ((k : Nat) : Int), 0, 0, 0, 0, 0⟩)]) rfl (HF.out.drew) (fun hH => ?_)
                        have HF : Hid (Fq No wr (wk17.drew) [(gk15, 127, La.cells ⟨((1 + i : Nat) : Int), ((k : Nat) : Int), 0, 0, 0, 0, 0⟩)]) := HF.out.drew
                        generalize wk17.drew = wk18 at HF hH ⊢
                        refine xV 0 202 (.slice (some ⟨ml, 0, none⟩) n lc) hH <| xV 1 203 (.int .i64 ((i : Nat) : Int)) hH <| xU 2 204 (pV ml (0 + i * 1)) (fun w' hw => exec_ixA 129 1 xE129 xF129 _ _ rfl ml 0 n lc i (by kernel_rfl) (by kernel_rfl) (by omega)) hH <| xL 3 205 42 ⟨ml, 0 + i * 1, none⟩ f.v (fun _ hw => load_one (hw.kept.cell ((HGl.out.more.at0 hf rfl).1) (fun e => e)) xU42 rfl) hH <| xV 4 206 (.int .i64 ((k : Nat) : Int)) hH <| xU 5 207 (pV gf (0 + k * 7)) (fun w' hw => exec_ixA 42 7 xE42 xF42 _ _ rfl gf 0 f.l f.k k (Eq.trans (b := f.v) (by kernel_rfl) hfv) (by kernel_rfl) (by omega)) hH <| ?_
                        try simp only [pS]
                        refine xL 6 208 127 ⟨gf, 0 + k * 7, none⟩ (.agg (La.cells ⟨((1 + i : Nat) : Int), ((k : Nat) : Int), 0, 0, 0, 0, 0⟩)) (fun _ hw => load_at (n := 7) (it := La.cs ⟨((1 + i : Nat) : Int), ((k : Nat) : Int), 0, 0, 0, 0, 0⟩) (fun j v hv => hw.kept.cell (hN j v hv) (fun e => e)) xU127 rfl xS127) hH <| xL 7 209 127 ⟨gk15, 0, none⟩ (.agg (La.cells ⟨((1 + i : Nat) : Int), ((k : Nat) : Int), 0, 0, 0, 0, 0⟩)) (fun _ hw => run_load_part (cs := La.cs ⟨((1 + i : Nat) : Int), ((k : Nat) : Int), 0, 0, 0, 0, 0⟩) (sub := La.cs ⟨((1 + i : Nat) : Int), ((k : Nat) : Int), 0, 0, 0, 0, 0⟩) (hw.box 0 _ _ _ rfl) (Part.all _) U127 rfl S127) hH <| xB 8 210 .neq 127 (.agg (La.cells ⟨((1 + i : Nat) : Int), ((k : Nat) : Int), 0, 0, 0, 0, 0⟩)) (.agg (La.cells ⟨((1 + i : Nat) : Int), ((k : Nat) : Int), 0, 0, 0, 0, 0⟩)) (.bool false) (fun _ _ => by rw [eqL_neq, eqL_refl]; rfl) hH <| xV 9 211 (.bool false) hH <| xV 10 212 (.int .i64 ((k : Nat) : Int)) hH <| xV 11 213 (.int .i64 ((b.l.l : Nat) : Int)) hH <| ?_
                        try simp only [pS]
                        refine xB 12 214 .lss 3 (.int .i64 ((k : Nat) : Int)) (.int .i64 ((b.l.l : Nat) : Int)) (.bool true) (fun _ _ => by rw [b_lss, decide_eq_true (by omega)]) hH <| xV 13 215 (.bool true) hH <| xV 14 216 (.slice (some ⟨rb, 0, none⟩) n rc) hH <| xV 15 217 (.int .i64 ((i : Nat) : Int)) hH <| xU 16 218 (pV rb (0 + i * 3)) (fun w' hw => exec_ixA 85 3 xE85 xF85 _ _ rfl rb 0 n rc i (by kernel_rfl) (by kernel_rfl) (by omega)) hH <| xV 17 219 (pV rb (0 + i * 3 + 2)) hH <| ?_
                        try simp only [pS]
                        refine xL 18 220 42 ⟨rb, 0 + i * 3 + 2, none⟩ b.l.v (fun _ hw => load_one (hw.kept.cell ((HB.out.row i b hb).2) (fun e => e)) xU42 rfl) hH <| xV 19 221 (.int .i64 ((k : Nat) : Int)) hH <| xU 20 222 (pV gbl (0 + k * 7)) (fun w' hw => exec_ixA 42 7 xE42 xF42 _ _ rfl gbl 0 b.l.l b.l.k k (Eq.trans (b := b.l.v) (by kernel_rfl) hlv) (by kernel_rfl) (by omega)) hH <| xL 21 223 127 ⟨gbl, 0 + k * 7, none⟩ (.agg (La.cells ⟨((1 + i : Nat) : Int), ((k : Nat) : Int), 0, 0, 0, 0, 0⟩)) (fun _ hw => load_at (n := 7) (it := La.cs ⟨((1 + i : Nat) : Int), ((k : Nat) : Int), 0, 0, 0, 0, 0⟩) (fun j v hv => hw.kept.cell (hO j v hv) (fun e => e)) xU127 rfl xS127) hH <| xL 22 224 127 ⟨gk15, 0, none⟩ (.agg (La.cells ⟨((1 + i : Nat) : Int), ((k : Nat) : Int), 0, 0, 0, 0, 0⟩)) (fun _ hw => run_load_part (cs := La.cs ⟨((1 + i : Nat) : Int), ((k : Nat) : Int), 0, 0, 0, 0, 0⟩) (sub := La.cs ⟨((1 + i : Nat) : Int), ((k : Nat) : Int), 0, 0, 0, 0, 0⟩) (hw.box 0 _ _ _ rfl) (Part.all _) U127 rfl S127) hH <| xB 23 225 .neq 127 (.agg (La.cells ⟨((1 + i : Nat) : Int), ((k : Nat) : Int), 0, 0, 0, 0, 0⟩)) (.agg (La.cells ⟨((1 + i : Nat) : Int), ((k : Nat) : Int), 0, 0, 0, 0, 0⟩)) (.bool false) (fun _ _ => by rw [eqL_neq, eqL_refl]; rfl) hH <| ?_
                        try simp only [pS]
                        refine xV 24 226 (.bool false) hH <| xV 25 227 (.bool false) hH <| ?_
                        try simp only [pS]
                        refine wpAnyH_done (by kernel_rfl) ?_ _
                        try simp only [pS]
                        clear hH
                        go_upto_region 39 with fail
                        refine WL.start <| uK (.int .i64 ((k : Nat) : Int)) <| uB .add 3 (.int .i64 ((k : Nat) : Int)) (.int .i64 1) (.int .i64 (((k + 1) : Nat) : Int)) (b_addw _ _ _ (by rw [IntKind.wrap_i64]; omega) _) <| uK (.int .i64 (((k + 1) : Nat) : Int)) <| WL.nil <| ?_
                        try simp only [pS]
                        go_wp2
                        go_roundw
                        case rel => exact ⟨k + 1, by go_num, by omega, HB.out.no HF.out.kept, HGe.out.off HF.out.kept Off.no, HGl.out.off HF.out.kept Off.no⟩
                        case measure => simp [intOf]; omega
                    · clear HF
                      go_upto_region 38 with fail
                      refine WL.start <| uK (.int .i64 ((k : Nat) : Int)) <| uK (.int .i64 ((b.l.l : Nat) : Int)) <| uB .add 3 (.int .i64 ((b.l.l : Nat) : Int)) (.int .i64 300) (.int .i64 (((b.l.l + 300) : Nat) : Int)) (b_addw _ _ _ (by rw [IntKind.wrap_i64]; omega) _) <| uB .lss 3 (.int .i64 ((k : Nat) : Int)) (.int .i64 (((b.l.l + 300) : Nat) : Int)) (.bool false) (by rw [b_lss, decide_eq_false (by omega)]) <| WL.nil <| ?_
                      try simp only [pS]
                      go_upto_region 26 with fail
                      refine WL.start <| uK (.int .i64 ((i : Nat) : Int)) <| uB .add 3 (.int .i64 ((i : Nat) : Int)) (.int .i64 1) (.int .i64 (((i + 1) : Nat) : Int)) (b_addw _ _ _ (by rw [IntKind.wrap_i64]; omega) _) <| uK (.int .i64 (((i + 1) : Nat) : Int)) <| WL.nil <| ?_
                      try simp only [pS]
                      go_wp2
                      go_roundw
                      case rel => exact ⟨i + 1, by go_num, by omega, HB, HGe, HGl⟩
                      case measure => simp [intOf]; omega
            · skip
              go_upto_region 25 with fail
              refine WL.start <| uK (.int .i64 ((i : Nat) : Int)) <| uK (.slice (some ⟨rb, 0, none⟩) n rc) <| uK (.int .i64 ((n : Nat) : Int)) <| uB .lss 3 (.int .i64 ((i : Nat) : Int)) (.int .i64 ((n : Nat) : Int)) (.bool false) (by rw [b_lss, decide_eq_false (by omega)]) <| WL.nil <| ?_
              try simp only [pS]
              go_upto_region 45 with fail
              refine WL.start <| uK (.bool true) <| WL.nil <| ?_
              try simp only [pS]
              go_wp2
              rw [HC.out]
              exact ⟨rfl, HB.out.kp⟩

end Go.Proofs.Ytpabpeppgpeaoaa.Md
