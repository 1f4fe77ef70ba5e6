import Derived.Test.YtpabpeppgpeaoaaRg
namespace Go.Proofs.Ytpabpeppgpeaoaa.Md
open Go.RowKit
set_option linter.unusedVariables false
set_option linter.unusedSimpArgs false

theorem plcR_neg (l : List Int) (v : Int) : ∀ k : Nat, plcR l v k < 0 ↔ v ∉ l := by
  induction l with
  | nil => intro k; simp [plcR]
  | cons z l ih =>
    intro k
    unfold plcR
    split
    · rename_i h; simp [h]
    · rename_i h
      rw [ih (k + 1)]
      simp only [List.mem_cons, not_or]
      exact ⟨fun e => ⟨fun e2 => h e2.symm, e⟩, fun e => e.2⟩
def uqK (zs : List Int) (i : Nat) : List Int := Gt.uq (zs.take i)
theorem uqK_step {zs : List Int} {i : Nat} {z : Int} (h : i < zs.length) (hz : z = zs[i]?.getD 0) : uqK zs (i + 1) = if z ∈ uqK zs i then uqK zs i else uqK zs i ++ [z] := by
  unfold uqK
  rw [Gt.take_snoc h, Gt.uq_snoc, hz]
structure RdI (w : World) (s : Sl) (zs : List Int) : Prop where
  nums : Nums .i64 w s.a zs
  len : zs.length = s.l
theorem RdI.at {w : World} {s : Sl} {zs : List Int} (h : RdI w s zs) {i : Nat} (hi : i < s.l) : ∃ gb go, s.a = some ⟨gb, go, none⟩ ∧ w.cell? ⟨gb, go + i * 1, none⟩ = some (.int .i64 (zs[i]?.getD 0)) := by
  obtain ⟨b, off, e, hc⟩ := h.nums i (by rw [h.len]; exact hi)
  exact ⟨b, off, e, by rw [Nat.mul_one]; exact hc⟩
theorem RdI.no {w w' : World} {s : Sl} {zs : List Int} (h : RdI w s zs) (hk : Kept No w w') : RdI w' s zs := ⟨h.nums.no hk, h.len⟩
theorem OwI.rd {w : World} {b : Nat} {s : Sl} {zs : List Int} (h : OwI w b s zs) : RdI w s zs := ⟨h.own.nums h.len, h.len⟩
set_option maxRecDepth 100000 in
set_option maxHeartbeats 4000000 in
theorem rPlc_any (s : Sl) (zs : List Int) (v : Int) (w : World) (hr : RdI w s zs) (hn : s.l ≤ 2000000) : Calls Try.prog 84 #[s.v, .int .i64 v] w (fun e w' => e = .returned (.int .i64 (plcR zs v 0)) ∧ Kept No w w') := by
  refine hideC fun C HC => ?_
  have HR : Hid (RdI w s zs) := hr
  have hzl := hr.len
  clear hr
  have HF : Hid (Fq No w w []) := Fq.start _ _
  go_enter Try.func84, Try.ntmps84
  go_upto_region 0 with fail
  refine WL.start <| uK (.int .i64 0) <| WL.nil <| ?_
  try simp only [pS]
  go_upto_region 1 with fail
  refine WL.start <| uK (.int .i64 0) <| WL.nil <| ?_
  try simp only [pS]
  go_wp2
  go_loopw [5] (fun v5 wr => ∃ (i : Nat), v5 = .int .i64 ((i : Nat) : Int) ∧ i ≤ s.l ∧ Hid (∀ j, j < i → zs[j]?.getD 0 ≠ v) ∧ Hid (Fq No w wr [])) (fun i _ => s.l - (intOf i).toNat)
  case atStart => exact ⟨0, by go_num, by omega, show ∀ j, j < 0 → zs[j]?.getD 0 ≠ v from fun j hj => absurd hj (Nat.not_lt_zero _), HF⟩
  case round =>
    clear HF
    obtain ⟨i, rfl, hi, HP, HF⟩ := hrel
    by_cases hlt : i < s.l
    · skip
      obtain ⟨gb, go, hga, hgc⟩ := HR.out.at hlt
      have hsl : s.v = .slice (some ⟨gb, go, none⟩) s.l s.k := by unfold Sl.v; rw [hga]
      obtain ⟨z, hz⟩ : ∃ z, z = zs[i]?.getD 0 := ⟨_, rfl⟩
      rw [← hz] at hgc
      have HGc : Hid (w.cell? ⟨gb, go + i * 1, none⟩ = some (.int .i64 z)) := hgc
      have HZ : Hid (z = zs[i]?.getD 0) := hz
      clear hgc hz
      go_upto_region 2 with fail
      refine WL.start <| uK (.int .i64 ((i : Nat) : Int)) <| uK (s.v) <| uK (.int .i64 ((s.l : Nat) : Int)) <| uB .lss 3 (.int .i64 ((i : Nat) : Int)) (.int .i64 ((s.l : Nat) : Int)) (.bool true) (by rw [b_lss, decide_eq_true (by omega)]) <| WL.nil <| ?_
      try simp only [pS]
      go_upto_region 4 with fail
      refine WL.start <| uK (s.v) <| uK (.int .i64 ((i : Nat) : Int)) <| uW (pV gb (go + i * 1)) (exec_ixA 24 1 E24 F24 _ _ rfl gb go s.l s.k i (Eq.trans (b := s.v) (by kernel_rfl) hsl) (by kernel_rfl) (by omega)) <| uL 3 ⟨gb, go + i * 1, none⟩ (.int .i64 z) (load_one (HF.out.kept.cell HGc.out (fun e => e)) U3 rfl) <| uK (.int .i64 v) <| ?_
      try simp only [pS]
      cases q1 : (z == v)
      ·skip
       refine uB .eql 3 (.int .i64 z) (.int .i64 v) (.bool false) (by rw [b_eql, q1]; try rfl) <| WL.nil <| ?_
       try simp only [pS]
       have HP2 : Hid (∀ j, j < i + 1 → zs[j]?.getD 0 ≠ v) := show ∀ j, j < i + 1 → zs[j]?.getD 0 ≠ v from fun j hj => by
         by_cases e : j = i
         · subst e; rw [← HZ.out]; simpa using q1
         · exact HP.out j (by omega)
       go_upto_region 3 with fail
       refine WL.start <| uK (.int .i64 ((i : Nat) : Int)) <| uB .add 3 (.int .i64 ((i : Nat) : Int)) (.int .i64 1) (.int .i64 (((i + 1) : Nat) : Int)) (b_addw _ _ _ (by rw [IntKind.wrap_i64]; omega) _) <| uK (.int .i64 (((i + 1) : Nat) : Int)) <| WL.nil <| ?_
       try simp only [pS]
       go_wp2
       go_roundw
       case rel => exact ⟨i + 1, by go_num, by omega, HP2, HF⟩
       case measure => simp [intOf]; omega
      ·skip
       refine uB .eql 3 (.int .i64 z) (.int .i64 v) (.bool true) (by rw [b_eql, q1]; try rfl) <| WL.nil <| ?_
       try simp only [pS]
       go_upto_region 5 with fail
       refine WL.start <| uK (.int .i64 ((i : Nat) : Int)) <| uK (.int .i64 ((i : Nat) : Int)) <| WL.nil <| ?_
       try simp only [pS]
       go_wp2
       rw [HC.out]
       exact ⟨ret_i' (by rw [plc_found zs v i 0 HP.out (by rw [hzl]; exact hlt) (by rw [← HZ.out]; simpa using q1), Nat.zero_add]), HF.out.kept⟩
    · skip
      go_upto_region 2 with fail
      refine WL.start <| uK (.int .i64 ((i : Nat) : Int)) <| uK (s.v) <| uK (.int .i64 ((s.l : Nat) : Int)) <| uB .lss 3 (.int .i64 ((i : Nat) : Int)) (.int .i64 ((s.l : Nat) : Int)) (.bool false) (by rw [b_lss, decide_eq_false (by omega)]) <| WL.nil <| ?_
      try simp only [pS]
      go_upto_region 6 with fail
      refine WL.start <| uK (.int .i64 (-1)) <| WL.nil <| ?_
      try simp only [pS]
      go_wp2
      rw [HC.out]
      exact ⟨ret_i' (by rw [plc_none zs v 0 (fun j hj => HP.out j (by omega))]), HF.out.kept⟩
set_option maxRecDepth 100000 in
set_option maxHeartbeats 4000000 in
theorem rUnlike_any (s : Sl) (zs : List Int) (w : World) (hr : RdI w s zs) (hn : s.l ≤ 2000000) : Calls Try.prog 60 #[s.v] w (fun e w' => ∃ o : Sl, e = .returned o.v ∧ OwI w' w.heap.size o (Gt.uq zs) ∧ Kept No w w') := by
  refine hideC fun C HC => ?_
  have HR : Hid (RdI w s zs) := hr
  have hzl := hr.len
  clear hr
  have HF : Hid (Fq No w w []) := Fq.start _ _
  go_enter Try.func60, Try.ntmps60
  go_upto_region 0 with fail
  refine WL.start <| uK (.slice none 0 0) <| WL.nil <| ?_
  try simp only [pS]
  go_upto_region 1 with fail
  refine WL.start <| uK (.slice none 0 0) <| WL.nil <| ?_
  try simp only [pS]
  go_upto_region 2 with fail
  refine WL.start <| uK (.int .i64 0) <| WL.nil <| ?_
  try simp only [pS]
  go_wp2
  go_loopw [3, 4] (fun v3 v4 wr => ∃ (i : Nat) (sa : Option Addr) (sn sc : Nat), v3 = .slice sa sn sc ∧ v4 = .int .i64 ((i : Nat) : Int) ∧ i ≤ s.l ∧ sn ≤ i ∧ Hid (OwI wr w.heap.size ⟨sa, sn, sc⟩ (uqK zs i)) ∧ Hid (Fq No w wr [])) (fun _ i _ => s.l - (intOf i).toNat)
  case atStart => exact ⟨0, none, 0, 0, rfl, by go_num, by omega, by omega, ⟨Own.nil _ _ _ _, rfl⟩, HF⟩
  case round =>
    clear HF
    obtain ⟨i, sa, sn, sc, rfl, rfl, hi, hsn, HO, HF⟩ := hrel
    by_cases hlt : i < s.l
    · skip
      obtain ⟨gb, go, hga, hgc⟩ := HR.out.at hlt
      have hsl : s.v = .slice (some ⟨gb, go, none⟩) s.l s.k := by unfold Sl.v; rw [hga]
      obtain ⟨z, hz⟩ : ∃ z, z = zs[i]?.getD 0 := ⟨_, rfl⟩
      rw [← hz] at hgc
      have HGc : Hid (w.cell? ⟨gb, go + i * 1, none⟩ = some (.int .i64 z)) := hgc
      have HZ : Hid (z = zs[i]?.getD 0) := hz
      clear hgc hz
      have hus := uqK_step (zs := zs) (i := i) (by rw [hzl]; exact hlt) HZ.out
      go_upto_region 3 with fail
      refine WL.start <| uK (.int .i64 ((i : Nat) : Int)) <| uK (s.v) <| uK (.int .i64 ((s.l : Nat) : Int)) <| uB .lss 3 (.int .i64 ((i : Nat) : Int)) (.int .i64 ((s.l : Nat) : Int)) (.bool true) (by rw [b_lss, decide_eq_true (by omega)]) <| WL.nil <| ?_
      try simp only [pS]
      go_upto_region 5 with fail
      refine WL.start <| uK (.slice sa sn sc) <| uK (s.v) <| uK (.int .i64 ((i : Nat) : Int)) <| uW (pV gb (go + i * 1)) (exec_ixA 24 1 E24 F24 _ _ rfl gb go s.l s.k i (Eq.trans (b := s.v) (by kernel_rfl) hsl) (by kernel_rfl) (by omega)) <| uL 3 ⟨gb, go + i * 1, none⟩ (.int .i64 z) (load_one (HF.out.kept.cell HGc.out (fun e => e)) U3 rfl) <| ?_
      try simp only [pS]
      refine uC 84 #[.slice sa sn sc, .int .i64 z] (rPlc_any ⟨sa, sn, sc⟩ (uqK zs i) z _ HO.out.rd (by show sn ≤ 2000000; omega)) ?_
      rintro e wk1 ⟨rfl, hk⟩
      have HO : Hid (OwI (wk1) w.heap.size ⟨sa, sn, sc⟩ (uqK zs i)) := HO.out.no hk
      have HF : Hid (Fq No w (wk1) []) := HF.out.no hk
      clear hk
      refine ⟨.int .i64 (plcR (uqK zs i) z 0), rfl, ?_⟩
      try simp only [pS]
      cases q1 : (decide ((plcR (uqK zs i) z 0) < 0))
      ·skip
       refine uB .lss 3 (.int .i64 (plcR (uqK zs i) z 0)) (.int .i64 0) (.bool false) (by rw [b_lss, q1]; try rfl) <| WL.nil <| ?_
       try simp only [pS]
       have HO2 : Hid (OwI wk1 w.heap.size ⟨sa, sn, sc⟩ (uqK zs (i + 1))) := by rw [hus, if_pos (Classical.byContradiction fun e => of_decide_eq_false q1 ((plcR_neg _ _ _).2 e))]; exact HO
       go_upto_region 4 with fail
       refine WL.start <| uK (.int .i64 ((i : Nat) : Int)) <| uB .add 3 (.int .i64 ((i : Nat) : Int)) (.int .i64 1) (.int .i64 (((i + 1) : Nat) : Int)) (b_addw _ _ _ (by rw [IntKind.wrap_i64]; omega) _) <| uK (.int .i64 (((i + 1) : Nat) : Int)) <| WL.nil <| ?_
       try simp only [pS]
       go_wp2
       go_roundw
       case rel => exact ⟨i + 1, sa, sn, sc, rfl, by go_num, by omega, by omega, HO2, HF⟩
       case measure => simp [intOf]; omega
      ·skip
       refine uB .lss 3 (.int .i64 (plcR (uqK zs i) z 0)) (.int .i64 0) (.bool true) (by rw [b_lss, q1]; try rfl) <| WL.nil <| ?_
       try simp only [pS]
       have HNf : Hid (uqK zs (i + 1) = uqK zs i ++ [z]) := by show _ = _; rw [hus, if_neg ((plcR_neg _ _ _).1 (of_decide_eq_true q1))]
       go_upto_region 6 with fail
       refine WL.start <| uK (.slice sa sn sc) <| uK (s.v) <| uK (.int .i64 ((i : Nat) : Int)) <| uW (pV gb (go + i * 1)) (exec_ixA 24 1 E24 F24 _ _ rfl gb go s.l s.k i (Eq.trans (b := s.v) (by kernel_rfl) hsl) (by kernel_rfl) (by omega)) <| uL 3 ⟨gb, go + i * 1, none⟩ (.int .i64 z) (load_one (HF.out.kept.cell HGc.out (fun e => e)) U3 rfl) <| ?_
       try simp only [pS]
       refine uR (.slice (some ⟨wk1.heap.size, 0, none⟩) 1 1) (wk1.alloc (.cells (#[.int .i64 z]) 3)) (exec_slice2 24 3 _ rfl (#[.int .i64 z]) (.int .i64 z) (by kernel_rfl) (by kernel_rfl)) ?_
       try simp only [pS]
       have HO : Hid (OwI (wk1.alloc (.cells (#[.int .i64 z]) 3)) w.heap.size ⟨sa, sn, sc⟩ (uqK zs i)) := HO.out.no ((Kept.refl No _).alloc _)
       have HF : Hid (Fq No w (wk1.alloc (.cells (#[.int .i64 z]) 3)) [(wk1.heap.size, 3, #[.int .i64 z])]) := HF.out.alloc _ _
       generalize wk1.alloc (.cells (#[.int .i64 z]) 3) = wk3 at HF HO ⊢
       generalize wk1.heap.size = gk2 at HF ⊢
       obtain ⟨sa2, cap2, w2, hrun, hown, hk2, hat2⟩ := run_appN (w := wk3) 24 24 3 1 8 (.int .i64 0) U24 I3 rfl (by omega) w.heap.size sn sc sa ((uqK zs i).map (Value.int .i64)) HO.out.own (some ⟨gk2, 0, none⟩) 1 1 ([.int .i64 z]) rfl (fun e => by cases e) (fun j u hj => ⟨_, rfl, by rw [addr_add, Nat.zero_add, (HF.out.box 0 _ _ _ rfl).cell]; simpa using hj⟩) (by simp [Value.oneCell']) (by omega) (by omega) (by have := HF.out.kept.size; omega)
       refine uR (.slice sa2 (sn + 1) cap2) w2 (exec_appN _ _ 24 24 rfl _ _ (by kernel_rfl) (by kernel_rfl) hrun) ?_
       try simp only [pS]
       have HO2 : Hid (OwI w2 w.heap.size ⟨sa2, sn + 1, cap2⟩ (uqK zs (i + 1))) := ⟨by rw [HNf.out, List.map_append]; exact hown, by rw [HNf.out]; simpa using HO.out.len⟩
       have HF0 : Hid (Fq No w w2 []) := (show Fq No w wk3 ([] ++ [(gk2, 3, #[.int .i64 z])]) from HF.out).front.app HO.out.own hk2 (by simp)
       clear hown hk2 hat2 hrun
       refine uK (.slice sa2 (sn + 1) cap2) <| WL.nil <| ?_
       try simp only [pS]
       have HF := HF0
       go_upto_region 4 with fail
       refine WL.start <| uK (.int .i64 ((i : Nat) : Int)) <| uB .add 3 (.int .i64 ((i : Nat) : Int)) (.int .i64 1) (.int .i64 (((i + 1) : Nat) : Int)) (b_addw _ _ _ (by rw [IntKind.wrap_i64]; omega) _) <| uK (.int .i64 (((i + 1) : Nat) : Int)) <| WL.nil <| ?_
       try simp only [pS]
       go_wp2
       go_roundw
       case rel => exact ⟨i + 1, sa2, sn + 1, cap2, rfl, by go_num, by omega, by omega, HO2, HF0⟩
       case measure => simp [intOf]; omega
    · skip
      go_upto_region 3 with fail
      refine WL.start <| uK (.int .i64 ((i : Nat) : Int)) <| uK (s.v) <| uK (.int .i64 ((s.l : Nat) : Int)) <| uB .lss 3 (.int .i64 ((i : Nat) : Int)) (.int .i64 ((s.l : Nat) : Int)) (.bool false) (by rw [b_lss, decide_eq_false (by omega)]) <| WL.nil <| ?_
      try simp only [pS]
      go_upto_region 7 with fail
      refine WL.start <| uK (.slice sa sn sc) <| uK (.slice sa sn sc) <| WL.nil <| ?_
      try simp only [pS]
      go_wp2
      rw [HC.out]
      exact ⟨⟨sa, sn, sc⟩, rfl, by have := HO.out; unfold uqK at this; rw [List.take_of_length_le (by omega)] at this; exact this, HF.out.kept⟩

end Go.Proofs.Ytpabpeppgpeaoaa.Md
