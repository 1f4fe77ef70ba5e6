import Derived.Test.YtpabpeppgpeaoaaRl
namespace Go.Proofs.Ytpabpeppgpeaoaa.Md
open Go.RowKit
set_option linter.unusedVariables false
set_option linter.unusedSimpArgs false

/-- Messages without lists. -/
def plainG (m : Mg) : Prop := m.bl = slZ ∧ m.bk.e = slZ ∧ m.bk.l = slZ ∧ m.cm = slZ
structure RdM (w : World) (s : Sl) (l : List Mg) : Prop where
  row : RowsAt 30 w s.a (l.map Mg.cs)
  len : l.length = s.l
theorem RdM.no {w w' : World} {s : Sl} {l : List Mg} (h : RdM w s l) (hk : Kept No w w') : RdM w' s l := ⟨h.row.no hk, h.len⟩
theorem mgL_c (l : List Mg) : ∀ x ∈ l.map Mg.cs, x.length = 30 := by intro x hx; obtain ⟨s, _, rfl⟩ := List.mem_map.1 hx; rfl
theorem OwM.rd {w : World} {b : Nat} {s : Sl} {l : List Mg} (h : OwM w b s l) : RdM w s l := ⟨Own.rows h.own (mgL_c l) (by omega), h.len⟩
theorem RdM.at {w : World} {s : Sl} {l : List Mg} (h : RdM w s l) {i : Nat} {m : Mg} (hm : l[i]? = some m) : ∃ b o, s.a = some ⟨b, o, none⟩ ∧ ∀ (j : Nat) v, (Mg.cs m)[j]? = some v → w.cell? ⟨b, o + i * 30 + j, none⟩ = some v :=
  h.row i (Mg.cs m) (by rw [List.getElem?_map, hm]; rfl)
theorem same_plain (m : Mg) (hp : plainG m) (w : World) : Calls Try.prog 52 #[.agg (Mg.cells m), .agg (Mg.cells m)] w (fun e w' => e = .returned (.bool true) ∧ Kept No w w') := by
  obtain ⟨k, fr, too, op, rd, ky, st, hd, bl, c, ⟨up, be, bl2⟩, cm, mo⟩ := m
  obtain ⟨h1, h2, h3, h4⟩ := hp
  simp only at h1 h2 h3 h4
  subst h1 h2 h3 h4
  have rb : RdB w slZ [] := OwB.nil w 0 |>.rd
  have re : RdE w slZ [] := (OwE.nil w 0).rd
  have rl : RdL w slZ [] := (OwL.nil w 0).rd
  have rc : RdC w slZ [] := ⟨RowsAt.nil _ _ _, rfl, fun _ => rfl⟩
  exact sameM_any ⟨k, fr, too, op, rd, ky, st, hd, slZ, c, ⟨up, slZ, slZ⟩, slZ, mo⟩ slZ none 0 none 0 none 0 [] [] [] [] w rb rb re re rl rl rc rc (Nat.zero_le _) (Nat.zero_le _) (Nat.zero_le _)
set_option maxRecDepth 100000 in
set_option maxHeartbeats 4000000 in
theorem sameMs_any (s t : Sl) (l : List Mg) (w : World) (h1 : RdM w s l) (h2 : RdM w t l) (hp : ∀ m ∈ l, plainG m) (hn : s.l ≤ 2000000) : Calls Try.prog 26 #[s.v, t.v] w (fun e w' => e = .returned (.bool true) ∧ Kept No w w') := by
  refine hideC fun C HC => ?_
  have H1 : Hid (RdM w s l) := h1
  have H2 : Hid (RdM w t l) := h2
  have hl1 := h1.len
  have hl2 := h2.len
  have hst : s.l = t.l := by omega
  have HPl : Hid (∀ m ∈ l, plainG m) := hp
  clear h1 h2 hp
  have HF : Hid (Fq No w w []) := Fq.start _ _
  go_enter Try.func26, Try.ntmps26
  go_upto_region 0 with fail
  refine WL.start <| uK (.bool false) <| WL.nil <| ?_
  try simp only [pS]
  go_upto_region 1 with fail
  refine WL.start <| uK (s.v) <| uK (.int .i64 ((s.l : Nat) : Int)) <| uK (t.v) <| uK (.int .i64 ((t.l : Nat) : Int)) <| uB .neq 3 (.int .i64 ((s.l : Nat) : Int)) (.int .i64 ((t.l : Nat) : Int)) (.bool false) (by rw [b_neq, hst, beq_self_eq_true]; rfl) <| WL.nil <| ?_
  try simp only [pS]
  go_upto_region 3 with fail
  refine WL.start <| uK (.int .i64 0) <| WL.nil <| ?_
  try simp only [pS]
  go_wp2
  go_loopw [5] (fun v5 wr => ∃ (i : Nat), v5 = .int .i64 ((i : Nat) : Int) ∧ i ≤ s.l ∧ Hid (Fq No w wr [])) (fun i _ => s.l - (intOf i).toNat)
  case atStart => exact ⟨0, by go_num, by omega, HF⟩
  case round =>
    clear HF
    obtain ⟨i, rfl, hi, HF⟩ := hrel
    by_cases hlt : i < s.l
    · skip
      obtain ⟨m, hm⟩ := at_s (l := l) hl1 hlt
      obtain ⟨b1, o1, ha1, hc1⟩ := H1.out.at hm
      obtain ⟨b2, o2, ha2, hc2⟩ := H2.out.at hm
      have hs1 : s.v = .slice (some ⟨b1, o1, none⟩) s.l s.k := by unfold Sl.v; rw [ha1]
      have hs2 : t.v = .slice (some ⟨b2, o2, none⟩) t.l t.k := by unfold Sl.v; rw [ha2]
      have C1 : Hid (∀ (j : Nat) v, (Mg.cs m)[j]? = some v → w.cell? ⟨b1, o1 + i * 30 + j, none⟩ = some v) := hc1
      have C2 : Hid (∀ (j : Nat) v, (Mg.cs m)[j]? = some v → w.cell? ⟨b2, o2 + i * 30 + j, none⟩ = some v) := hc2
      have HM : Hid (plainG m) := HPl.out m (List.mem_of_getElem? hm)
      clear hc1 hc2 hm ha1 ha2
      go_upto_region 4 with fail
      refine WL.start <| uK (.int .i64 ((i : Nat) : Int)) <| uK (s.v) <| uK (.int .i64 ((s.l : Nat) : Int)) <| uB .lss 3 (.int .i64 ((i : Nat) : Int)) (.int .i64 ((s.l : Nat) : Int)) (.bool true) (by rw [b_lss, decide_eq_true (by omega)]) <| WL.nil <| ?_
      try simp only [pS]
      go_upto_region 6 with fail
      refine wp_region_held_drew (S := fun w' => Fq No w w' []) rfl (HF.out.drew) (fun hH => ?_)
      have HF : Hid (Fq No w (wr.drew) []) := HF.out.drew
      generalize wr.drew = wk1 at HF hH ⊢
      refine xV 0 17 s.v hH <| xV 1 18 (.int .i64 ((i : Nat) : Int)) hH <| xU 2 19 (pV b1 (o1 + i * 30)) (fun w' hw => exec_ixA 66 30 E66 F66 _ _ rfl b1 o1 s.l s.k i (Eq.trans (b := s.v) (by kernel_rfl) hs1) (by kernel_rfl) (by omega)) hH <| xL 3 20 47 ⟨b1, o1 + i * 30, none⟩ (.agg (Mg.cells m)) (fun _ hw => load_at (n := 30) (it := Mg.cs m) (fun j v hv => hw.kept.cell (C1.out j v hv) (fun e => e)) U47 rfl S47) hH <| xV 4 21 t.v hH <| xV 5 22 (.int .i64 ((i : Nat) : Int)) hH <| ?_
      try simp only [pS]
      refine xU 6 23 (pV b2 (o2 + i * 30)) (fun w' hw => exec_ixA 66 30 E66 F66 _ _ rfl b2 o2 t.l t.k i (Eq.trans (b := t.v) (by kernel_rfl) hs2) (by kernel_rfl) (by omega)) hH <| xL 7 24 47 ⟨b2, o2 + i * 30, none⟩ (.agg (Mg.cells m)) (fun _ hw => load_at (n := 30) (it := Mg.cs m) (fun j v hv => hw.kept.cell (C2.out j v hv) (fun e => e)) U47 rfl S47) hH <| ?_
      try simp only [pS]
      refine xC 8 25 52 #[.agg (Mg.cells m), .agg (Mg.cells m)] (same_plain m HM.out _) ?_
      rintro e wk2 ⟨rfl, hk⟩
      have hH2 : Fq No w wk2 [] := hH.no hk
      have HF : Hid (Fq No w (wk2) []) := HF.out.no hk
      clear hk
      refine ⟨.bool true, rfl, hH2, fun hH => ?_⟩
      clear hH2
      try simp only [pS]
      refine xV 9 26 (.bool false) hH ?_
      try simp only [pS]
      refine wpAnyH_done (by kernel_rfl) ?_ _
      try simp only [pS]
      clear hH
      go_upto_region 5 with fail
      refine WL.start <| uK (.int .i64 ((i : Nat) : Int)) <| uB .add 3 (.int .i64 ((i : Nat) : Int)) (.int .i64 1) (.int .i64 (((i + 1) : Nat) : Int)) (b_addw _ _ _ (by rw [IntKind.wrap_i64]; omega) _) <| uK (.int .i64 (((i + 1) : Nat) : Int)) <| WL.nil <| ?_
      try simp only [pS]
      go_wp2
      go_roundw
      case rel => exact ⟨i + 1, by go_num, by omega, HF⟩
      case measure => simp [intOf]; omega
    · skip
      go_upto_region 4 with fail
      refine WL.start <| uK (.int .i64 ((i : Nat) : Int)) <| uK (s.v) <| uK (.int .i64 ((s.l : Nat) : Int)) <| uB .lss 3 (.int .i64 ((i : Nat) : Int)) (.int .i64 ((s.l : Nat) : Int)) (.bool false) (by rw [b_lss, decide_eq_false (by omega)]) <| WL.nil <| ?_
      try simp only [pS]
      go_upto_region 8 with fail
      refine WL.start <| uK (.bool true) <| WL.nil <| ?_
      try simp only [pS]
      go_wp2
      rw [HC.out]
      exact ⟨rfl, HF.out.kept⟩
end Go.Proofs.Ytpabpeppgpeaoaa.Md
