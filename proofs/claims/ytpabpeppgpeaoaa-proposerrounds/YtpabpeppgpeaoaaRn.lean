import Derived.Test.YtpabpeppgpeaoaaRm
namespace Go.Proofs.Ytpabpeppgpeaoaa.Md
open Go.RowKit
set_option linter.unusedVariables false
set_option linter.unusedSimpArgs false

/-- Messages without lists. -/
def plainG (m : Mg) : Prop := m.bl = slZ ∧ m.bk.e = slZ ∧ m.bk.l = slZ ∧ m.cm = slZ
structure RdM (w : World) (s : Sl) (l : List Mg) : Prop where
  row : RowsAt 30 w s.a (l.map Mg.cs)
  len : l.length = s.l
theorem RdM.no {w w' : World} {s : Sl} {l : List Mg} (h : RdM w s l) (hk : Kept No w w') : RdM w' s l := ⟨h.row.no hk, h.len⟩
theorem mgL_c (l : List Mg) : ∀ x ∈ l.map Mg.cs, x.length = 30 := by intro x hx; obtain ⟨s, _, rfl⟩ := List.mem_map.1 hx; rfl
theorem OwM.rd {w : World} {b : Nat} {s : Sl} {l : List Mg} (h : OwM w b s l) : RdM w s l := ⟨Own.rows h.own (mgL_c l) (by omega), h.len⟩
theorem RdM.at {w : World} {s : Sl} {l : List Mg} (h : RdM w s l) {i : Nat} {m : Mg} (hm : l[i]? = some m) : ∃ b o, s.a = some ⟨b, o, none⟩ ∧ ∀ (j : Nat) v, (Mg.cs m)[j]? = some v → w.cell? ⟨b, o + i * 30 + j, none⟩ = some v :=
  h.row i (Mg.cs m) (by rw [List.getElem?_map, hm]; rfl)
theorem same_plain (m : Mg) (hp : plainG m) (w : World) : Calls Try.prog 52 #[.agg (Mg.cells m), .agg (Mg.cells m)] w (fun e w' => e = .returned (.bool true) ∧ Kept No w w') := by
  obtain ⟨k, fr, too, op, rd, ky, st, hd, bl, c, ⟨up, be, bl2⟩, cm, mo⟩ := m
  obtain ⟨h1, h2, h3, h4⟩ := hp
  simp only at h1 h2 h3 h4
  subst h1 h2 h3 h4
  have rb : RdB w slZ [] := OwB.nil w 0 |>.rd
  have re : RdE w slZ [] := (OwE.nil w 0).rd
  have rl : RdL w slZ [] := (OwL.nil w 0).rd
  have rc : RdC w slZ [] := ⟨RowsAt.nil _ _ _, rfl, fun _ => rfl⟩
  exact sameM_any ⟨k, fr, too, op, rd, ky, st, hd, slZ, c, ⟨up, slZ, slZ⟩, slZ, mo⟩ slZ none 0 none 0 none 0 [] [] [] [] w rb rb re re rl rl rc rc (Nat.zero_le _) (Nat.zero_le _) (Nat.zero_le _)
set_option maxRecDepth 100000 in
set_option maxHeartbeats 4000000 in
theorem sameMs_any (s t : Sl) (l : List Mg) (w : World) (h1 : RdM w s l) (h2 : RdM w t l) (hp : ∀ m ∈ l, plainG m) (hn : s.l ≤ 2000000) : Calls Try.prog 26 #[s.v, t.v] w (fun e w' => e = .returned (.bool true) ∧ Kept No w w') := by
  refine hideC fun C HC => ?_
  have H1 : Hid (RdM w s l) := h1
  have H2 : Hid (RdM w t l) := h2
  have hl1 := h1.len
  have hl2 := h2.len
  have hst : s.l = t.l := by omega
  have HPl : Hid (∀ m ∈ l, plainG m) := hp
  clear h1 h2 hp
  have HF : Hid (Fq No w w []) := Fq.start _ _
  go_enter Try.func26, Try.ntmps26
  go_upto_region 0 with fail
  refine WL.start <| uK (.bool false) <| WL.nil <| ?_
  try simp only [pS]
  go_upto_region 1 with fail
  refine WL.start <| uK (s.v) <| uK (.int .i64 ((s.l : Nat) : Int)) <| uK (t.v) <| uK (.int .i64 ((t.l : Nat) : Int)) <| uB .neq 3 (.int .i64 ((s.l : Nat) : Int)) (.int .i64 ((t.l : Nat) : Int)) (.bool false) (by rw [b_neq, hst, beq_self_eq_true]; rfl) <| WL.nil <| ?_
  try simp only [pS]
  go_upto_region 3 with fail
  refine WL.start <| uK (.int .i64 0) <| WL.nil <| ?_
  try simp only [pS]
  go_wp2
  go_loopw [5] (fun v5 wr => ∃ (i : Nat), v5 = .int .i64 ((i : Nat) : Int) ∧ i ≤ s.l ∧ Hid (Fq No w wr [])) (fun i _ => s.l - (intOf i).toNat)
  case atStart => exact ⟨0, by go_num, by omega, HF⟩
  case round =>
    clear HF
    obtain ⟨i, rfl, hi, HF⟩ := hrel
    by_cases hlt : i < s.l
    · skip
      obtain ⟨m, hm⟩ := at_s (l := l) hl1 hlt
      obtain ⟨b1, o1, ha1, hc1⟩ := H1.out.at hm
      obtain ⟨b2, o2, ha2, hc2⟩ := H2.out.at hm
      have hs1 : s.v = .slice (some ⟨b1, o1, none⟩) s.l s.k := by unfold Sl.v; rw [ha1]
      have hs2 : t.v = .slice (some ⟨b2, o2, none⟩) t.l t.k := by unfold Sl.v; rw [ha2]
      have C1 : Hid (∀ (j : Nat) v, (Mg.cs m)[j]? = some v → w.cell? ⟨b1, o1 + i * 30 + j, none⟩ = some v) := hc1
      have C2 : Hid (∀ (j : Nat) v, (Mg.cs m)[j]? = some v → w.cell? ⟨b2, o2 + i * 30 + j, none⟩ = some v) := hc2
      have HM : Hid (plainG m) := HPl.out m (List.mem_of_getElem? hm)
      clear hc1 hc2 hm ha1 ha2
      go_upto_region 4 with fail
      refine WL.start <| uK (.int .i64 ((i : Nat) : Int)) <| uK (s.v) <| uK (.int .i64 ((s.l : Nat) : Int)) <| uB .lss 3 (.int .i64 ((i : Nat) : Int)) (.int .i64 ((s.l : Nat) : Int)) (.bool true) (by rw [b_lss, decide_eq_true (by omega)]) <| WL.nil <| ?_
      try simp only [pS]
      go_upto_region 6 with fail
      refine wp_region_held_drew (S := fun w' => Fq No w w' []) rfl (HF.out.drew) (fun hH => ?_)
      have HF : Hid (Fq No w (wr.drew) []) := HF.out.drew
      generalize wr.drew = wk1 at HF hH ⊢
      refine xV 0 17 s.v hH <| xV 1 18 (.int .i64 ((i : Nat) : Int)) hH <| xU 2 19 (pV b1 (o1 + i * 30)) (fun w' hw => exec_ixA 66 30 E66 F66 _ _ rfl b1 o1 s.l s.k i (Eq.trans (b := s.v) (by kernel_rfl) hs1) (by kernel_rfl) (by omega)) hH <| xL 3 20 47 ⟨b1, o1 + i * 30, none⟩ (.agg (Mg.cells m)) (fun _ hw => load_at (n := 30) (it := Mg.cs m) (fun j v hv => hw.kept.cell (C1.out j v hv) (fun e => e)) U47 rfl S47) hH <| xV 4 21 t.v hH <| xV 5 22 (.int .i64 ((i : Nat) : Int)) hH <| ?_
      try simp only [pS]
      refine xU 6 23 (pV b2 (o2 + i * 30)) (fun w' hw => exec_ixA 66 30 E66 F66 _ _ rfl b2 o2 t.l t.k i (Eq.trans (b := t.v) (by kernel_rfl) hs2) (by kernel_rfl) (by omega)) hH <| xL 7 24 47 ⟨b2, o2 + i * 30, none⟩ (.agg (Mg.cells m)) (fun _ hw => load_at (n := 30) (it := Mg.cs m) (fun j v hv => hw.kept.cell (C2.out j v hv) (fun e => e)) U47 rfl S47) hH <| ?_
      try simp only [pS]
      refine xC 8 25 52 #[.agg (Mg.cells m), .agg (Mg.cells m)] (same_plain m HM.out _) ?_
      rintro e wk2 ⟨rfl, hk⟩
      have hH2 : Fq No w wk2 [] := hH.no hk
      have HF : Hid (Fq No w (wk2) []) := HF.out.no hk
      clear hk
      refine ⟨.bool true, rfl, hH2, fun hH => ?_⟩
      clear hH2
      try simp only [pS]
      refine xV 9 26 (.bool false) hH ?_
      try simp only [pS]
      refine wpAnyH_done (by kernel_rfl) ?_ _
      try simp only [pS]
      clear hH
      go_upto_region 5 with fail
      refine WL.start <| uK (.int .i64 ((i : Nat) : Int)) <| uB .add 3 (.int .i64 ((i : Nat) : Int)) (.int .i64 1) (.int .i64 (((i + 1) : Nat) : Int)) (b_addw _ _ _ (by rw [IntKind.wrap_i64]; omega) _) <| uK (.int .i64 (((i + 1) : Nat) : Int)) <| WL.nil <| ?_
      try simp only [pS]
      go_wp2
      go_roundw
      case rel => exact ⟨i + 1, by go_num, by omega, HF⟩
      case measure => simp [intOf]; omega
    · skip
      go_upto_region 4 with fail
      refine WL.start <| uK (.int .i64 ((i : Nat) : Int)) <| uK (s.v) <| uK (.int .i64 ((s.l : Nat) : Int)) <| uB .lss 3 (.int .i64 ((i : Nat) : Int)) (.int .i64 ((s.l : Nat) : Int)) (.bool false) (by rw [b_lss, decide_eq_false (by omega)]) <| WL.nil <| ?_
      try simp only [pS]
      go_upto_region 8 with fail
      refine WL.start <| uK (.bool true) <| WL.nil <| ?_
      try simp only [pS]
      go_wp2
      rw [HC.out]
      exact ⟨rfl, HF.out.kept⟩
def FitOut (w : World) (x : Rs) (m : Mg) (e : Ending) (w' : World) : Prop := ∃ m' : Mg, e = .returned (.agg (Mg.cells m')) ∧ m'.bl = m.bl ∧ m'.bk = m.bk ∧ m'.cm = m.cm ∧ (m'.st.n = m.st.n ∨ m'.st.n = x.n) ∧ Kept No w w'
set_option maxRecDepth 100000 in
set_option maxHeartbeats 4000000 in
theorem fit_any (J : Nat → Prop) (r : Nat) (x : Rs) (g : Sl) (ba bc bh bm : Nat) (m : Mg) (w : World) (hB : RfB w J r x g ba bc bh bm) (hg1 : g.l ≤ 2000000) : Calls Try.prog 39 #[.agg (Mg.cells m), .pointer (some ⟨r, 0, none⟩)] w (FitOut w x m) := by
  refine hideC fun C HC => ?_
  have HBr : Hid (Box w r 56 (rvOf x g ba bc bh bm).cells) := hB.fq.box 0 _ _ _ rfl
  have HBa : Hid (Box w ba 4 (boL x.qa).toArray) := hB.fq.box 1 _ _ _ rfl
  have HBc : Hid (Box w bc 4 (boL x.qc).toArray) := hB.fq.box 2 _ _ _ rfl
  have HBh : Hid (Box w bh 39 (spL x.qh).toArray) := hB.fq.box 3 _ _ _ rfl
  have HBm : Hid (Box w bm 28 (cmL x.qm).toArray) := hB.fq.box 4 _ _ _ rfl
  have HG : Hid (OwI w 0 g x.zs) := hB.gr
  have hzl := hB.gr.len
  have hla := hB.la
  have hlc := hB.lc
  have hlh := hB.lh
  have hlm := hB.lm
  have hnn := hB.hn
  have HF : Hid (Fq No w w []) := Fq.start _ _
  have HB : Hid (RfB w J r x g ba bc bh bm) := hB
  clear hB
  go_enter Try.func39, Try.ntmps39
  go_upto_region 0 with fail
  refine WL.start ?_
  refine uR (pV w.heap.size 0) (w.alloc (.cells (Mg.cells m) 47)) (exec_box 47 _ rfl (Mg.cells m) (by kernel_rfl)) ?_
  try simp only [pS]
  have HF : Hid (Fq No w (w.alloc (.cells (Mg.cells m) 47)) [(w.heap.size, 47, Mg.cells m)]) := HF.out.alloc _ _
  generalize w.alloc (.cells (Mg.cells m) 47) = wk2 at HF ⊢
  generalize w.heap.size = gk1 at HF ⊢
  refine uR (pV wk2.heap.size 0) (wk2.alloc (.cells (Mg.cells mgZ) 47)) (exec_alloc 47 rfl (Mg.cells mgZ) Z47) ?_
  try simp only [pS]
  have HF : Hid (Fq No w (wk2.alloc (.cells (Mg.cells mgZ) 47)) [(gk1, 47, Mg.cells m), (wk2.heap.size, 47, Mg.cells mgZ)]) := HF.out.alloc _ _
  generalize wk2.alloc (.cells (Mg.cells mgZ) 47) = wk4 at HF ⊢
  generalize wk2.heap.size = gk3 at HF ⊢
  refine WL.nil ?_
  try simp only [pS]
  go_upto_region 1 with fail
  refine WL.start <| uK (pV gk1 1) <| uK (pV gk1 2) <| uL 3 ⟨gk1, 2, none⟩ (.int .i64 m.fr.id) (load_one ((HF.out.box 0 _ _ _ rfl).cell 2 |>.trans (by kernel_rfl)) U3 rfl) <| uW (.agg (Ad.cells ⟨false, m.fr.id⟩)) (exec_build 37 _ rfl (Ad.cells ⟨false, m.fr.id⟩) (by kernel_rfl)) <| uK (pV gk1 1) <| ?_
  try simp only [pS]
  refine uT 37 ⟨gk1, 1, none⟩ (.agg (Ad.cells ⟨false, m.fr.id⟩)) (wk4.setRow gk1 (Mg.cells ⟨m.k, ⟨false, m.fr.id⟩, m.too, m.op, m.rd, m.ky, m.st, m.hd, m.bl, m.c, m.bk, m.cm, m.mo⟩)) (rs (Mg.cs m) (Ad.cs ⟨false, m.fr.id⟩) (Mg.cs ⟨m.k, ⟨false, m.fr.id⟩, m.too, m.op, m.rd, m.ky, m.st, m.hd, m.bl, m.c, m.bk, m.cm, m.mo⟩) (HF.out.box 0 _ _ _ rfl) S37 (Ad.oneL _)) ?_
  try simp only [pS]
  have HF : Hid (Fq No w (wk4.setRow gk1 (Mg.cells ⟨m.k, ⟨false, m.fr.id⟩, m.too, m.op, m.rd, m.ky, m.st, m.hd, m.bl, m.c, m.bk, m.cm, m.mo⟩)) [(gk1, 47, Mg.cells ⟨m.k, ⟨false, m.fr.id⟩, m.too, m.op, m.rd, m.ky, m.st, m.hd, m.bl, m.c, m.bk, m.cm, m.mo⟩), (gk3, 47, Mg.cells mgZ)]) := HF.out.set 0 rfl _
  generalize wk4.setRow gk1 (Mg.cells ⟨m.k, ⟨false, m.fr.id⟩, m.too, m.op, m.rd, m.ky, m.st, m.hd, m.bl, m.c, m.bk, m.cm, m.mo⟩) = wk5 at HF ⊢
  refine WL.nil ?_
  try simp only [pS]
  go_upto_region 2 with fail
  refine WL.start <| uK (pV r 0) <| uK (pV r 0) <| uK (pV r 6) <| uL 24 ⟨r, 6, none⟩ (g.v) (load_one ((HBr.out.kept HF.out.kept (fun e => e)).cell 6 |>.trans (by kernel_rfl)) U24 rfl) <| uK (.int .i64 ((g.l : Nat) : Int)) <| ?_
  try simp only [pS]
  cases q1 : (decide (0 < ((g.l : Nat) : Int)))
  ·skip
   refine uB .gtr 3 (.int .i64 ((g.l : Nat) : Int)) (.int .i64 0) (.bool false) (by rw [b_gtr, q1]; try rfl) <| WL.nil <| ?_
   try simp only [pS]
   go_upto_region 4 with fail
   refine WL.start <| uK (pV r 0) <| uK (pV r 0) <| uK (pV r 0) <| uL 3 ⟨r, 0, none⟩ (.int .i64 x.cl) (load_one ((HBr.out.kept HF.out.kept (fun e => e)).cell 0 |>.trans (by kernel_rfl)) U3 rfl) <| uW (.agg (Ad.cells ⟨true, x.cl⟩)) (exec_build 37 _ rfl (Ad.cells ⟨true, x.cl⟩) (by kernel_rfl)) <| uK (pV gk1 3) <| ?_
   try simp only [pS]
   refine uT 37 ⟨gk1, 3, none⟩ (.agg (Ad.cells ⟨true, x.cl⟩)) (wk5.setRow gk1 (Mg.cells ⟨m.k, ⟨false, m.fr.id⟩, ⟨true, x.cl⟩, m.op, m.rd, m.ky, m.st, m.hd, m.bl, m.c, m.bk, m.cm, m.mo⟩)) (rs (Mg.cs ⟨m.k, ⟨false, m.fr.id⟩, m.too, m.op, m.rd, m.ky, m.st, m.hd, m.bl, m.c, m.bk, m.cm, m.mo⟩) (Ad.cs ⟨true, x.cl⟩) (Mg.cs ⟨m.k, ⟨false, m.fr.id⟩, ⟨true, x.cl⟩, m.op, m.rd, m.ky, m.st, m.hd, m.bl, m.c, m.bk, m.cm, m.mo⟩) (HF.out.box 0 _ _ _ rfl) S37 (Ad.oneL _)) ?_
   try simp only [pS]
   have HF : Hid (Fq No w (wk5.setRow gk1 (Mg.cells ⟨m.k, ⟨false, m.fr.id⟩, ⟨true, x.cl⟩, m.op, m.rd, m.ky, m.st, m.hd, m.bl, m.c, m.bk, m.cm, m.mo⟩)) [(gk1, 47, Mg.cells ⟨m.k, ⟨false, m.fr.id⟩, ⟨true, x.cl⟩, m.op, m.rd, m.ky, m.st, m.hd, m.bl, m.c, m.bk, m.cm, m.mo⟩), (gk3, 47, Mg.cells mgZ)]) := HF.out.set 0 rfl _
   generalize wk5.setRow gk1 (Mg.cells ⟨m.k, ⟨false, m.fr.id⟩, ⟨true, x.cl⟩, m.op, m.rd, m.ky, m.st, m.hd, m.bl, m.c, m.bk, m.cm, m.mo⟩) = wk6 at HF ⊢
   refine WL.nil ?_
   try simp only [pS]
   go_upto_region 5 with fail
   refine WL.start <| uK (pV r 0) <| uK (pV r 0) <| uK (pV r 1) <| uL 3 ⟨r, 1, none⟩ (.int .i64 x.op) (load_one ((HBr.out.kept HF.out.kept (fun e => e)).cell 1 |>.trans (by kernel_rfl)) U3 rfl) <| uK (pV gk1 5) <| ?_
   try simp only [pS]
   refine uT 3 ⟨gk1, 5, none⟩ (.int .i64 x.op) (wk6.setRow gk1 (Mg.cells ⟨m.k, ⟨false, m.fr.id⟩, ⟨true, x.cl⟩, x.op, m.rd, m.ky, m.st, m.hd, m.bl, m.c, m.bk, m.cm, m.mo⟩)) (rs (Mg.cs ⟨m.k, ⟨false, m.fr.id⟩, ⟨true, x.cl⟩, m.op, m.rd, m.ky, m.st, m.hd, m.bl, m.c, m.bk, m.cm, m.mo⟩) ([.int .i64 x.op]) (Mg.cs ⟨m.k, ⟨false, m.fr.id⟩, ⟨true, x.cl⟩, x.op, m.rd, m.ky, m.st, m.hd, m.bl, m.c, m.bk, m.cm, m.mo⟩) (HF.out.box 0 _ _ _ rfl) S3 (by simp [Value.oneCell', Sl.v])) ?_
   try simp only [pS]
   have HF : Hid (Fq No w (wk6.setRow gk1 (Mg.cells ⟨m.k, ⟨false, m.fr.id⟩, ⟨true, x.cl⟩, x.op, m.rd, m.ky, m.st, m.hd, m.bl, m.c, m.bk, m.cm, m.mo⟩)) [(gk1, 47, Mg.cells ⟨m.k, ⟨false, m.fr.id⟩, ⟨true, x.cl⟩, x.op, m.rd, m.ky, m.st, m.hd, m.bl, m.c, m.bk, m.cm, m.mo⟩), (gk3, 47, Mg.cells mgZ)]) := HF.out.set 0 rfl _
   generalize wk6.setRow gk1 (Mg.cells ⟨m.k, ⟨false, m.fr.id⟩, ⟨true, x.cl⟩, x.op, m.rd, m.ky, m.st, m.hd, m.bl, m.c, m.bk, m.cm, m.mo⟩) = wk7 at HF ⊢
   refine WL.nil ?_
   try simp only [pS]
   go_upto_region 6 with fail
   refine WL.start <| uK (pV r 0) <| uK (pV r 0) <| uK (pV r 26) <| uL 3 ⟨r, 26, none⟩ (.int .i64 x.rd) (load_one ((HBr.out.kept HF.out.kept (fun e => e)).cell 26 |>.trans (by kernel_rfl)) U3 rfl) <| uK (pV gk1 6) <| ?_
   try simp only [pS]
   refine uT 3 ⟨gk1, 6, none⟩ (.int .i64 x.rd) (wk7.setRow gk1 (Mg.cells ⟨m.k, ⟨false, m.fr.id⟩, ⟨true, x.cl⟩, x.op, x.rd, m.ky, m.st, m.hd, m.bl, m.c, m.bk, m.cm, m.mo⟩)) (rs (Mg.cs ⟨m.k, ⟨false, m.fr.id⟩, ⟨true, x.cl⟩, x.op, m.rd, m.ky, m.st, m.hd, m.bl, m.c, m.bk, m.cm, m.mo⟩) ([.int .i64 x.rd]) (Mg.cs ⟨m.k, ⟨false, m.fr.id⟩, ⟨true, x.cl⟩, x.op, x.rd, m.ky, m.st, m.hd, m.bl, m.c, m.bk, m.cm, m.mo⟩) (HF.out.box 0 _ _ _ rfl) S3 (by simp [Value.oneCell', Sl.v])) ?_
   try simp only [pS]
   have HF : Hid (Fq No w (wk7.setRow gk1 (Mg.cells ⟨m.k, ⟨false, m.fr.id⟩, ⟨true, x.cl⟩, x.op, x.rd, m.ky, m.st, m.hd, m.bl, m.c, m.bk, m.cm, m.mo⟩)) [(gk1, 47, Mg.cells ⟨m.k, ⟨false, m.fr.id⟩, ⟨true, x.cl⟩, x.op, x.rd, m.ky, m.st, m.hd, m.bl, m.c, m.bk, m.cm, m.mo⟩), (gk3, 47, Mg.cells mgZ)]) := HF.out.set 0 rfl _
   generalize wk7.setRow gk1 (Mg.cells ⟨m.k, ⟨false, m.fr.id⟩, ⟨true, x.cl⟩, x.op, x.rd, m.ky, m.st, m.hd, m.bl, m.c, m.bk, m.cm, m.mo⟩) = wk8 at HF ⊢
   refine WL.nil ?_
   try simp only [pS]
   go_upto_region 7 with fail
   refine WL.start <| uK (pV r 0) <| uK (pV r 0) <| uK (pV r 2) <| uL 23 ⟨r, 2, none⟩ (.agg (Ky.cells x.ky)) (run_load_part (cs := Rv.cs (rvOf x g ba bc bh bm)) (sub := Ky.cs x.ky) (HBr.out.kept HF.out.kept (fun e => e)) (part_of (by kernel_rfl)) U23 rfl S23) <| uK (pV gk1 7) <| ?_
   try simp only [pS]
   refine uT 23 ⟨gk1, 7, none⟩ (.agg (Ky.cells x.ky)) (wk8.setRow gk1 (Mg.cells ⟨m.k, ⟨false, m.fr.id⟩, ⟨true, x.cl⟩, x.op, x.rd, x.ky, m.st, m.hd, m.bl, m.c, m.bk, m.cm, m.mo⟩)) (rs (Mg.cs ⟨m.k, ⟨false, m.fr.id⟩, ⟨true, x.cl⟩, x.op, x.rd, m.ky, m.st, m.hd, m.bl, m.c, m.bk, m.cm, m.mo⟩) (Ky.cs x.ky) (Mg.cs ⟨m.k, ⟨false, m.fr.id⟩, ⟨true, x.cl⟩, x.op, x.rd, x.ky, m.st, m.hd, m.bl, m.c, m.bk, m.cm, m.mo⟩) (HF.out.box 0 _ _ _ rfl) S23 (Ky.oneL _)) ?_
   try simp only [pS]
   have HF : Hid (Fq No w (wk8.setRow gk1 (Mg.cells ⟨m.k, ⟨false, m.fr.id⟩, ⟨true, x.cl⟩, x.op, x.rd, x.ky, m.st, m.hd, m.bl, m.c, m.bk, m.cm, m.mo⟩)) [(gk1, 47, Mg.cells ⟨m.k, ⟨false, m.fr.id⟩, ⟨true, x.cl⟩, x.op, x.rd, x.ky, m.st, m.hd, m.bl, m.c, m.bk, m.cm, m.mo⟩), (gk3, 47, Mg.cells mgZ)]) := HF.out.set 0 rfl _
   generalize wk8.setRow gk1 (Mg.cells ⟨m.k, ⟨false, m.fr.id⟩, ⟨true, x.cl⟩, x.op, x.rd, x.ky, m.st, m.hd, m.bl, m.c, m.bk, m.cm, m.mo⟩) = wk9 at HF ⊢
   refine WL.nil ?_
   try simp only [pS]
   go_upto_region 8 with fail
   refine WL.start <| uK (pV gk1 29) <| uL 4 ⟨gk1, 29, none⟩ (.bool m.mo) (load_one ((HF.out.box 0 _ _ _ rfl).cell 29 |>.trans (by kernel_rfl)) U4 rfl) <| uK (.bool m.mo) <| ?_
   try simp only [pS]
   cases q2 : (m.mo)
   ·skip
    try simp only [q2]
    refine uZ <| uZ <| uZ <| uK (.bool false) <| WL.nil <| ?_
    try simp only [pS]
    go_upto_region 10 with fail
    refine WL.start <| uK (pV gk1 29) <| ?_
    try simp only [pS]
    refine uT 4 ⟨gk1, 29, none⟩ (.bool false) (wk9.setRow gk1 (Mg.cells ⟨m.k, ⟨false, m.fr.id⟩, ⟨true, x.cl⟩, x.op, x.rd, x.ky, m.st, m.hd, m.bl, m.c, m.bk, m.cm, false⟩)) (rs (Mg.cs ⟨m.k, ⟨false, m.fr.id⟩, ⟨true, x.cl⟩, x.op, x.rd, x.ky, m.st, m.hd, m.bl, m.c, m.bk, m.cm, m.mo⟩) ([.bool false]) (Mg.cs ⟨m.k, ⟨false, m.fr.id⟩, ⟨true, x.cl⟩, x.op, x.rd, x.ky, m.st, m.hd, m.bl, m.c, m.bk, m.cm, false⟩) (HF.out.box 0 _ _ _ rfl) S4 (by simp [Value.oneCell', Sl.v])) ?_
    try simp only [pS]
    have HF : Hid (Fq No w (wk9.setRow gk1 (Mg.cells ⟨m.k, ⟨false, m.fr.id⟩, ⟨true, x.cl⟩, x.op, x.rd, x.ky, m.st, m.hd, m.bl, m.c, m.bk, m.cm, false⟩)) [(gk1, 47, Mg.cells ⟨m.k, ⟨false, m.fr.id⟩, ⟨true, x.cl⟩, x.op, x.rd, x.ky, m.st, m.hd, m.bl, m.c, m.bk, m.cm, false⟩), (gk3, 47, Mg.cells mgZ)]) := HF.out.set 0 rfl _
    generalize wk9.setRow gk1 (Mg.cells ⟨m.k, ⟨false, m.fr.id⟩, ⟨true, x.cl⟩, x.op, x.rd, x.ky, m.st, m.hd, m.bl, m.c, m.bk, m.cm, false⟩) = wk10 at HF ⊢
    refine WL.nil ?_
    try simp only [pS]
    go_upto_region 11 with fail
    refine WL.start <| uL 47 ⟨gk1, 0, none⟩ (.agg (Mg.cells ⟨m.k, ⟨false, m.fr.id⟩, ⟨true, x.cl⟩, x.op, x.rd, x.ky, m.st, m.hd, m.bl, m.c, m.bk, m.cm, false⟩)) (run_load_part (cs := Mg.cs ⟨m.k, ⟨false, m.fr.id⟩, ⟨true, x.cl⟩, x.op, x.rd, x.ky, m.st, m.hd, m.bl, m.c, m.bk, m.cm, false⟩) (sub := Mg.cs ⟨m.k, ⟨false, m.fr.id⟩, ⟨true, x.cl⟩, x.op, x.rd, x.ky, m.st, m.hd, m.bl, m.c, m.bk, m.cm, false⟩) (HF.out.box 0 _ _ _ rfl) (Part.all _) U47 rfl S47) <| ?_
    try simp only [pS]
    refine uT 47 ⟨gk3, 0, none⟩ (.agg (Mg.cells ⟨m.k, ⟨false, m.fr.id⟩, ⟨true, x.cl⟩, x.op, x.rd, x.ky, m.st, m.hd, m.bl, m.c, m.bk, m.cm, false⟩)) (wk10.setRow gk3 (Mg.cells ⟨m.k, ⟨false, m.fr.id⟩, ⟨true, x.cl⟩, x.op, x.rd, x.ky, m.st, m.hd, m.bl, m.c, m.bk, m.cm, false⟩)) (rs (Mg.cs mgZ) (Mg.cs ⟨m.k, ⟨false, m.fr.id⟩, ⟨true, x.cl⟩, x.op, x.rd, x.ky, m.st, m.hd, m.bl, m.c, m.bk, m.cm, false⟩) (Mg.cs ⟨m.k, ⟨false, m.fr.id⟩, ⟨true, x.cl⟩, x.op, x.rd, x.ky, m.st, m.hd, m.bl, m.c, m.bk, m.cm, false⟩) (HF.out.box 1 _ _ _ rfl) S47 (Mg.oneL _)) ?_
    try simp only [pS]
    have HF : Hid (Fq No w (wk10.setRow gk3 (Mg.cells ⟨m.k, ⟨false, m.fr.id⟩, ⟨true, x.cl⟩, x.op, x.rd, x.ky, m.st, m.hd, m.bl, m.c, m.bk, m.cm, false⟩)) [(gk1, 47, Mg.cells ⟨m.k, ⟨false, m.fr.id⟩, ⟨true, x.cl⟩, x.op, x.rd, x.ky, m.st, m.hd, m.bl, m.c, m.bk, m.cm, false⟩), (gk3, 47, Mg.cells ⟨m.k, ⟨false, m.fr.id⟩, ⟨true, x.cl⟩, x.op, x.rd, x.ky, m.st, m.hd, m.bl, m.c, m.bk, m.cm, false⟩)]) := HF.out.set 1 rfl _
    generalize wk10.setRow gk3 (Mg.cells ⟨m.k, ⟨false, m.fr.id⟩, ⟨true, x.cl⟩, x.op, x.rd, x.ky, m.st, m.hd, m.bl, m.c, m.bk, m.cm, false⟩) = wk11 at HF ⊢
    refine WL.nil ?_
    try simp only [pS]
    go_wp2
    rw [HC.out]
    refine bodyPost_ret (results_row1 (by rfl) _ _ gk3 (Mg.cells ⟨m.k, ⟨false, m.fr.id⟩, ⟨true, x.cl⟩, x.op, x.rd, x.ky, m.st, m.hd, m.bl, m.c, m.bk, m.cm, false⟩) (by rfl) (run_load_part (cs := Mg.cs ⟨m.k, ⟨false, m.fr.id⟩, ⟨true, x.cl⟩, x.op, x.rd, x.ky, m.st, m.hd, m.bl, m.c, m.bk, m.cm, false⟩) (sub := Mg.cs ⟨m.k, ⟨false, m.fr.id⟩, ⟨true, x.cl⟩, x.op, x.rd, x.ky, m.st, m.hd, m.bl, m.c, m.bk, m.cm, false⟩) (HF.out.box 1 _ _ _ rfl) (Part.all _) U47 rfl S47)) rfl ?_
    exact ⟨⟨m.k, ⟨false, m.fr.id⟩, ⟨true, x.cl⟩, x.op, x.rd, x.ky, m.st, m.hd, m.bl, m.c, m.bk, m.cm, false⟩, rfl, rfl, rfl, rfl, .inl rfl, HF.out.kept⟩
   ·skip
    try simp only [q2]
    refine uK (pV gk1 0) <| uL 3 ⟨gk1, 0, none⟩ (.int .i64 m.k) (load_one ((HF.out.box 0 _ _ _ rfl).cell 0 |>.trans (by kernel_rfl)) U3 rfl) <| ?_
    try simp only [pS]
    cases q3 : (m.k == 14)
    ·skip
     refine uB .neq 3 (.int .i64 m.k) (.int .i64 14) (.bool true) (by rw [b_neq, q3]; try rfl) <| uK (.bool true) <| WL.nil <| ?_
     try simp only [pS]
     go_upto_region 9 with fail
     refine wp_region_held_drew (S := fun w' => Fq No w w' []) rfl (Fq.front (l := []) (m := [(gk1, 47, Mg.cells ⟨m.k, ⟨false, m.fr.id⟩, ⟨true, x.cl⟩, x.op, x.rd, x.ky, m.st, m.hd, m.bl, m.c, m.bk, m.cm, m.mo⟩), (gk3, 47, Mg.cells mgZ)]) (HF.out.drew)) (fun hH => ?_)
     have HF : Hid (Fq No w (wk9.drew) [(gk1, 47, Mg.cells ⟨m.k, ⟨false, m.fr.id⟩, ⟨true, x.cl⟩, x.op, x.rd, x.ky, m.st, m.hd, m.bl, m.c, m.bk, m.cm, m.mo⟩), (gk3, 47, Mg.cells mgZ)]) := HF.out.drew
     generalize wk9.drew = wk12 at HF hH ⊢
     refine xV 0 61 (pV r 0) hH <| xV 1 62 (pV r 0) hH <| xV 2 63 (pV r 25) hH <| xL 3 64 3 ⟨r, 25, none⟩ (.int .i64 x.n) (fun _ hw => load_one ((HBr.out.kept hw.kept (fun e => e)).cell 25 |>.trans (by kernel_rfl)) U3 rfl) hH <| xV 4 65 (pV r 0) hH <| xV 5 66 (pV r 0) hH <| ?_
     try simp only [pS]
     refine xV 6 67 (pV r 0) hH <| xL 7 68 3 ⟨r, 0, none⟩ (.int .i64 x.cl) (fun _ hw => load_one ((HBr.out.kept hw.kept (fun e => e)).cell 0 |>.trans (by kernel_rfl)) U3 rfl) hH <| xU 8 69 (.agg (Sp.cells ⟨x.n, x.cl⟩)) (fun w' hw => exec_build 39 _ rfl (Sp.cells ⟨x.n, x.cl⟩) (by kernel_rfl)) hH <| xV 9 70 (pV gk1 11) hH <| ?_
     try simp only [pS]
     refine xS 10 39 ⟨gk1, 11, none⟩ (.agg (Sp.cells ⟨x.n, x.cl⟩)) (w' := wk12.setRow gk1 (Mg.cells ⟨m.k, ⟨false, m.fr.id⟩, ⟨true, x.cl⟩, x.op, x.rd, x.ky, ⟨x.n, x.cl⟩, m.hd, m.bl, m.c, m.bk, m.cm, m.mo⟩)) (rs (Mg.cs ⟨m.k, ⟨false, m.fr.id⟩, ⟨true, x.cl⟩, x.op, x.rd, x.ky, m.st, m.hd, m.bl, m.c, m.bk, m.cm, m.mo⟩) (Sp.cs ⟨x.n, x.cl⟩) (Mg.cs ⟨m.k, ⟨false, m.fr.id⟩, ⟨true, x.cl⟩, x.op, x.rd, x.ky, ⟨x.n, x.cl⟩, m.hd, m.bl, m.c, m.bk, m.cm, m.mo⟩) (HF.out.box 0 _ _ _ rfl) S39 (Sp.oneL _)) (Fq.front (l := []) (m := [(gk1, 47, Mg.cells ⟨m.k, ⟨false, m.fr.id⟩, ⟨true, x.cl⟩, x.op, x.rd, x.ky, ⟨x.n, x.cl⟩, m.hd, m.bl, m.c, m.bk, m.cm, m.mo⟩), (gk3, 47, Mg.cells mgZ)]) (HF.out.set 0 rfl _)) (fun hH => ?_)
     try simp only [pS]
     have HF : Hid (Fq No w (wk12.setRow gk1 (Mg.cells ⟨m.k, ⟨false, m.fr.id⟩, ⟨true, x.cl⟩, x.op, x.rd, x.ky, ⟨x.n, x.cl⟩, m.hd, m.bl, m.c, m.bk, m.cm, m.mo⟩)) [(gk1, 47, Mg.cells ⟨m.k, ⟨false, m.fr.id⟩, ⟨true, x.cl⟩, x.op, x.rd, x.ky, ⟨x.n, x.cl⟩, m.hd, m.bl, m.c, m.bk, m.cm, m.mo⟩), (gk3, 47, Mg.cells mgZ)]) := HF.out.set 0 rfl _
     generalize wk12.setRow gk1 (Mg.cells ⟨m.k, ⟨false, m.fr.id⟩, ⟨true, x.cl⟩, x.op, x.rd, x.ky, ⟨x.n, x.cl⟩, m.hd, m.bl, m.c, m.bk, m.cm, m.mo⟩) = wk13 at HF hH ⊢
     refine wpAnyH_done (by kernel_rfl) ?_ _
     try simp only [pS]
     clear hH
     go_upto_region 10 with fail
     refine WL.start <| uK (pV gk1 29) <| ?_
     try simp only [pS]
     refine uT 4 ⟨gk1, 29, none⟩ (.bool false) (wk13.setRow gk1 (Mg.cells ⟨m.k, ⟨false, m.fr.id⟩, ⟨true, x.cl⟩, x.op, x.rd, x.ky, ⟨x.n, x.cl⟩, m.hd, m.bl, m.c, m.bk, m.cm, false⟩)) (rs (Mg.cs ⟨m.k, ⟨false, m.fr.id⟩, ⟨true, x.cl⟩, x.op, x.rd, x.ky, ⟨x.n, x.cl⟩, m.hd, m.bl, m.c, m.bk, m.cm, m.mo⟩) ([.bool false]) (Mg.cs ⟨m.k, ⟨false, m.fr.id⟩, ⟨true, x.cl⟩, x.op, x.rd, x.ky, ⟨x.n, x.cl⟩, m.hd, m.bl, m.c, m.bk, m.cm, false⟩) (HF.out.box 0 _ _ _ rfl) S4 (by simp [Value.oneCell', Sl.v])) ?_
     try simp only [pS]
     have HF : Hid (Fq No w (wk13.setRow gk1 (Mg.cells ⟨m.k, ⟨false, m.fr.id⟩, ⟨true, x.cl⟩, x.op, x.rd, x.ky, ⟨x.n, x.cl⟩, m.hd, m.bl, m.c, m.bk, m.cm, false⟩)) [(gk1, 47, Mg.cells ⟨m.k, ⟨false, m.fr.id⟩, ⟨true, x.cl⟩, x.op, x.rd, x.ky, ⟨x.n, x.cl⟩, m.hd, m.bl, m.c, m.bk, m.cm, false⟩), (gk3, 47, Mg.cells mgZ)]) := HF.out.set 0 rfl _
     generalize wk13.setRow gk1 (Mg.cells ⟨m.k, ⟨false, m.fr.id⟩, ⟨true, x.cl⟩, x.op, x.rd, x.ky, ⟨x.n, x.cl⟩, m.hd, m.bl, m.c, m.bk, m.cm, false⟩) = wk14 at HF ⊢
     refine WL.nil ?_
     try simp only [pS]
     go_upto_region 11 with fail
     refine WL.start <| uL 47 ⟨gk1, 0, none⟩ (.agg (Mg.cells ⟨m.k, ⟨false, m.fr.id⟩, ⟨true, x.cl⟩, x.op, x.rd, x.ky, ⟨x.n, x.cl⟩, m.hd, m.bl, m.c, m.bk, m.cm, false⟩)) (run_load_part (cs := Mg.cs ⟨m.k, ⟨false, m.fr.id⟩, ⟨true, x.cl⟩, x.op, x.rd, x.ky, ⟨x.n, x.cl⟩, m.hd, m.bl, m.c, m.bk, m.cm, false⟩) (sub := Mg.cs ⟨m.k, ⟨false, m.fr.id⟩, ⟨true, x.cl⟩, x.op, x.rd, x.ky, ⟨x.n, x.cl⟩, m.hd, m.bl, m.c, m.bk, m.cm, false⟩) (HF.out.box 0 _ _ _ rfl) (Part.all _) U47 rfl S47) <| ?_
     try simp only [pS]
     refine uT 47 ⟨gk3, 0, none⟩ (.agg (Mg.cells ⟨m.k, ⟨false, m.fr.id⟩, ⟨true, x.cl⟩, x.op, x.rd, x.ky, ⟨x.n, x.cl⟩, m.hd, m.bl, m.c, m.bk, m.cm, false⟩)) (wk14.setRow gk3 (Mg.cells ⟨m.k, ⟨false, m.fr.id⟩, ⟨true, x.cl⟩, x.op, x.rd, x.ky, ⟨x.n, x.cl⟩, m.hd, m.bl, m.c, m.bk, m.cm, false⟩)) (rs (Mg.cs mgZ) (Mg.cs ⟨m.k, ⟨false, m.fr.id⟩, ⟨true, x.cl⟩, x.op, x.rd, x.ky, ⟨x.n, x.cl⟩, m.hd, m.bl, m.c, m.bk, m.cm, false⟩) (Mg.cs ⟨m.k, ⟨false, m.fr.id⟩, ⟨true, x.cl⟩, x.op, x.rd, x.ky, ⟨x.n, x.cl⟩, m.hd, m.bl, m.c, m.bk, m.cm, false⟩) (HF.out.box 1 _ _ _ rfl) S47 (Mg.oneL _)) ?_
     try simp only [pS]
     have HF : Hid (Fq No w (wk14.setRow gk3 (Mg.cells ⟨m.k, ⟨false, m.fr.id⟩, ⟨true, x.cl⟩, x.op, x.rd, x.ky, ⟨x.n, x.cl⟩, m.hd, m.bl, m.c, m.bk, m.cm, false⟩)) [(gk1, 47, Mg.cells ⟨m.k, ⟨false, m.fr.id⟩, ⟨true, x.cl⟩, x.op, x.rd, x.ky, ⟨x.n, x.cl⟩, m.hd, m.bl, m.c, m.bk, m.cm, false⟩), (gk3, 47, Mg.cells ⟨m.k, ⟨false, m.fr.id⟩, ⟨true, x.cl⟩, x.op, x.rd, x.ky, ⟨x.n, x.cl⟩, m.hd, m.bl, m.c, m.bk, m.cm, false⟩)]) := HF.out.set 1 rfl _
     generalize wk14.setRow gk3 (Mg.cells ⟨m.k, ⟨false, m.fr.id⟩, ⟨true, x.cl⟩, x.op, x.rd, x.ky, ⟨x.n, x.cl⟩, m.hd, m.bl, m.c, m.bk, m.cm, false⟩) = wk15 at HF ⊢
     refine WL.nil ?_
     try simp only [pS]
     go_wp2
     rw [HC.out]
     refine bodyPost_ret (results_row1 (by rfl) _ _ gk3 (Mg.cells ⟨m.k, ⟨false, m.fr.id⟩, ⟨true, x.cl⟩, x.op, x.rd, x.ky, ⟨x.n, x.cl⟩, m.hd, m.bl, m.c, m.bk, m.cm, false⟩) (by rfl) (run_load_part (cs := Mg.cs ⟨m.k, ⟨false, m.fr.id⟩, ⟨true, x.cl⟩, x.op, x.rd, x.ky, ⟨x.n, x.cl⟩, m.hd, m.bl, m.c, m.bk, m.cm, false⟩) (sub := Mg.cs ⟨m.k, ⟨false, m.fr.id⟩, ⟨true, x.cl⟩, x.op, x.rd, x.ky, ⟨x.n, x.cl⟩, m.hd, m.bl, m.c, m.bk, m.cm, false⟩) (HF.out.box 1 _ _ _ rfl) (Part.all _) U47 rfl S47)) rfl ?_
     exact ⟨⟨m.k, ⟨false, m.fr.id⟩, ⟨true, x.cl⟩, x.op, x.rd, x.ky, ⟨x.n, x.cl⟩, m.hd, m.bl, m.c, m.bk, m.cm, false⟩, rfl, rfl, rfl, rfl, .inr rfl, HF.out.kept⟩
    ·skip
     refine uB .neq 3 (.int .i64 m.k) (.int .i64 14) (.bool false) (by rw [b_neq, q3]; try rfl) <| uK (.bool false) <| WL.nil <| ?_
     try simp only [pS]
     go_upto_region 10 with fail
     refine WL.start <| uK (pV gk1 29) <| ?_
     try simp only [pS]
     refine uT 4 ⟨gk1, 29, none⟩ (.bool false) (wk9.setRow gk1 (Mg.cells ⟨m.k, ⟨false, m.fr.id⟩, ⟨true, x.cl⟩, x.op, x.rd, x.ky, m.st, m.hd, m.bl, m.c, m.bk, m.cm, false⟩)) (rs (Mg.cs ⟨m.k, ⟨false, m.fr.id⟩, ⟨true, x.cl⟩, x.op, x.rd, x.ky, m.st, m.hd, m.bl, m.c, m.bk, m.cm, m.mo⟩) ([.bool false]) (Mg.cs ⟨m.k, ⟨false, m.fr.id⟩, ⟨true, x.cl⟩, x.op, x.rd, x.ky, m.st, m.hd, m.bl, m.c, m.bk, m.cm, false⟩) (HF.out.box 0 _ _ _ rfl) S4 (by simp [Value.oneCell', Sl.v])) ?_
     try simp only [pS]
     have HF : Hid (Fq No w (wk9.setRow gk1 (Mg.cells ⟨m.k, ⟨false, m.fr.id⟩, ⟨true, x.cl⟩, x.op, x.rd, x.ky, m.st, m.hd, m.bl, m.c, m.bk, m.cm, false⟩)) [(gk1, 47, Mg.cells ⟨m.k, ⟨false, m.fr.id⟩, ⟨true, x.cl⟩, x.op, x.rd, x.ky, m.st, m.hd, m.bl, m.c, m.bk, m.cm, false⟩), (gk3, 47, Mg.cells mgZ)]) := HF.out.set 0 rfl _
     generalize wk9.setRow gk1 (Mg.cells ⟨m.k, ⟨false, m.fr.id⟩, ⟨true, x.cl⟩, x.op, x.rd, x.ky, m.st, m.hd, m.bl, m.c, m.bk, m.cm, false⟩) = wk16 at HF ⊢
     refine WL.nil ?_
     try simp only [pS]
     go_upto_region 11 with fail
     refine WL.start <| uL 47 ⟨gk1, 0, none⟩ (.agg (Mg.cells ⟨m.k, ⟨false, m.fr.id⟩, ⟨true, x.cl⟩, x.op, x.rd, x.ky, m.st, m.hd, m.bl, m.c, m.bk, m.cm, false⟩)) (run_load_part (cs := Mg.cs ⟨m.k, ⟨false, m.fr.id⟩, ⟨true, x.cl⟩, x.op, x.rd, x.ky, m.st, m.hd, m.bl, m.c, m.bk, m.cm, false⟩) (sub := Mg.cs ⟨m.k, ⟨false, m.fr.id⟩, ⟨true, x.cl⟩, x.op, x.rd, x.ky, m.st, m.hd, m.bl, m.c, m.bk, m.cm, false⟩) (HF.out.box 0 _ _ _ rfl) (Part.all _) U47 rfl S47) <| ?_
     try simp only [pS]
     refine uT 47 ⟨gk3, 0, none⟩ (.agg (Mg.cells ⟨m.k, ⟨false, m.fr.id⟩, ⟨true, x.cl⟩, x.op, x.rd, x.ky, m.st, m.hd, m.bl, m.c, m.bk, m.cm, false⟩)) (wk16.setRow gk3 (Mg.cells ⟨m.k, ⟨false, m.fr.id⟩, ⟨true, x.cl⟩, x.op, x.rd, x.ky, m.st, m.hd, m.bl, m.c, m.bk, m.cm, false⟩)) (rs (Mg.cs mgZ) (Mg.cs ⟨m.k, ⟨false, m.fr.id⟩, ⟨true, x.cl⟩, x.op, x.rd, x.ky, m.st, m.hd, m.bl, m.c, m.bk, m.cm, false⟩) (Mg.cs ⟨m.k, ⟨false, m.fr.id⟩, ⟨true, x.cl⟩, x.op, x.rd, x.ky, m.st, m.hd, m.bl, m.c, m.bk, m.cm, false⟩) (HF.out.box 1 _ _ _ rfl) S47 (Mg.oneL _)) ?_
     try simp only [pS]
     have HF : Hid (Fq No w (wk16.setRow gk3 (Mg.cells ⟨m.k, ⟨false, m.fr.id⟩, ⟨true, x.cl⟩, x.op, x.rd, x.ky, m.st, m.hd, m.bl, m.c, m.bk, m.cm, false⟩)) [(gk1, 47, Mg.cells ⟨m.k, ⟨false, m.fr.id⟩, ⟨true, x.cl⟩, x.op, x.rd, x.ky, m.st, m.hd, m.bl, m.c, m.bk, m.cm, false⟩), (gk3, 47, Mg.cells ⟨m.k, ⟨false, m.fr.id⟩, ⟨true, x.cl⟩, x.op, x.rd, x.ky, m.st, m.hd, m.bl, m.c, m.bk, m.cm, false⟩)]) := HF.out.set 1 rfl _
     generalize wk16.setRow gk3 (Mg.cells ⟨m.k, ⟨false, m.fr.id⟩, ⟨true, x.cl⟩, x.op, x.rd, x.ky, m.st, m.hd, m.bl, m.c, m.bk, m.cm, false⟩) = wk17 at HF ⊢
     refine WL.nil ?_
     try simp only [pS]
     go_wp2
     rw [HC.out]
     refine bodyPost_ret (results_row1 (by rfl) _ _ gk3 (Mg.cells ⟨m.k, ⟨false, m.fr.id⟩, ⟨true, x.cl⟩, x.op, x.rd, x.ky, m.st, m.hd, m.bl, m.c, m.bk, m.cm, false⟩) (by rfl) (run_load_part (cs := Mg.cs ⟨m.k, ⟨false, m.fr.id⟩, ⟨true, x.cl⟩, x.op, x.rd, x.ky, m.st, m.hd, m.bl, m.c, m.bk, m.cm, false⟩) (sub := Mg.cs ⟨m.k, ⟨false, m.fr.id⟩, ⟨true, x.cl⟩, x.op, x.rd, x.ky, m.st, m.hd, m.bl, m.c, m.bk, m.cm, false⟩) (HF.out.box 1 _ _ _ rfl) (Part.all _) U47 rfl S47)) rfl ?_
     exact ⟨⟨m.k, ⟨false, m.fr.id⟩, ⟨true, x.cl⟩, x.op, x.rd, x.ky, m.st, m.hd, m.bl, m.c, m.bk, m.cm, false⟩, rfl, rfl, rfl, rfl, .inl rfl, HF.out.kept⟩
  ·skip
   refine uB .gtr 3 (.int .i64 ((g.l : Nat) : Int)) (.int .i64 0) (.bool true) (by rw [b_gtr, q1]; try rfl) <| WL.nil <| ?_
   try simp only [pS]
   have hg0 : 0 < g.l := by have := of_decide_eq_true q1; omega
   go_upto_region 3 with fail
   refine wp_region_held_drew (S := fun w' => Fq No w w' []) rfl (Fq.front (l := []) (m := [(gk1, 47, Mg.cells ⟨m.k, ⟨false, m.fr.id⟩, m.too, m.op, m.rd, m.ky, m.st, m.hd, m.bl, m.c, m.bk, m.cm, m.mo⟩), (gk3, 47, Mg.cells mgZ)]) (HF.out.drew)) (fun hH => ?_)
   have HF : Hid (Fq No w (wk5.drew) [(gk1, 47, Mg.cells ⟨m.k, ⟨false, m.fr.id⟩, m.too, m.op, m.rd, m.ky, m.st, m.hd, m.bl, m.c, m.bk, m.cm, m.mo⟩), (gk3, 47, Mg.cells mgZ)]) := HF.out.drew
   generalize wk5.drew = wk18 at HF hH ⊢
   refine xV 0 16 (pV r 0) hH <| xV 1 17 (pV r 0) hH <| xV 2 18 (pV r 6) hH <| xL 3 19 24 ⟨r, 6, none⟩ g.v (fun _ hw => load_one ((HBr.out.kept hw.kept (fun e => e)).cell 6 |>.trans (by kernel_rfl)) U24 rfl) hH <| xV 4 20 (pV gk1 1) hH <| xV 5 21 (pV gk1 2) hH <| ?_
   try simp only [pS]
   refine xV 7 23 (pV r 0) hH <| xV 8 24 (pV r 0) hH <| xV 9 25 (pV r 6) hH <| xL 10 26 24 ⟨r, 6, none⟩ g.v (fun _ hw => load_one ((HBr.out.kept hw.kept (fun e => e)).cell 6 |>.trans (by kernel_rfl)) U24 rfl) hH <| xV 11 27 (.int .i64 ((g.l : Nat) : Int)) hH <| ?_
   try simp only [pS]
   refine xP 6 22 (.int .i64 m.fr.id) (exec_load 3 _ rfl ⟨gk1, 2, none⟩ (by kernel_rfl) (.int .i64 m.fr.id) (load_one ((HF.out.box 0 _ _ _ rfl).cell 2 |>.trans (by kernel_rfl)) U3 rfl)) hH (fun hH => ?_)
   try simp only [pS]
   refine xC 12 28 13 #[.int .i64 m.fr.id, .int .i64 ((g.l : Nat) : Int)] (rnd_any _ g.l _ hg0 hg1) ?_
   rintro e wk19 ⟨i, hlt, rfl, rfl⟩
   obtain ⟨gb, hga, hgc⟩ := HG.out.at hlt
   have hsl : g.v = .slice (some ⟨gb, 0, none⟩) g.l g.k := by unfold Sl.v; rw [hga]
   obtain ⟨z, hz⟩ : ∃ z, z = x.zs[i]?.getD 0 := ⟨_, rfl⟩
   rw [← hz] at hgc
   have HGc : Hid (w.cell? ⟨gb, 0 + i * 1, none⟩ = some (.int .i64 z)) := hgc
   clear hgc hz
   have hH2 := hH
   refine ⟨.int .i64 ((i : Nat) : Int), rfl, hH2, fun hH => ?_⟩
   clear hH2
   try simp only [pS]
   refine xU 13 29 (pV gb (0 + i * 1)) (fun w' hw => exec_ixA 24 1 E24 F24 _ _ rfl gb 0 g.l g.k i (Eq.trans (b := g.v) (by kernel_rfl) hsl) (by kernel_rfl) (by omega)) hH <| xL 14 30 3 ⟨gb, 0 + i * 1, none⟩ (.int .i64 z) (fun _ hw => load_one (hw.kept.cell HGc.out (fun e => e)) U3 rfl) hH <| xV 15 31 (pV gk1 1) hH <| xV 16 32 (pV gk1 2) hH <| ?_
   try simp only [pS]
   refine xS 17 3 ⟨gk1, 2, none⟩ (.int .i64 z) (w' := wk19.setRow gk1 (Mg.cells ⟨m.k, ⟨false, z⟩, m.too, m.op, m.rd, m.ky, m.st, m.hd, m.bl, m.c, m.bk, m.cm, m.mo⟩)) (rs (Mg.cs ⟨m.k, ⟨false, m.fr.id⟩, m.too, m.op, m.rd, m.ky, m.st, m.hd, m.bl, m.c, m.bk, m.cm, m.mo⟩) ([.int .i64 z]) (Mg.cs ⟨m.k, ⟨false, z⟩, m.too, m.op, m.rd, m.ky, m.st, m.hd, m.bl, m.c, m.bk, m.cm, m.mo⟩) (HF.out.box 0 _ _ _ rfl) S3 (by simp [Value.oneCell', Sl.v])) (Fq.front (l := []) (m := [(gk1, 47, Mg.cells ⟨m.k, ⟨false, z⟩, m.too, m.op, m.rd, m.ky, m.st, m.hd, m.bl, m.c, m.bk, m.cm, m.mo⟩), (gk3, 47, Mg.cells mgZ)]) (HF.out.set 0 rfl _)) (fun hH => ?_)
   try simp only [pS]
   have HF : Hid (Fq No w (wk19.setRow gk1 (Mg.cells ⟨m.k, ⟨false, z⟩, m.too, m.op, m.rd, m.ky, m.st, m.hd, m.bl, m.c, m.bk, m.cm, m.mo⟩)) [(gk1, 47, Mg.cells ⟨m.k, ⟨false, z⟩, m.too, m.op, m.rd, m.ky, m.st, m.hd, m.bl, m.c, m.bk, m.cm, m.mo⟩), (gk3, 47, Mg.cells mgZ)]) := HF.out.set 0 rfl _
   generalize wk19.setRow gk1 (Mg.cells ⟨m.k, ⟨false, z⟩, m.too, m.op, m.rd, m.ky, m.st, m.hd, m.bl, m.c, m.bk, m.cm, m.mo⟩) = wk20 at HF hH ⊢
   refine wpAnyH_done (by kernel_rfl) ?_ _
   try simp only [pS]
   clear hH
   go_upto_region 4 with fail
   refine WL.start <| uK (pV r 0) <| uK (pV r 0) <| uK (pV r 0) <| uL 3 ⟨r, 0, none⟩ (.int .i64 x.cl) (load_one ((HBr.out.kept HF.out.kept (fun e => e)).cell 0 |>.trans (by kernel_rfl)) U3 rfl) <| uW (.agg (Ad.cells ⟨true, x.cl⟩)) (exec_build 37 _ rfl (Ad.cells ⟨true, x.cl⟩) (by kernel_rfl)) <| uK (pV gk1 3) <| ?_
   try simp only [pS]
   refine uT 37 ⟨gk1, 3, none⟩ (.agg (Ad.cells ⟨true, x.cl⟩)) (wk20.setRow gk1 (Mg.cells ⟨m.k, ⟨false, z⟩, ⟨true, x.cl⟩, m.op, m.rd, m.ky, m.st, m.hd, m.bl, m.c, m.bk, m.cm, m.mo⟩)) (rs (Mg.cs ⟨m.k, ⟨false, z⟩, m.too, m.op, m.rd, m.ky, m.st, m.hd, m.bl, m.c, m.bk, m.cm, m.mo⟩) (Ad.cs ⟨true, x.cl⟩) (Mg.cs ⟨m.k, ⟨false, z⟩, ⟨true, x.cl⟩, m.op, m.rd, m.ky, m.st, m.hd, m.bl, m.c, m.bk, m.cm, m.mo⟩) (HF.out.box 0 _ _ _ rfl) S37 (Ad.oneL _)) ?_
   try simp only [pS]
   have HF : Hid (Fq No w (wk20.setRow gk1 (Mg.cells ⟨m.k, ⟨false, z⟩, ⟨true, x.cl⟩, m.op, m.rd, m.ky, m.st, m.hd, m.bl, m.c, m.bk, m.cm, m.mo⟩)) [(gk1, 47, Mg.cells ⟨m.k, ⟨false, z⟩, ⟨true, x.cl⟩, m.op, m.rd, m.ky, m.st, m.hd, m.bl, m.c, m.bk, m.cm, m.mo⟩), (gk3, 47, Mg.cells mgZ)]) := HF.out.set 0 rfl _
   generalize wk20.setRow gk1 (Mg.cells ⟨m.k, ⟨false, z⟩, ⟨true, x.cl⟩, m.op, m.rd, m.ky, m.st, m.hd, m.bl, m.c, m.bk, m.cm, m.mo⟩) = wk21 at HF ⊢
   refine WL.nil ?_
   try simp only [pS]
   go_upto_region 5 with fail
   refine WL.start <| uK (pV r 0) <| uK (pV r 0) <| uK (pV r 1) <| uL 3 ⟨r, 1, none⟩ (.int .i64 x.op) (load_one ((HBr.out.kept HF.out.kept (fun e => e)).cell 1 |>.trans (by kernel_rfl)) U3 rfl) <| uK (pV gk1 5) <| ?_
   try simp only [pS]
   refine uT 3 ⟨gk1, 5, none⟩ (.int .i64 x.op) (wk21.setRow gk1 (Mg.cells ⟨m.k, ⟨false, z⟩, ⟨true, x.cl⟩, x.op, m.rd, m.ky, m.st, m.hd, m.bl, m.c, m.bk, m.cm, m.mo⟩)) (rs (Mg.cs ⟨m.k, ⟨false, z⟩, ⟨true, x.cl⟩, m.op, m.rd, m.ky, m.st, m.hd, m.bl, m.c, m.bk, m.cm, m.mo⟩) ([.int .i64 x.op]) (Mg.cs ⟨m.k, ⟨false, z⟩, ⟨true, x.cl⟩, x.op, m.rd, m.ky, m.st, m.hd, m.bl, m.c, m.bk, m.cm, m.mo⟩) (HF.out.box 0 _ _ _ rfl) S3 (by simp [Value.oneCell', Sl.v])) ?_
   try simp only [pS]
   have HF : Hid (Fq No w (wk21.setRow gk1 (Mg.cells ⟨m.k, ⟨false, z⟩, ⟨true, x.cl⟩, x.op, m.rd, m.ky, m.st, m.hd, m.bl, m.c, m.bk, m.cm, m.mo⟩)) [(gk1, 47, Mg.cells ⟨m.k, ⟨false, z⟩, ⟨true, x.cl⟩, x.op, m.rd, m.ky, m.st, m.hd, m.bl, m.c, m.bk, m.cm, m.mo⟩), (gk3, 47, Mg.cells mgZ)]) := HF.out.set 0 rfl _
   generalize wk21.setRow gk1 (Mg.cells ⟨m.k, ⟨false, z⟩, ⟨true, x.cl⟩, x.op, m.rd, m.ky, m.st, m.hd, m.bl, m.c, m.bk, m.cm, m.mo⟩) = wk22 at HF ⊢
   refine WL.nil ?_
   try simp only [pS]
   go_upto_region 6 with fail
   refine WL.start <| uK (pV r 0) <| uK (pV r 0) <| uK (pV r 26) <| uL 3 ⟨r, 26, none⟩ (.int .i64 x.rd) (load_one ((HBr.out.kept HF.out.kept (fun e => e)).cell 26 |>.trans (by kernel_rfl)) U3 rfl) <| uK (pV gk1 6) <| ?_
   try simp only [pS]
   refine uT 3 ⟨gk1, 6, none⟩ (.int .i64 x.rd) (wk22.setRow gk1 (Mg.cells ⟨m.k, ⟨false, z⟩, ⟨true, x.cl⟩, x.op, x.rd, m.ky, m.st, m.hd, m.bl, m.c, m.bk, m.cm, m.mo⟩)) (rs (Mg.cs ⟨m.k, ⟨false, z⟩, ⟨true, x.cl⟩, x.op, m.rd, m.ky, m.st, m.hd, m.bl, m.c, m.bk, m.cm, m.mo⟩) ([.int .i64 x.rd]) (Mg.cs ⟨m.k, ⟨false, z⟩, ⟨true, x.cl⟩, x.op, x.rd, m.ky, m.st, m.hd, m.bl, m.c, m.bk, m.cm, m.mo⟩) (HF.out.box 0 _ _ _ rfl) S3 (by simp [Value.oneCell', Sl.v])) ?_
   try simp only [pS]
   have HF : Hid (Fq No w (wk22.setRow gk1 (Mg.cells ⟨m.k, ⟨false, z⟩, ⟨true, x.cl⟩, x.op, x.rd, m.ky, m.st, m.hd, m.bl, m.c, m.bk, m.cm, m.mo⟩)) [(gk1, 47, Mg.cells ⟨m.k, ⟨false, z⟩, ⟨true, x.cl⟩, x.op, x.rd, m.ky, m.st, m.hd, m.bl, m.c, m.bk, m.cm, m.mo⟩), (gk3, 47, Mg.cells mgZ)]) := HF.out.set 0 rfl _
   generalize wk22.setRow gk1 (Mg.cells ⟨m.k, ⟨false, z⟩, ⟨true, x.cl⟩, x.op, x.rd, m.ky, m.st, m.hd, m.bl, m.c, m.bk, m.cm, m.mo⟩) = wk23 at HF ⊢
   refine WL.nil ?_
   try simp only [pS]
   go_upto_region 7 with fail
   refine WL.start <| uK (pV r 0) <| uK (pV r 0) <| uK (pV r 2) <| uL 23 ⟨r, 2, none⟩ (.agg (Ky.cells x.ky)) (run_load_part (cs := Rv.cs (rvOf x g ba bc bh bm)) (sub := Ky.cs x.ky) (HBr.out.kept HF.out.kept (fun e => e)) (part_of (by kernel_rfl)) U23 rfl S23) <| uK (pV gk1 7) <| ?_
   try simp only [pS]
   refine uT 23 ⟨gk1, 7, none⟩ (.agg (Ky.cells x.ky)) (wk23.setRow gk1 (Mg.cells ⟨m.k, ⟨false, z⟩, ⟨true, x.cl⟩, x.op, x.rd, x.ky, m.st, m.hd, m.bl, m.c, m.bk, m.cm, m.mo⟩)) (rs (Mg.cs ⟨m.k, ⟨false, z⟩, ⟨true, x.cl⟩, x.op, x.rd, m.ky, m.st, m.hd, m.bl, m.c, m.bk, m.cm, m.mo⟩) (Ky.cs x.ky) (Mg.cs ⟨m.k, ⟨false, z⟩, ⟨true, x.cl⟩, x.op, x.rd, x.ky, m.st, m.hd, m.bl, m.c, m.bk, m.cm, m.mo⟩) (HF.out.box 0 _ _ _ rfl) S23 (Ky.oneL _)) ?_
   try simp only [pS]
   have HF : Hid (Fq No w (wk23.setRow gk1 (Mg.cells ⟨m.k, ⟨false, z⟩, ⟨true, x.cl⟩, x.op, x.rd, x.ky, m.st, m.hd, m.bl, m.c, m.bk, m.cm, m.mo⟩)) [(gk1, 47, Mg.cells ⟨m.k, ⟨false, z⟩, ⟨true, x.cl⟩, x.op, x.rd, x.ky, m.st, m.hd, m.bl, m.c, m.bk, m.cm, m.mo⟩), (gk3, 47, Mg.cells mgZ)]) := HF.out.set 0 rfl _
   generalize wk23.setRow gk1 (Mg.cells ⟨m.k, ⟨false, z⟩, ⟨true, x.cl⟩, x.op, x.rd, x.ky, m.st, m.hd, m.bl, m.c, m.bk, m.cm, m.mo⟩) = wk24 at HF ⊢
   refine WL.nil ?_
   try simp only [pS]
   go_upto_region 8 with fail
   refine WL.start <| uK (pV gk1 29) <| uL 4 ⟨gk1, 29, none⟩ (.bool m.mo) (load_one ((HF.out.box 0 _ _ _ rfl).cell 29 |>.trans (by kernel_rfl)) U4 rfl) <| uK (.bool m.mo) <| ?_
   try simp only [pS]
   cases q4 : (m.mo)
   ·skip
    try simp only [q4]
    refine uZ <| uZ <| uZ <| uK (.bool false) <| WL.nil <| ?_
    try simp only [pS]
    go_upto_region 10 with fail
    refine WL.start <| uK (pV gk1 29) <| ?_
    try simp only [pS]
    refine uT 4 ⟨gk1, 29, none⟩ (.bool false) (wk24.setRow gk1 (Mg.cells ⟨m.k, ⟨false, z⟩, ⟨true, x.cl⟩, x.op, x.rd, x.ky, m.st, m.hd, m.bl, m.c, m.bk, m.cm, false⟩)) (rs (Mg.cs ⟨m.k, ⟨false, z⟩, ⟨true, x.cl⟩, x.op, x.rd, x.ky, m.st, m.hd, m.bl, m.c, m.bk, m.cm, m.mo⟩) ([.bool false]) (Mg.cs ⟨m.k, ⟨false, z⟩, ⟨true, x.cl⟩, x.op, x.rd, x.ky, m.st, m.hd, m.bl, m.c, m.bk, m.cm, false⟩) (HF.out.box 0 _ _ _ rfl) S4 (by simp [Value.oneCell', Sl.v])) ?_
    try simp only [pS]
    have HF : Hid (Fq No w (wk24.setRow gk1 (Mg.cells ⟨m.k, ⟨false, z⟩, ⟨true, x.cl⟩, x.op, x.rd, x.ky, m.st, m.hd, m.bl, m.c, m.bk, m.cm, false⟩)) [(gk1, 47, Mg.cells ⟨m.k, ⟨false, z⟩, ⟨true, x.cl⟩, x.op, x.rd, x.ky, m.st, m.hd, m.bl, m.c, m.bk, m.cm, false⟩), (gk3, 47, Mg.cells mgZ)]) := HF.out.set 0 rfl _
    generalize wk24.setRow gk1 (Mg.cells ⟨m.k, ⟨false, z⟩, ⟨true, x.cl⟩, x.op, x.rd, x.ky, m.st, m.hd, m.bl, m.c, m.bk, m.cm, false⟩) = wk25 at HF ⊢
    refine WL.nil ?_
    try simp only [pS]
    go_upto_region 11 with fail
    refine WL.start <| uL 47 ⟨gk1, 0, none⟩ (.agg (Mg.cells ⟨m.k, ⟨false, z⟩, ⟨true, x.cl⟩, x.op, x.rd, x.ky, m.st, m.hd, m.bl, m.c, m.bk, m.cm, false⟩)) (run_load_part (cs := Mg.cs ⟨m.k, ⟨false, z⟩, ⟨true, x.cl⟩, x.op, x.rd, x.ky, m.st, m.hd, m.bl, m.c, m.bk, m.cm, false⟩) (sub := Mg.cs ⟨m.k, ⟨false, z⟩, ⟨true, x.cl⟩, x.op, x.rd, x.ky, m.st, m.hd, m.bl, m.c, m.bk, m.cm, false⟩) (HF.out.box 0 _ _ _ rfl) (Part.all _) U47 rfl S47) <| ?_
    try simp only [pS]
    refine uT 47 ⟨gk3, 0, none⟩ (.agg (Mg.cells ⟨m.k, ⟨false, z⟩, ⟨true, x.cl⟩, x.op, x.rd, x.ky, m.st, m.hd, m.bl, m.c, m.bk, m.cm, false⟩)) (wk25.setRow gk3 (Mg.cells ⟨m.k, ⟨false, z⟩, ⟨true, x.cl⟩, x.op, x.rd, x.ky, m.st, m.hd, m.bl, m.c, m.bk, m.cm, false⟩)) (rs (Mg.cs mgZ) (Mg.cs ⟨m.k, ⟨false, z⟩, ⟨true, x.cl⟩, x.op, x.rd, x.ky, m.st, m.hd, m.bl, m.c, m.bk, m.cm, false⟩) (Mg.cs ⟨m.k, ⟨false, z⟩, ⟨true, x.cl⟩, x.op, x.rd, x.ky, m.st, m.hd, m.bl, m.c, m.bk, m.cm, false⟩) (HF.out.box 1 _ _ _ rfl) S47 (Mg.oneL _)) ?_
    try simp only [pS]
    have HF : Hid (Fq No w (wk25.setRow gk3 (Mg.cells ⟨m.k, ⟨false, z⟩, ⟨true, x.cl⟩, x.op, x.rd, x.ky, m.st, m.hd, m.bl, m.c, m.bk, m.cm, false⟩)) [(gk1, 47, Mg.cells ⟨m.k, ⟨false, z⟩, ⟨true, x.cl⟩, x.op, x.rd, x.ky, m.st, m.hd, m.bl, m.c, m.bk, m.cm, false⟩), (gk3, 47, Mg.cells ⟨m.k, ⟨false, z⟩, ⟨true, x.cl⟩, x.op, x.rd, x.ky, m.st, m.hd, m.bl, m.c, m.bk, m.cm, false⟩)]) := HF.out.set 1 rfl _
    generalize wk25.setRow gk3 (Mg.cells ⟨m.k, ⟨false, z⟩, ⟨true, x.cl⟩, x.op, x.rd, x.ky, m.st, m.hd, m.bl, m.c, m.bk, m.cm, false⟩) = wk26 at HF ⊢
    refine WL.nil ?_
    try simp only [pS]
    go_wp2
    rw [HC.out]
    refine bodyPost_ret (results_row1 (by rfl) _ _ gk3 (Mg.cells ⟨m.k, ⟨false, z⟩, ⟨true, x.cl⟩, x.op, x.rd, x.ky, m.st, m.hd, m.bl, m.c, m.bk, m.cm, false⟩) (by rfl) (run_load_part (cs := Mg.cs ⟨m.k, ⟨false, z⟩, ⟨true, x.cl⟩, x.op, x.rd, x.ky, m.st, m.hd, m.bl, m.c, m.bk, m.cm, false⟩) (sub := Mg.cs ⟨m.k, ⟨false, z⟩, ⟨true, x.cl⟩, x.op, x.rd, x.ky, m.st, m.hd, m.bl, m.c, m.bk, m.cm, false⟩) (HF.out.box 1 _ _ _ rfl) (Part.all _) U47 rfl S47)) rfl ?_
    exact ⟨⟨m.k, ⟨false, z⟩, ⟨true, x.cl⟩, x.op, x.rd, x.ky, m.st, m.hd, m.bl, m.c, m.bk, m.cm, false⟩, rfl, rfl, rfl, rfl, .inl rfl, HF.out.kept⟩
   ·skip
    try simp only [q4]
    refine uK (pV gk1 0) <| uL 3 ⟨gk1, 0, none⟩ (.int .i64 m.k) (load_one ((HF.out.box 0 _ _ _ rfl).cell 0 |>.trans (by kernel_rfl)) U3 rfl) <| ?_
    try simp only [pS]
    cases q5 : (m.k == 14)
    ·skip
     refine uB .neq 3 (.int .i64 m.k) (.int .i64 14) (.bool true) (by rw [b_neq, q5]; try rfl) <| uK (.bool true) <| WL.nil <| ?_
     try simp only [pS]
     go_upto_region 9 with fail
     refine wp_region_held_drew (S := fun w' => Fq No w w' []) rfl (Fq.front (l := []) (m := [(gk1, 47, Mg.cells ⟨m.k, ⟨false, z⟩, ⟨true, x.cl⟩, x.op, x.rd, x.ky, m.st, m.hd, m.bl, m.c, m.bk, m.cm, m.mo⟩), (gk3, 47, Mg.cells mgZ)]) (HF.out.drew)) (fun hH => ?_)
     have HF : Hid (Fq No w (wk24.drew) [(gk1, 47, Mg.cells ⟨m.k, ⟨false, z⟩, ⟨true, x.cl⟩, x.op, x.rd, x.ky, m.st, m.hd, m.bl, m.c, m.bk, m.cm, m.mo⟩), (gk3, 47, Mg.cells mgZ)]) := HF.out.drew
     generalize wk24.drew = wk27 at HF hH ⊢
     refine xV 0 61 (pV r 0) hH <| xV 1 62 (pV r 0) hH <| xV 2 63 (pV r 25) hH <| xL 3 64 3 ⟨r, 25, none⟩ (.int .i64 x.n) (fun _ hw => load_one ((HBr.out.kept hw.kept (fun e => e)).cell 25 |>.trans (by kernel_rfl)) U3 rfl) hH <| xV 4 65 (pV r 0) hH <| xV 5 66 (pV r 0) hH <| ?_
     try simp only [pS]
     refine xV 6 67 (pV r 0) hH <| xL 7 68 3 ⟨r, 0, none⟩ (.int .i64 x.cl) (fun _ hw => load_one ((HBr.out.kept hw.kept (fun e => e)).cell 0 |>.trans (by kernel_rfl)) U3 rfl) hH <| xU 8 69 (.agg (Sp.cells ⟨x.n, x.cl⟩)) (fun w' hw => exec_build 39 _ rfl (Sp.cells ⟨x.n, x.cl⟩) (by kernel_rfl)) hH <| xV 9 70 (pV gk1 11) hH <| ?_
     try simp only [pS]
     refine xS 10 39 ⟨gk1, 11, none⟩ (.agg (Sp.cells ⟨x.n, x.cl⟩)) (w' := wk27.setRow gk1 (Mg.cells ⟨m.k, ⟨false, z⟩, ⟨true, x.cl⟩, x.op, x.rd, x.ky, ⟨x.n, x.cl⟩, m.hd, m.bl, m.c, m.bk, m.cm, m.mo⟩)) (rs (Mg.cs ⟨m.k, ⟨false, z⟩, ⟨true, x.cl⟩, x.op, x.rd, x.ky, m.st, m.hd, m.bl, m.c, m.bk, m.cm, m.mo⟩) (Sp.cs ⟨x.n, x.cl⟩) (Mg.cs ⟨m.k, ⟨false, z⟩, ⟨true, x.cl⟩, x.op, x.rd, x.ky, ⟨x.n, x.cl⟩, m.hd, m.bl, m.c, m.bk, m.cm, m.mo⟩) (HF.out.box 0 _ _ _ rfl) S39 (Sp.oneL _)) (Fq.front (l := []) (m := [(gk1, 47, Mg.cells ⟨m.k, ⟨false, z⟩, ⟨true, x.cl⟩, x.op, x.rd, x.ky, ⟨x.n, x.cl⟩, m.hd, m.bl, m.c, m.bk, m.cm, m.mo⟩), (gk3, 47, Mg.cells mgZ)]) (HF.out.set 0 rfl _)) (fun hH => ?_)
     try simp only [pS]
     have HF : Hid (Fq No w (wk27.setRow gk1 (Mg.cells ⟨m.k, ⟨false, z⟩, ⟨true, x.cl⟩, x.op, x.rd, x.ky, ⟨x.n, x.cl⟩, m.hd, m.bl, m.c, m.bk, m.cm, m.mo⟩)) [(gk1, 47, Mg.cells ⟨m.k, ⟨false, z⟩, ⟨true, x.cl⟩, x.op, x.rd, x.ky, ⟨x.n, x.cl⟩, m.hd, m.bl, m.c, m.bk, m.cm, m.mo⟩), (gk3, 47, Mg.cells mgZ)]) := HF.out.set 0 rfl _
     generalize wk27.setRow gk1 (Mg.cells ⟨m.k, ⟨false, z⟩, ⟨true, x.cl⟩, x.op, x.rd, x.ky, ⟨x.n, x.cl⟩, m.hd, m.bl, m.c, m.bk, m.cm, m.mo⟩) = wk28 at HF hH ⊢
     refine wpAnyH_done (by kernel_rfl) ?_ _
     try simp only [pS]
     clear hH
     go_upto_region 10 with fail
     refine WL.start <| uK (pV gk1 29) <| ?_
     try simp only [pS]
     refine uT 4 ⟨gk1, 29, none⟩ (.bool false) (wk28.setRow gk1 (Mg.cells ⟨m.k, ⟨false, z⟩, ⟨true, x.cl⟩, x.op, x.rd, x.ky, ⟨x.n, x.cl⟩, m.hd, m.bl, m.c, m.bk, m.cm, false⟩)) (rs (Mg.cs ⟨m.k, ⟨false, z⟩, ⟨true, x.cl⟩, x.op, x.rd, x.ky, ⟨x.n, x.cl⟩, m.hd, m.bl, m.c, m.bk, m.cm, m.mo⟩) ([.bool false]) (Mg.cs ⟨m.k, ⟨false, z⟩, ⟨true, x.cl⟩, x.op, x.rd, x.ky, ⟨x.n, x.cl⟩, m.hd, m.bl, m.c, m.bk, m.cm, false⟩) (HF.out.box 0 _ _ _ rfl) S4 (by simp [Value.oneCell', Sl.v])) ?_
     try simp only [pS]
     have HF : Hid (Fq No w (wk28.setRow gk1 (Mg.cells ⟨m.k, ⟨false, z⟩, ⟨true, x.cl⟩, x.op, x.rd, x.ky, ⟨x.n, x.cl⟩, m.hd, m.bl, m.c, m.bk, m.cm, false⟩)) [(gk1, 47, Mg.cells ⟨m.k, ⟨false, z⟩, ⟨true, x.cl⟩, x.op, x.rd, x.ky, ⟨x.n, x.cl⟩, m.hd, m.bl, m.c, m.bk, m.cm, false⟩), (gk3, 47, Mg.cells mgZ)]) := HF.out.set 0 rfl _
     generalize wk28.setRow gk1 (Mg.cells ⟨m.k, ⟨false, z⟩, ⟨true, x.cl⟩, x.op, x.rd, x.ky, ⟨x.n, x.cl⟩, m.hd, m.bl, m.c, m.bk, m.cm, false⟩) = wk29 at HF ⊢
     refine WL.nil ?_
     try simp only [pS]
     go_upto_region 11 with fail
     refine WL.start <| uL 47 ⟨gk1, 0, none⟩ (.agg (Mg.cells ⟨m.k, ⟨false, z⟩, ⟨true, x.cl⟩, x.op, x.rd, x.ky, ⟨x.n, x.cl⟩, m.hd, m.bl, m.c, m.bk, m.cm, false⟩)) (run_load_part (cs := Mg.cs ⟨m.k, ⟨false, z⟩, ⟨true, x.cl⟩, x.op, x.rd, x.ky, ⟨x.n, x.cl⟩, m.hd, m.bl, m.c, m.bk, m.cm, false⟩) (sub := Mg.cs ⟨m.k, ⟨false, z⟩, ⟨true, x.cl⟩, x.op, x.rd, x.ky, ⟨x.n, x.cl⟩, m.hd, m.bl, m.c, m.bk, m.cm, false⟩) (HF.out.box 0 _ _ _ rfl) (Part.all _) U47 rfl S47) <| ?_
     try simp only [pS]
     refine uT 47 ⟨gk3, 0, none⟩ (.agg (Mg.cells ⟨m.k, ⟨false, z⟩, ⟨true, x.cl⟩, x.op, x.rd, x.ky, ⟨x.n, x.cl⟩, m.hd, m.bl, m.c, m.bk, m.cm, false⟩)) (wk29.setRow gk3 (Mg.cells ⟨m.k, ⟨false, z⟩, ⟨true, x.cl⟩, x.op, x.rd, x.ky, ⟨x.n, x.cl⟩, m.hd, m.bl, m.c, m.bk, m.cm, false⟩)) (rs (Mg.cs mgZ) (Mg.cs ⟨m.k, ⟨false, z⟩, ⟨true, x.cl⟩, x.op, x.rd, x.ky, ⟨x.n, x.cl⟩, m.hd, m.bl, m.c, m.bk, m.cm, false⟩) (Mg.cs ⟨m.k, ⟨false, z⟩, ⟨true, x.cl⟩, x.op, x.rd, x.ky, ⟨x.n, x.cl⟩, m.hd, m.bl, m.c, m.bk, m.cm, false⟩) (HF.out.box 1 _ _ _ rfl) S47 (Mg.oneL _)) ?_
     try simp only [pS]
     have HF : Hid (Fq No w (wk29.setRow gk3 (Mg.cells ⟨m.k, ⟨false, z⟩, ⟨true, x.cl⟩, x.op, x.rd, x.ky, ⟨x.n, x.cl⟩, m.hd, m.bl, m.c, m.bk, m.cm, false⟩)) [(gk1, 47, Mg.cells ⟨m.k, ⟨false, z⟩, ⟨true, x.cl⟩, x.op, x.rd, x.ky, ⟨x.n, x.cl⟩, m.hd, m.bl, m.c, m.bk, m.cm, false⟩), (gk3, 47, Mg.cells ⟨m.k, ⟨false, z⟩, ⟨true, x.cl⟩, x.op, x.rd, x.ky, ⟨x.n, x.cl⟩, m.hd, m.bl, m.c, m.bk, m.cm, false⟩)]) := HF.out.set 1 rfl _
     generalize wk29.setRow gk3 (Mg.cells ⟨m.k, ⟨false, z⟩, ⟨true, x.cl⟩, x.op, x.rd, x.ky, ⟨x.n, x.cl⟩, m.hd, m.bl, m.c, m.bk, m.cm, false⟩) = wk30 at HF ⊢
     refine WL.nil ?_
     try simp only [pS]
     go_wp2
     rw [HC.out]
     refine bodyPost_ret (results_row1 (by rfl) _ _ gk3 (Mg.cells ⟨m.k, ⟨false, z⟩, ⟨true, x.cl⟩, x.op, x.rd, x.ky, ⟨x.n, x.cl⟩, m.hd, m.bl, m.c, m.bk, m.cm, false⟩) (by rfl) (run_load_part (cs := Mg.cs ⟨m.k, ⟨false, z⟩, ⟨true, x.cl⟩, x.op, x.rd, x.ky, ⟨x.n, x.cl⟩, m.hd, m.bl, m.c, m.bk, m.cm, false⟩) (sub := Mg.cs ⟨m.k, ⟨false, z⟩, ⟨true, x.cl⟩, x.op, x.rd, x.ky, ⟨x.n, x.cl⟩, m.hd, m.bl, m.c, m.bk, m.cm, false⟩) (HF.out.box 1 _ _ _ rfl) (Part.all _) U47 rfl S47)) rfl ?_
     exact ⟨⟨m.k, ⟨false, z⟩, ⟨true, x.cl⟩, x.op, x.rd, x.ky, ⟨x.n, x.cl⟩, m.hd, m.bl, m.c, m.bk, m.cm, false⟩, rfl, rfl, rfl, rfl, .inr rfl, HF.out.kept⟩
    ·skip
     refine uB .neq 3 (.int .i64 m.k) (.int .i64 14) (.bool false) (by rw [b_neq, q5]; try rfl) <| uK (.bool false) <| WL.nil <| ?_
     try simp only [pS]
     go_upto_region 10 with fail
     refine WL.start <| uK (pV gk1 29) <| ?_
     try simp only [pS]
     refine uT 4 ⟨gk1, 29, none⟩ (.bool false) (wk24.setRow gk1 (Mg.cells ⟨m.k, ⟨false, z⟩, ⟨true, x.cl⟩, x.op, x.rd, x.ky, m.st, m.hd, m.bl, m.c, m.bk, m.cm, false⟩)) (rs (Mg.cs ⟨m.k, ⟨false, z⟩, ⟨true, x.cl⟩, x.op, x.rd, x.ky, m.st, m.hd, m.bl, m.c, m.bk, m.cm, m.mo⟩) ([.bool false]) (Mg.cs ⟨m.k, ⟨false, z⟩, ⟨true, x.cl⟩, x.op, x.rd, x.ky, m.st, m.hd, m.bl, m.c, m.bk, m.cm, false⟩) (HF.out.box 0 _ _ _ rfl) S4 (by simp [Value.oneCell', Sl.v])) ?_
     try simp only [pS]
     have HF : Hid (Fq No w (wk24.setRow gk1 (Mg.cells ⟨m.k, ⟨false, z⟩, ⟨true, x.cl⟩, x.op, x.rd, x.ky, m.st, m.hd, m.bl, m.c, m.bk, m.cm, false⟩)) [(gk1, 47, Mg.cells ⟨m.k, ⟨false, z⟩, ⟨true, x.cl⟩, x.op, x.rd, x.ky, m.st, m.hd, m.bl, m.c, m.bk, m.cm, false⟩), (gk3, 47, Mg.cells mgZ)]) := HF.out.set 0 rfl _
     generalize wk24.setRow gk1 (Mg.cells ⟨m.k, ⟨false, z⟩, ⟨true, x.cl⟩, x.op, x.rd, x.ky, m.st, m.hd, m.bl, m.c, m.bk, m.cm, false⟩) = wk31 at HF ⊢
     refine WL.nil ?_
     try simp only [pS]
     go_upto_region 11 with fail
     refine WL.start <| uL 47 ⟨gk1, 0, none⟩ (.agg (Mg.cells ⟨m.k, ⟨false, z⟩, ⟨true, x.cl⟩, x.op, x.rd, x.ky, m.st, m.hd, m.bl, m.c, m.bk, m.cm, false⟩)) (run_load_part (cs := Mg.cs ⟨m.k, ⟨false, z⟩, ⟨true, x.cl⟩, x.op, x.rd, x.ky, m.st, m.hd, m.bl, m.c, m.bk, m.cm, false⟩) (sub := Mg.cs ⟨m.k, ⟨false, z⟩, ⟨true, x.cl⟩, x.op, x.rd, x.ky, m.st, m.hd, m.bl, m.c, m.bk, m.cm, false⟩) (HF.out.box 0 _ _ _ rfl) (Part.all _) U47 rfl S47) <| ?_
     try simp only [pS]
     refine uT 47 ⟨gk3, 0, none⟩ (.agg (Mg.cells ⟨m.k, ⟨false, z⟩, ⟨true, x.cl⟩, x.op, x.rd, x.ky, m.st, m.hd, m.bl, m.c, m.bk, m.cm, false⟩)) (wk31.setRow gk3 (Mg.cells ⟨m.k, ⟨false, z⟩, ⟨true, x.cl⟩, x.op, x.rd, x.ky, m.st, m.hd, m.bl, m.c, m.bk, m.cm, false⟩)) (rs (Mg.cs mgZ) (Mg.cs ⟨m.k, ⟨false, z⟩, ⟨true, x.cl⟩, x.op, x.rd, x.ky, m.st, m.hd, m.bl, m.c, m.bk, m.cm, false⟩) (Mg.cs ⟨m.k, ⟨false, z⟩, ⟨true, x.cl⟩, x.op, x.rd, x.ky, m.st, m.hd, m.bl, m.c, m.bk, m.cm, false⟩) (HF.out.box 1 _ _ _ rfl) S47 (Mg.oneL _)) ?_
     try simp only [pS]
     have HF : Hid (Fq No w (wk31.setRow gk3 (Mg.cells ⟨m.k, ⟨false, z⟩, ⟨true, x.cl⟩, x.op, x.rd, x.ky, m.st, m.hd, m.bl, m.c, m.bk, m.cm, false⟩)) [(gk1, 47, Mg.cells ⟨m.k, ⟨false, z⟩, ⟨true, x.cl⟩, x.op, x.rd, x.ky, m.st, m.hd, m.bl, m.c, m.bk, m.cm, false⟩), (gk3, 47, Mg.cells ⟨m.k, ⟨false, z⟩, ⟨true, x.cl⟩, x.op, x.rd, x.ky, m.st, m.hd, m.bl, m.c, m.bk, m.cm, false⟩)]) := HF.out.set 1 rfl _
     generalize wk31.setRow gk3 (Mg.cells ⟨m.k, ⟨false, z⟩, ⟨true, x.cl⟩, x.op, x.rd, x.ky, m.st, m.hd, m.bl, m.c, m.bk, m.cm, false⟩) = wk32 at HF ⊢
     refine WL.nil ?_
     try simp only [pS]
     go_wp2
     rw [HC.out]
     refine bodyPost_ret (results_row1 (by rfl) _ _ gk3 (Mg.cells ⟨m.k, ⟨false, z⟩, ⟨true, x.cl⟩, x.op, x.rd, x.ky, m.st, m.hd, m.bl, m.c, m.bk, m.cm, false⟩) (by rfl) (run_load_part (cs := Mg.cs ⟨m.k, ⟨false, z⟩, ⟨true, x.cl⟩, x.op, x.rd, x.ky, m.st, m.hd, m.bl, m.c, m.bk, m.cm, false⟩) (sub := Mg.cs ⟨m.k, ⟨false, z⟩, ⟨true, x.cl⟩, x.op, x.rd, x.ky, m.st, m.hd, m.bl, m.c, m.bk, m.cm, false⟩) (HF.out.box 1 _ _ _ rfl) (Part.all _) U47 rfl S47)) rfl ?_
     exact ⟨⟨m.k, ⟨false, z⟩, ⟨true, x.cl⟩, x.op, x.rd, x.ky, m.st, m.hd, m.bl, m.c, m.bk, m.cm, false⟩, rfl, rfl, rfl, rfl, .inl rfl, HF.out.kept⟩

end Go.Proofs.Ytpabpeppgpeaoaa.Md
