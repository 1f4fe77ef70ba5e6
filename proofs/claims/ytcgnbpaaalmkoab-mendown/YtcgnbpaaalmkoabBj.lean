import Derived.Test.YtcgnbpaaalmkoabBi
namespace Go.Proofs.Ytcgnbpaaalmkoab
open Go.RowKit
set_option linter.unusedVariables false
set_option linter.unusedSimpArgs false

def likeM (m : Mg) (sb : Sl) (se : Option Addr) (ke : Nat) (sl : Option Addr) (kl : Nat) (sc : Option Addr) (kc : Nat) : Mg := ⟨m.k, m.fr, m.to, m.op, m.rd, m.ky, m.st, m.hd, sb, m.c, ⟨m.bk.up, ⟨se, m.bk.e.l, ke⟩, ⟨sl, m.bk.l.l, kl⟩⟩, ⟨sc, m.cm.l, kc⟩, m.mo⟩
set_option maxRecDepth 100000 in
set_option maxHeartbeats 4000000 in
theorem sameM_any (m : Mg) (sb : Sl) (se : Option Addr) (ke : Nat) (sl : Option Addr) (kl : Nat) (sc : Option Addr) (kc : Nat) (bs : List Int) (es : List En) (ls : List La) (cs : List Cm) (w : World) (hb1 : RdB w m.bl bs) (hb2 : RdB w sb bs) (he1 : RdE w m.bk.e es) (he2 : RdE w ⟨se, m.bk.e.l, ke⟩ es) (hl1 : RdL w m.bk.l ls) (hl2 : RdL w ⟨sl, m.bk.l.l, kl⟩ ls) (hc1 : RdC w m.cm cs) (hc2 : RdC w ⟨sc, m.cm.l, kc⟩ cs) (hn : m.bk.e.l ≤ 4000000000000) (hm : m.bk.l.l ≤ 4000000000000) (hq : m.cm.l ≤ 4000000000000) : Calls Try.prog 9 #[.agg (Mg.cells m), .agg (Mg.cells (likeM m sb se ke sl kl sc kc))] w (fun e w' => e = .returned (.bool true) ∧ Kept No w w') := by
  obtain ⟨C, hC⟩ : ∃ C : Ending → World → Prop, C = (fun e w' => e = .returned (.bool true) ∧ Kept No w w') := ⟨_, rfl⟩
  have HC : Hid (C = (fun e w' => e = .returned (.bool true) ∧ Kept No w w')) := hC
  rw [← hC]
  clear hC
  have HB1 : Hid (RdB w m.bl bs) := hb1
  have HB2 : Hid (RdB w sb bs) := hb2
  have HE1 : Hid (RdE w m.bk.e es) := he1
  have HE2 : Hid (RdE w ⟨se, m.bk.e.l, ke⟩ es) := he2
  have HL1 : Hid (RdL w m.bk.l ls) := hl1
  have HL2 : Hid (RdL w ⟨sl, m.bk.l.l, kl⟩ ls) := hl2
  have HC1 : Hid (RdC w m.cm cs) := hc1
  have HC2 : Hid (RdC w ⟨sc, m.cm.l, kc⟩ cs) := hc2
  have LC : Hid (cs.length = m.cm.l) := hc1.len
  clear hb1 hb2 he1 he2 hl1 hl2 hc1 hc2
  have HF : Hid (Fr No w w []) := Fr.start _ _
  go_enter Try.func9, Try.ntmps9
  go_upto_region 0 with fail
  refine WL.start ?_
  refine wp_runW (.pointer (some ⟨w.heap.size, 0, none⟩)) (w.alloc (.cells (Mg.cells m) 46)) (exec_box 46 _ rfl (Mg.cells m) (by kernel_rfl)) (by kernel_rfl) ?_
  try simp only [pS]
  have HF : Hid (Fr No w _ [(w.heap.size, 46, Mg.cells m)]) := HF.out.alloc _ _
  generalize w.alloc (.cells (Mg.cells m) 46) = wk2 at HF ⊢
  generalize w.heap.size = gk1 at HF ⊢
  refine wp_runW (.pointer (some ⟨wk2.heap.size, 0, none⟩)) (wk2.alloc (.cells (Mg.cells (likeM m sb se ke sl kl sc kc)) 46)) (exec_box 46 _ rfl (Mg.cells (likeM m sb se ke sl kl sc kc)) (by kernel_rfl)) (by kernel_rfl) ?_
  try simp only [pS]
  have HF : Hid (Fr No w _ [(gk1, 46, Mg.cells m), (wk2.heap.size, 46, Mg.cells (likeM m sb se ke sl kl sc kc))]) := HF.out.alloc _ _
  generalize wk2.alloc (.cells (Mg.cells (likeM m sb se ke sl kl sc kc)) 46) = wk4 at HF ⊢
  generalize wk2.heap.size = gk3 at HF ⊢
  refine tK (.bool false) ?_
  try simp only [pS]
  refine WL.nil ?_
  try simp only [pS]
  go_upto_region 1 with fail
  refine WL.start ?_
  refine tK (.pointer (some ⟨gk1, 0, none⟩)) ?_
  refine tW (.int .i64 m.k) (eL 3 _ rfl ⟨gk1, 0, none⟩ (load_one ((HF.out.box 0 _ _ _ rfl).cell 0 |>.trans (by kernel_rfl)) Try.und3 rfl)) ?_
  refine tK (.pointer (some ⟨gk3, 0, none⟩)) ?_
  refine tW (.int .i64 m.k) (eL 3 _ rfl ⟨gk3, 0, none⟩ (load_one ((HF.out.box 1 _ _ _ rfl).cell 0 |>.trans (by kernel_rfl)) Try.und3 rfl)) ?_
  refine tW (.bool false) (eB .neq 3 _ _ _ rfl (.int .i64 m.k) (.int .i64 m.k) _ (by rw [b_neq, beq_self_eq_true]; rfl)) ?_
  refine tK (.bool false) ?_
  refine tK (.pointer (some ⟨gk1, 1, none⟩)) ?_
  refine tW (.agg (Ad.cells m.fr)) (eL 37 _ rfl ⟨gk1, 1, none⟩ (run_load_part (cs := Mg.cs m) (sub := Ad.cs m.fr) (HF.out.box 0 _ _ _ rfl) (part_of (by kernel_rfl)) Try.und43 rfl Try.size43)) ?_
  refine tK (.pointer (some ⟨gk3, 1, none⟩)) ?_
  refine tW (.agg (Ad.cells m.fr)) (eL 37 _ rfl ⟨gk3, 1, none⟩ (run_load_part (cs := Mg.cs (likeM m sb se ke sl kl sc kc)) (sub := Ad.cs m.fr) (HF.out.box 1 _ _ _ rfl) (part_of (by kernel_rfl)) Try.und43 rfl Try.size43)) ?_
  refine tW (.bool false) (eB .neq 37 _ _ _ rfl (.agg (Ad.cells m.fr)) (.agg (Ad.cells m.fr)) _ (by rw [eqA_neq, eqA_refl]; rfl)) ?_
  refine tK (.bool false) ?_
  refine tK (.bool false) ?_
  refine tK (.pointer (some ⟨gk1, 3, none⟩)) ?_
  refine tW (.agg (Ad.cells m.to)) (eL 37 _ rfl ⟨gk1, 3, none⟩ (run_load_part (cs := Mg.cs m) (sub := Ad.cs m.to) (HF.out.box 0 _ _ _ rfl) (part_of (by kernel_rfl)) Try.und43 rfl Try.size43)) ?_
  refine tK (.pointer (some ⟨gk3, 3, none⟩)) ?_
  refine tW (.agg (Ad.cells m.to)) (eL 37 _ rfl ⟨gk3, 3, none⟩ (run_load_part (cs := Mg.cs (likeM m sb se ke sl kl sc kc)) (sub := Ad.cs m.to) (HF.out.box 1 _ _ _ rfl) (part_of (by kernel_rfl)) Try.und43 rfl Try.size43)) ?_
  refine tW (.bool false) (eB .neq 37 _ _ _ rfl (.agg (Ad.cells m.to)) (.agg (Ad.cells m.to)) _ (by rw [eqA_neq, eqA_refl]; rfl)) ?_
  refine tK (.bool false) ?_
  refine tK (.bool false) ?_
  refine tK (.pointer (some ⟨gk1, 5, none⟩)) ?_
  refine tW (.int .i64 m.op) (eL 3 _ rfl ⟨gk1, 5, none⟩ (load_one ((HF.out.box 0 _ _ _ rfl).cell 5 |>.trans (by kernel_rfl)) Try.und3 rfl)) ?_
  refine tK (.pointer (some ⟨gk3, 5, none⟩)) ?_
  refine tW (.int .i64 m.op) (eL 3 _ rfl ⟨gk3, 5, none⟩ (load_one ((HF.out.box 1 _ _ _ rfl).cell 5 |>.trans (by kernel_rfl)) Try.und3 rfl)) ?_
  refine tW (.bool false) (eB .neq 3 _ _ _ rfl (.int .i64 m.op) (.int .i64 m.op) _ (by rw [b_neq, beq_self_eq_true]; rfl)) ?_
  refine tK (.bool false) ?_
  refine tK (.bool false) ?_
  refine tK (.pointer (some ⟨gk1, 6, none⟩)) ?_
  refine tW (.int .i64 m.rd) (eL 3 _ rfl ⟨gk1, 6, none⟩ (load_one ((HF.out.box 0 _ _ _ rfl).cell 6 |>.trans (by kernel_rfl)) Try.und3 rfl)) ?_
  refine tK (.pointer (some ⟨gk3, 6, none⟩)) ?_
  refine tW (.int .i64 m.rd) (eL 3 _ rfl ⟨gk3, 6, none⟩ (load_one ((HF.out.box 1 _ _ _ rfl).cell 6 |>.trans (by kernel_rfl)) Try.und3 rfl)) ?_
  refine tW (.bool false) (eB .neq 3 _ _ _ rfl (.int .i64 m.rd) (.int .i64 m.rd) _ (by rw [b_neq, beq_self_eq_true]; rfl)) ?_
  refine tK (.bool false) ?_
  refine tK (.bool false) ?_
  refine tK (.pointer (some ⟨gk1, 7, none⟩)) ?_
  refine tW (.agg (Ky.cells m.ky)) (eL 39 _ rfl ⟨gk1, 7, none⟩ (run_load_part (cs := Mg.cs m) (sub := Ky.cs m.ky) (HF.out.box 0 _ _ _ rfl) (part_of (by kernel_rfl)) Try.und23 rfl Try.size23)) ?_
  refine tK (.pointer (some ⟨gk3, 7, none⟩)) ?_
  refine tW (.agg (Ky.cells m.ky)) (eL 39 _ rfl ⟨gk3, 7, none⟩ (run_load_part (cs := Mg.cs (likeM m sb se ke sl kl sc kc)) (sub := Ky.cs m.ky) (HF.out.box 1 _ _ _ rfl) (part_of (by kernel_rfl)) Try.und23 rfl Try.size23)) ?_
  refine tW (.bool false) (eB .neq 39 _ _ _ rfl (.agg (Ky.cells m.ky)) (.agg (Ky.cells m.ky)) _ (by rw [eqK_neq, eqK_refl]; rfl)) ?_
  refine tK (.bool false) ?_
  refine tK (.bool false) ?_
  refine tK (.pointer (some ⟨gk1, 11, none⟩)) ?_
  refine tW (.agg (Sp.cells m.st)) (eL 23 _ rfl ⟨gk1, 11, none⟩ (run_load_part (cs := Mg.cs m) (sub := Sp.cs m.st) (HF.out.box 0 _ _ _ rfl) (part_of (by kernel_rfl)) Try.und25 rfl Try.size25)) ?_
  refine tK (.pointer (some ⟨gk3, 11, none⟩)) ?_
  refine tW (.agg (Sp.cells m.st)) (eL 23 _ rfl ⟨gk3, 11, none⟩ (run_load_part (cs := Mg.cs (likeM m sb se ke sl kl sc kc)) (sub := Sp.cs m.st) (HF.out.box 1 _ _ _ rfl) (part_of (by kernel_rfl)) Try.und25 rfl Try.size25)) ?_
  refine tW (.bool false) (eB .neq 23 _ _ _ rfl (.agg (Sp.cells m.st)) (.agg (Sp.cells m.st)) _ (by rw [eqS_neq, eqS_refl]; rfl)) ?_
  refine tK (.bool false) ?_
  refine tK (.bool false) ?_
  refine tK (.pointer (some ⟨gk1, 13, none⟩)) ?_
  refine tW (.agg (Sp.cells m.hd)) (eL 23 _ rfl ⟨gk1, 13, none⟩ (run_load_part (cs := Mg.cs m) (sub := Sp.cs m.hd) (HF.out.box 0 _ _ _ rfl) (part_of (by kernel_rfl)) Try.und25 rfl Try.size25)) ?_
  refine tK (.pointer (some ⟨gk3, 13, none⟩)) ?_
  refine tW (.agg (Sp.cells m.hd)) (eL 23 _ rfl ⟨gk3, 13, none⟩ (run_load_part (cs := Mg.cs (likeM m sb se ke sl kl sc kc)) (sub := Sp.cs m.hd) (HF.out.box 1 _ _ _ rfl) (part_of (by kernel_rfl)) Try.und25 rfl Try.size25)) ?_
  refine tW (.bool false) (eB .neq 23 _ _ _ rfl (.agg (Sp.cells m.hd)) (.agg (Sp.cells m.hd)) _ (by rw [eqS_neq, eqS_refl]; rfl)) ?_
  refine tK (.bool false) ?_
  try simp only [pS]
  refine WL.nil ?_
  try simp only [pS]
  go_upto_region 3 with fail
  refine WL.start ?_
  refine tK (.pointer (some ⟨gk1, 16, none⟩)) ?_
  refine tW (.agg (Cm.cells m.c)) (eL 43 _ rfl ⟨gk1, 16, none⟩ (run_load_part (cs := Mg.cs m) (sub := Cm.cs m.c) (HF.out.box 0 _ _ _ rfl) (part_of (by kernel_rfl)) Try.und47 rfl Try.size47)) ?_
  refine tK (.pointer (some ⟨gk3, 16, none⟩)) ?_
  refine tW (.agg (Cm.cells m.c)) (eL 43 _ rfl ⟨gk3, 16, none⟩ (run_load_part (cs := Mg.cs (likeM m sb se ke sl kl sc kc)) (sub := Cm.cs m.c) (HF.out.box 1 _ _ _ rfl) (part_of (by kernel_rfl)) Try.und47 rfl Try.size47)) ?_
  refine tW (.bool false) (eB .neq 43 _ _ _ rfl (.agg (Cm.cells m.c)) (.agg (Cm.cells m.c)) _ (by rw [eqC_neq, eqC_refl]; rfl)) ?_
  refine tK (.bool false) ?_
  refine tK (.pointer (some ⟨gk1, 29, none⟩)) ?_
  refine tW (.bool m.mo) (eL 4 _ rfl ⟨gk1, 29, none⟩ (load_one ((HF.out.box 0 _ _ _ rfl).cell 29 |>.trans (by kernel_rfl)) Try.und4 rfl)) ?_
  refine tK (.pointer (some ⟨gk3, 29, none⟩)) ?_
  refine tW (.bool m.mo) (eL 4 _ rfl ⟨gk3, 29, none⟩ (load_one ((HF.out.box 1 _ _ _ rfl).cell 29 |>.trans (by kernel_rfl)) Try.und4 rfl)) ?_
  refine tW (.bool false) (eB .neq 4 _ _ _ rfl (.bool m.mo) (.bool m.mo) _ (by rw [b_neqB]; simp)) ?_
  refine tK (.bool false) ?_
  refine tK (.bool false) ?_
  refine tK (.pointer (some ⟨gk1, 15, none⟩)) ?_
  refine tW (m.bl.v) (eL 24 _ rfl ⟨gk1, 15, none⟩ (load_one ((HF.out.box 0 _ _ _ rfl).cell 15 |>.trans (by kernel_rfl)) Try.und26 rfl)) ?_
  refine tK (.pointer (some ⟨gk3, 15, none⟩)) ?_
  refine tW (sb.v) (eL 24 _ rfl ⟨gk3, 15, none⟩ (load_one ((HF.out.box 1 _ _ _ rfl).cell 15 |>.trans (by kernel_rfl)) Try.und26 rfl)) ?_
  try simp only [pS]
  refine wp_callW 17 #[m.bl.v, sb.v] (by kernel_rfl) _ (sameB_any m.bl sb bs _ (HB1.out.no HF.out.kept) (HB2.out.no HF.out.kept)) (by kernel_rfl) ?_
  rintro e wq ⟨rfl, hwq⟩
  rw [hwq]
  clear hwq wq
  refine ⟨.bool true, rfl, ?_⟩
  try simp only [pS]
  refine tK (.bool false) ?_
  refine tK (.bool false) ?_
  refine tK (.bool false) ?_
  refine tK (.pointer (some ⟨gk1, 25, none⟩)) ?_
  refine tW (.agg (Bv.cells m.bk)) (eL 30 _ rfl ⟨gk1, 25, none⟩ (run_load_part (cs := Mg.cs m) (sub := Bv.cs m.bk) (HF.out.box 0 _ _ _ rfl) (part_of (by kernel_rfl)) Try.und32 rfl Try.size32)) ?_
  refine tK (.pointer (some ⟨gk3, 25, none⟩)) ?_
  refine tW (.agg (Bv.cells ⟨m.bk.up, ⟨se, m.bk.e.l, ke⟩, ⟨sl, m.bk.l.l, kl⟩⟩)) (eL 30 _ rfl ⟨gk3, 25, none⟩ (run_load_part (cs := Mg.cs (likeM m sb se ke sl kl sc kc)) (sub := Bv.cs ⟨m.bk.up, ⟨se, m.bk.e.l, ke⟩, ⟨sl, m.bk.l.l, kl⟩⟩) (HF.out.box 1 _ _ _ rfl) (part_of (by kernel_rfl)) Try.und32 rfl Try.size32)) ?_
  try simp only [pS]
  refine wp_callW 26 #[.agg (Bv.cells m.bk), .agg (Bv.cells ⟨m.bk.up, ⟨se, m.bk.e.l, ke⟩, ⟨sl, m.bk.l.l, kl⟩⟩)] (by kernel_rfl) _ (sameK_any m.bk.up m.bk.e.a se m.bk.l.a sl m.bk.e.l m.bk.l.l m.bk.e.k ke m.bk.l.k kl es ls _ (HE1.out.no HF.out.kept) (HE2.out.no HF.out.kept) (HL1.out.no HF.out.kept) (HL2.out.no HF.out.kept) hn hm) (by kernel_rfl) ?_
  rintro e wk5 ⟨rfl, hk⟩
  have HF : Hid (Fr No w (wk5) [(gk1, 46, Mg.cells m), (gk3, 46, Mg.cells (likeM m sb se ke sl kl sc kc))]) := HF.out.no hk
  clear hk
  refine ⟨.bool true, rfl, ?_⟩
  try simp only [pS]
  refine tK (.bool false) ?_
  refine tK (.bool false) ?_
  refine tK (.bool false) ?_
  refine tK (.pointer (some ⟨gk1, 28, none⟩)) ?_
  refine tW (m.cm.v) (eL 44 _ rfl ⟨gk1, 28, none⟩ (load_one ((HF.out.box 0 _ _ _ rfl).cell 28 |>.trans (by kernel_rfl)) Try.und48 rfl)) ?_
  refine tK (.int .i64 ((m.cm.l : Nat) : Int)) ?_
  refine tK (.pointer (some ⟨gk3, 28, none⟩)) ?_
  refine tW (.slice sc m.cm.l kc) (eL 44 _ rfl ⟨gk3, 28, none⟩ (load_one ((HF.out.box 1 _ _ _ rfl).cell 28 |>.trans (by kernel_rfl)) Try.und48 rfl)) ?_
  refine tK (.int .i64 ((m.cm.l : Nat) : Int)) ?_
  refine tW (.bool false) (eB .neq 3 _ _ _ rfl (.int .i64 ((m.cm.l : Nat) : Int)) (.int .i64 ((m.cm.l : Nat) : Int)) _ (by rw [b_neq, beq_self_eq_true]; rfl)) ?_
  refine tK (.bool false) ?_
  try simp only [pS]
  refine WL.nil ?_
  try simp only [pS]
  go_upto_region 5 with fail
  refine WL.start ?_
  refine tK (.int .i64 0) ?_
  try simp only [pS]
  refine WL.nil ?_
  try simp only [pS]
  go_wp2
  go_loopw [5] (fun v5 wr => ∃ i : Nat, v5 = .int .i64 ((i : Nat) : Int) ∧ i ≤ m.cm.l ∧ Hid (Fr No w wr [(gk1, 46, Mg.cells m), (gk3, 46, Mg.cells (likeM m sb se ke sl kl sc kc))])) (fun i _ => m.cm.l - (intOf i).toNat)
  case atStart => exact ⟨0, by go_num, by omega, HF⟩
  case round =>
    clear HF
    obtain ⟨i, rfl, hi, HF⟩ := hrel
    by_cases hlt : i < m.cm.l
    · skip
      obtain ⟨pb, po, hcx⟩ := Cs.at HC1.out.row (i := i) (by rw [LC.out]; exact hlt)
      have hca := hcx.1
      have hcc := hcx.2
      obtain ⟨qb, qo, hdx⟩ := Cs.at HC2.out.row (i := i) (by rw [LC.out]; exact hlt)
      have hda := hdx.1
      have hdd := hdx.2
      clear hcx hdx
      have hs1 : Hid (m.cm.v = .slice (some ⟨pb, po, none⟩) m.cm.l m.cm.k) := congrArg (fun a => Value.slice a m.cm.l m.cm.k) hca
      have hs2 : Hid (Value.slice sc m.cm.l kc = .slice (some ⟨qb, qo, none⟩) m.cm.l kc) := congrArg (fun a => Value.slice a m.cm.l kc) hda
      obtain ⟨x, hx⟩ : ∃ x, x = cAt cs i := ⟨_, rfl⟩
      rw [← hx] at hcc hdd
      have cp : Hid (∀ (j : Nat) v, (Cm.cs x)[j]? = some v → w.cell? ⟨pb, po + i * 9 + j, none⟩ = some v) := hcc
      have cq : Hid (∀ (j : Nat) v, (Cm.cs x)[j]? = some v → w.cell? ⟨qb, qo + i * 9 + j, none⟩ = some v) := hdd
      clear hcc hdd hx hca hda
      go_upto_region 6 with fail
      refine WL.start ?_
      refine tK (.int .i64 ((i : Nat) : Int)) ?_
      refine tK (.pointer (some ⟨gk1, 28, none⟩)) ?_
      refine tW (m.cm.v) (eL 44 _ rfl ⟨gk1, 28, none⟩ (load_one ((HF.out.box 0 _ _ _ rfl).cell 28 |>.trans (by kernel_rfl)) Try.und48 rfl)) ?_
      refine tK (.int .i64 ((m.cm.l : Nat) : Int)) ?_
      refine tW (.bool true) (eB .lss 3 _ _ _ rfl (.int .i64 ((i : Nat) : Int)) (.int .i64 ((m.cm.l : Nat) : Int)) _ (by rw [b_lss, decide_eq_true (by omega)])) ?_
      try simp only [pS]
      refine WL.nil ?_
      try simp only [pS]
      go_upto_region 8 with fail
      refine wp_region_held_drew (S := fun w' => Fr No w w' [(gk1, 46, Mg.cells m), (gk3, 46, Mg.cells (likeM m sb se ke sl kl sc kc))]) rfl (HF.out.drew) (fun hH => ?_)
      have HF : Hid (Fr No w (wr.drew) [(gk1, 46, Mg.cells m), (gk3, 46, Mg.cells (likeM m sb se ke sl kl sc kc))]) := HF.out.drew
      generalize wr.drew = wk6 at HF hH ⊢
      refine aT (i := 0) (oi := { dst := some 104, op := Op.fieldAddr 46 (Operand.tmp 2) 11, type := 0, pos := "same.go:35", after := #[], guard := none }) (v := .pointer (some ⟨gk1, 28, none⟩)) (fun _ _ => by kernel_rfl) hH ?_
      try simp only [pS]
      refine aT (i := 1) (oi := { dst := some 105, op := Op.load 44 (Operand.tmp 104), type := 44, pos := "same.go:35", after := #[{ on := 0, ground := Ground.data }], guard := none }) (v := m.cm.v) (fun w' hw => eL 44 _ rfl ⟨gk1, 28, none⟩ (load_one ((hw.box 0 _ _ _ rfl).cell 28 |>.trans (by kernel_rfl)) Try.und48 rfl)) hH ?_
      try simp only [pS]
      refine aT (i := 2) (oi := { dst := some 106, op := Op.move (Operand.tmp 5), type := 3, pos := "same.go:35", after := #[], guard := none }) (v := .int .i64 ((i : Nat) : Int)) (fun _ _ => by kernel_rfl) hH ?_
      try simp only [pS]
      refine aT (i := 3) (oi := { dst := some 107, op := Op.indexAddr 44 (Operand.tmp 105) (Operand.tmp 106), type := 0, pos := "same.go:35", after := #[{ on := 1, ground := Ground.data }, { on := 2, ground := Ground.data }], guard := none }) (v := .pointer (some ⟨pb, po + i * 9, none⟩)) (fun w' hw => exec_ixA 44 9 Try.und48e Try.size48e _ _ rfl pb po m.cm.l m.cm.k i (Eq.trans (b := m.cm.v) (by kernel_rfl) hs1.out) (by kernel_rfl) hlt) hH ?_
      try simp only [pS]
      refine aT (i := 4) (oi := { dst := some 108, op := Op.load 43 (Operand.tmp 107), type := 43, pos := "same.go:35", after := #[{ on := 3, ground := Ground.data }], guard := none }) (v := .agg (Cm.cells x)) (fun w' hw => eL 43 _ rfl ⟨pb, po + i * 9, none⟩ (load_Ca (fun j v hv => hw.kept.cell (cp.out j v hv) (fun e => e)))) hH ?_
      try simp only [pS]
      refine aT (i := 5) (oi := { dst := some 109, op := Op.fieldAddr 46 (Operand.tmp 3) 11, type := 0, pos := "same.go:35", after := #[], guard := none }) (v := .pointer (some ⟨gk3, 28, none⟩)) (fun _ _ => by kernel_rfl) hH ?_
      try simp only [pS]
      refine aT (i := 6) (oi := { dst := some 110, op := Op.load 44 (Operand.tmp 109), type := 44, pos := "same.go:35", after := #[{ on := 5, ground := Ground.data }], guard := none }) (v := .slice sc m.cm.l kc) (fun w' hw => eL 44 _ rfl ⟨gk3, 28, none⟩ (load_one ((hw.box 1 _ _ _ rfl).cell 28 |>.trans (by kernel_rfl)) Try.und48 rfl)) hH ?_
      try simp only [pS]
      refine aT (i := 7) (oi := { dst := some 111, op := Op.move (Operand.tmp 5), type := 3, pos := "same.go:35", after := #[], guard := none }) (v := .int .i64 ((i : Nat) : Int)) (fun _ _ => by kernel_rfl) hH ?_
      try simp only [pS]
      refine aT (i := 8) (oi := { dst := some 112, op := Op.indexAddr 44 (Operand.tmp 110) (Operand.tmp 111), type := 0, pos := "same.go:35", after := #[{ on := 6, ground := Ground.data }, { on := 7, ground := Ground.data }], guard := none }) (v := .pointer (some ⟨qb, qo + i * 9, none⟩)) (fun w' hw => exec_ixA 44 9 Try.und48e Try.size48e _ _ rfl qb qo m.cm.l kc i (Eq.trans (b := .slice sc m.cm.l kc) (by kernel_rfl) hs2.out) (by kernel_rfl) hlt) hH ?_
      try simp only [pS]
      refine aT (i := 9) (oi := { dst := some 113, op := Op.load 43 (Operand.tmp 112), type := 43, pos := "same.go:35", after := #[{ on := 8, ground := Ground.data }], guard := none }) (v := .agg (Cm.cells x)) (fun w' hw => eL 43 _ rfl ⟨qb, qo + i * 9, none⟩ (load_Ca (fun j v hv => hw.kept.cell (cq.out j v hv) (fun e => e)))) hH ?_
      try simp only [pS]
      refine aT (i := 10) (oi := { dst := some 114, op := Op.binOp BinOp.neq 43 (Operand.tmp 108) (Operand.tmp 113) 43, type := 4, pos := "same.go:35", after := #[{ on := 4, ground := Ground.data }, { on := 9, ground := Ground.data }], guard := none }) (v := .bool false) (fun w' hw => eB .neq 43 _ _ _ rfl (.agg (Cm.cells x)) (.agg (Cm.cells x)) _ (by rw [eqC_neq, eqC_refl]; rfl)) hH ?_
      try simp only [pS]
      refine wpAnyH_done (by kernel_rfl) ?_ _
      try simp only [pS]
      clear hH
      go_upto_region 7 with fail
      refine WL.start ?_
      refine tK (.int .i64 ((i : Nat) : Int)) ?_
      refine tW (.int .i64 (((i + 1) : Nat) : Int)) (eB .add 3 _ _ _ rfl (.int .i64 ((i : Nat) : Int)) (.int .i64 1) _ (b_addw _ _ _ (by rw [IntKind.wrap_i64]; omega) _)) ?_
      refine tK (.int .i64 (((i + 1) : Nat) : Int)) ?_
      try simp only [pS]
      refine WL.nil ?_
      try simp only [pS]
      go_wp2
      go_roundw
      case rel => exact ⟨i + 1, by go_num, by omega, HF⟩
      case measure => simp [intOf]; omega
    · skip
      go_upto_region 6 with fail
      refine WL.start ?_
      refine tK (.int .i64 ((i : Nat) : Int)) ?_
      refine tK (.pointer (some ⟨gk1, 28, none⟩)) ?_
      refine tW (m.cm.v) (eL 44 _ rfl ⟨gk1, 28, none⟩ (load_one ((HF.out.box 0 _ _ _ rfl).cell 28 |>.trans (by kernel_rfl)) Try.und48 rfl)) ?_
      refine tK (.int .i64 ((m.cm.l : Nat) : Int)) ?_
      refine tW (.bool false) (eB .lss 3 _ _ _ rfl (.int .i64 ((i : Nat) : Int)) (.int .i64 ((m.cm.l : Nat) : Int)) _ (by rw [b_lss, decide_eq_false (by omega)])) ?_
      try simp only [pS]
      refine WL.nil ?_
      try simp only [pS]
      go_upto_region 10 with fail
      refine WL.start ?_
      refine tK (.bool true) ?_
      try simp only [pS]
      refine WL.nil ?_
      try simp only [pS]
      go_wp2
      rw [HC.out]
      exact ⟨rfl, HF.out.kept⟩

end Go.Proofs.Ytcgnbpaaalmkoab
