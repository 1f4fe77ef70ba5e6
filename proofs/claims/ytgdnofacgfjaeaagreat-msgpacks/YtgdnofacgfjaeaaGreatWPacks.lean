import Derived.Test.YtgdnofacgfjaeaaGreatMe
import Derived.Test.YtgdnofacgfjaeaaGreatWiZx
namespace Go.Proofs.YtgdnofacgfjaeaaGreat.Md
open Go.RowKit
set_option linter.unusedVariables false
set_option linter.unusedSimpArgs false
set_option maxRecDepth 100000 in
set_option maxHeartbeats 4000000 in
theorem packsWalk (c : Cg) (xo xn xk : Sl) (zs : List Int) (xs : List Bl) (ns : List In) (ks : List Bv) (w : World) (hc : CgIn w c zs) (h1 : RdO w xo xs) (h2 : ∀ i, i < xo.l → ∃ bs, BlIn w (oAt xs i) bs) (h3 : RdN w xn ns) (h4 : RdK w xk ks) (h5 : ∀ i, i < xk.l → ∃ es ls, BkIn w (kAt ks i) es ls) (n1 : xo.l ≤ 281474976710656) (n2 : xn.l ≤ 281474976710656) (n3 : xk.l ≤ 281474976710656) : Calls Tryz.prog 6 #[.agg (Cg.cells c), xo.v, xn.v, xk.v] w (fun e w' => e = .returned (.bool true) ∧ Kept No w w') := by
  refine hidC fun C HC => ?_
  have HCg : Hid (CgIn w c zs) := hc
  have HO : Hid (RdO w xo xs) := h1
  have HOI : Hid (∀ i, i < xo.l → ∃ bs, BlIn w (oAt xs i) bs) := h2
  have HN : Hid (RdN w xn ns) := h3
  have HK : Hid (RdK w xk ks) := h4
  have HKI : Hid (∀ i, i < xk.l → ∃ es ls, BkIn w (kAt ks i) es ls) := h5
  clear hc h1 h2 h3 h4 h5
  have HF : Hid (Fq No w w []) := Fq.start _ _
  go_enter Tryz.func6, Tryz.ntmps6
  go_upto_region 0 with fail
  refine WL.start <| xB (Cg.cells c) HF fun g1 w2 HF => tK (.bool false) <| WL.nil <| ?_
  try simp only [pS]
  go_upto_region 1 with fail
  refine WL.start <| lP (Cg.cs c) HF 0 0 U24 S24 (Cg.cs c) rfl <| cJ (lendC c zs _ (HCg.out.r.no HF.out.kept) HCg.out.n) HF fun g3 w4 HF => xA (Cg.cells cgZ) Z24 HF fun g5 w6 HF => sB (Cg.cs (lnC c g3)) (Cg.cs (lnC c g3)) HF 2 0 (v := .agg (Cg.cells (lnC c g3))) rfl S24 (Cg.oneL _) (Cg.cs cgZ) rfl fun w7 HF => WL.nil <| ?_
  try simp only [pS]
  go_upto_region 2 with fail
  refine WL.start <| tK (.int .i64 0) <| WL.nil <| ?_
  try simp only [pS]
  go_wp2
  go_loopw [10] (fun v10 wr => ∃ i : Nat, v10 = .int .i64 ((i : Nat) : Int) ∧ i ≤ xo.l ∧ Hid (Fq No w wr [(g1, 24, Cg.cells c), (g3, 3, (i64L (zs ++ [-77])).toArray), (g5, 24, Cg.cells (lnC c g3))])) (fun v10 _ => xo.l - (intOf v10).toNat)
  case atStart => exact ⟨0, by go_num, by omega, HF⟩
  case round =>
    clear HF
    obtain ⟨i, rfl, hi, HF⟩ := hrel
    by_cases hlt : i < xo.l
    ·skip
     obtain ⟨b, off, hsl, hc⟩ := RdO.at' HO.out (i := i) (by omega)
     obtain ⟨bs, hmi⟩ := HOI.out i hlt
     have HI : Hid (BlIn w (oAt xs i) bs) := hmi
     clear hmi
     go_upto_region 3 with fail
     refine WL.start <| tK (.int .i64 ((i : Nat) : Int)) <| tK (xo.v) <| tK (.int .i64 ((xo.l : Nat) : Int)) <| bN (lI (a := ((i : Nat) : Int)) (b := ((xo.l : Nat) : Int)) (decide_eq_true (by omega))) <| WL.nil <| ?_
     try simp only [pS]
     go_upto_region 5 with fail
     refine wp_region_held_drew (S := fun w' => Hid (Fq No w w' [(g1, 24, Cg.cells c), (g3, 3, (i64L (zs ++ [-77])).toArray), (g5, 24, Cg.cells (lnC c g3))])) rfl (show Hid _ from HF.out.drew) (fun hH => ?_)
     replace HF : Hid (Fq No w wr.drew [(g1, 24, Cg.cells c), (g3, 3, (i64L (zs ++ [-77])).toArray), (g5, 24, Cg.cells (lnC c g3))]) := hH
     clear hH
     generalize wr.drew = w8 at HF ⊢
     have HG : Hid (Fq No w w8 ([(g1, 24, Cg.cells c), (g3, 3, (i64L (zs ++ [-77])).toArray), (g5, 24, Cg.cells (lnC c g3))] ++ [])) := by rw [List.append_nil]; exact HF
     refine yK 0 35 HF (xo.v) <| yK 1 36 HF (.int .i64 ((i : Nat) : Int)) <| yT 2 37 HF (zI (s := xo) (i := i) hsl E70 F70 (by omega)) <| yK 3 38 HF (.pointer (some ⟨b, off + i * 3, none⟩)) <| yT 4 39 HF (zL fun w HF => (load_sub (b := b) (off := off + i * 3) (sub := Sp.cs ((oAt xs i).s)) (fun j v h => HF.out.kept.cell (hc j v (bl_sp h)) (fun e => e)) U34 rfl S34)) <| yK 5 40 HF (xo.v) <| yK 6 41 HF (.int .i64 ((i : Nat) : Int)) <| yT 7 42 HF (zI (s := xo) (i := i) hsl E70 F70 (by omega)) <| ?_
     try simp only [pS]
     refine yK 8 43 HF (.pointer (some ⟨b, off + i * 3 + 2, none⟩)) <| yT 9 44 HF (zL fun w HF => (load_one (HF.out.kept.cell (hc 2 _ rfl) (fun e => e)) U35 rfl)) <| ?_
     try simp only [pS]
     refine y2 10 12 ?_ ?_
     ·skip
      refine eJ 10 45 (lendB (oAt xs i).d bs _ (HI.out.b.no HF.out.kept) HI.out.nb) HG fun g9 w10 HG HF => ?_
      try simp only [pS]
      have HG : Hid (Fq No w w10 ([(g1, 24, Cg.cells c), (g3, 3, (i64L (zs ++ [-77])).toArray), (g5, 24, Cg.cells (lnC c g3))] ++ [(g9, 5, (u8L (bs ++ mk3 3)).toArray)])) := HG
      refine yT 11 46 HF (zU 73 (Bl.cells (lnBl (oAt xs i) g9))) <| ?_
      try simp only [pS]
      refine y1 12 ?_
      refine eA 12 11 (Bl.cells blZ) Z73 HG fun g11 w12 HG HF => ?_
      try simp only [pS]
      have HG : Hid (Fq No w w12 ([(g1, 24, Cg.cells c), (g3, 3, (i64L (zs ++ [-77])).toArray), (g5, 24, Cg.cells (lnC c g3))] ++ [(g9, 5, (u8L (bs ++ mk3 3)).toArray), (g11, 73, Bl.cells blZ)])) := HG
      refine yW 13 [(g1, 24, Cg.cells c), (g3, 3, (i64L (zs ++ [-77])).toArray), (g5, 24, Cg.cells (lnC c g3))] [(g9, 5, (u8L (bs ++ mk3 3)).toArray), (g11, 73, Bl.cells blZ)] HG 1 0 (Bl.cs blZ) (Bl.cs (lnBl (oAt xs i) g9)) (Bl.cs (lnBl (oAt xs i) g9)) rfl (v := .agg (Bl.cells (lnBl (oAt xs i) g9))) rfl S73 (Bl.oneL _) fun w13 HG => ?_
      try simp only [pS]
      have HG : Hid (Fq No w w13 [(g1, 24, Cg.cells c), (g3, 3, (i64L (zs ++ [-77])).toArray), (g5, 24, Cg.cells (lnC c g3)), (g9, 5, (u8L (bs ++ mk3 3)).toArray), (g11, 73, Bl.cells (lnBl (oAt xs i) g9))]) := HG
      refine wpAnyH_done (by kernel_rfl) ?_ _
      try simp only [pS]
      have HF : Hid (Fq No w w13 [(g1, 24, Cg.cells c), (g3, 3, (i64L (zs ++ [-77])).toArray), (g5, 24, Cg.cells (lnC c g3)), (g9, 5, (u8L (bs ++ mk3 3)).toArray), (g11, 73, Bl.cells (lnBl (oAt xs i) g9))]) := HG
      clear HG
      go_upto_region 6 with fail
      refine WL.start <| lP (Bl.cs (lnBl (oAt xs i) g9)) HF 4 0 U73 S73 (Bl.cs (lnBl (oAt xs i) g9)) rfl <| lP (Cg.cs (lnC c g3)) HF 2 0 U24 S24 (Cg.cs (lnC c g3)) rfl <| cEn (p_PkBL (oAt xs i) bs c zs g9 g3 _ (CgIn.lent (HF.out.box 1 _ _ _ rfl) HCg.out.r.len HCg.out.n) (HI.out.lent (HF.out.box 3 _ _ _ rfl))) HF fun s14 w15 HF HRa hsa => tK (.tuple #[s14.v, .int .i64 (jdg (cfgP c zs) (blkB c.bl (oAt xs i) bs) 1)]) <| tK (s14.v) <| tK (.int .i64 (jdg (cfgP c zs) (blkB c.bl (oAt xs i) bs) 1)) <| tK (s14.v) <| tK (.int .i64 (jdg (cfgP c zs) (blkB c.bl (oAt xs i) bs) 1)) <| WL.nil <| ?_
      try simp only [pS]
      go_upto_region 7 with fail
      replace HRa : Hid _ := HRa.out.no (Kept.refl No _).drew
      refine wp_region_held_drew (S := fun w' => Hid (Fq No w w' [(g1, 24, Cg.cells c), (g3, 3, (i64L (zs ++ [-77])).toArray), (g5, 24, Cg.cells (lnC c g3)), (g9, 5, (u8L (bs ++ mk3 3)).toArray), (g11, 73, Bl.cells (lnBl (oAt xs i) g9))])) rfl (show Hid _ from HF.out.drew) (fun hH => ?_)
      replace HF : Hid (Fq No w w15.drew [(g1, 24, Cg.cells c), (g3, 3, (i64L (zs ++ [-77])).toArray), (g5, 24, Cg.cells (lnC c g3)), (g9, 5, (u8L (bs ++ mk3 3)).toArray), (g11, 73, Bl.cells (lnBl (oAt xs i) g9))]) := hH
      clear hH
      generalize w15.drew = w16 at HF HRa ⊢
      refine yK 0 54 HF (xo.v) <| yK 1 55 HF (.int .i64 ((i : Nat) : Int)) <| yT 2 56 HF (zI (s := xo) (i := i) hsl E70 F70 (by omega)) <| yT 3 57 HF (zL fun w HF => (load_O (fun j v h => HF.out.kept.cell (hc j v h) (fun e => e)))) <| yT 4 58 HF (zP (Cg.cs c) 0 0 U24 S24 (Cg.cs c) rfl) <| yE 5 59 (r_PkB (oAt xs i) bs c zs _ (HCg.out.no HF.out.kept) (HI.out.no HF.out.kept)) HF fun s17 w18 HF hkk HRb hsb => ?_
      try simp only [pS]
      replace HRa : Hid _ := HRa.out.no hkk.out
      clear hkk
      refine yK 6 53 HF (.tuple #[s17.v, .int .i64 (jdg (cfgP c zs) (blkB c.bl (oAt xs i) bs) 1)]) <| yK 7 60 HF (s17.v) <| yK 8 61 HF (.int .i64 (jdg (cfgP c zs) (blkB c.bl (oAt xs i) bs) 1)) <| yK 9 14 HF (s17.v) <| yK 10 15 HF (.int .i64 (jdg (cfgP c zs) (blkB c.bl (oAt xs i) bs) 1)) <| ?_
      try simp only [pS]
      refine wpAnyH_done (by kernel_rfl) ?_ _
      try simp only [pS]
      go_upto_region 8 with fail
      replace HRa : Hid _ := HRa.out.no (Kept.refl No _).drew
      replace HRb : Hid _ := HRb.out.no (Kept.refl No _).drew
      refine wp_region_held_drew (S := fun w' => Hid (Fq No w w' [(g1, 24, Cg.cells c), (g3, 3, (i64L (zs ++ [-77])).toArray), (g5, 24, Cg.cells (lnC c g3)), (g9, 5, (u8L (bs ++ mk3 3)).toArray), (g11, 73, Bl.cells (lnBl (oAt xs i) g9))])) rfl (show Hid _ from HF.out.drew) (fun hH => ?_)
      replace HF : Hid (Fq No w w18.drew [(g1, 24, Cg.cells c), (g3, 3, (i64L (zs ++ [-77])).toArray), (g5, 24, Cg.cells (lnC c g3)), (g9, 5, (u8L (bs ++ mk3 3)).toArray), (g11, 73, Bl.cells (lnBl (oAt xs i) g9))]) := hH
      clear hH
      generalize w18.drew = w19 at HF HRa HRb ⊢
      refine yK 0 62 HF (.int .i64 (jdg (cfgP c zs) (blkB c.bl (oAt xs i) bs) 1)) <| yK 1 63 HF (.int .i64 (jdg (cfgP c zs) (blkB c.bl (oAt xs i) bs) 1)) <| yT 2 64 HF (zN (nI1 (beq_self_eq_true ((jdg (cfgP c zs) (blkB c.bl (oAt xs i) bs) 1))))) <| yK 3 65 HF (.bool false) <| yK 4 66 HF (s14.v) <| yK 5 67 HF (s17.v) <| yC 6 68 (sameB s14 s17 (encR (cfgP c zs && blkB c.bl (oAt xs i) bs) (blkIts (oAt xs i) bs)) _ HRa.out HRb.out (by omega)) rfl HF fun w20 HF => yK 7 69 HF (.bool false) <| ?_
      try simp only [pS]
      refine yK 8 70 HF (.bool false) <| yK 9 71 HF (.bool false) <| yK 10 72 HF (pg g11 2) <| yT 11 73 HF (v := .slice (some ⟨g9, 0, none⟩) ((oAt xs i).d.l) ((oAt xs i).d.l + 3)) (zD 4 2 U35 rfl) <| yK 12 74 HF (xo.v) <| yK 13 75 HF (.int .i64 ((i : Nat) : Int)) <| yT 14 76 HF (zI (s := xo) (i := i) hsl E70 F70 (by omega)) <| yK 15 77 HF (.pointer (some ⟨b, off + i * 3 + 2, none⟩)) <| ?_
      try simp only [pS]
      refine yT 16 78 HF (zL fun w HF => (load_one (HF.out.kept.cell (hc 2 _ rfl) (fun e => e)) U35 rfl)) <| yC 17 79 (keptB (oAt xs i).d g9 bs _ (HI.out.b.no HF.out.kept) (HF.out.box 3 _ _ _ rfl) HI.out.nb) rfl HF fun w21 HF => yK 18 80 HF (.bool false) <| yK 19 81 HF (.bool false) <| ?_
      try simp only [pS]
      refine wpAnyH_done (by kernel_rfl) ?_ _
      try simp only [pS]
      go_upto_region 4 with fail
      refine WL.start <| tK (.int .i64 ((i : Nat) : Int)) <| bN (v := .int .i64 (((i + 1) : Nat) : Int)) (b_addw ((i : Nat) : Int) 1 (((i + 1) : Nat) : Int) (by rw [IntKind.wrap_i64]; omega)) <| tK (.int .i64 (((i + 1) : Nat) : Int)) <| WL.nil <| ?_
      try simp only [pS]
      go_wp2
      go_roundw
      case rel => exact ⟨i + 1, by go_num, by omega, Fq.front (l := [(g1, 24, Cg.cells c), (g3, 3, (i64L (zs ++ [-77])).toArray), (g5, 24, Cg.cells (lnC c g3))]) (m := [(g9, 5, (u8L (bs ++ mk3 3)).toArray), (g11, 73, Bl.cells (lnBl (oAt xs i) g9))]) HF⟩
      case measure => simp [intOf]; omega
     ·skip
      refine eA 12 11 (Bl.cells blZ) Z73 HG fun g22 w23 HG HF => ?_
      try simp only [pS]
      have HG : Hid (Fq No w w23 ([(g1, 24, Cg.cells c), (g3, 3, (i64L (zs ++ [-77])).toArray), (g5, 24, Cg.cells (lnC c g3))] ++ [(g22, 73, Bl.cells blZ)])) := HG
      refine y1 10 ?_
      refine eJ 10 45 (lendB (oAt xs i).d bs _ (HI.out.b.no HF.out.kept) HI.out.nb) HG fun g24 w25 HG HF => ?_
      try simp only [pS]
      have HG : Hid (Fq No w w25 ([(g1, 24, Cg.cells c), (g3, 3, (i64L (zs ++ [-77])).toArray), (g5, 24, Cg.cells (lnC c g3))] ++ [(g22, 73, Bl.cells blZ), (g24, 5, (u8L (bs ++ mk3 3)).toArray)])) := HG
      refine yT 11 46 HF (zU 73 (Bl.cells (lnBl (oAt xs i) g24))) <| ?_
      try simp only [pS]
      refine yW 13 [(g1, 24, Cg.cells c), (g3, 3, (i64L (zs ++ [-77])).toArray), (g5, 24, Cg.cells (lnC c g3))] [(g22, 73, Bl.cells blZ), (g24, 5, (u8L (bs ++ mk3 3)).toArray)] HG 0 0 (Bl.cs blZ) (Bl.cs (lnBl (oAt xs i) g24)) (Bl.cs (lnBl (oAt xs i) g24)) rfl (v := .agg (Bl.cells (lnBl (oAt xs i) g24))) rfl S73 (Bl.oneL _) fun w26 HG => ?_
      try simp only [pS]
      have HG : Hid (Fq No w w26 [(g1, 24, Cg.cells c), (g3, 3, (i64L (zs ++ [-77])).toArray), (g5, 24, Cg.cells (lnC c g3)), (g22, 73, Bl.cells (lnBl (oAt xs i) g24)), (g24, 5, (u8L (bs ++ mk3 3)).toArray)]) := HG
      refine wpAnyH_done (by kernel_rfl) ?_ _
      try simp only [pS]
      have HF : Hid (Fq No w w26 [(g1, 24, Cg.cells c), (g3, 3, (i64L (zs ++ [-77])).toArray), (g5, 24, Cg.cells (lnC c g3)), (g22, 73, Bl.cells (lnBl (oAt xs i) g24)), (g24, 5, (u8L (bs ++ mk3 3)).toArray)]) := HG
      clear HG
      go_upto_region 6 with fail
      refine WL.start <| lP (Bl.cs (lnBl (oAt xs i) g24)) HF 3 0 U73 S73 (Bl.cs (lnBl (oAt xs i) g24)) rfl <| lP (Cg.cs (lnC c g3)) HF 2 0 U24 S24 (Cg.cs (lnC c g3)) rfl <| cEn (p_PkBL (oAt xs i) bs c zs g24 g3 _ (CgIn.lent (HF.out.box 1 _ _ _ rfl) HCg.out.r.len HCg.out.n) (HI.out.lent (HF.out.box 4 _ _ _ rfl))) HF fun s27 w28 HF HRa hsa => tK (.tuple #[s27.v, .int .i64 (jdg (cfgP c zs) (blkB c.bl (oAt xs i) bs) 1)]) <| tK (s27.v) <| tK (.int .i64 (jdg (cfgP c zs) (blkB c.bl (oAt xs i) bs) 1)) <| tK (s27.v) <| tK (.int .i64 (jdg (cfgP c zs) (blkB c.bl (oAt xs i) bs) 1)) <| WL.nil <| ?_
      try simp only [pS]
      go_upto_region 7 with fail
      replace HRa : Hid _ := HRa.out.no (Kept.refl No _).drew
      refine wp_region_held_drew (S := fun w' => Hid (Fq No w w' [(g1, 24, Cg.cells c), (g3, 3, (i64L (zs ++ [-77])).toArray), (g5, 24, Cg.cells (lnC c g3)), (g22, 73, Bl.cells (lnBl (oAt xs i) g24)), (g24, 5, (u8L (bs ++ mk3 3)).toArray)])) rfl (show Hid _ from HF.out.drew) (fun hH => ?_)
      replace HF : Hid (Fq No w w28.drew [(g1, 24, Cg.cells c), (g3, 3, (i64L (zs ++ [-77])).toArray), (g5, 24, Cg.cells (lnC c g3)), (g22, 73, Bl.cells (lnBl (oAt xs i) g24)), (g24, 5, (u8L (bs ++ mk3 3)).toArray)]) := hH
      clear hH
      generalize w28.drew = w29 at HF HRa ⊢
      refine yK 0 54 HF (xo.v) <| yK 1 55 HF (.int .i64 ((i : Nat) : Int)) <| yT 2 56 HF (zI (s := xo) (i := i) hsl E70 F70 (by omega)) <| yT 3 57 HF (zL fun w HF => (load_O (fun j v h => HF.out.kept.cell (hc j v h) (fun e => e)))) <| yT 4 58 HF (zP (Cg.cs c) 0 0 U24 S24 (Cg.cs c) rfl) <| yE 5 59 (r_PkB (oAt xs i) bs c zs _ (HCg.out.no HF.out.kept) (HI.out.no HF.out.kept)) HF fun s30 w31 HF hkk HRb hsb => ?_
      try simp only [pS]
      replace HRa : Hid _ := HRa.out.no hkk.out
      clear hkk
      refine yK 6 53 HF (.tuple #[s30.v, .int .i64 (jdg (cfgP c zs) (blkB c.bl (oAt xs i) bs) 1)]) <| yK 7 60 HF (s30.v) <| yK 8 61 HF (.int .i64 (jdg (cfgP c zs) (blkB c.bl (oAt xs i) bs) 1)) <| yK 9 14 HF (s30.v) <| yK 10 15 HF (.int .i64 (jdg (cfgP c zs) (blkB c.bl (oAt xs i) bs) 1)) <| ?_
      try simp only [pS]
      refine wpAnyH_done (by kernel_rfl) ?_ _
      try simp only [pS]
      go_upto_region 8 with fail
      replace HRa : Hid _ := HRa.out.no (Kept.refl No _).drew
      replace HRb : Hid _ := HRb.out.no (Kept.refl No _).drew
      refine wp_region_held_drew (S := fun w' => Hid (Fq No w w' [(g1, 24, Cg.cells c), (g3, 3, (i64L (zs ++ [-77])).toArray), (g5, 24, Cg.cells (lnC c g3)), (g22, 73, Bl.cells (lnBl (oAt xs i) g24)), (g24, 5, (u8L (bs ++ mk3 3)).toArray)])) rfl (show Hid _ from HF.out.drew) (fun hH => ?_)
      replace HF : Hid (Fq No w w31.drew [(g1, 24, Cg.cells c), (g3, 3, (i64L (zs ++ [-77])).toArray), (g5, 24, Cg.cells (lnC c g3)), (g22, 73, Bl.cells (lnBl (oAt xs i) g24)), (g24, 5, (u8L (bs ++ mk3 3)).toArray)]) := hH
      clear hH
      generalize w31.drew = w32 at HF HRa HRb ⊢
      refine yK 0 62 HF (.int .i64 (jdg (cfgP c zs) (blkB c.bl (oAt xs i) bs) 1)) <| yK 1 63 HF (.int .i64 (jdg (cfgP c zs) (blkB c.bl (oAt xs i) bs) 1)) <| yT 2 64 HF (zN (nI1 (beq_self_eq_true ((jdg (cfgP c zs) (blkB c.bl (oAt xs i) bs) 1))))) <| yK 3 65 HF (.bool false) <| yK 4 66 HF (s27.v) <| yK 5 67 HF (s30.v) <| yC 6 68 (sameB s27 s30 (encR (cfgP c zs && blkB c.bl (oAt xs i) bs) (blkIts (oAt xs i) bs)) _ HRa.out HRb.out (by omega)) rfl HF fun w33 HF => yK 7 69 HF (.bool false) <| ?_
      try simp only [pS]
      refine yK 8 70 HF (.bool false) <| yK 9 71 HF (.bool false) <| yK 10 72 HF (pg g22 2) <| yT 11 73 HF (v := .slice (some ⟨g24, 0, none⟩) ((oAt xs i).d.l) ((oAt xs i).d.l + 3)) (zD 3 2 U35 rfl) <| yK 12 74 HF (xo.v) <| yK 13 75 HF (.int .i64 ((i : Nat) : Int)) <| yT 14 76 HF (zI (s := xo) (i := i) hsl E70 F70 (by omega)) <| yK 15 77 HF (.pointer (some ⟨b, off + i * 3 + 2, none⟩)) <| ?_
      try simp only [pS]
      refine yT 16 78 HF (zL fun w HF => (load_one (HF.out.kept.cell (hc 2 _ rfl) (fun e => e)) U35 rfl)) <| yC 17 79 (keptB (oAt xs i).d g24 bs _ (HI.out.b.no HF.out.kept) (HF.out.box 4 _ _ _ rfl) HI.out.nb) rfl HF fun w34 HF => yK 18 80 HF (.bool false) <| yK 19 81 HF (.bool false) <| ?_
      try simp only [pS]
      refine wpAnyH_done (by kernel_rfl) ?_ _
      try simp only [pS]
      go_upto_region 4 with fail
      refine WL.start <| tK (.int .i64 ((i : Nat) : Int)) <| bN (v := .int .i64 (((i + 1) : Nat) : Int)) (b_addw ((i : Nat) : Int) 1 (((i + 1) : Nat) : Int) (by rw [IntKind.wrap_i64]; omega)) <| tK (.int .i64 (((i + 1) : Nat) : Int)) <| WL.nil <| ?_
      try simp only [pS]
      go_wp2
      go_roundw
      case rel => exact ⟨i + 1, by go_num, by omega, Fq.front (l := [(g1, 24, Cg.cells c), (g3, 3, (i64L (zs ++ [-77])).toArray), (g5, 24, Cg.cells (lnC c g3))]) (m := [(g22, 73, Bl.cells (lnBl (oAt xs i) g24)), (g24, 5, (u8L (bs ++ mk3 3)).toArray)]) HF⟩
      case measure => simp [intOf]; omega
    ·skip
     go_upto_region 3 with fail
     refine WL.start <| tK (.int .i64 ((i : Nat) : Int)) <| tK (xo.v) <| tK (.int .i64 ((xo.l : Nat) : Int)) <| bN (lI (a := ((i : Nat) : Int)) (b := ((xo.l : Nat) : Int)) (decide_eq_false (by omega))) <| WL.nil <| ?_
     try simp only [pS]
     go_upto_region 10 with fail
     refine WL.start <| tK (.int .i64 0) <| WL.nil <| ?_
     try simp only [pS]
     go_wp2
     go_loopw [16] (fun v16 wr => ∃ i : Nat, v16 = .int .i64 ((i : Nat) : Int) ∧ i ≤ xn.l ∧ Hid (Fq No w wr [(g1, 24, Cg.cells c), (g3, 3, (i64L (zs ++ [-77])).toArray), (g5, 24, Cg.cells (lnC c g3))])) (fun v16 _ => xn.l - (intOf v16).toNat)
     case atStart => exact ⟨0, by go_num, by omega, HF⟩
     case round =>
       clear HF
       obtain ⟨i, rfl, hi, HF⟩ := hrel
       by_cases hlt : i < xn.l
       ·skip
        obtain ⟨b, off, hsl, hc⟩ := RdN.at' HN.out (i := i) (by omega)
        have HI : Hid (InIn w (nAt ns i)) := ⟨rfl⟩
        go_upto_region 11 with fail
        refine WL.start <| tK (.int .i64 ((i : Nat) : Int)) <| tK (xn.v) <| tK (.int .i64 ((xn.l : Nat) : Int)) <| bN (lI (a := ((i : Nat) : Int)) (b := ((xn.l : Nat) : Int)) (decide_eq_true (by omega))) <| WL.nil <| ?_
        try simp only [pS]
        go_upto_region 13 with fail
        refine wp_region_held_drew (S := fun w' => Hid (Fq No w w' [(g1, 24, Cg.cells c), (g3, 3, (i64L (zs ++ [-77])).toArray), (g5, 24, Cg.cells (lnC c g3))])) rfl (show Hid _ from HF.out.drew) (fun hH => ?_)
        replace HF : Hid (Fq No w wr.drew [(g1, 24, Cg.cells c), (g3, 3, (i64L (zs ++ [-77])).toArray), (g5, 24, Cg.cells (lnC c g3))]) := hH
        clear hH
        generalize wr.drew = w35 at HF ⊢
        refine yK 0 89 HF (xn.v) <| yK 1 90 HF (.int .i64 ((i : Nat) : Int)) <| yT 2 91 HF (zI (s := xn) (i := i) hsl E71 F71 (by omega)) <| yT 3 92 HF (zL fun w HF => (load_N (fun j v h => HF.out.kept.cell (hc j v h) (fun e => e)))) <| yT 4 93 HF (zP (Cg.cs (lnC c g3)) 2 0 U24 S24 (Cg.cs (lnC c g3)) rfl) <| yE 5 94 (p_PkIL (nAt ns i) c zs g3 _ (CgIn.lent (HF.out.box 1 _ _ _ rfl) HCg.out.r.len HCg.out.n)) HF fun s36 w37 HF hkk HRa hsa => ?_
        try simp only [pS]
        clear hkk
        refine yK 6 88 HF (.tuple #[s36.v, .int .i64 (jdg (cfgP c zs) (insP c.bl (nAt ns i)) 1)]) <| yK 7 95 HF (s36.v) <| yK 8 96 HF (.int .i64 (jdg (cfgP c zs) (insP c.bl (nAt ns i)) 1)) <| yK 9 17 HF (s36.v) <| yK 10 18 HF (.int .i64 (jdg (cfgP c zs) (insP c.bl (nAt ns i)) 1)) <| ?_
        try simp only [pS]
        refine wpAnyH_done (by kernel_rfl) ?_ _
        try simp only [pS]
        go_upto_region 14 with fail
        replace HRa : Hid _ := HRa.out.no (Kept.refl No _).drew
        refine wp_region_held_drew (S := fun w' => Hid (Fq No w w' [(g1, 24, Cg.cells c), (g3, 3, (i64L (zs ++ [-77])).toArray), (g5, 24, Cg.cells (lnC c g3))])) rfl (show Hid _ from HF.out.drew) (fun hH => ?_)
        replace HF : Hid (Fq No w w37.drew [(g1, 24, Cg.cells c), (g3, 3, (i64L (zs ++ [-77])).toArray), (g5, 24, Cg.cells (lnC c g3))]) := hH
        clear hH
        generalize w37.drew = w38 at HF HRa ⊢
        refine yK 0 98 HF (xn.v) <| yK 1 99 HF (.int .i64 ((i : Nat) : Int)) <| yT 2 100 HF (zI (s := xn) (i := i) hsl E71 F71 (by omega)) <| yT 3 101 HF (zL fun w HF => (load_N (fun j v h => HF.out.kept.cell (hc j v h) (fun e => e)))) <| yT 4 102 HF (zP (Cg.cs c) 0 0 U24 S24 (Cg.cs c) rfl) <| yE 5 103 (r_PkI (nAt ns i) c zs _ (HCg.out.no HF.out.kept) ⟨rfl⟩) HF fun s39 w40 HF hkk HRb hsb => ?_
        try simp only [pS]
        replace HRa : Hid _ := HRa.out.no hkk.out
        clear hkk
        refine yK 6 97 HF (.tuple #[s39.v, .int .i64 (jdg (cfgP c zs) (insP c.bl (nAt ns i)) 1)]) <| yK 7 104 HF (s39.v) <| yK 8 105 HF (.int .i64 (jdg (cfgP c zs) (insP c.bl (nAt ns i)) 1)) <| yK 9 19 HF (s39.v) <| yK 10 20 HF (.int .i64 (jdg (cfgP c zs) (insP c.bl (nAt ns i)) 1)) <| ?_
        try simp only [pS]
        refine wpAnyH_done (by kernel_rfl) ?_ _
        try simp only [pS]
        go_upto_region 15 with fail
        refine WL.start <| tK (.int .i64 (jdg (cfgP c zs) (insP c.bl (nAt ns i)) 1)) <| tK (.int .i64 (jdg (cfgP c zs) (insP c.bl (nAt ns i)) 1)) <| bN (nI1 (beq_self_eq_true ((jdg (cfgP c zs) (insP c.bl (nAt ns i)) 1)))) <| tK (.bool false) <| tK (s36.v) <| tK (s39.v) <| cB (sameB s36 s39 (encR (cfgP c zs && insP c.bl (nAt ns i)) (insIts (nAt ns i))) _ HRa.out HRb.out (by omega)) rfl HF fun w41 HF => tK (.bool false) <| tK (.bool false) <| WL.nil <| ?_
        try simp only [pS]
        go_upto_region 12 with fail
        refine WL.start <| tK (.int .i64 ((i : Nat) : Int)) <| bN (v := .int .i64 (((i + 1) : Nat) : Int)) (b_addw ((i : Nat) : Int) 1 (((i + 1) : Nat) : Int) (by rw [IntKind.wrap_i64]; omega)) <| tK (.int .i64 (((i + 1) : Nat) : Int)) <| WL.nil <| ?_
        try simp only [pS]
        go_wp2
        go_roundw
        case rel => exact ⟨i + 1, by go_num, by omega, HF⟩
        case measure => simp [intOf]; omega
       ·skip
        go_upto_region 11 with fail
        refine WL.start <| tK (.int .i64 ((i : Nat) : Int)) <| tK (xn.v) <| tK (.int .i64 ((xn.l : Nat) : Int)) <| bN (lI (a := ((i : Nat) : Int)) (b := ((xn.l : Nat) : Int)) (decide_eq_false (by omega))) <| WL.nil <| ?_
        try simp only [pS]
        go_upto_region 17 with fail
        refine WL.start <| tK (.int .i64 0) <| WL.nil <| ?_
        try simp only [pS]
        go_wp2
        go_loopw [21] (fun v21 wr => ∃ i : Nat, v21 = .int .i64 ((i : Nat) : Int) ∧ i ≤ xk.l ∧ Hid (Fq No w wr [(g1, 24, Cg.cells c), (g3, 3, (i64L (zs ++ [-77])).toArray), (g5, 24, Cg.cells (lnC c g3))])) (fun v21 _ => xk.l - (intOf v21).toNat)
        case atStart => exact ⟨0, by go_num, by omega, HF⟩
        case round =>
          clear HF
          obtain ⟨i, rfl, hi, HF⟩ := hrel
          by_cases hlt : i < xk.l
          ·skip
           obtain ⟨b, off, hsl, hc⟩ := RdK.at' HK.out (i := i) (by omega)
           obtain ⟨es, ls, hmi⟩ := HKI.out i hlt
           have HI : Hid (BkIn w (kAt ks i) es ls) := hmi
           clear hmi
           go_upto_region 18 with fail
           refine WL.start <| tK (.int .i64 ((i : Nat) : Int)) <| tK (xk.v) <| tK (.int .i64 ((xk.l : Nat) : Int)) <| bN (lI (a := ((i : Nat) : Int)) (b := ((xk.l : Nat) : Int)) (decide_eq_true (by omega))) <| WL.nil <| ?_
           try simp only [pS]
           go_upto_region 20 with fail
           refine WL.start <| tK (xk.v) <| tK (.int .i64 ((i : Nat) : Int)) <| iS (s := xk) (i := i) hsl E27 F27 (by omega) <| lR (load_K (fun j v h => HF.out.kept.cell (hc j v h) (fun e => e))) <| cJ2 (lendK (kAt ks i) es ls _ (HI.out.e.no HF.out.kept) (HI.out.l.no HF.out.kept) HI.out.ne HI.out.nl) HF fun g42 g43 w44 HF => xA (Bv.cells bvZ) Z43 HF fun g45 w46 HF => sB (Bv.cs (lnB (kAt ks i) g42 g43)) (Bv.cs (lnB (kAt ks i) g42 g43)) HF 5 0 (v := .agg (Bv.cells (lnB (kAt ks i) g42 g43))) rfl S43 (Bv.oneL _) (Bv.cs bvZ) rfl fun w47 HF => WL.nil <| ?_
           try simp only [pS]
           go_upto_region 21 with fail
           refine WL.start <| lP (Bv.cs (lnB (kAt ks i) g42 g43)) HF 5 0 U43 S43 (Bv.cs (lnB (kAt ks i) g42 g43)) rfl <| lP (Cg.cs (lnC c g3)) HF 2 0 U24 S24 (Cg.cs (lnC c g3)) rfl <| cEn (p_PkKL (kAt ks i) es ls c zs g42 g43 g3 _ (CgIn.lent (HF.out.box 1 _ _ _ rfl) HCg.out.r.len HCg.out.n) (HI.out.lent (HF.out.box 3 _ _ _ rfl) (HF.out.box 4 _ _ _ rfl))) HF fun s48 w49 HF HRa hsa => tK (.tuple #[s48.v, .int .i64 (jdg (cfgP c zs) (bktP c.bl c.rm (kAt ks i) es ls) 1)]) <| tK (s48.v) <| tK (.int .i64 (jdg (cfgP c zs) (bktP c.bl c.rm (kAt ks i) es ls) 1)) <| tK (s48.v) <| tK (.int .i64 (jdg (cfgP c zs) (bktP c.bl c.rm (kAt ks i) es ls) 1)) <| WL.nil <| ?_
           try simp only [pS]
           go_upto_region 22 with fail
           replace HRa : Hid _ := HRa.out.no (Kept.refl No _).drew
           refine wp_region_held_drew (S := fun w' => Hid (Fq No w w' [(g1, 24, Cg.cells c), (g3, 3, (i64L (zs ++ [-77])).toArray), (g5, 24, Cg.cells (lnC c g3)), (g42, 92, (enL (es ++ [enK])).toArray), (g43, 94, (laL (ls ++ [laK])).toArray), (g45, 43, Bv.cells (lnB (kAt ks i) g42 g43))])) rfl (show Hid _ from HF.out.drew) (fun hH => ?_)
           replace HF : Hid (Fq No w w49.drew [(g1, 24, Cg.cells c), (g3, 3, (i64L (zs ++ [-77])).toArray), (g5, 24, Cg.cells (lnC c g3)), (g42, 92, (enL (es ++ [enK])).toArray), (g43, 94, (laL (ls ++ [laK])).toArray), (g45, 43, Bv.cells (lnB (kAt ks i) g42 g43))]) := hH
           clear hH
           generalize w49.drew = w50 at HF HRa ⊢
           refine yK 0 133 HF (xk.v) <| yK 1 134 HF (.int .i64 ((i : Nat) : Int)) <| yT 2 135 HF (zI (s := xk) (i := i) hsl E27 F27 (by omega)) <| yT 3 136 HF (zL fun w HF => (load_K (fun j v h => HF.out.kept.cell (hc j v h) (fun e => e)))) <| yT 4 137 HF (zP (Cg.cs c) 0 0 U24 S24 (Cg.cs c) rfl) <| yE 5 138 (r_PkK (kAt ks i) es ls c zs _ (HCg.out.no HF.out.kept) (HI.out.no HF.out.kept)) HF fun s51 w52 HF hkk HRb hsb => ?_
           try simp only [pS]
           replace HRa : Hid _ := HRa.out.no hkk.out
           clear hkk
           refine yK 6 132 HF (.tuple #[s51.v, .int .i64 (jdg (cfgP c zs) (bktP c.bl c.rm (kAt ks i) es ls) 1)]) <| yK 7 139 HF (s51.v) <| yK 8 140 HF (.int .i64 (jdg (cfgP c zs) (bktP c.bl c.rm (kAt ks i) es ls) 1)) <| yK 9 25 HF (s51.v) <| yK 10 26 HF (.int .i64 (jdg (cfgP c zs) (bktP c.bl c.rm (kAt ks i) es ls) 1)) <| ?_
           try simp only [pS]
           refine wpAnyH_done (by kernel_rfl) ?_ _
           try simp only [pS]
           go_upto_region 23 with fail
           replace HRa : Hid _ := HRa.out.no (Kept.refl No _).drew
           replace HRb : Hid _ := HRb.out.no (Kept.refl No _).drew
           refine wp_region_held_drew (S := fun w' => Hid (Fq No w w' [(g1, 24, Cg.cells c), (g3, 3, (i64L (zs ++ [-77])).toArray), (g5, 24, Cg.cells (lnC c g3)), (g42, 92, (enL (es ++ [enK])).toArray), (g43, 94, (laL (ls ++ [laK])).toArray), (g45, 43, Bv.cells (lnB (kAt ks i) g42 g43))])) rfl (show Hid _ from HF.out.drew) (fun hH => ?_)
           replace HF : Hid (Fq No w w52.drew [(g1, 24, Cg.cells c), (g3, 3, (i64L (zs ++ [-77])).toArray), (g5, 24, Cg.cells (lnC c g3)), (g42, 92, (enL (es ++ [enK])).toArray), (g43, 94, (laL (ls ++ [laK])).toArray), (g45, 43, Bv.cells (lnB (kAt ks i) g42 g43))]) := hH
           clear hH
           generalize w52.drew = w53 at HF HRa HRb ⊢
           refine yK 0 141 HF (.int .i64 (jdg (cfgP c zs) (bktP c.bl c.rm (kAt ks i) es ls) 1)) <| yK 1 142 HF (.int .i64 (jdg (cfgP c zs) (bktP c.bl c.rm (kAt ks i) es ls) 1)) <| yT 2 143 HF (zN (nI1 (beq_self_eq_true ((jdg (cfgP c zs) (bktP c.bl c.rm (kAt ks i) es ls) 1))))) <| yK 3 144 HF (.bool false) <| yK 4 145 HF (s48.v) <| yK 5 146 HF (s51.v) <| yC 6 147 (sameB s48 s51 (encR (cfgP c zs && bktP c.bl c.rm (kAt ks i) es ls) (bktIts (kAt ks i) es ls)) _ HRa.out HRb.out (by omega)) rfl HF fun w54 HF => yK 7 148 HF (.bool false) <| ?_
           try simp only [pS]
           refine yK 8 149 HF (.bool false) <| yK 9 150 HF (.bool false) <| yT 10 151 HF (zP (Bv.cs (lnB (kAt ks i) g42 g43)) 5 0 U43 S43 (Bv.cs (lnB (kAt ks i) g42 g43)) rfl) <| yK 11 152 HF (xk.v) <| yK 12 153 HF (.int .i64 ((i : Nat) : Int)) <| yT 13 154 HF (zI (s := xk) (i := i) hsl E27 F27 (by omega)) <| yT 14 155 HF (zL fun w HF => (load_K (fun j v h => HF.out.kept.cell (hc j v h) (fun e => e)))) <| yC 15 156 (keptK (kAt ks i) g42 g43 es ls _ (HI.out.e.no HF.out.kept) (HI.out.l.no HF.out.kept) (HF.out.box 3 _ _ _ rfl) (HF.out.box 4 _ _ _ rfl) HI.out.ne HI.out.nl) rfl HF fun w55 HF => ?_
           try simp only [pS]
           refine yK 16 157 HF (.bool false) <| yK 17 158 HF (.bool false) <| ?_
           try simp only [pS]
           refine wpAnyH_done (by kernel_rfl) ?_ _
           try simp only [pS]
           go_upto_region 19 with fail
           refine WL.start <| tK (.int .i64 ((i : Nat) : Int)) <| bN (v := .int .i64 (((i + 1) : Nat) : Int)) (b_addw ((i : Nat) : Int) 1 (((i + 1) : Nat) : Int) (by rw [IntKind.wrap_i64]; omega)) <| tK (.int .i64 (((i + 1) : Nat) : Int)) <| WL.nil <| ?_
           try simp only [pS]
           go_wp2
           go_roundw
           case rel => exact ⟨i + 1, by go_num, by omega, Fq.front (l := [(g1, 24, Cg.cells c), (g3, 3, (i64L (zs ++ [-77])).toArray), (g5, 24, Cg.cells (lnC c g3))]) (m := [(g42, 92, (enL (es ++ [enK])).toArray), (g43, 94, (laL (ls ++ [laK])).toArray), (g45, 43, Bv.cells (lnB (kAt ks i) g42 g43))]) HF⟩
           case measure => simp [intOf]; omega
          ·skip
           go_upto_region 18 with fail
           refine WL.start <| tK (.int .i64 ((i : Nat) : Int)) <| tK (xk.v) <| tK (.int .i64 ((xk.l : Nat) : Int)) <| bN (lI (a := ((i : Nat) : Int)) (b := ((xk.l : Nat) : Int)) (decide_eq_false (by omega))) <| WL.nil <| ?_
           try simp only [pS]
           go_upto_region 25 with fail
           refine WL.start <| lP (Cg.cs (lnC c g3)) HF 2 0 U24 S24 (Cg.cs (lnC c g3)) rfl <| lP (Cg.cs c) HF 0 0 U24 S24 (Cg.cs c) rfl <| cB (keptC c g3 zs _ (HCg.out.r.no HF.out.kept) (HF.out.box 1 _ _ _ rfl) HCg.out.n) rfl HF fun w56 HF => tK (.bool true) <| cB (callw (Wi.known_any _)) rfl HF fun w57 HF => tK (.bool true) <| tK (.bool true) <| WL.nil <| ?_
           try simp only [pS]
           go_wp2
           rw [HC.out]
           exact ⟨ret_bool (rfl), HF.out.kept⟩
end Go.Proofs.YtgdnofacgfjaeaaGreat.Md
