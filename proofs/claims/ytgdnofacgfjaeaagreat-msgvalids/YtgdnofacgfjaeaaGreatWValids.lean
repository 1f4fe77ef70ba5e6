import Derived.Test.YtgdnofacgfjaeaaGreatWiRd
import Derived.Test.YtgdnofacgfjaeaaGreatWiZx
namespace Go.Proofs.YtgdnofacgfjaeaaGreat.Md
open Go.RowKit
set_option linter.unusedVariables false
set_option linter.unusedSimpArgs false

set_option maxRecDepth 100000 in
set_option maxHeartbeats 4000000 in
theorem validsWalk (c : Cg) (xm xc xk : Sl) (zs : List Int) (ms : List Mg) (xcs : List Cm) (ks : List Bv) (w : World) (hc : CgIn w c zs) (h1 : RdM w xm ms) (h2 : ∀ i, i < xm.l → ∃ bs es ls cs, MgIn w (gAt ms i) bs es ls cs) (h3 : RdC w xc xcs) (h4 : RdK w xk ks) (h5 : ∀ i, i < xk.l → ∃ es ls, BkIn w (kAt ks i) es ls) (n1 : xm.l ≤ 281474976710656) (n2 : xc.l ≤ 281474976710656) (n3 : xk.l ≤ 281474976710656) : Calls Tryz.prog 3 #[.agg (Cg.cells c), xm.v, xc.v, xk.v] w (fun e w' => e = .returned (.bool true) ∧ Kept No w w') := by
  obtain ⟨C, hC⟩ : ∃ C : Ending → World → Prop, C = (fun e w' => e = .returned (.bool true) ∧ Kept No w w') := ⟨_, rfl⟩
  have HC : Hid (C = (fun e w' => e = .returned (.bool true) ∧ Kept No w w')) := hC
  rw [← hC]
  clear hC
  have HCg : Hid (CgIn w c zs) := hc
  have HM : Hid (RdM w xm ms) := h1
  have HMI : Hid (∀ i, i < xm.l → ∃ bs es ls cs, MgIn w (gAt ms i) bs es ls cs) := h2
  have HRC : Hid (RdC w xc xcs) := h3
  have HK : Hid (RdK w xk ks) := h4
  have HKI : Hid (∀ i, i < xk.l → ∃ es ls, BkIn w (kAt ks i) es ls) := h5
  clear hc h1 h2 h3 h4 h5
  have HF : Hid (Fq No w w []) := Fq.start _ _
  go_enter Tryz.func3, Tryz.ntmps3
  go_upto_region 0 with fail
  refine WL.start <| xB (Cg.cells c) HF fun g1 w2 HF => ?_
  try simp only [pS]
  have HF : Hid (Fq No w w2 [(g1, 24, Cg.cells c)]) := HF
  refine tK (.bool false) <| ?_
  try simp only [pS]
  refine WL.nil <| ?_
  try simp only [pS]
  go_upto_region 1 with fail
  refine WL.start <| lP (Cg.cs c) HF 0 0 U24 S24 (Cg.cs c) rfl <| cJ (lendC c zs _ (HCg.out.r.no HF.out.kept) HCg.out.n) HF fun g3 w4 HF => ?_
  try simp only [pS]
  have HF : Hid (Fq No w w4 [(g1, 24, Cg.cells c), (g3, 3, (i64L (zs ++ [-77])).toArray)]) := HF
  refine xA (Cg.cells cgZ) Z24 HF fun g5 w6 HF => ?_
  try simp only [pS]
  have HF : Hid (Fq No w w6 [(g1, 24, Cg.cells c), (g3, 3, (i64L (zs ++ [-77])).toArray), (g5, 24, Cg.cells cgZ)]) := HF
  refine sB (Cg.cs (lnC c g3)) (Cg.cs (lnC c g3)) HF 2 0 (v := .agg (Cg.cells (lnC c g3))) rfl S24 (Cg.oneL _) (Cg.cs cgZ) rfl fun w7 HF => ?_
  try simp only [pS]
  have HF : Hid (Fq No w w7 [(g1, 24, Cg.cells c), (g3, 3, (i64L (zs ++ [-77])).toArray), (g5, 24, Cg.cells (lnC c g3))]) := HF
  refine WL.nil <| ?_
  try simp only [pS]
  go_upto_region 2 with fail
  refine WL.start <| tK (.int .i64 0) <| ?_
  try simp only [pS]
  refine WL.nil <| ?_
  try simp only [pS]
  go_wp2
  go_loopw [10] (fun v10 wr => ∃ i : Nat, v10 = .int .i64 ((i : Nat) : Int) ∧ i ≤ xm.l ∧ Hid (Fq No w wr [(g1, 24, Cg.cells c), (g3, 3, (i64L (zs ++ [-77])).toArray), (g5, 24, Cg.cells (lnC c g3))])) (fun v10 _ => xm.l - (intOf v10).toNat)
  case atStart => exact ⟨0, by go_num, by omega, HF⟩
  case round =>
    clear HF
    obtain ⟨i, rfl, hi, HF⟩ := hrel
    by_cases hlt : i < xm.l
    ·skip
     obtain ⟨b, off, hsl, hc⟩ := RdM.at' HM.out (i := i) (by omega)
     obtain ⟨bs, es, ls, cs, hmi⟩ := HMI.out i hlt
     have HI : Hid (MgIn w (gAt ms i) bs es ls cs) := hmi
     clear hmi
     go_upto_region 3 with fail
     refine WL.start <| tK (.int .i64 ((i : Nat) : Int)) <| tK (xm.v) <| tK (.int .i64 ((xm.l : Nat) : Int)) <| bN (lI (a := ((i : Nat) : Int)) (b := ((xm.l : Nat) : Int)) (decide_eq_true (by omega))) <| ?_
     try simp only [pS]
     refine WL.nil <| ?_
     try simp only [pS]
     go_upto_region 5 with fail
     refine WL.start <| tK (xm.v) <| tK (.int .i64 ((i : Nat) : Int)) <| iS (s := xm) (i := i) hsl E25 F25 (by omega) <| lR (load_M (fun j v h => HF.out.kept.cell (hc j v h) (fun e => e))) <| cJ4 (lendM (gAt ms i) bs es ls cs _ (HI.out.b.no HF.out.kept) (HI.out.e.no HF.out.kept) (HI.out.l.no HF.out.kept) (HI.out.c.no HF.out.kept) HI.out.nb HI.out.ne HI.out.nl HI.out.nc) HF fun g8 g9 g10 g11 w12 HF => ?_
     try simp only [pS]
     have HF : Hid (Fq No w w12 [(g1, 24, Cg.cells c), (g3, 3, (i64L (zs ++ [-77])).toArray), (g5, 24, Cg.cells (lnC c g3)), (g8, 5, (u8L (bs ++ mk3 3)).toArray), (g9, 92, (enL (es ++ [enK])).toArray), (g10, 94, (laL (ls ++ [laK])).toArray), (g11, 39, (cmL (cs ++ [cmK])).toArray)]) := HF
     refine xA (Mg.cells mgZ) Z45 HF fun g13 w14 HF => ?_
     try simp only [pS]
     have HF : Hid (Fq No w w14 [(g1, 24, Cg.cells c), (g3, 3, (i64L (zs ++ [-77])).toArray), (g5, 24, Cg.cells (lnC c g3)), (g8, 5, (u8L (bs ++ mk3 3)).toArray), (g9, 92, (enL (es ++ [enK])).toArray), (g10, 94, (laL (ls ++ [laK])).toArray), (g11, 39, (cmL (cs ++ [cmK])).toArray), (g13, 45, Mg.cells mgZ)]) := HF
     refine sB (Mg.cs (lnM (gAt ms i) g8 g9 g10 g11)) (Mg.cs (lnM (gAt ms i) g8 g9 g10 g11)) HF 7 0 (v := .agg (Mg.cells (lnM (gAt ms i) g8 g9 g10 g11))) rfl S45 (Mg.oneL _) (Mg.cs mgZ) rfl fun w15 HF => ?_
     try simp only [pS]
     have HF : Hid (Fq No w w15 [(g1, 24, Cg.cells c), (g3, 3, (i64L (zs ++ [-77])).toArray), (g5, 24, Cg.cells (lnC c g3)), (g8, 5, (u8L (bs ++ mk3 3)).toArray), (g9, 92, (enL (es ++ [enK])).toArray), (g10, 94, (laL (ls ++ [laK])).toArray), (g11, 39, (cmL (cs ++ [cmK])).toArray), (g13, 45, Mg.cells (lnM (gAt ms i) g8 g9 g10 g11))]) := HF
     refine WL.nil <| ?_
     try simp only [pS]
     go_upto_region 6 with fail
     refine wp_region_held_drew (S := fun w' => Hid (Fq No w w' [(g1, 24, Cg.cells c), (g3, 3, (i64L (zs ++ [-77])).toArray), (g5, 24, Cg.cells (lnC c g3)), (g8, 5, (u8L (bs ++ mk3 3)).toArray), (g9, 92, (enL (es ++ [enK])).toArray), (g10, 94, (laL (ls ++ [laK])).toArray), (g11, 39, (cmL (cs ++ [cmK])).toArray), (g13, 45, Mg.cells (lnM (gAt ms i) g8 g9 g10 g11))])) rfl (show Hid _ from HF.out.drew) (fun hH => ?_)
     replace HF : Hid (Fq No w w15.drew [(g1, 24, Cg.cells c), (g3, 3, (i64L (zs ++ [-77])).toArray), (g5, 24, Cg.cells (lnC c g3)), (g8, 5, (u8L (bs ++ mk3 3)).toArray), (g9, 92, (enL (es ++ [enK])).toArray), (g10, 94, (laL (ls ++ [laK])).toArray), (g11, 39, (cmL (cs ++ [cmK])).toArray), (g13, 45, Mg.cells (lnM (gAt ms i) g8 g9 g10 g11))]) := hH
     clear hH
     generalize w15.drew = w16 at HF ⊢
     refine yT 0 28 HF (zP (Mg.cs (lnM (gAt ms i) g8 g9 g10 g11)) 7 0 U45 S45 (Mg.cs (lnM (gAt ms i) g8 g9 g10 g11)) rfl) <| yT 1 29 HF (zP (Cg.cs (lnC c g3)) 2 0 U24 S24 (Cg.cs (lnC c g3)) rfl) <| yK 3 31 HF (xm.v) <| yK 4 32 HF (.int .i64 ((i : Nat) : Int)) <| yT 5 33 HF (zI (s := xm) (i := i) hsl E25 F25 (by omega)) <| yT 6 34 HF (zL fun w HF => (load_M (fun j v h => HF.out.kept.cell (hc j v h) (fun e => e)))) <| yT 7 35 HF (zP (Cg.cs c) 0 0 U24 S24 (Cg.cs c) rfl) <| yV 2 30 (p_ValidL (gAt ms i) c zs bs es ls cs g8 g9 g10 g11 g3 _ (CgIn.lent (HF.out.box 1 _ _ _ rfl) HCg.out.r.len HCg.out.n) (HI.out.lent (HF.out.box 3 _ _ _ rfl) (HF.out.box 4 _ _ _ rfl) (HF.out.box 5 _ _ _ rfl) (HF.out.box 6 _ _ _ rfl))) HF fun w17 HF => ?_
     try simp only [pS]
     refine yV 8 36 (r_Valid (gAt ms i) c zs bs es ls cs _ (HCg.out.no HF.out.kept) (HI.out.no HF.out.kept)) HF fun w18 HF => yT 9 37 HF (zN (nI1 (beq_self_eq_true ((jdg (cfgP c zs) (msgP c.bl c.rm c.bu zs (gAt ms i) bs es ls cs) 50))))) <| yK 10 38 HF (.bool false) <| yT 11 39 HF (zP (Mg.cs (lnM (gAt ms i) g8 g9 g10 g11)) 7 0 U45 S45 (Mg.cs (lnM (gAt ms i) g8 g9 g10 g11)) rfl) <| yK 12 40 HF (xm.v) <| yK 13 41 HF (.int .i64 ((i : Nat) : Int)) <| yT 14 42 HF (zI (s := xm) (i := i) hsl E25 F25 (by omega)) <| yT 15 43 HF (zL fun w HF => (load_M (fun j v h => HF.out.kept.cell (hc j v h) (fun e => e)))) <| ?_
     try simp only [pS]
     refine yC 16 44 (keptM (gAt ms i) g8 g9 g10 g11 bs es ls cs _ (HI.out.b.no HF.out.kept) (HI.out.e.no HF.out.kept) (HI.out.l.no HF.out.kept) (HI.out.c.no HF.out.kept) (HF.out.box 3 _ _ _ rfl) (HF.out.box 4 _ _ _ rfl) (HF.out.box 5 _ _ _ rfl) (HF.out.box 6 _ _ _ rfl) HI.out.nb HI.out.ne HI.out.nl HI.out.nc) rfl HF fun w19 HF => yK 17 45 HF (.bool false) <| yK 18 46 HF (.bool false) <| ?_
     try simp only [pS]
     refine wpAnyH_done (by kernel_rfl) ?_ _
     try simp only [pS]
     go_upto_region 4 with fail
     refine WL.start <| tK (.int .i64 ((i : Nat) : Int)) <| bN (v := .int .i64 (((i + 1) : Nat) : Int)) (b_addw ((i : Nat) : Int) 1 (((i + 1) : Nat) : Int) (by rw [IntKind.wrap_i64]; omega)) <| tK (.int .i64 (((i + 1) : Nat) : Int)) <| ?_
     try simp only [pS]
     refine WL.nil <| ?_
     try simp only [pS]
     go_wp2
     go_roundw
     case rel => exact ⟨i + 1, by go_num, by omega, Fq.front (l := [(g1, 24, Cg.cells c), (g3, 3, (i64L (zs ++ [-77])).toArray), (g5, 24, Cg.cells (lnC c g3))]) (m := [(g8, 5, (u8L (bs ++ mk3 3)).toArray), (g9, 92, (enL (es ++ [enK])).toArray), (g10, 94, (laL (ls ++ [laK])).toArray), (g11, 39, (cmL (cs ++ [cmK])).toArray), (g13, 45, Mg.cells (lnM (gAt ms i) g8 g9 g10 g11))]) HF⟩
     case measure => simp [intOf]; omega
    ·skip
     go_upto_region 3 with fail
     refine WL.start <| tK (.int .i64 ((i : Nat) : Int)) <| tK (xm.v) <| tK (.int .i64 ((xm.l : Nat) : Int)) <| bN (lI (a := ((i : Nat) : Int)) (b := ((xm.l : Nat) : Int)) (decide_eq_false (by omega))) <| ?_
     try simp only [pS]
     refine WL.nil <| ?_
     try simp only [pS]
     go_upto_region 8 with fail
     refine WL.start <| tK (.int .i64 0) <| ?_
     try simp only [pS]
     refine WL.nil <| ?_
     try simp only [pS]
     go_wp2
     go_loopw [12] (fun v12 wr => ∃ i : Nat, v12 = .int .i64 ((i : Nat) : Int) ∧ i ≤ xc.l ∧ Hid (Fq No w wr [(g1, 24, Cg.cells c), (g3, 3, (i64L (zs ++ [-77])).toArray), (g5, 24, Cg.cells (lnC c g3))])) (fun v12 _ => xc.l - (intOf v12).toNat)
     case atStart => exact ⟨0, by go_num, by omega, HF⟩
     case round =>
       clear HF
       obtain ⟨i, rfl, hi, HF⟩ := hrel
       by_cases hlt : i < xc.l
       ·skip
        obtain ⟨b, off, hsl, hc⟩ := RdC.at' HRC.out (i := i) (by omega)
        go_upto_region 9 with fail
        refine WL.start <| tK (.int .i64 ((i : Nat) : Int)) <| tK (xc.v) <| tK (.int .i64 ((xc.l : Nat) : Int)) <| bN (lI (a := ((i : Nat) : Int)) (b := ((xc.l : Nat) : Int)) (decide_eq_true (by omega))) <| ?_
        try simp only [pS]
        refine WL.nil <| ?_
        try simp only [pS]
        go_upto_region 11 with fail
        refine wp_region_held_drew (S := fun w' => Hid (Fq No w w' [(g1, 24, Cg.cells c), (g3, 3, (i64L (zs ++ [-77])).toArray), (g5, 24, Cg.cells (lnC c g3))])) rfl (show Hid _ from HF.out.drew) (fun hH => ?_)
        replace HF : Hid (Fq No w wr.drew [(g1, 24, Cg.cells c), (g3, 3, (i64L (zs ++ [-77])).toArray), (g5, 24, Cg.cells (lnC c g3))]) := hH
        clear hH
        generalize wr.drew = w20 at HF ⊢
        refine yK 0 53 HF (xc.v) <| yK 1 54 HF (.int .i64 ((i : Nat) : Int)) <| yT 2 55 HF (zI (s := xc) (i := i) hsl E26 F26 (by omega)) <| yT 3 56 HF (zL fun w HF => (load_Ca (fun j v h => HF.out.kept.cell (hc j v h) (fun e => e)))) <| yT 4 57 HF (zP (Cg.cs (lnC c g3)) 2 0 U24 S24 (Cg.cs (lnC c g3)) rfl) <| yK 6 59 HF (xc.v) <| yK 7 60 HF (.int .i64 ((i : Nat) : Int)) <| yT 8 61 HF (zI (s := xc) (i := i) hsl E26 F26 (by omega)) <| ?_
        try simp only [pS]
        refine yT 9 62 HF (zL fun w HF => (load_Ca (fun j v h => HF.out.kept.cell (hc j v h) (fun e => e)))) <| yT 10 63 HF (zP (Cg.cs c) 0 0 U24 S24 (Cg.cs c) rfl) <| yV 5 58 (p_CommandL (cAt xcs i) c zs g3 _ (CgIn.lent (HF.out.box 1 _ _ _ rfl) HCg.out.r.len HCg.out.n)) HF fun w21 HF => yV 11 64 (r_Command (cAt xcs i) c zs _ (HCg.out.no HF.out.kept)) HF fun w22 HF => yT 12 65 HF (zN (nI1 (beq_self_eq_true ((jdg (cfgP c zs) (cmdP c.bl (cAt xcs i)) 105))))) <| ?_
        try simp only [pS]
        refine wpAnyH_done (by kernel_rfl) ?_ _
        try simp only [pS]
        go_upto_region 10 with fail
        refine WL.start <| tK (.int .i64 ((i : Nat) : Int)) <| bN (v := .int .i64 (((i + 1) : Nat) : Int)) (b_addw ((i : Nat) : Int) 1 (((i + 1) : Nat) : Int) (by rw [IntKind.wrap_i64]; omega)) <| tK (.int .i64 (((i + 1) : Nat) : Int)) <| ?_
        try simp only [pS]
        refine WL.nil <| ?_
        try simp only [pS]
        go_wp2
        go_roundw
        case rel => exact ⟨i + 1, by go_num, by omega, HF⟩
        case measure => simp [intOf]; omega
       ·skip
        go_upto_region 9 with fail
        refine WL.start <| tK (.int .i64 ((i : Nat) : Int)) <| tK (xc.v) <| tK (.int .i64 ((xc.l : Nat) : Int)) <| bN (lI (a := ((i : Nat) : Int)) (b := ((xc.l : Nat) : Int)) (decide_eq_false (by omega))) <| ?_
        try simp only [pS]
        refine WL.nil <| ?_
        try simp only [pS]
        go_upto_region 13 with fail
        refine WL.start <| tK (.int .i64 0) <| ?_
        try simp only [pS]
        refine WL.nil <| ?_
        try simp only [pS]
        go_wp2
        go_loopw [13] (fun v13 wr => ∃ i : Nat, v13 = .int .i64 ((i : Nat) : Int) ∧ i ≤ xk.l ∧ Hid (Fq No w wr [(g1, 24, Cg.cells c), (g3, 3, (i64L (zs ++ [-77])).toArray), (g5, 24, Cg.cells (lnC c g3))])) (fun v13 _ => xk.l - (intOf v13).toNat)
        case atStart => exact ⟨0, by go_num, by omega, HF⟩
        case round =>
          clear HF
          obtain ⟨i, rfl, hi, HF⟩ := hrel
          by_cases hlt : i < xk.l
          ·skip
           obtain ⟨b, off, hsl, hc⟩ := RdK.at' HK.out (i := i) (by omega)
           obtain ⟨es, ls, hmi⟩ := HKI.out i hlt
           have HI : Hid (BkIn w (kAt ks i) es ls) := hmi
           clear hmi
           go_upto_region 14 with fail
           refine WL.start <| tK (.int .i64 ((i : Nat) : Int)) <| tK (xk.v) <| tK (.int .i64 ((xk.l : Nat) : Int)) <| bN (lI (a := ((i : Nat) : Int)) (b := ((xk.l : Nat) : Int)) (decide_eq_true (by omega))) <| ?_
           try simp only [pS]
           refine WL.nil <| ?_
           try simp only [pS]
           go_upto_region 16 with fail
           refine WL.start <| tK (xk.v) <| tK (.int .i64 ((i : Nat) : Int)) <| iS (s := xk) (i := i) hsl E27 F27 (by omega) <| lR (load_K (fun j v h => HF.out.kept.cell (hc j v h) (fun e => e))) <| cJ2 (lendK (kAt ks i) es ls _ (HI.out.e.no HF.out.kept) (HI.out.l.no HF.out.kept) HI.out.ne HI.out.nl) HF fun g23 g24 w25 HF => ?_
           try simp only [pS]
           have HF : Hid (Fq No w w25 [(g1, 24, Cg.cells c), (g3, 3, (i64L (zs ++ [-77])).toArray), (g5, 24, Cg.cells (lnC c g3)), (g23, 92, (enL (es ++ [enK])).toArray), (g24, 94, (laL (ls ++ [laK])).toArray)]) := HF
           refine xA (Bv.cells bvZ) Z43 HF fun g26 w27 HF => ?_
           try simp only [pS]
           have HF : Hid (Fq No w w27 [(g1, 24, Cg.cells c), (g3, 3, (i64L (zs ++ [-77])).toArray), (g5, 24, Cg.cells (lnC c g3)), (g23, 92, (enL (es ++ [enK])).toArray), (g24, 94, (laL (ls ++ [laK])).toArray), (g26, 43, Bv.cells bvZ)]) := HF
           refine sB (Bv.cs (lnB (kAt ks i) g23 g24)) (Bv.cs (lnB (kAt ks i) g23 g24)) HF 5 0 (v := .agg (Bv.cells (lnB (kAt ks i) g23 g24))) rfl S43 (Bv.oneL _) (Bv.cs bvZ) rfl fun w28 HF => ?_
           try simp only [pS]
           have HF : Hid (Fq No w w28 [(g1, 24, Cg.cells c), (g3, 3, (i64L (zs ++ [-77])).toArray), (g5, 24, Cg.cells (lnC c g3)), (g23, 92, (enL (es ++ [enK])).toArray), (g24, 94, (laL (ls ++ [laK])).toArray), (g26, 43, Bv.cells (lnB (kAt ks i) g23 g24))]) := HF
           refine WL.nil <| ?_
           try simp only [pS]
           go_upto_region 17 with fail
           refine wp_region_held_drew (S := fun w' => Hid (Fq No w w' [(g1, 24, Cg.cells c), (g3, 3, (i64L (zs ++ [-77])).toArray), (g5, 24, Cg.cells (lnC c g3)), (g23, 92, (enL (es ++ [enK])).toArray), (g24, 94, (laL (ls ++ [laK])).toArray), (g26, 43, Bv.cells (lnB (kAt ks i) g23 g24))])) rfl (show Hid _ from HF.out.drew) (fun hH => ?_)
           replace HF : Hid (Fq No w w28.drew [(g1, 24, Cg.cells c), (g3, 3, (i64L (zs ++ [-77])).toArray), (g5, 24, Cg.cells (lnC c g3)), (g23, 92, (enL (es ++ [enK])).toArray), (g24, 94, (laL (ls ++ [laK])).toArray), (g26, 43, Bv.cells (lnB (kAt ks i) g23 g24))]) := hH
           clear hH
           generalize w28.drew = w29 at HF ⊢
           refine yT 0 77 HF (zP (Bv.cs (lnB (kAt ks i) g23 g24)) 5 0 U43 S43 (Bv.cs (lnB (kAt ks i) g23 g24)) rfl) <| yT 1 78 HF (zP (Cg.cs (lnC c g3)) 2 0 U24 S24 (Cg.cs (lnC c g3)) rfl) <| yK 3 80 HF (xk.v) <| yK 4 81 HF (.int .i64 ((i : Nat) : Int)) <| yT 5 82 HF (zI (s := xk) (i := i) hsl E27 F27 (by omega)) <| yT 6 83 HF (zL fun w HF => (load_K (fun j v h => HF.out.kept.cell (hc j v h) (fun e => e)))) <| yT 7 84 HF (zP (Cg.cs c) 0 0 U24 S24 (Cg.cs c) rfl) <| yV 2 79 (p_BucketL (kAt ks i) c zs es ls g23 g24 g3 _ (CgIn.lent (HF.out.box 1 _ _ _ rfl) HCg.out.r.len HCg.out.n) (HI.out.lent (HF.out.box 3 _ _ _ rfl) (HF.out.box 4 _ _ _ rfl))) HF fun w30 HF => ?_
           try simp only [pS]
           refine yV 8 85 (r_Bucket (kAt ks i) c zs es ls _ (HCg.out.no HF.out.kept) (HI.out.no HF.out.kept)) HF fun w31 HF => yT 9 86 HF (zN (nI1 (beq_self_eq_true ((jdg (cfgP c zs) (bktP c.bl c.rm (kAt ks i) es ls) 1))))) <| yK 10 87 HF (.bool false) <| yT 11 88 HF (zP (Bv.cs (lnB (kAt ks i) g23 g24)) 5 0 U43 S43 (Bv.cs (lnB (kAt ks i) g23 g24)) rfl) <| yK 12 89 HF (xk.v) <| yK 13 90 HF (.int .i64 ((i : Nat) : Int)) <| yT 14 91 HF (zI (s := xk) (i := i) hsl E27 F27 (by omega)) <| yT 15 92 HF (zL fun w HF => (load_K (fun j v h => HF.out.kept.cell (hc j v h) (fun e => e)))) <| ?_
           try simp only [pS]
           refine yC 16 93 (keptK (kAt ks i) g23 g24 es ls _ (HI.out.e.no HF.out.kept) (HI.out.l.no HF.out.kept) (HF.out.box 3 _ _ _ rfl) (HF.out.box 4 _ _ _ rfl) HI.out.ne HI.out.nl) rfl HF fun w32 HF => yK 17 94 HF (.bool false) <| yK 18 95 HF (.bool false) <| ?_
           try simp only [pS]
           refine wpAnyH_done (by kernel_rfl) ?_ _
           try simp only [pS]
           go_upto_region 15 with fail
           refine WL.start <| tK (.int .i64 ((i : Nat) : Int)) <| bN (v := .int .i64 (((i + 1) : Nat) : Int)) (b_addw ((i : Nat) : Int) 1 (((i + 1) : Nat) : Int) (by rw [IntKind.wrap_i64]; omega)) <| tK (.int .i64 (((i + 1) : Nat) : Int)) <| ?_
           try simp only [pS]
           refine WL.nil <| ?_
           try simp only [pS]
           go_wp2
           go_roundw
           case rel => exact ⟨i + 1, by go_num, by omega, Fq.front (l := [(g1, 24, Cg.cells c), (g3, 3, (i64L (zs ++ [-77])).toArray), (g5, 24, Cg.cells (lnC c g3))]) (m := [(g23, 92, (enL (es ++ [enK])).toArray), (g24, 94, (laL (ls ++ [laK])).toArray), (g26, 43, Bv.cells (lnB (kAt ks i) g23 g24))]) HF⟩
           case measure => simp [intOf]; omega
          ·skip
           go_upto_region 14 with fail
           refine WL.start <| tK (.int .i64 ((i : Nat) : Int)) <| tK (xk.v) <| tK (.int .i64 ((xk.l : Nat) : Int)) <| bN (lI (a := ((i : Nat) : Int)) (b := ((xk.l : Nat) : Int)) (decide_eq_false (by omega))) <| ?_
           try simp only [pS]
           refine WL.nil <| ?_
           try simp only [pS]
           go_upto_region 19 with fail
           refine WL.start <| lP (Cg.cs (lnC c g3)) HF 2 0 U24 S24 (Cg.cs (lnC c g3)) rfl <| lP (Cg.cs c) HF 0 0 U24 S24 (Cg.cs c) rfl <| cB (keptC c g3 zs _ (HCg.out.r.no HF.out.kept) (HF.out.box 1 _ _ _ rfl) HCg.out.n) rfl HF fun w33 HF => tK (.bool true) <| cB (callw (Wi.known_any _)) rfl HF fun w34 HF => tK (.bool true) <| tK (.bool true) <| ?_
           try simp only [pS]
           refine WL.nil <| ?_
           try simp only [pS]
           go_wp2
           rw [HC.out]
           exact ⟨ret_bool (rfl), HF.out.kept⟩

end Go.Proofs.YtgdnofacgfjaeaaGreat.Md
