import Derived.Test.YtgdnofacgfjaeaaGreatHf
import Derived.Test.YtgdnofacgfjaeaaGreatWiV
import Derived.Defers
import Derived.Recover
namespace Go.Proofs.YtgdnofacgfjaeaaGreat.Md
open Go.RowKit
set_option linter.unusedVariables false
set_option linter.unusedSimpArgs false

/-- Messages, buckets in a row. -/
structure RdM (w : World) (s : Sl) (ms : List Mg) : Prop where
  row : RowsAt 30 w s.a (ms.map Mg.cs)
  len : ms.length = s.l
structure RdK (w : World) (s : Sl) (ks : List Bv) : Prop where
  row : RowsAt 3 w s.a (ks.map Bv.cs)
  len : ks.length = s.l
def gAt (ms : List Mg) (i : Nat) : Mg := ms[i]?.getD mgZ
def kAt (ks : List Bv) (i : Nat) : Bv := ks[i]?.getD bvZ
theorem RdM.at' {w : World} {s : Sl} {es : List Mg} (h : RdM w s es) {i : Nat} (hi : i < s.l) : ∃ b off, s.v = .slice (some ⟨b, off, none⟩) s.l s.k ∧ ∀ (j : Nat) v, (gAt es i).cs[j]? = some v → w.cell? ⟨b, off + i * 30 + j, none⟩ = some v := by
  obtain ⟨b, off, ha, hc⟩ := h.row i (gAt es i).cs (by rw [List.getElem?_map, show es[i]? = some (gAt es i) by simp [gAt, List.getElem?_eq_getElem (show i < es.length by rw [h.len]; exact hi)]]; rfl)
  exact ⟨b, off, by unfold Sl.v; rw [ha], hc⟩
theorem RdK.at' {w : World} {s : Sl} {es : List Bv} (h : RdK w s es) {i : Nat} (hi : i < s.l) : ∃ b off, s.v = .slice (some ⟨b, off, none⟩) s.l s.k ∧ ∀ (j : Nat) v, (kAt es i).cs[j]? = some v → w.cell? ⟨b, off + i * 3 + j, none⟩ = some v := by
  obtain ⟨b, off, ha, hc⟩ := h.row i (kAt es i).cs (by rw [List.getElem?_map, show es[i]? = some (kAt es i) by simp [kAt, List.getElem?_eq_getElem (show i < es.length by rw [h.len]; exact hi)]]; rfl)
  exact ⟨b, off, by unfold Sl.v; rw [ha], hc⟩
theorem load_M {w : World} {b off i : Nat} {e : Mg} (hc : ∀ (j : Nat) v, e.cs[j]? = some v → w.cell? ⟨b, off + i * 30 + j, none⟩ = some v) : (loadVar 45 ⟨b, off + i * 30, none⟩).run Tryz.prog w = .ok (.agg e.cells) w := load_at hc U45 rfl S45
theorem load_K {w : World} {b off i : Nat} {e : Bv} (hc : ∀ (j : Nat) v, e.cs[j]? = some v → w.cell? ⟨b, off + i * 3 + j, none⟩ = some v) : (loadVar 43 ⟨b, off + i * 3, none⟩).run Tryz.prog w = .ok (.agg e.cells) w := load_at hc U43 rfl S43
theorem CgIn.lent {w : World} {c : Cg} {zs : List Int} {g : Nat} (hb : Box w g 3 (i64L (zs ++ [-77])).toArray) (hl : zs.length = c.sv.l) (hn : c.sv.l ≤ 17592186043904) : CgIn w (lnC c g) zs := ⟨RdI.lent hb hl, hn⟩
theorem MgIn.lent {w : World} {m : Mg} {bs : List Int} {es : List En} {ls : List La} {cs : List Cm} {gb g g2 gc : Nat} {w0 : World} (h : MgIn w0 m bs es ls cs)
    (h1 : Box w gb 5 (u8L (bs ++ mk3 3)).toArray) (h2 : Box w g 92 (enL (es ++ [enK])).toArray) (h3 : Box w g2 94 (laL (ls ++ [laK])).toArray) (h4 : Box w gc 39 (cmL (cs ++ [cmK])).toArray) : MgIn w (lnM m gb g g2 gc) bs es ls cs :=
  ⟨RdB.lent h1 h.b.len, RdE.lent h2 h.e.len, RdL.lent h3 h.l.len, RdC.lent h4 h.c.len, h.nb, h.ne, h.nl, h.nc⟩
theorem BkIn.lent {w : World} {x : Bv} {es : List En} {ls : List La} {g g2 : Nat} {w0 : World} (h : BkIn w0 x es ls)
    (h2 : Box w g 92 (enL (es ++ [enK])).toArray) (h3 : Box w g2 94 (laL (ls ++ [laK])).toArray) : BkIn w (lnB x g g2) es ls :=
  ⟨RdE.lent h2 h.e.len, RdL.lent h3 h.l.len, h.ne, h.nl⟩
set_option maxRecDepth 100000 in
set_option maxHeartbeats 4000000 in
theorem p_Valid (m : Mg) (c : Cg) (zs : List Int) (bs : List Int) (es : List En) (ls : List La) (cs : List Cm) (w : World) (hc : CgIn w c zs) (hm : MgIn w m bs es ls cs) : Calls Tryz.prog 11 #[.agg (Mg.cells m), .agg (Cg.cells c)] w (fun e w' => e = .returned (.int .i64 (jdg (cfgP c zs) (msgP c.bl c.rm c.bu zs m bs es ls cs) 50)) ∧ Kept No w w') := by
  obtain ⟨C, hC⟩ : ∃ C : Ending → World → Prop, C = (fun e w' => e = .returned (.int .i64 (jdg (cfgP c zs) (msgP c.bl c.rm c.bu zs m bs es ls cs) 50)) ∧ Kept No w w') := ⟨_, rfl⟩
  have HC : Hid (C = (fun e w' => e = .returned (.int .i64 (jdg (cfgP c zs) (msgP c.bl c.rm c.bu zs m bs es ls cs) 50)) ∧ Kept No w w')) := hC
  rw [← hC]
  clear hC
  have HCg : Hid (CgIn w c zs) := hc
  have HI : Hid (MgIn w m bs es ls cs) := hm
  clear hc hm
  have HF : Hid (Fq No w w []) := Fq.start _ _
  go_enter Tryz.func11, Tryz.ntmps11
  go_upto_region 0 with fail
  refine WL.start <| xB (Mg.cells m) HF fun g1 w2 HF => ?_
  try simp only [pS]
  have HF : Hid (Fq No w w2 [(g1, 45, Mg.cells m)]) := HF
  refine xB (Cg.cells c) HF fun g3 w4 HF => ?_
  try simp only [pS]
  have HF : Hid (Fq No w w4 [(g1, 45, Mg.cells m), (g3, 24, Cg.cells c)]) := HF
  refine tK (.int .i64 0) <| ?_
  try simp only [pS]
  refine WL.nil <| ?_
  try simp only [pS]
  go_upto_region 1 with fail
  refine WL.start <| lP (Mg.cs m) HF 0 0 U45 S45 (Mg.cs m) rfl <| lP (Cg.cs c) HF 1 0 U24 S24 (Cg.cs c) rfl <| cV (judgeM m c zs bs es ls cs 50 _ (HCg.out.no HF.out.kept) (HI.out.no HF.out.kept)) HF fun w5 HF => tK (.int .i64 (jdg (cfgP c zs) (msgP c.bl c.rm c.bu zs m bs es ls cs) 50)) <| ?_
  try simp only [pS]
  refine WL.nil <| ?_
  try simp only [pS]
  go_wp2
  rw [HC.out]
  exact ⟨rfl, HF.out.kept⟩
set_option maxRecDepth 100000 in
set_option maxHeartbeats 4000000 in
theorem p_Command (x : Cm) (c : Cg) (zs : List Int) (w : World) (hc : CgIn w c zs) : Calls Tryz.prog 14 #[.agg (Cm.cells x), .agg (Cg.cells c)] w (fun e w' => e = .returned (.int .i64 (jdg (cfgP c zs) (cmdP c.bl x) 105)) ∧ Kept No w w') := by
  obtain ⟨C, hC⟩ : ∃ C : Ending → World → Prop, C = (fun e w' => e = .returned (.int .i64 (jdg (cfgP c zs) (cmdP c.bl x) 105)) ∧ Kept No w w') := ⟨_, rfl⟩
  have HC : Hid (C = (fun e w' => e = .returned (.int .i64 (jdg (cfgP c zs) (cmdP c.bl x) 105)) ∧ Kept No w w')) := hC
  rw [← hC]
  clear hC
  have HCg : Hid (CgIn w c zs) := hc
  clear hc
  have HF : Hid (Fq No w w []) := Fq.start _ _
  go_enter Tryz.func14, Tryz.ntmps14
  go_upto_region 0 with fail
  refine WL.start <| xB (Cm.cells x) HF fun g1 w2 HF => ?_
  try simp only [pS]
  have HF : Hid (Fq No w w2 [(g1, 39, Cm.cells x)]) := HF
  refine xB (Cg.cells c) HF fun g3 w4 HF => ?_
  try simp only [pS]
  have HF : Hid (Fq No w w4 [(g1, 39, Cm.cells x), (g3, 24, Cg.cells c)]) := HF
  refine tK (.int .i64 0) <| ?_
  try simp only [pS]
  refine WL.nil <| ?_
  try simp only [pS]
  go_upto_region 1 with fail
  refine WL.start <| lP (Cm.cs x) HF 0 0 U39 S39 (Cm.cs x) rfl <| lP (Cg.cs c) HF 1 0 U24 S24 (Cg.cs c) rfl <| cV (judgeC x c zs 105 _ (HCg.out.no HF.out.kept)) HF fun w5 HF => tK (.int .i64 (jdg (cfgP c zs) (cmdP c.bl x) 105)) <| ?_
  try simp only [pS]
  refine WL.nil <| ?_
  try simp only [pS]
  go_wp2
  rw [HC.out]
  exact ⟨rfl, HF.out.kept⟩
set_option maxRecDepth 100000 in
set_option maxHeartbeats 4000000 in
theorem p_Bucket (x : Bv) (c : Cg) (zs : List Int) (es : List En) (ls : List La) (w : World) (hc : CgIn w c zs) (hm : BkIn w x es ls) : Calls Tryz.prog 17 #[.agg (Bv.cells x), .agg (Cg.cells c)] w (fun e w' => e = .returned (.int .i64 (jdg (cfgP c zs) (bktP c.bl c.rm x es ls) 1)) ∧ Kept No w w') := by
  obtain ⟨C, hC⟩ : ∃ C : Ending → World → Prop, C = (fun e w' => e = .returned (.int .i64 (jdg (cfgP c zs) (bktP c.bl c.rm x es ls) 1)) ∧ Kept No w w') := ⟨_, rfl⟩
  have HC : Hid (C = (fun e w' => e = .returned (.int .i64 (jdg (cfgP c zs) (bktP c.bl c.rm x es ls) 1)) ∧ Kept No w w')) := hC
  rw [← hC]
  clear hC
  have HCg : Hid (CgIn w c zs) := hc
  have HI : Hid (BkIn w x es ls) := hm
  clear hc hm
  have HF : Hid (Fq No w w []) := Fq.start _ _
  go_enter Tryz.func17, Tryz.ntmps17
  go_upto_region 0 with fail
  refine WL.start <| xB (Bv.cells x) HF fun g1 w2 HF => ?_
  try simp only [pS]
  have HF : Hid (Fq No w w2 [(g1, 43, Bv.cells x)]) := HF
  refine xB (Cg.cells c) HF fun g3 w4 HF => ?_
  try simp only [pS]
  have HF : Hid (Fq No w w4 [(g1, 43, Bv.cells x), (g3, 24, Cg.cells c)]) := HF
  refine tK (.int .i64 0) <| ?_
  try simp only [pS]
  refine WL.nil <| ?_
  try simp only [pS]
  go_upto_region 1 with fail
  refine WL.start <| lP (Bv.cs x) HF 0 0 U43 S43 (Bv.cs x) rfl <| lP (Cg.cs c) HF 1 0 U24 S24 (Cg.cs c) rfl <| cV (judgeK x c zs es ls 1 _ (HCg.out.no HF.out.kept) (HI.out.no HF.out.kept)) HF fun w5 HF => tK (.int .i64 (jdg (cfgP c zs) (bktP c.bl c.rm x es ls) 1)) <| ?_
  try simp only [pS]
  refine WL.nil <| ?_
  try simp only [pS]
  go_wp2
  rw [HC.out]
  exact ⟨rfl, HF.out.kept⟩
set_option maxRecDepth 100000 in
set_option maxHeartbeats 4000000 in
theorem r_Valid0 (m : Mg) (c : Cg) (zs : List Int) (bs : List Int) (es : List En) (ls : List La) (cs : List Cm) (w : World) (hc : CgIn w c zs) (hm : MgIn w m bs es ls cs) : Calls Tryz.prog 12 #[.agg (Mg.cells m), .agg (Cg.cells c)] w (fun e w' => e = .returned (.int .i64 (jdg (cfgP c zs) (msgR c.bl c.rm c.bu zs m bs es ls cs) 50)) ∧ Kept No w w') := by
  obtain ⟨C, hC⟩ : ∃ C : Ending → World → Prop, C = (fun e w' => e = .returned (.int .i64 (jdg (cfgP c zs) (msgR c.bl c.rm c.bu zs m bs es ls cs) 50)) ∧ Kept No w w') := ⟨_, rfl⟩
  have HC : Hid (C = (fun e w' => e = .returned (.int .i64 (jdg (cfgP c zs) (msgR c.bl c.rm c.bu zs m bs es ls cs) 50)) ∧ Kept No w w')) := hC
  rw [← hC]
  clear hC
  have HCg : Hid (CgIn w c zs) := hc
  have HI : Hid (MgIn w m bs es ls cs) := hm
  clear hc hm
  have HF : Hid (Fq No w w []) := Fq.start _ _
  go_enter Tryz.func12, Tryz.ntmps12
  go_upto_region 0 with fail
  refine WL.start <| xB (Mg.cells m) HF fun g1 w2 HF => ?_
  try simp only [pS]
  have HF : Hid (Fq No w w2 [(g1, 45, Mg.cells m)]) := HF
  refine xB (Cg.cells c) HF fun g3 w4 HF => ?_
  try simp only [pS]
  have HF : Hid (Fq No w w4 [(g1, 45, Mg.cells m), (g3, 24, Cg.cells c)]) := HF
  refine tK (.int .i64 0) <| ?_
  try simp only [pS]
  refine WL.nil <| ?_
  try simp only [pS]
  go_upto_region 1 with fail
  refine WL.start <| lP (Cg.cs c) HF 1 0 U24 S24 (Cg.cs c) rfl <| ?_
  try simp only [pS]
  cases q1 : (cfgP c zs)
  ·skip
   refine cB (cfg_is c zs _ (HCg.out.no HF.out.kept)) q1 HF fun w5 HF => tK (.bool true) <| ?_
   try simp only [pS]
   refine WL.nil <| ?_
   try simp only [pS]
   go_upto_region 2 with fail
   refine WL.start <| tK (.int .i64 20) <| ?_
   try simp only [pS]
   refine WL.nil <| ?_
   try simp only [pS]
   have hv : jdg (cfgP c zs) (msgR c.bl c.rm c.bu zs m bs es ls cs) 50 = 20 := by simp only [jdg, cond_true, cond_false, q1]
   go_wp2
   rw [HC.out, hv]
   exact ⟨rfl, HF.out.kept⟩
  ·skip
   refine cB (cfg_is c zs _ (HCg.out.no HF.out.kept)) q1 HF fun w6 HF => tK (.bool false) <| ?_
   try simp only [pS]
   refine WL.nil <| ?_
   try simp only [pS]
   go_upto_region 3 with fail
   refine WL.start <| lP (Mg.cs m) HF 0 0 U45 S45 (Mg.cs m) rfl <| lP (Cg.cs c) HF 1 0 U24 S24 (Cg.cs c) rfl <| ?_
   try simp only [pS]
   cases q2 : (msgR c.bl c.rm c.bu zs m bs es ls cs)
   ·skip
    refine cB (r_Is m c zs bs es ls cs _ (cfg_bl q1) (cfg_bu q1) (HCg.out.r.no HF.out.kept) (HI.out.b.no HF.out.kept) (HI.out.e.no HF.out.kept) (HI.out.l.no HF.out.kept) (HI.out.c.no HF.out.kept) (by have := HCg.out.n; omega) (by have := HI.out.nb; omega) (by have := HI.out.ne; omega) (by have := HI.out.nl; omega) (by have := HI.out.nc; omega)) q2 HF fun w7 HF => tK (.bool true) <| ?_
    try simp only [pS]
    refine WL.nil <| ?_
    try simp only [pS]
    go_upto_region 4 with fail
    refine WL.start <| tK (.int .i64 50) <| ?_
    try simp only [pS]
    refine WL.nil <| ?_
    try simp only [pS]
    have hv : jdg (cfgP c zs) (msgR c.bl c.rm c.bu zs m bs es ls cs) 50 = 50 := by simp only [jdg, cond_true, cond_false, q1, q2]
    go_wp2
    rw [HC.out, hv]
    exact ⟨rfl, HF.out.kept⟩
   ·skip
    refine cB (r_Is m c zs bs es ls cs _ (cfg_bl q1) (cfg_bu q1) (HCg.out.r.no HF.out.kept) (HI.out.b.no HF.out.kept) (HI.out.e.no HF.out.kept) (HI.out.l.no HF.out.kept) (HI.out.c.no HF.out.kept) (by have := HCg.out.n; omega) (by have := HI.out.nb; omega) (by have := HI.out.ne; omega) (by have := HI.out.nl; omega) (by have := HI.out.nc; omega)) q2 HF fun w8 HF => tK (.bool false) <| ?_
    try simp only [pS]
    refine WL.nil <| ?_
    try simp only [pS]
    go_upto_region 5 with fail
    refine WL.start <| tK (.int .i64 0) <| ?_
    try simp only [pS]
    refine WL.nil <| ?_
    try simp only [pS]
    have hv : jdg (cfgP c zs) (msgR c.bl c.rm c.bu zs m bs es ls cs) 50 = 0 := by simp only [jdg, cond_true, cond_false, q1, q2]
    go_wp2
    rw [HC.out, hv]
    exact ⟨rfl, HF.out.kept⟩
set_option maxRecDepth 100000 in
set_option maxHeartbeats 4000000 in
theorem r_Command0 (x : Cm) (c : Cg) (zs : List Int) (w : World) (hc : CgIn w c zs) : Calls Tryz.prog 15 #[.agg (Cm.cells x), .agg (Cg.cells c)] w (fun e w' => e = .returned (.int .i64 (jdg (cfgP c zs) (cmdR c.bl x) 105)) ∧ Kept No w w') := by
  obtain ⟨C, hC⟩ : ∃ C : Ending → World → Prop, C = (fun e w' => e = .returned (.int .i64 (jdg (cfgP c zs) (cmdR c.bl x) 105)) ∧ Kept No w w') := ⟨_, rfl⟩
  have HC : Hid (C = (fun e w' => e = .returned (.int .i64 (jdg (cfgP c zs) (cmdR c.bl x) 105)) ∧ Kept No w w')) := hC
  rw [← hC]
  clear hC
  have HCg : Hid (CgIn w c zs) := hc
  clear hc
  have HF : Hid (Fq No w w []) := Fq.start _ _
  go_enter Tryz.func15, Tryz.ntmps15
  go_upto_region 0 with fail
  refine WL.start <| xB (Cm.cells x) HF fun g1 w2 HF => ?_
  try simp only [pS]
  have HF : Hid (Fq No w w2 [(g1, 39, Cm.cells x)]) := HF
  refine xB (Cg.cells c) HF fun g3 w4 HF => ?_
  try simp only [pS]
  have HF : Hid (Fq No w w4 [(g1, 39, Cm.cells x), (g3, 24, Cg.cells c)]) := HF
  refine tK (.int .i64 0) <| ?_
  try simp only [pS]
  refine WL.nil <| ?_
  try simp only [pS]
  go_upto_region 1 with fail
  refine WL.start <| lP (Cg.cs c) HF 1 0 U24 S24 (Cg.cs c) rfl <| ?_
  try simp only [pS]
  cases q1 : (cfgP c zs)
  ·skip
   refine cB (cfg_is c zs _ (HCg.out.no HF.out.kept)) q1 HF fun w5 HF => tK (.bool true) <| ?_
   try simp only [pS]
   refine WL.nil <| ?_
   try simp only [pS]
   go_upto_region 2 with fail
   refine WL.start <| tK (.int .i64 20) <| ?_
   try simp only [pS]
   refine WL.nil <| ?_
   try simp only [pS]
   have hv : jdg (cfgP c zs) (cmdR c.bl x) 105 = 20 := by simp only [jdg, cond_true, cond_false, q1]
   go_wp2
   rw [HC.out, hv]
   exact ⟨rfl, HF.out.kept⟩
  ·skip
   refine cB (cfg_is c zs _ (HCg.out.no HF.out.kept)) q1 HF fun w6 HF => tK (.bool false) <| ?_
   try simp only [pS]
   refine WL.nil <| ?_
   try simp only [pS]
   go_upto_region 3 with fail
   refine WL.start <| lP (Cm.cs x) HF 0 0 U39 S39 (Cm.cs x) rfl <| lP (Cg.cs c) HF 1 0 U24 S24 (Cg.cs c) rfl <| ?_
   try simp only [pS]
   cases q2 : (cmdR c.bl x)
   ·skip
    refine cB (r_IsCommand x c _ (cfg_bl q1)) q2 HF fun w7 HF => tK (.bool true) <| ?_
    try simp only [pS]
    refine WL.nil <| ?_
    try simp only [pS]
    go_upto_region 4 with fail
    refine WL.start <| tK (.int .i64 105) <| ?_
    try simp only [pS]
    refine WL.nil <| ?_
    try simp only [pS]
    have hv : jdg (cfgP c zs) (cmdR c.bl x) 105 = 105 := by simp only [jdg, cond_true, cond_false, q1, q2]
    go_wp2
    rw [HC.out, hv]
    exact ⟨rfl, HF.out.kept⟩
   ·skip
    refine cB (r_IsCommand x c _ (cfg_bl q1)) q2 HF fun w8 HF => tK (.bool false) <| ?_
    try simp only [pS]
    refine WL.nil <| ?_
    try simp only [pS]
    go_upto_region 5 with fail
    refine WL.start <| tK (.int .i64 0) <| ?_
    try simp only [pS]
    refine WL.nil <| ?_
    try simp only [pS]
    have hv : jdg (cfgP c zs) (cmdR c.bl x) 105 = 0 := by simp only [jdg, cond_true, cond_false, q1, q2]
    go_wp2
    rw [HC.out, hv]
    exact ⟨rfl, HF.out.kept⟩
set_option maxRecDepth 100000 in
set_option maxHeartbeats 4000000 in
theorem r_Bucket0 (x : Bv) (c : Cg) (zs : List Int) (es : List En) (ls : List La) (w : World) (hc : CgIn w c zs) (hm : BkIn w x es ls) : Calls Tryz.prog 18 #[.agg (Bv.cells x), .agg (Cg.cells c)] w (fun e w' => e = .returned (.int .i64 (jdg (cfgP c zs) (bktR c.bl c.rm x es ls) 1)) ∧ Kept No w w') := by
  obtain ⟨C, hC⟩ : ∃ C : Ending → World → Prop, C = (fun e w' => e = .returned (.int .i64 (jdg (cfgP c zs) (bktR c.bl c.rm x es ls) 1)) ∧ Kept No w w') := ⟨_, rfl⟩
  have HC : Hid (C = (fun e w' => e = .returned (.int .i64 (jdg (cfgP c zs) (bktR c.bl c.rm x es ls) 1)) ∧ Kept No w w')) := hC
  rw [← hC]
  clear hC
  have HCg : Hid (CgIn w c zs) := hc
  have HI : Hid (BkIn w x es ls) := hm
  clear hc hm
  have HF : Hid (Fq No w w []) := Fq.start _ _
  go_enter Tryz.func18, Tryz.ntmps18
  go_upto_region 0 with fail
  refine WL.start <| xB (Bv.cells x) HF fun g1 w2 HF => ?_
  try simp only [pS]
  have HF : Hid (Fq No w w2 [(g1, 43, Bv.cells x)]) := HF
  refine xB (Cg.cells c) HF fun g3 w4 HF => ?_
  try simp only [pS]
  have HF : Hid (Fq No w w4 [(g1, 43, Bv.cells x), (g3, 24, Cg.cells c)]) := HF
  refine tK (.int .i64 0) <| ?_
  try simp only [pS]
  refine WL.nil <| ?_
  try simp only [pS]
  go_upto_region 1 with fail
  refine WL.start <| lP (Cg.cs c) HF 1 0 U24 S24 (Cg.cs c) rfl <| ?_
  try simp only [pS]
  cases q1 : (cfgP c zs)
  ·skip
   refine cB (cfg_is c zs _ (HCg.out.no HF.out.kept)) q1 HF fun w5 HF => tK (.bool true) <| ?_
   try simp only [pS]
   refine WL.nil <| ?_
   try simp only [pS]
   go_upto_region 2 with fail
   refine WL.start <| tK (.int .i64 20) <| ?_
   try simp only [pS]
   refine WL.nil <| ?_
   try simp only [pS]
   have hv : jdg (cfgP c zs) (bktR c.bl c.rm x es ls) 1 = 20 := by simp only [jdg, cond_true, cond_false, q1]
   go_wp2
   rw [HC.out, hv]
   exact ⟨rfl, HF.out.kept⟩
  ·skip
   refine cB (cfg_is c zs _ (HCg.out.no HF.out.kept)) q1 HF fun w6 HF => tK (.bool false) <| ?_
   try simp only [pS]
   refine WL.nil <| ?_
   try simp only [pS]
   go_upto_region 3 with fail
   refine WL.start <| lP (Bv.cs x) HF 0 0 U43 S43 (Bv.cs x) rfl <| lP (Cg.cs c) HF 1 0 U24 S24 (Cg.cs c) rfl <| ?_
   try simp only [pS]
   cases q2 : (bktR c.bl c.rm x es ls)
   ·skip
    refine cB (r_IsBucket x es ls c _ (cfg_bl q1) (HI.out.e.no HF.out.kept) (HI.out.l.no HF.out.kept) (by have := HI.out.ne; omega) (by have := HI.out.nl; omega)) q2 HF fun w7 HF => tK (.bool true) <| ?_
    try simp only [pS]
    refine WL.nil <| ?_
    try simp only [pS]
    go_upto_region 4 with fail
    refine WL.start <| tK (.int .i64 1) <| ?_
    try simp only [pS]
    refine WL.nil <| ?_
    try simp only [pS]
    have hv : jdg (cfgP c zs) (bktR c.bl c.rm x es ls) 1 = 1 := by simp only [jdg, cond_true, cond_false, q1, q2]
    go_wp2
    rw [HC.out, hv]
    exact ⟨rfl, HF.out.kept⟩
   ·skip
    refine cB (r_IsBucket x es ls c _ (cfg_bl q1) (HI.out.e.no HF.out.kept) (HI.out.l.no HF.out.kept) (by have := HI.out.ne; omega) (by have := HI.out.nl; omega)) q2 HF fun w8 HF => tK (.bool false) <| ?_
    try simp only [pS]
    refine WL.nil <| ?_
    try simp only [pS]
    go_upto_region 5 with fail
    refine WL.start <| tK (.int .i64 0) <| ?_
    try simp only [pS]
    refine WL.nil <| ?_
    try simp only [pS]
    have hv : jdg (cfgP c zs) (bktR c.bl c.rm x es ls) 1 = 0 := by simp only [jdg, cond_true, cond_false, q1, q2]
    go_wp2
    rw [HC.out, hv]
    exact ⟨rfl, HF.out.kept⟩
theorem r_Valid (m : Mg) (c : Cg) (zs : List Int) (bs : List Int) (es : List En) (ls : List La) (cs : List Cm) (w : World) (hc : CgIn w c zs) (hm : MgIn w m bs es ls cs) : Calls Tryz.prog 12 #[.agg (Mg.cells m), .agg (Cg.cells c)] w (fun e w' => e = .returned (.int .i64 (jdg (cfgP c zs) (msgP c.bl c.rm c.bu zs m bs es ls cs) 50)) ∧ Kept No w w') := by
  rw [← jdgM c zs m bs es ls cs 50 hm.e.len hm.l.len]; exact r_Valid0 m c zs bs es ls cs w hc hm
theorem r_Command (x : Cm) (c : Cg) (zs : List Int) (w : World) (hc : CgIn w c zs) : Calls Tryz.prog 15 #[.agg (Cm.cells x), .agg (Cg.cells c)] w (fun e w' => e = .returned (.int .i64 (jdg (cfgP c zs) (cmdP c.bl x) 105)) ∧ Kept No w w') := by
  rw [← jdgC c zs x 105]; exact r_Command0 x c zs w hc
theorem r_Bucket (x : Bv) (c : Cg) (zs : List Int) (es : List En) (ls : List La) (w : World) (hc : CgIn w c zs) (hm : BkIn w x es ls) : Calls Tryz.prog 18 #[.agg (Bv.cells x), .agg (Cg.cells c)] w (fun e w' => e = .returned (.int .i64 (jdg (cfgP c zs) (bktP c.bl c.rm x es ls) 1)) ∧ Kept No w w') := by
  rw [← jdgK c zs x es ls 1 hm.e.len hm.l.len]; exact r_Bucket0 x c zs es ls w hc hm
theorem p_ValidL (m : Mg) (c : Cg) (zs : List Int) (bs : List Int) (es : List En) (ls : List La) (cs : List Cm) (gb g g2 gc k : Nat) (w : World) (hc : CgIn w (lnC c k) zs) (hm : MgIn w (lnM m gb g g2 gc) bs es ls cs) : Calls Tryz.prog 11 #[.agg (Mg.cells (lnM m gb g g2 gc)), .agg (Cg.cells (lnC c k))] w (fun e w' => e = .returned (.int .i64 (jdg (cfgP c zs) (msgP c.bl c.rm c.bu zs m bs es ls cs) 50)) ∧ Kept No w w') := p_Valid (lnM m gb g g2 gc) (lnC c k) zs bs es ls cs w hc hm
theorem p_CommandL (x : Cm) (c : Cg) (zs : List Int) (k : Nat) (w : World) (hc : CgIn w (lnC c k) zs) : Calls Tryz.prog 14 #[.agg (Cm.cells x), .agg (Cg.cells (lnC c k))] w (fun e w' => e = .returned (.int .i64 (jdg (cfgP c zs) (cmdP c.bl x) 105)) ∧ Kept No w w') := p_Command x (lnC c k) zs w hc
theorem p_BucketL (x : Bv) (c : Cg) (zs : List Int) (es : List En) (ls : List La) (g g2 k : Nat) (w : World) (hc : CgIn w (lnC c k) zs) (hm : BkIn w (lnB x g g2) es ls) : Calls Tryz.prog 17 #[.agg (Bv.cells (lnB x g g2)), .agg (Cg.cells (lnC c k))] w (fun e w' => e = .returned (.int .i64 (jdg (cfgP c zs) (bktP c.bl c.rm x es ls) 1)) ∧ Kept No w w') := p_Bucket (lnB x g g2) (lnC c k) zs es ls w hc hm

end Go.Proofs.YtgdnofacgfjaeaaGreat.Md
namespace Go.Proofs.YtgdnofacgfjaeaaGreat.Wi
open Go.RowKit
set_option linter.unusedVariables false

def headOf (zs : List Int) : List Int := fourOf zs.length ++ fourOf (sumOf (fourOf zs.length))
def sealOf (zs : List Int) : List Int := headOf zs ++ zs ++ fourOf (sumOf (headOf zs ++ zs))
theorem headOf_len (zs : List Int) : (headOf zs).length = 8 := rfl
theorem sealOf_len (zs : List Int) : (sealOf zs).length = zs.length + 12 := by simp [sealOf, headOf_len, fourOf_len]; omega
theorem headOf_u8 (zs : List Int) : U8 (headOf zs) := (fourOf_u8 _).append (fourOf_u8 _)
theorem sealOf_u8 {zs : List Int} (h : U8 zs) : U8 (sealOf zs) := ((headOf_u8 _).append h).append (fourOf_u8 _)

theorem at_some {b off k : Nat} (h : At (some ⟨b, off, none⟩) k) : k = b := by obtain ⟨ad, e, rfl⟩ := h; cases e; rfl

/-- What the call itself has made since the world w. -/
theorem Kept.fresh {w w1 w2 : World} {S : Nat → Prop} (h : Kept No w w1) (k : Kept S w1 w2) (hS : ∀ i, S i → w.heap.size ≤ i) : Kept No w w2 :=
  h.trans k (fun _ e => e) (fun i hi e => absurd hi (by have := hS i e; omega))

theorem ret_slice {a : Option Addr} {n m c : Nat} (h : n = m) : Ending.returned (.slice a n c) = .returned (.slice a m c) := by rw [h]

set_option maxRecDepth 1000000 in
set_option maxHeartbeats 1000000 in
theorem seal_any (a : Option Addr) (m cap : Nat) (zs : List Int) (w : World) (hz : zs.length = m) (hm : m ≤ 131072) (hb : Bytes w a zs) (h8 : U8 zs) (hc : a = none → cap = 0) :
    Calls Tryz.prog 38 #[.slice a m cap] w fun e w' => ∃ a' c', e = .returned (.slice a' (m + 12) c') ∧ OwnS w' w.heap.size a' c' (sealOf zs) ∧ Kept No w w' := by
  have HB : Hid (Bytes w a zs) := hb
  have H8 : Hid (U8 zs) := h8
  have HC : Hid (a = none → cap = 0) := hc
  have HZ : Hid (zs.length = m) := hz
  clear hb h8 hc hz
  obtain ⟨i0, hi, hz0, hz1, hz2⟩ := info_parts Tryz.info5
  go_enter Tryz.func38, Tryz.ntmps38
  go_wp2_with (at_make; go_must (refine wpList_make_own _ rfl _ (.tmp 10) 35 rfl w.heap.size 5 i0 (.int .u8 0) 1 Tryz.underlying35 hi hz0 hz1 .i64 .i64 _ (m + 12) rfl rfl (by omega) (by rw [hz2]; omega) (by unfold maxLen; omega) (Nat.le_refl _) ?_; intro w1 hown hgrow; have HO1 : Hid (OwnS w1 w.heap.size (some ⟨w.heap.size, 0, none⟩) (m + 12) []) := hown; have HK1 : Hid (Kept No w w1) := kept_grown hgrow; clear hown hgrow))
  refine (putFour_any w.heap.size _ _ _ [] _ _ rfl HO1.out HK1.out.size (by omega) (by omega) (by simp)).mono ?_
  rintro e w2 ⟨a2, c2, rfl, hO2, hK2⟩
  have HO2 : Hid (OwnS w2 w.heap.size a2 c2 (fourOf m)) := hO2
  have HK2 : Hid (Kept No w w2) := HK1.out.fresh hK2 (fun i e => HO1.out.base e)
  clear hO2 hK2 HO1 HK1
  go_wp2_with fail
  refine (sumN_any _ _ _ (fourOf m) _ (by simp [fourOf_len]) (by omega) HO2.out.bytes (fourOf_u8 _)).mono ?_
  rintro e w' ⟨rfl, rfl⟩
  have hs := sumOf_bd (fourOf m)
  go_wp2_with fail
  refine (putFour_any w.heap.size _ _ _ (fourOf m) _ _ (by simp [fourOf_len]) HO2.out HK2.out.size (by omega) (by omega) (by omega)).mono ?_
  rintro e w3 ⟨a3, c3, rfl, hO3, hK3⟩
  have HO3 : Hid (OwnS w3 w.heap.size a3 c3 (headOf zs)) := by unfold headOf; rw [HZ.out]; exact hO3
  have HK3 : Hid (Kept No w w3) := HK2.out.fresh hK3 (fun i e => HO2.out.base e)
  clear hO3 hK3 HO2 HK2 hs
  go_wp2_with (at_builtin; go_must (refine wp_app _ Tryz.underlying35 Tryz.info5 rfl _ _ rfl w.heap.size _ _ _ (headOf zs) rfl (by simp [headOf_len]) HO3.out _ _ _ zs rfl HZ.out (HB.out.no HK3.out) HC.out (by have := HZ.out; rw [headOf_len]; omega) HK3.out.size ?_; intro a4 c4 w4 HO4 HK4' HN'; have HK4 : Hid (Kept No w w4) := HK3.out.fresh HK4'.out (fun i e => HO3.out.base e); clear HK4' HN' HO3 HK3))
  refine (sumN_any _ _ _ (headOf zs ++ zs) _ (by have := HZ.out; simp [headOf_len]; omega) (by omega) HO4.out.bytes ((headOf_u8 _).append H8.out)).mono ?_
  rintro e w' ⟨rfl, rfl⟩
  have hs := sumOf_bd (headOf zs ++ zs)
  go_wp2_with fail
  refine (putFour_any w.heap.size _ _ _ (headOf zs ++ zs) _ _ (by have := HZ.out; simp [headOf_len]; omega) HO4.out HK4.out.size (by omega) (by omega) (by omega)).mono ?_
  rintro e w5 ⟨a5, c5, rfl, hO5, hK5⟩
  have HO5 : Hid (OwnS w5 w.heap.size a5 c5 (sealOf zs)) := hO5
  have HK5 : Hid (Kept No w w5) := HK4.out.fresh hK5 (fun i e => HO4.out.base e)
  clear hO5 hK5 HO4 HK4 hs
  go_wp2
  go_ret
  exact ⟨a5, c5, ret_slice (by omega), HO5.out, HK5.out⟩

end Go.Proofs.YtgdnofacgfjaeaaGreat.Wi
namespace Go.Proofs.YtgdnofacgfjaeaaGreat.Wi
open Go.RowKit
set_option linter.unusedVariables false

theorem Bytes.drop {w : World} {b off : Nat} {zs : List Int} (h : Bytes w (some ⟨b, off, none⟩) zs) (k : Nat) : Bytes w (some ⟨b, off + k, none⟩) (zs.drop k) := by
  intro i hi
  simp only [List.length_drop] at hi
  obtain ⟨b', off', e, hc⟩ := h (k + i) (by omega)
  cases e
  refine ⟨b, off + k, rfl, ?_⟩
  rw [List.getElem?_drop, Nat.add_assoc]
  exact hc
theorem Bytes.take {w : World} {a : Option Addr} {zs : List Int} (h : Bytes w a zs) (k : Nat) : Bytes w a (zs.take k) := by
  intro i hi
  simp only [List.length_take] at hi
  rw [List.getElem?_take, if_pos (by omega)]
  exact h i (by omega)
theorem Bytes.drewN {w : World} {a : Option Addr} {zs : List Int} (h : Bytes w a zs) (n : Nat) : Bytes (w.drewN n) a zs := h

theorem four_n (N : Int) (a : Option Addr) (m cap : Nat) (zs : List Int) (w : World) (hN : numOf zs = N) (hm : zs.length = m) (h4 : 4 ≤ m) (hb : Bytes w a zs) (h8 : U8 zs) :
    Calls Tryz.prog 199 #[.slice a m cap] w fun e w' => e = .returned (.int .i64 N) ∧ ∃ n, w' = w.drewN n := by
  subst hN; exact four_any a m cap zs w hm h4 hb h8
theorem sum_n (N : Int) (a : Option Addr) (m cap : Nat) (zs : List Int) (w : World) (hN : sumOf zs = N) (hz : zs.length = m) (hm : m ≤ 140737488355328) (hb : Bytes w a zs) (h8 : U8 zs) :
    Calls Tryz.prog 84 #[.slice a m cap] w fun e w' => e = .returned (.int .i64 N) ∧ w' = w := by
  subst hN; exact sumN_any a m cap zs w hz hm hb h8
/-- What Open says: the body, and the error. -/
def openOf (zs : List Int) : List Int × Int :=
  if zs.length < 8 then ([], 10)
  else if numOf (zs.drop 4) ≠ sumOf (zs.take 4) then ([], 12)
  else if 131072 < numOf zs then ([], 2)
  else if (zs.length : Int) < numOf zs + 12 then ([], 10)
  else if numOf zs + 12 < (zs.length : Int) then ([], 11)
  else if numOf (zs.drop ((numOf zs).toNat + 8)) ≠ sumOf (zs.take ((numOf zs).toNat + 8)) then ([], 12)
  else ((zs.drop 8).take (numOf zs).toNat, 0)

/-- What a call of Open leaves. -/
def Opens (w : World) (zs : List Int) (e : Ending) (w' : World) : Prop :=
  ∃ a' n' c', e = .returned (.tuple #[.slice a' n' c', .int .i64 (openOf zs).2]) ∧ n' = (openOf zs).1.length ∧ OwnS w' w.heap.size a' c' (openOf zs).1 ∧ Kept No w w'

theorem opens_no {w : World} {zs : List Int} {w' : World} (x : Int) (h : openOf zs = ([], x)) (k : Kept No w w') : Opens w zs (.returned (.tuple #[.slice none 0 0, .int .i64 x])) w' :=
  ⟨none, 0, 0, by rw [h], by rw [h]; rfl, by rw [h]; exact OwnS.nil _ _, k⟩

theorem numOf_bd {zs : List Int} (h : U8 zs) : 0 ≤ numOf zs ∧ numOf zs ≤ 4294967295 := by
  have a := h 0; have b := h 1; have c := h 2; have d := h 3
  unfold numOf; omega

set_option maxRecDepth 1000000 in
set_option maxHeartbeats 400000 in
theorem open_cut (a : Option Addr) (m cap : Nat) (zs : List Int) (w : World) (hz : zs.length = m) (hl : m < 8) :
    Calls Tryz.prog 157 #[.slice a m cap] w (Opens w zs) := by
  have HO : Hid (openOf zs = ([], 10)) := by unfold Hid openOf; rw [if_pos (by omega)]
  clear hz
  go_enter Tryz.func157, Tryz.ntmps157
  go_wp2
  go_ret2
  exact opens_no 10 HO.out (Kept.refl _ _)

end Go.Proofs.YtgdnofacgfjaeaaGreat.Wi
namespace Go.Proofs.YtgdnofacgfjaeaaGreat.Wi
open Go.RowKit
set_option linter.unusedVariables false

set_option maxRecDepth 1000000 in
set_option maxHeartbeats 1000000 in
theorem open_any (b off m cap : Nat) (zs : List Int) (w : World) (hz : zs.length = m) (hm : m ≤ 140737488355328) (hcm : cap ≤ 9223372036854775807) (hcap : m ≤ cap) (hb : Bytes w (some ⟨b, off, none⟩) zs) (h8 : U8 zs) (hl : 8 ≤ m) :
    Calls Tryz.prog 157 #[.slice (some ⟨b, off, none⟩) m cap] w (Opens w zs) := by
  have HB : Hid (Bytes w (some ⟨b, off, none⟩) zs) := hb
  have H8 : Hid (U8 zs) := h8
  have HZ : Hid (zs.length = m) := hz
  obtain ⟨n, hn⟩ : ∃ n : Nat, numOf zs = n := ⟨(numOf zs).toNat, by have := numOf_bd h8; omega⟩
  have hn2 : n ≤ 4294967295 := by have := numOf_bd h8; omega
  obtain ⟨P, hP⟩ : ∃ P, numOf (zs.drop 4) = P := ⟨_, rfl⟩
  obtain ⟨S, hS⟩ : ∃ S, sumOf (zs.take 4) = S := ⟨_, rfl⟩
  have HN : Hid (numOf zs = n) := hn
  have HP : Hid (numOf (zs.drop 4) = P) := hP
  have HS : Hid (sumOf (zs.take 4) = S) := hS
  clear hb h8 hz hn hP hS
  have g1 : (4 : Int) ≤ (m : Int) := by omega
  have g2 : (m : Int) ≤ (cap : Int) := by omega
  have g3 : ¬ (cap = 4) := by omega
  have g4 : (4 : Int) ≤ (cap : Int) := by omega
  have g5 : ¬ ((cap : Int) = 4) := by omega
  by_cases hps : P = S
  · have hps' : (P == S) = true := by simpa using hps
    by_cases h1 : 131072 < n
    · have HO : Hid (openOf zs = ([], 2)) := by unfold Hid openOf; rw [HP.out, HS.out, HZ.out, HN.out, if_neg (by omega), if_neg (by simpa using hps), if_pos (by omega)]
      clear hps
      go_enter Tryz.func157, Tryz.ntmps157
      go_wp2
      go_quiet ((first
        | (go_at_call 199; exact Calls.quiet_of (four_n P _ _ _ (zs.drop 4) _ HP.out (by have := HZ.out; simp; omega) (by omega) ((HB.out.drop 4).drewN _) (H8.out.drop 4)))
        | (go_at_call 84; exact Calls.quiet_of_same (sum_n S _ _ _ (zs.take 4) _ HS.out (by have := HZ.out; simp; omega) (by omega) ((HB.out.take 4).drewN _) (H8.out.take 4)))))
      go_wp2_with fail
      refine (four_n n _ _ _ zs _ HN.out HZ.out (by omega) (HB.out.drewN _) H8.out).mono ?_
      rintro e w1 ⟨rfl, n1, hw1⟩
      have HB2 : Hid (Bytes w1 (some ⟨b, off, none⟩) zs) := by rw [hw1]; exact HB.out
      have HK2 : Hid (Kept No w w1) := by rw [hw1]; exact (Kept.no_drewN _ _).drewN _
      clear hw1
      go_wp2
      go_ret2
      exact opens_no 2 HO.out HK2.out
    by_cases h2 : m < n + 12
    · have HO : Hid (openOf zs = ([], 10)) := by unfold Hid openOf; rw [HP.out, HS.out, HZ.out, HN.out, if_neg (by omega), if_neg (by simpa using hps), if_neg (by omega), if_pos (by omega)]
      clear hps
      go_enter Tryz.func157, Tryz.ntmps157
      go_wp2
      go_quiet ((first
        | (go_at_call 199; exact Calls.quiet_of (four_n P _ _ _ (zs.drop 4) _ HP.out (by have := HZ.out; simp; omega) (by omega) ((HB.out.drop 4).drewN _) (H8.out.drop 4)))
        | (go_at_call 84; exact Calls.quiet_of_same (sum_n S _ _ _ (zs.take 4) _ HS.out (by have := HZ.out; simp; omega) (by omega) ((HB.out.take 4).drewN _) (H8.out.take 4)))))
      go_wp2_with fail
      refine (four_n n _ _ _ zs _ HN.out HZ.out (by omega) (HB.out.drewN _) H8.out).mono ?_
      rintro e w1 ⟨rfl, n1, hw1⟩
      have HB2 : Hid (Bytes w1 (some ⟨b, off, none⟩) zs) := by rw [hw1]; exact HB.out
      have HK2 : Hid (Kept No w w1) := by rw [hw1]; exact (Kept.no_drewN _ _).drewN _
      clear hw1
      go_wp2
      go_ret2
      exact opens_no 10 HO.out HK2.out
    by_cases h3 : n + 12 < m
    · have HO : Hid (openOf zs = ([], 11)) := by unfold Hid openOf; rw [HP.out, HS.out, HZ.out, HN.out, if_neg (by omega), if_neg (by simpa using hps), if_neg (by omega), if_neg (by omega), if_pos (by omega)]
      clear hps
      go_enter Tryz.func157, Tryz.ntmps157
      go_wp2
      go_quiet ((first
        | (go_at_call 199; exact Calls.quiet_of (four_n P _ _ _ (zs.drop 4) _ HP.out (by have := HZ.out; simp; omega) (by omega) ((HB.out.drop 4).drewN _) (H8.out.drop 4)))
        | (go_at_call 84; exact Calls.quiet_of_same (sum_n S _ _ _ (zs.take 4) _ HS.out (by have := HZ.out; simp; omega) (by omega) ((HB.out.take 4).drewN _) (H8.out.take 4)))))
      go_wp2_with fail
      refine (four_n n _ _ _ zs _ HN.out HZ.out (by omega) (HB.out.drewN _) H8.out).mono ?_
      rintro e w1 ⟨rfl, n1, hw1⟩
      have HB2 : Hid (Bytes w1 (some ⟨b, off, none⟩) zs) := by rw [hw1]; exact HB.out
      have HK2 : Hid (Kept No w w1) := by rw [hw1]; exact (Kept.no_drewN _ _).drewN _
      clear hw1
      go_wp2
      go_ret2
      exact opens_no 11 HO.out HK2.out
    obtain rfl : m = n + 12 := by omega
    obtain ⟨P2, hP2⟩ : ∃ P, numOf (zs.drop (n + 8)) = P := ⟨_, rfl⟩
    obtain ⟨S2, hS2⟩ : ∃ S, sumOf (zs.take (n + 8)) = S := ⟨_, rfl⟩
    have HP2 : Hid (numOf (zs.drop (n + 8)) = P2) := hP2
    have HS2 : Hid (sumOf (zs.take (n + 8)) = S2) := hS2
    clear hP2 hS2
    have q0 : (0 : Int) ≤ 8 + (n : Int) := by omega
    have q1 : (8 : Int) + (n : Int) ≤ (n : Int) + 12 := by omega
    have q2 : ((8 : Int) + (n : Int)).toNat = n + 8 := by omega
    have q3 : ¬ (cap = n + 8) := by omega
    have k6 : ¬ (cap = 8) := by omega
    clear h2 h3
    by_cases hq : P2 = S2
    · have hq' : (P2 == S2) = true := by simpa using hq
      have HO : Hid (openOf zs = ((zs.drop 8).take n, 0)) := by unfold Hid openOf; rw [HP.out, HS.out, HZ.out, HN.out, if_neg (by omega), if_neg (by simpa using hps), if_neg (by omega), if_neg (by omega), if_neg (by omega), Int.toNat_natCast, HP2.out, HS2.out, if_neg (by simpa using hq)]
      clear hps hq
      go_enter Tryz.func157, Tryz.ntmps157
      go_wp2
      go_quiet ((first
        | (go_at_call 199; exact Calls.quiet_of (four_n P _ _ _ (zs.drop 4) _ HP.out (by have := HZ.out; simp; omega) (by omega) ((HB.out.drop 4).drewN _) (H8.out.drop 4)))
        | (go_at_call 84; exact Calls.quiet_of_same (sum_n S _ _ _ (zs.take 4) _ HS.out (by have := HZ.out; simp; omega) (by omega) ((HB.out.take 4).drewN _) (H8.out.take 4)))))
      go_wp2_with fail
      refine (four_n n _ _ _ zs _ HN.out HZ.out (by omega) (HB.out.drewN _) H8.out).mono ?_
      rintro e w1 ⟨rfl, n1, hw1⟩
      have HB2 : Hid (Bytes w1 (some ⟨b, off, none⟩) zs) := by rw [hw1]; exact HB.out
      have HK2 : Hid (Kept No w w1) := by rw [hw1]; exact (Kept.no_drewN _ _).drewN _
      clear hw1
      go_wp2_with fail
      go_quiet ((first
        | (go_at_call 199; exact Calls.quiet_of (four_n P2 _ _ _ (zs.drop (n + 8)) _ HP2.out (by have := HZ.out; simp; omega) (by omega) ((HB2.out.drop (n + 8)).drewN _) (H8.out.drop _)))
        | (go_at_call 84; exact Calls.quiet_of_same (sum_n S2 _ _ _ (zs.take (n + 8)) _ HS2.out (by have := HZ.out; simp; omega) (by omega) ((HB2.out.take (n + 8)).drewN _) (H8.out.take _)))))
      go_wp2_with fail
      refine (clone_any _ _ _ ((zs.drop 8).take n) _ (by have := HZ.out; simp; omega) (((HB2.out.drop 8).take n).drewN _) (fun e => by cases e) (by omega)).mono ?_
      rintro e w3 ⟨a3, c3, rfl, hO3, hK3, -⟩
      have HO3 : Hid (OwnS w3 w.heap.size a3 c3 ((zs.drop 8).take n)) := hO3.lower HK2.out.size
      have HK3 : Hid (Kept No w w3) := (HK2.out.drewN _).then hK3
      clear hO3 hK3
      go_wp2
      go_ret2
      exact ⟨a3, n, c3, by rw [HO.out]; rfl, by rw [HO.out]; have := HZ.out; simp; omega, by rw [HO.out]; exact HO3.out, HK3.out⟩
    · have hq' : (P2 == S2) = false := by simpa using hq
      have HO : Hid (openOf zs = ([], 12)) := by unfold Hid openOf; rw [HP.out, HS.out, HZ.out, HN.out, if_neg (by omega), if_neg (by simpa using hps), if_neg (by omega), if_neg (by omega), if_neg (by omega), Int.toNat_natCast, HP2.out, HS2.out, if_pos (by simpa using hq)]
      clear hps hq
      go_enter Tryz.func157, Tryz.ntmps157
      go_wp2
      go_quiet ((first
        | (go_at_call 199; exact Calls.quiet_of (four_n P _ _ _ (zs.drop 4) _ HP.out (by have := HZ.out; simp; omega) (by omega) ((HB.out.drop 4).drewN _) (H8.out.drop 4)))
        | (go_at_call 84; exact Calls.quiet_of_same (sum_n S _ _ _ (zs.take 4) _ HS.out (by have := HZ.out; simp; omega) (by omega) ((HB.out.take 4).drewN _) (H8.out.take 4)))))
      go_wp2_with fail
      refine (four_n n _ _ _ zs _ HN.out HZ.out (by omega) (HB.out.drewN _) H8.out).mono ?_
      rintro e w1 ⟨rfl, n1, hw1⟩
      have HB2 : Hid (Bytes w1 (some ⟨b, off, none⟩) zs) := by rw [hw1]; exact HB.out
      have HK2 : Hid (Kept No w w1) := by rw [hw1]; exact (Kept.no_drewN _ _).drewN _
      clear hw1
      go_wp2_with fail
      go_quiet ((first
        | (go_at_call 199; exact Calls.quiet_of (four_n P2 _ _ _ (zs.drop (n + 8)) _ HP2.out (by have := HZ.out; simp; omega) (by omega) ((HB2.out.drop (n + 8)).drewN _) (H8.out.drop _)))
        | (go_at_call 84; exact Calls.quiet_of_same (sum_n S2 _ _ _ (zs.take (n + 8)) _ HS2.out (by have := HZ.out; simp; omega) (by omega) ((HB2.out.take (n + 8)).drewN _) (H8.out.take _)))))
      go_wp2
      go_ret2
      exact opens_no 12 HO.out (HK2.out.drewN _)
  · have hps' : (P == S) = false := by simpa using hps
    have HO : Hid (openOf zs = ([], 12)) := by unfold Hid openOf; rw [HP.out, HS.out, HZ.out, if_neg (by omega), if_pos hps]
    clear hps
    go_enter Tryz.func157, Tryz.ntmps157
    go_wp2
    go_quiet ((first
      | (go_at_call 199; exact Calls.quiet_of (four_n P _ _ _ (zs.drop 4) _ HP.out (by have := HZ.out; simp; omega) (by omega) ((HB.out.drop 4).drewN _) (H8.out.drop 4)))
      | (go_at_call 84; exact Calls.quiet_of_same (sum_n S _ _ _ (zs.take 4) _ HS.out (by have := HZ.out; simp; omega) (by omega) ((HB.out.take 4).drewN _) (H8.out.take 4)))))
    go_wp2
    go_ret2
    exact opens_no 12 HO.out (Kept.no_drewN _ _)

end Go.Proofs.YtgdnofacgfjaeaaGreat.Wi
namespace Go.Proofs.YtgdnofacgfjaeaaGreat.Wi
open Go.RowKit
set_option linter.unusedVariables false

/-- A slice of bytes, as it may be handed in. -/
structure Sl (w : World) (a : Option Addr) (m cap : Nat) (zs : List Int) : Prop where
  len : zs.length = m
  bytes : Bytes w a zs
  u8 : U8 zs
  le : m ≤ cap
  cm : cap ≤ 9223372036854775807
  bd : m ≤ 140737488351232
  nil : a = none → cap = 0

theorem Sl.kept {S : Nat → Prop} {w w' : World} {a : Option Addr} {m cap : Nat} {zs : List Int} (h : Sl w a m cap zs) (hk : Kept S w w') (hS : ∀ k, k < w.heap.size → ¬ S k) : Sl w' a m cap zs :=
  ⟨h.len, fun i hi => by
    obtain ⟨b, off, rfl, hc⟩ := h.bytes i hi
    exact ⟨b, off, rfl, hk.cell hc (hS b (World.block_lt_of_cell? w _ hc))⟩, h.u8, h.le, h.cm, h.bd, h.nil⟩
theorem Sl.no {w w' : World} {a : Option Addr} {m cap : Nat} {zs : List Int} (h : Sl w a m cap zs) (hk : Kept No w w') : Sl w' a m cap zs := h.kept hk (fun _ _ e => e)
/-- It stays where only the blocks of S have turned, and its own is none of them. -/
theorem Sl.off {S : Nat → Prop} {w w' : World} {a : Option Addr} {m cap : Nat} {zs : List Int} (h : Sl w a m cap zs) (hk : Kept S w w') (hS : ∀ k, At a k → ¬ S k) : Sl w' a m cap zs :=
  ⟨h.len, h.bytes.kept hk (fun b off e => hS b ⟨_, e, rfl⟩), h.u8, h.le, h.cm, h.bd, h.nil⟩

theorem OwnS.sl {w : World} {base : Nat} {a : Option Addr} {m cap : Nat} {zs : List Int} (h : OwnS w base a cap zs) (hm : zs.length = m) (h8 : U8 zs) (hb : m ≤ 140737488351232) : Sl w a m cap zs := by
  refine ⟨hm, h.bytes, h8, by rw [← hm]; exact h.len, ?_, hb, h.nilcap⟩
  rcases h.cases with ⟨_, rfl, _⟩ | ⟨g, _, _, _, _, hc⟩
  · omega
  · unfold maxLen at hc; omega

theorem open_sl {a : Option Addr} {m cap : Nat} {zs : List Int} {w : World} (h : Sl w a m cap zs) : Calls Tryz.prog 157 #[.slice a m cap] w (Opens w zs) := by
  by_cases hl : m < 8
  · exact open_cut a m cap zs w h.len hl
  · obtain ⟨b, off, rfl, _⟩ := h.bytes 0 (by rw [h.len]; omega)
    exact open_any b off m cap zs w h.len (by have := h.bd; omega) h.cm h.le h.bytes h.u8 (by omega)
end Go.Proofs.YtgdnofacgfjaeaaGreat.Wi
namespace Go.Proofs.YtgdnofacgfjaeaaGreat.Wi
open Go.RowKit
set_option linter.unusedVariables false

/-- One thing that is put: its kind, the number, where its bytes lie, and the bytes. -/
structure Item where
  k : Int
  n : Int
  a : Option Addr
  m : Nat
  c : Nat
  zs : List Int

def Item.val (x : Item) : Value := .agg #[.int .i64 x.k, .int .i64 x.n, .slice x.a x.m x.c]

structure ItOk (w : World) (x : Item) : Prop where
  sl : Sl w x.a x.m x.c x.zs
  lo : -9223372036854775808 ≤ x.n
  hi : x.n ≤ 9223372036854775807

theorem ItOk.no {w w' : World} {x : Item} (h : ItOk w x) (hk : Kept No w w') : ItOk w' x := ⟨h.sl.no hk, h.lo, h.hi⟩

/-- Things in a row. -/
def Its (w : World) (a : Option Addr) (xs : List Item) : Prop := ∀ (i : Nat) x, xs[i]? = some x → ∃ b off, a = some ⟨b, off, none⟩ ∧
  w.cell? ⟨b, off + i * 3, none⟩ = some (.int .i64 x.k) ∧ w.cell? ⟨b, off + i * 3 + 1, none⟩ = some (.int .i64 x.n) ∧ w.cell? ⟨b, off + i * 3 + 2, none⟩ = some (.slice x.a x.m x.c)

theorem Its.kept {S : Nat → Prop} {w w' : World} {a : Option Addr} {xs : List Item} (h : Its w a xs) (hk : Kept S w w') (hS : ∀ k, At a k → ¬ S k) : Its w' a xs := by
  intro i x hx
  obtain ⟨b, off, rfl, h1, h2, h3⟩ := h i x hx
  exact ⟨b, off, rfl, hk.cell h1 (hS b ⟨_, rfl, rfl⟩), hk.cell h2 (hS b ⟨_, rfl, rfl⟩), hk.cell h3 (hS b ⟨_, rfl, rfl⟩)⟩
theorem Its.no {w w' : World} {a : Option Addr} {xs : List Item} (h : Its w a xs) (hk : Kept No w w') : Its w' a xs := h.kept hk (fun _ _ e => e)

end Go.Proofs.YtgdnofacgfjaeaaGreat.Wi
namespace Go.Proofs.YtgdnofacgfjaeaaGreat.Wi
open Go.RowKit
set_option linter.unusedVariables false

/-- Bytes stay where only the blocks of S have turned, and, if there are any, theirs is none of them. -/
theorem Bytes.kept2 {S : Nat → Prop} {w w' : World} {a : Option Addr} {zs : List Int} (h : Bytes w a zs) (hk : Kept S w w') (hS : 0 < zs.length → ∀ k, At a k → ¬ S k) : Bytes w' a zs := by
  intro i hi
  obtain ⟨b, off, rfl, hc⟩ := h i hi
  exact ⟨b, off, rfl, hk.cell hc (hS (by omega) b ⟨_, rfl, rfl⟩)⟩

theorem World.heap_size_alloc1 (w : World) (o : Obj) : (w.alloc o).heap.size = w.heap.size + 1 := by simp

end Go.Proofs.YtgdnofacgfjaeaaGreat.Wi
namespace Go.Proofs.YtgdnofacgfjaeaaGreat.Wi
open Go.RowKit
set_option linter.unusedVariables false

theorem Tryz.assertNil (w : World) : (Instr.typeAssert Value.nilIface 20 47 true).run Tryz.prog w = .ok (.tuple #[.int .i64 0, .bool false]) w := by kernel_rfl
theorem Tryz.assertErr (v : Value) (w : World) : (Instr.typeAssert (.iface 47 v) 20 47 true).run Tryz.prog w = .ok (.tuple #[v, .bool true]) w := by kernel_rfl

set_option maxRecDepth 1000000 in
set_option maxHeartbeats 1000000 in
theorem catch_idle (p q : Addr) (w : World) :
    CallsD Tryz.prog 226 #[.pointer (some p), .pointer (some q)] .returning w fun e u' w' => e = .returned (.tuple #[]) ∧ u' = .returning ∧ w' = w := by
  have h := fun w => Tryz.assertNil w
  refine callsD_of_wpS Tryz.func226 rfl fun c₀ cs hu => ?_
  apply wpS_seq
  apply wpS_region
  simp [wpOpsS, go_sem, recoverD, hu, Tryz.ntmps226, Exit.thenS, h]
  apply wpS_seq
  apply wpS_region
  simp [wpOpsS, go_sem, Exit.thenS]
  refine wpS_cond (t := false) (by simp [Act.eval, Array.replicate]) ?_
  simp only [Bool.false_eq_true, if_false]
  refine wpS_of_wp (wp_skip ?_)
  cases c₀
  simp_all [bodyPostS, results, Tryz.results226]

set_option maxRecDepth 1000000 in
set_option maxHeartbeats 1000000 in
theorem catch_panicking (p q g : Nat) (at_ code : Int) (v0 v1 v2 v3 : Value) (older : List PanicEntry) (w : World)
    (hp : w.cell? ⟨p, 0, none⟩ = some (.int .i64 at_)) (hq : w.cell? ⟨q, 0, none⟩ = some (.pointer (some ⟨g, 0, none⟩)))
    (c0 : w.cell? ⟨g, 0, none⟩ = some v0) (c1 : w.cell? ⟨g, 1, none⟩ = some v1) (c2 : w.cell? ⟨g, 2, none⟩ = some v2) (c3 : w.cell? ⟨g, 3, none⟩ = some v3)
    (f0 : w.frozen? ⟨g, 0, none⟩ = false) (f1 : w.frozen? ⟨g, 1, none⟩ = false) (f2 : w.frozen? ⟨g, 2, none⟩ = false) (f3 : w.frozen? ⟨g, 3, none⟩ = false) :
    CallsD Tryz.prog 226 #[.pointer (some ⟨p, 0, none⟩), .pointer (some ⟨q, 0, none⟩)] (.panicking ({ v := .iface 47 (.int .i64 code), recovered := false } :: older)) w fun e u' w' =>
      e = .returned (.tuple #[]) ∧ u' = .panicking ({ v := .iface 47 (.int .i64 code), recovered := true } :: older) ∧
      w' = (((w.setCell ⟨g, 0, none⟩ (.slice none 0 0)).setCell ⟨g, 1, none⟩ (.int .i64 0)).setCell ⟨g, 2, none⟩ (.int .i64 at_)).setCell ⟨g, 3, none⟩ (.int .i64 code) := by
  have h := fun v w => Tryz.assertErr v w
  refine callsD_of_wpS Tryz.func226 rfl fun c₀ cs hu => ?_
  apply wpS_seq
  apply wpS_region
  simp [wpOpsS, go_sem, recoverD, hu, Tryz.ntmps226, Exit.thenS, h]
  apply wpS_seq
  apply wpS_region
  simp [wpOpsS, go_sem, Exit.thenS]
  refine wpS_cond (t := true) (by simp [Act.eval, Array.replicate]) ?_
  simp only [if_true]
  clear h
  refine wpS_of_wp ?_
  go_wp2
  clear hp hq c0 c1 c2 c3 f0 f1 f2 f3
  simp [bodyPostS, results, Tryz.results226]

end Go.Proofs.YtgdnofacgfjaeaaGreat.Wi
namespace Go.Proofs.YtgdnofacgfjaeaaGreat.Wi
open Go.RowKit
set_option linter.unusedVariables false

/-- A Reader at block g without a fault: what is left lies at la; where it stands. -/
structure Rd (w : World) (g : Nat) (la : Option Addr) (lc : Nat) (zs : List Int) (at_ : Nat) : Prop where
  cell : w.heap[g]? = some (.cells #[.slice la zs.length lc, .int .i64 (at_ : Int), .int .i64 0, .int .i64 0] 231 (0, 0))
  sl : Sl w la zs.length lc zs
  bd : at_ + zs.length ≤ 140737488355328

theorem Rd.lt {w : World} {g : Nat} {la : Option Addr} {lc : Nat} {zs : List Int} {at_ : Nat} (h : Rd w g la lc zs at_) : g < w.heap.size := (Array.getElem?_eq_some_iff.1 h.cell).1

/-- Bytes do not lie in the Reader itself. -/
theorem Rd.ne {w : World} {g : Nat} {la : Option Addr} {lc : Nat} {zs : List Int} {at_ : Nat} (h : Rd w g la lc zs at_) (h0 : 0 < zs.length) {k : Nat} (hk : At la k) : k ≠ g := by
  rintro rfl
  obtain ⟨b, off, rfl, hc⟩ := h.sl.bytes 0 h0
  obtain ⟨ad, e, e2⟩ := hk
  cases e
  simp only at e2
  subst e2
  rw [cell_of_row w b (off + 0) _ 231 (0, 0) h.cell] at hc
  match off, hc with
  | 0, hc => simp at hc
  | 1, hc => simp at hc
  | 2, hc => simp at hc
  | 3, hc => simp at hc
  | n + 4, hc => simp at hc

theorem Rd.no {w w' : World} {g : Nat} {la : Option Addr} {lc : Nat} {zs : List Int} {at_ : Nat} (h : Rd w g la lc zs at_) (hk : Kept No w w') : Rd w' g la lc zs at_ :=
  ⟨(hk.block g h.lt (fun e => e)).trans h.cell, h.sl.no hk, h.bd⟩

theorem Sl.kept2 {S : Nat → Prop} {w w' : World} {a : Option Addr} {m cap : Nat} {zs : List Int} (h : Sl w a m cap zs) (hk : Kept S w w') (hS : 0 < zs.length → ∀ k, At a k → ¬ S k) : Sl w' a m cap zs :=
  ⟨h.len, h.bytes.kept2 hk hS, h.u8, h.le, h.cm, h.bd, h.nil⟩

/-- What take leaves. -/
theorem take_end {w : World} {g b off lc : Nat} {zs : List Int} {at_ n : Nat} {la' : Option Addr} (h : Rd w g (some ⟨b, off, none⟩) lc zs at_) (hn : n ≤ zs.length)
    (hla : (lc = n ∧ la' = some ⟨b, off, none⟩) ∨ (lc ≠ n ∧ la' = some ⟨b, off + n, none⟩)) {v : Int} (hv : v = ((at_ + n : Nat) : Int)) :
    Rd ((w.setCell ⟨g, 0, none⟩ (.slice la' (zs.length - n) (lc - n))).setCell ⟨g, 1, none⟩ (.int .i64 v)) g la' (lc - n) (zs.drop n) (at_ + n) ∧
    Kept (Only g) w ((w.setCell ⟨g, 0, none⟩ (.slice la' (zs.length - n) (lc - n))).setCell ⟨g, 1, none⟩ (.int .i64 v)) := by
  subst hv
  have hK : Kept (Only g) w ((w.setCell ⟨g, 0, none⟩ (.slice la' (zs.length - n) (lc - n))).setCell ⟨g, 1, none⟩ (.int .i64 ((at_ + n : Nat) : Int))) :=
    ((Kept.refl (Only g) w).setCell (p := ⟨g, 0, none⟩) (fun _ => (rfl : g = g)) _).setCell (p := ⟨g, 1, none⟩) (fun _ => (rfl : g = g)) _
  refine ⟨⟨?_, ?_, ?_⟩, hK⟩
  · have h1 := heap_setCell_same w g 0 _ 231 (.slice la' (zs.length - n) (lc - n)) h.cell
    have h2 := heap_setCell_same _ g 1 _ 231 (.int .i64 ((at_ + n : Nat) : Int)) h1
    rw [h2, List.length_drop]; rfl
  · have hs := h.sl
    have hcap := hs.le
    have hl : (zs.drop n).length = zs.length - n := List.length_drop
    have hby : Bytes w la' (zs.drop n) := by
      rcases hla with ⟨e1, rfl⟩ | ⟨e1, rfl⟩
      · have : zs.drop n = [] := List.drop_eq_nil_of_le (by omega)
        rw [this]; intro i hi; exact absurd hi (Nat.not_lt_zero _)
      · exact hs.bytes.drop n
    refine ⟨rfl, hby.kept2 hK (fun h0 k hk e => ?_), hs.u8.drop n, by rw [hl]; omega, by have := hs.cm; omega, by rw [hl]; have := hs.bd; omega, fun e => ?_⟩
    · refine h.ne (by omega) (k := k) ?_ e
      rcases hla with ⟨e1, rfl⟩ | ⟨e1, rfl⟩
      · exact hk
      · obtain ⟨ad, e', e2⟩ := hk; cases e'; exact ⟨_, rfl, e2⟩
    · rcases hla with ⟨e1, rfl⟩ | ⟨e1, rfl⟩ <;> cases e
  · have := h.bd; rw [List.length_drop]; omega

set_option maxRecDepth 1000000 in
set_option maxHeartbeats 1000000 in
theorem take_any (g b off lc : Nat) (zs : List Int) (at_ n : Nat) (w : World) (h : Rd w g (some ⟨b, off, none⟩) lc zs at_) (hn : n ≤ zs.length) :
    Calls Tryz.prog 232 #[.pointer (some ⟨g, 0, none⟩), .int .i64 (n : Int)] w fun e w' => e = .returned (.slice (some ⟨b, off, none⟩) n lc) ∧ ∃ b' off' lc', At (some ⟨b, off, none⟩) b' ∧ Rd w' g (some ⟨b', off', none⟩) lc' (zs.drop n) (at_ + n) ∧ Kept (Only g) w w' := by
  have HR : Hid (Rd w g (some ⟨b, off, none⟩) lc zs at_) := h
  have hbd := h.bd
  have hcm := h.sl.cm
  have hle := h.sl.le
  have c0 : w.cell? ⟨g, 0, none⟩ = some (.slice (some ⟨b, off, none⟩) zs.length lc) := by rw [cell_of_row w g 0 _ 231 (0, 0) h.cell]; rfl
  have c1 : w.cell? ⟨g, 1, none⟩ = some (.int .i64 (at_ : Int)) := by rw [cell_of_row w g 1 _ 231 (0, 0) h.cell]; rfl
  have f0 := frozen_of_row w g 0 _ 231 h.cell
  have f1 := frozen_of_row w g 1 _ 231 h.cell
  have q0 : (n : Int) ≤ (lc : Int) := by omega
  have q1 : (n : Int) ≤ (zs.length : Int) := by omega
  clear h
  by_cases hc : lc = n
  · subst hc
    go_enter Tryz.func232, Tryz.ntmps232
    go_wp2
    go_ret
    refine ⟨rfl, b, off, lc - lc, ⟨_, rfl, rfl⟩, ?_⟩
    have e1 : zs.length - lc = 0 := by omega
    have e2 : lc - lc = 0 := by omega
    have := take_end (v := (at_ : Int) + (lc : Int)) HR.out hn (.inl ⟨rfl, rfl⟩) (by omega)
    rw [e1, e2] at this
    rw [e2]
    exact this
  · go_enter Tryz.func232, Tryz.ntmps232
    go_wp2
    go_ret
    refine ⟨rfl, b, off + n, lc - n, ⟨_, rfl, rfl⟩, ?_⟩
    exact take_end HR.out hn (.inr ⟨hc, rfl⟩) (by omega)

end Go.Proofs.YtgdnofacgfjaeaaGreat.Wi
