import Derived.Test.YtgdnofacgfjaeaaGreatFj
import Derived.Test.YtgdnofacgfjaeaaGreatFi
namespace Go.Proofs.YtgdnofacgfjaeaaGreat.Md
open Go.RowKit
set_option linter.unusedVariables false
set_option linter.unusedSimpArgs false
set_option maxRecDepth 100000 in
set_option maxHeartbeats 4000000 in
theorem p_rightMsg (m : Mg) (c : Cg) (zs : List Int) (bs : List Int) (es : List En) (ls : List La) (cs : List Cm) (w : World) (hb : 0 ≤ c.bl ∧ c.bl ≤ 4096) (hu : 1 ≤ c.bu ∧ c.bu ≤ 256) (hz : RdI w c.sv zs) (h1 : RdB w m.bl bs) (h2 : RdE w m.bk.e es) (h3 : RdL w m.bk.l ls) (h4 : RdC w m.cm cs) (hnz : c.sv.l ≤ 281474976710656) (hnb : m.bl.l ≤ 281474976710656) (hne : m.bk.e.l ≤ 281474976710656) (hnl : m.bk.l.l ≤ 281474976710656) (hnc : m.cm.l ≤ 281474976710656) : Calls Tryz.prog 40 #[.agg (Mg.cells m), .agg (Cg.cells c)] w (fun e w' => e = .returned (.bool (msgP c.bl c.rm c.bu zs m bs es ls cs)) ∧ Kept No w w') := by
  refine hidC fun C HC => ?_
  have HB : Hid (0 ≤ c.bl ∧ c.bl ≤ 4096) := hb
  clear hb
  have HU : Hid (1 ≤ c.bu ∧ c.bu ≤ 256) := hu
  clear hu
  have HZ : Hid (RdI w c.sv zs) := hz
  clear hz
  have HRB : Hid (RdB w m.bl bs) := h1
  clear h1
  have HRE : Hid (RdE w m.bk.e es) := h2
  clear h2
  have HRL : Hid (RdL w m.bk.l ls) := h3
  clear h3
  have HRC : Hid (RdC w m.cm cs) := h4
  clear h4
  have HF : Hid (Fq No w w []) := Fq.start _ _
  go_enter Tryz.func40, Tryz.ntmps40
  go_upto_region 0 with fail
  refine WL.start <| xB (Mg.cells m) HF fun g1 w2 HF => xB (Cg.cells c) HF fun g3 w4 HF => tK (.bool false) <| WL.nil <| ?_
  try simp only [pS]
  go_upto_region 1 with fail
  refine wp_region_held_drew (S := fun w' => Hid (Fq No w w' [(g1, 45, Mg.cells m), (g3, 24, Cg.cells c)])) rfl (show Hid _ from HF.out.drew) (fun hH => ?_)
  replace HF : Hid (Fq No w w4.drew [(g1, 45, Mg.cells m), (g3, 24, Cg.cells c)]) := hH
  clear hH
  generalize w4.drew = w5 at HF ⊢
  refine yT 0 5 HF (zP (Mg.cs m) 0 0 U45 S45 (Mg.cs m) rfl) <| yT 1 6 HF (zP (Cg.cs c) 1 0 U24 S24 (Cg.cs c) rfl) <| ?_
  try simp only [pS]
  cases q1 : (endsP zs m)
  ·skip
   refine yC 2 7 (p_rightEnds m c zs _ (HZ.out.no HF.out.kept) hnz) q1 HF fun w6 HF => yK 3 8 HF (.bool false) <| yS 4 9 HF <| yS 5 10 HF <| yS 6 11 HF <| yK 7 12 HF (.bool false) <| yK 8 13 HF (.bool false) <| yS 9 14 HF <| ?_
   try simp only [pS]
   refine yS 10 15 HF <| yS 11 16 HF <| yS 12 17 HF <| yS 13 18 HF <| yK 14 19 HF (.bool false) <| yK 15 20 HF (.bool false) <| yS 16 21 HF <| yS 17 22 HF <| ?_
   try simp only [pS]
   refine yS 18 23 HF <| yK 19 24 HF (.bool false) <| yK 20 4 HF (.bool false) <| ?_
   try simp only [pS]
   refine wpAnyH_done (by kernel_rfl) ?_ _
   try simp only [pS]
   go_wp2
   rw [HC.out]
   exact ⟨ret_bool (by simp only [msgP, bsq, q1]), HF.out.kept⟩
  refine yC 2 7 (p_rightEnds m c zs _ (HZ.out.no HF.out.kept) hnz) q1 HF fun w7 HF => yK 3 8 HF (.bool true) <| yT 4 9 HF (zP (Mg.cs m) 0 0 U45 S45 (Mg.cs m) rfl) <| yT 5 10 HF (zP (Cg.cs c) 1 0 U24 S24 (Cg.cs c) rfl) <| ?_
  try simp only [pS]
  cases q2 : (keyP c.bu m)
  ·skip
   refine yC 6 11 (p_rightKey m c _ HU) q2 HF fun w8 HF => yK 7 12 HF (.bool false) <| yK 8 13 HF (.bool false) <| yS 9 14 HF <| yS 10 15 HF <| yS 11 16 HF <| yS 12 17 HF <| yS 13 18 HF <| ?_
   try simp only [pS]
   refine yK 14 19 HF (.bool false) <| yK 15 20 HF (.bool false) <| yS 16 21 HF <| yS 17 22 HF <| yS 18 23 HF <| yK 19 24 HF (.bool false) <| yK 20 4 HF (.bool false) <| ?_
   try simp only [pS]
   refine wpAnyH_done (by kernel_rfl) ?_ _
   try simp only [pS]
   go_wp2
   rw [HC.out]
   exact ⟨ret_bool (by simp only [msgP, bsq, q1, q2]), HF.out.kept⟩
  refine yC 6 11 (p_rightKey m c _ HU) q2 HF fun w9 HF => yK 7 12 HF (.bool true) <| yK 8 13 HF (.bool true) <| yT 9 14 HF (zP (Mg.cs m) 0 0 U45 S45 (Mg.cs m) rfl) <| yK 10 15 HF (pg g1 0) <| yT 11 16 HF (v := .int .i64 m.k) (zD 0 0 U3 rfl) <| ?_
  try simp only [pS]
  refine yF 12 17 HF (p_fieldsOf m.k _) HF ?_
  intro s10 w11 HF HS12 hl13
  try simp only [pS]
  cases q3 : (onlyP m (fieldsK m.k))
  ·skip
   refine yC 13 18 (p_only m s10 (fieldsK m.k) _ HS12.out (by omega)) q3 HF fun w14 HF => yK 14 19 HF (.bool false) <| yK 15 20 HF (.bool false) <| yS 16 21 HF <| yS 17 22 HF <| yS 18 23 HF <| yK 19 24 HF (.bool false) <| yK 20 4 HF (.bool false) <| ?_
   try simp only [pS]
   refine wpAnyH_done (by kernel_rfl) ?_ _
   try simp only [pS]
   go_wp2
   rw [HC.out]
   exact ⟨ret_bool (by simp only [msgP, bsq, q1, q2, q3]), HF.out.kept⟩
  refine yC 13 18 (p_only m s10 (fieldsK m.k) _ HS12.out (by omega)) q3 HF fun w15 HF => yK 14 19 HF (.bool true) <| yK 15 20 HF (.bool true) <| yT 16 21 HF (zP (Mg.cs m) 0 0 U45 S45 (Mg.cs m) rfl) <| yT 17 22 HF (zP (Cg.cs c) 1 0 U24 S24 (Cg.cs c) rfl) <| ?_
  try simp only [pS]
  cases q4 : (fldsP c.bl c.rm m bs es ls cs)
  ·skip
   refine yC 18 23 (p_rightFields m bs es ls cs c _ HB (HRB.out.no HF.out.kept) (HRE.out.no HF.out.kept) (HRL.out.no HF.out.kept) (HRC.out.no HF.out.kept) hnb hne hnl hnc) q4 HF fun w16 HF => yK 19 24 HF (.bool false) <| yK 20 4 HF (.bool false) <| ?_
   try simp only [pS]
   refine wpAnyH_done (by kernel_rfl) ?_ _
   try simp only [pS]
   go_wp2
   rw [HC.out]
   exact ⟨ret_bool (by simp only [msgP, bsq, q1, q2, q3, q4]), HF.out.kept⟩
  refine yC 18 23 (p_rightFields m bs es ls cs c _ HB (HRB.out.no HF.out.kept) (HRE.out.no HF.out.kept) (HRL.out.no HF.out.kept) (HRC.out.no HF.out.kept) hnb hne hnl hnc) q4 HF fun w17 HF => yK 19 24 HF (.bool true) <| yK 20 4 HF (.bool true) <| ?_
  try simp only [pS]
  refine wpAnyH_done (by kernel_rfl) ?_ _
  try simp only [pS]
  go_wp2
  rw [HC.out]
  exact ⟨ret_bool (by simp only [msgP, bsq, q1, q2, q3, q4]), HF.out.kept⟩
set_option maxRecDepth 100000
set_option maxHeartbeats 4000000
theorem r_bare (m : Mg) (w : World) : Calls Tryz.prog 173 #[.agg (Mg.cells m)] w (fun e w' => e = .returned (.bool (bareR m)) ∧ Kept No w w') := by
  refine hidC fun C HC => ?_
  have HF : Hid (Fq No w w []) := Fq.start _ _
  go_enter Tryz.func173, Tryz.ntmps173
  go_upto_region 0 with fail
  refine WL.start <| xB (Mg.cells m) HF fun g1 w2 HF => tK (.bool false) <| WL.nil <| ?_
  try simp only [pS]
  go_upto_region 1 with fail
  refine WL.start <| tK (pg g1 11) <| lP (Sp.cs m.st) HF 0 11 U34 S34 (Mg.cs m) rfl <| ?_
  try simp only [pS]
  cases q1 : (eqS m.st spZ)
  ·skip
   refine cB (r_None m.st _) q1 HF fun w3 HF => tK (.bool false) <| sK <| sK <| sK <| tK (.bool false) <| tK (.bool false) <| sK <| sK <| sK <| sK <| tK (.bool false) <| tK (.bool false) <| sK <| sK <| sK <| ?_
   try simp only [pS]
   refine tK (.bool false) <| tK (.bool false) <| sK <| sK <| sK <| tK (.bool false) <| tK (.bool false) <| sK <| sK <| sK <| sK <| tK (.bool false) <| tK (.bool false) <| sK <| sK <| sK <| tK (.bool false) <| tK (.bool false) <| WL.nil <| ?_
   try simp only [pS]
   go_wp2
   rw [HC.out]
   exact ⟨ret_bool (by simp only [bareR, bsq, q1]), HF.out.kept⟩
  refine cB (r_None m.st _) q1 HF fun w4 HF => tK (.bool true) <| tK (pg g1 13) <| lP (Sp.cs m.hd) HF 0 13 U34 S34 (Mg.cs m) rfl <| ?_
  try simp only [pS]
  cases q2 : (eqS m.hd spZ)
  ·skip
   refine cB (r_None m.hd _) q2 HF fun w5 HF => tK (.bool false) <| tK (.bool false) <| sK <| sK <| sK <| sK <| tK (.bool false) <| tK (.bool false) <| sK <| sK <| sK <| tK (.bool false) <| tK (.bool false) <| sK <| sK <| ?_
   try simp only [pS]
   refine sK <| tK (.bool false) <| tK (.bool false) <| sK <| sK <| sK <| sK <| tK (.bool false) <| tK (.bool false) <| sK <| sK <| sK <| tK (.bool false) <| tK (.bool false) <| WL.nil <| ?_
   try simp only [pS]
   go_wp2
   rw [HC.out]
   exact ⟨ret_bool (by simp only [bareR, bsq, q1, q2]), HF.out.kept⟩
  refine cB (r_None m.hd _) q2 HF fun w6 HF => tK (.bool true) <| tK (.bool true) <| tK (pg g1 15) <| lD (m.bl.v) HF 0 15 U35 rfl <| tK (.int .i64 ((m.bl.l : Nat) : Int)) <| ?_
  try simp only [pS]
  cases q3 : (((m.bl.l : Nat) : Int) == 0)
  ·skip
   refine bN (eI q3) <| tK (.bool false) <| tK (.bool false) <| sK <| sK <| sK <| tK (.bool false) <| tK (.bool false) <| sK <| sK <| sK <| tK (.bool false) <| tK (.bool false) <| sK <| sK <| sK <| ?_
   try simp only [pS]
   refine sK <| tK (.bool false) <| tK (.bool false) <| sK <| sK <| sK <| tK (.bool false) <| tK (.bool false) <| WL.nil <| ?_
   try simp only [pS]
   go_wp2
   rw [HC.out]
   exact ⟨ret_bool (by simp only [bareR, bsq, q1, q2, q3]), HF.out.kept⟩
  refine bN (eI q3) <| tK (.bool true) <| tK (.bool true) <| tK (pg g1 16) <| lP (Cm.cs m.c) HF 0 16 U39 S39 (Mg.cs m) rfl <| ?_
  try simp only [pS]
  cases q4 : (eqC m.c cZ)
  ·skip
   refine cB (r_none m.c _) q4 HF fun w7 HF => tK (.bool false) <| tK (.bool false) <| sK <| sK <| sK <| tK (.bool false) <| tK (.bool false) <| sK <| sK <| sK <| sK <| tK (.bool false) <| tK (.bool false) <| sK <| sK <| sK <| tK (.bool false) <| tK (.bool false) <| WL.nil <| ?_
   try simp only [pS]
   go_wp2
   rw [HC.out]
   exact ⟨ret_bool (by simp only [bareR, bsq, q1, q2, q3, q4]), HF.out.kept⟩
  refine cB (r_none m.c _) q4 HF fun w8 HF => tK (.bool true) <| tK (.bool true) <| tK (pg g1 25) <| lP (Bv.cs m.bk) HF 0 25 U43 S43 (Mg.cs m) rfl <| ?_
  try simp only [pS]
  cases q5 : (empK m.bk)
  ·skip
   refine cB (r_empty m.bk _) q5 HF fun w9 HF => tK (.bool false) <| tK (.bool false) <| sK <| sK <| sK <| sK <| tK (.bool false) <| tK (.bool false) <| sK <| sK <| sK <| tK (.bool false) <| tK (.bool false) <| WL.nil <| ?_
   try simp only [pS]
   go_wp2
   rw [HC.out]
   exact ⟨ret_bool (by simp only [bareR, bsq, q1, q2, q3, q4, q5]), HF.out.kept⟩
  refine cB (r_empty m.bk _) q5 HF fun w10 HF => tK (.bool true) <| tK (.bool true) <| tK (pg g1 28) <| lD (m.cm.v) HF 0 28 U26 rfl <| tK (.int .i64 ((m.cm.l : Nat) : Int)) <| ?_
  try simp only [pS]
  cases q6 : (((m.cm.l : Nat) : Int) == 0)
  ·skip
   refine bN (eI q6) <| tK (.bool false) <| tK (.bool false) <| sK <| sK <| sK <| tK (.bool false) <| tK (.bool false) <| WL.nil <| ?_
   try simp only [pS]
   go_wp2
   rw [HC.out]
   exact ⟨ret_bool (by simp only [bareR, bsq, q1, q2, q3, q4, q5, q6]), HF.out.kept⟩
  refine bN (eI q6) <| tK (.bool true) <| tK (.bool true) <| tK (pg g1 29) <| lD (.bool m.mo) HF 0 29 U4 rfl <| ?_
  try simp only [pS]
  cases q7 : (m.mo)
  ·skip
   refine tK (.bool true) <| tK (.bool true) <| tK (.bool true) <| WL.nil <| ?_
   try simp only [pS]
   go_wp2
   rw [HC.out]
   exact ⟨ret_bool (by simp only [bareR, bsq, q1, q2, q3, q4, q5, q6, q7]), HF.out.kept⟩
  refine tK (.bool false) <| tK (.bool false) <| tK (.bool false) <| WL.nil <| ?_
  try simp only [pS]
  go_wp2
  rw [HC.out]
  exact ⟨ret_bool (by simp only [bareR, bsq, q1, q2, q3, q4, q5, q6, q7]), HF.out.kept⟩
theorem r_counted (m : Mg) (w : World) : Calls Tryz.prog 95 #[.agg (Mg.cells m)] w (fun e w' => e = .returned (.bool (cntB m)) ∧ Kept No w w') := by
  refine hidC fun C HC => ?_
  have HF : Hid (Fq No w w []) := Fq.start _ _
  go_enter Tryz.func95, Tryz.ntmps95
  go_upto_region 0 with fail
  refine WL.start <| xB (Mg.cells m) HF fun g1 w2 HF => tK (.bool false) <| WL.nil <| ?_
  try simp only [pS]
  go_upto_region 1 with fail
  refine WL.start <| tK (pg g1 5) <| lD (.int .i64 m.op) HF 0 5 U3 rfl <| ?_
  try simp only [pS]
  cases q1 : (wn m.op 1 1099511627776)
  ·skip
   refine cB (r_within m.op 1 1099511627776 _) q1 HF fun w3 HF => tK (.bool false) <| sK <| sK <| sK <| tK (.bool false) <| tK (.bool false) <| WL.nil <| ?_
   try simp only [pS]
   go_wp2
   rw [HC.out]
   exact ⟨ret_bool (by simp only [cntB, bsq, q1]), HF.out.kept⟩
  refine cB (r_within m.op 1 1099511627776 _) q1 HF fun w4 HF => tK (.bool true) <| tK (pg g1 6) <| lD (.int .i64 m.rd) HF 0 6 U3 rfl <| ?_
  try simp only [pS]
  cases q2 : (wn m.rd 1 1099511627776)
  ·skip
   refine cB (r_within m.rd 1 1099511627776 _) q2 HF fun w5 HF => tK (.bool false) <| tK (.bool false) <| WL.nil <| ?_
   try simp only [pS]
   go_wp2
   rw [HC.out]
   exact ⟨ret_bool (by simp only [cntB, bsq, q1, q2]), HF.out.kept⟩
  refine cB (r_within m.rd 1 1099511627776 _) q2 HF fun w6 HF => tK (.bool true) <| tK (.bool true) <| WL.nil <| ?_
  try simp only [pS]
  go_wp2
  rw [HC.out]
  exact ⟨ret_bool (by simp only [cntB, bsq, q1, q2]), HF.out.kept⟩
theorem r_asks (m : Mg) (c : Cg) (w : World) (hb : 0 ≤ c.bl ∧ c.bl ≤ 4096) : Calls Tryz.prog 96 #[.agg (Mg.cells m), .agg (Cg.cells c)] w (fun e w' => e = .returned (.bool (asksR c.bl m)) ∧ Kept No w w') := by
  refine hidC fun C HC => ?_
  have HB : Hid (0 ≤ c.bl ∧ c.bl ≤ 4096) := hb
  clear hb
  have HF : Hid (Fq No w w []) := Fq.start _ _
  go_enter Tryz.func96, Tryz.ntmps96
  go_upto_region 0 with fail
  refine WL.start <| xB (Mg.cells m) HF fun g1 w2 HF => xB (Cg.cells c) HF fun g3 w4 HF => tK (.bool false) <| WL.nil <| ?_
  try simp only [pS]
  go_upto_region 1 with fail
  refine WL.start <| lP (Mg.cs m) HF 0 0 U45 S45 (Mg.cs m) rfl <| xA (Mg.cells mgZ) Z45 HF fun g5 w6 HF => sB (Mg.cs m) (Mg.cs m) HF 2 0 (v := .agg (Mg.cells m)) rfl S45 (Mg.oneL _) (Mg.cs mgZ) rfl fun w7 HF => WL.nil <| ?_
  try simp only [pS]
  go_upto_region 2 with fail
  refine WL.start <| bD (Sp.cells spZ) <| tK (pg g5 11) <| sB (Mg.cs ⟨m.k, m.fr, m.too, m.op, m.rd, m.ky, spZ, m.hd, m.bl, m.c, m.bk, m.cm, m.mo⟩) (Sp.cs spZ) HF 2 11 (v := .agg (Sp.cells spZ)) rfl S34 (Sp.oneL _) (Mg.cs m) rfl fun w8 HF => WL.nil <| ?_
  try simp only [pS]
  go_upto_region 3 with fail
  refine WL.start <| bD (Cm.cells cZ) <| tK (pg g5 16) <| sB (Mg.cs ⟨m.k, m.fr, m.too, m.op, m.rd, m.ky, spZ, m.hd, m.bl, cZ, m.bk, m.cm, m.mo⟩) (Cm.cs cZ) HF 2 16 (v := .agg (Cm.cells cZ)) rfl S39 (Cm.oneL _) (Mg.cs ⟨m.k, m.fr, m.too, m.op, m.rd, m.ky, spZ, m.hd, m.bl, m.c, m.bk, m.cm, m.mo⟩) rfl fun w9 HF => WL.nil <| ?_
  try simp only [pS]
  go_upto_region 4 with fail
  refine WL.start <| tK (pg g5 15) <| sB (Mg.cs ⟨m.k, m.fr, m.too, m.op, m.rd, m.ky, spZ, m.hd, slZ, cZ, m.bk, m.cm, m.mo⟩) ([.slice none 0 0]) HF 2 15 (v := .slice none 0 0) rfl S35 (by simp [Value.oneCell', Sl.v]) (Mg.cs ⟨m.k, m.fr, m.too, m.op, m.rd, m.ky, spZ, m.hd, m.bl, cZ, m.bk, m.cm, m.mo⟩) rfl fun w10 HF => WL.nil <| ?_
  try simp only [pS]
  go_upto_region 5 with fail
  refine WL.start <| lP (Mg.cs ⟨m.k, m.fr, m.too, m.op, m.rd, m.ky, spZ, m.hd, slZ, cZ, m.bk, m.cm, m.mo⟩) HF 2 0 U45 S45 (Mg.cs ⟨m.k, m.fr, m.too, m.op, m.rd, m.ky, spZ, m.hd, slZ, cZ, m.bk, m.cm, m.mo⟩) rfl <| ?_
  try simp only [pS]
  cases q1 : (bareR ⟨m.k, m.fr, m.too, m.op, m.rd, m.ky, spZ, m.hd, slZ, cZ, m.bk, m.cm, m.mo⟩)
  ·skip
   refine cB (r_bare ⟨m.k, m.fr, m.too, m.op, m.rd, m.ky, spZ, m.hd, slZ, cZ, m.bk, m.cm, m.mo⟩ _) q1 HF fun w11 HF => tK (.bool true) <| WL.nil <| ?_
   try simp only [pS]
   go_upto_region 6 with fail
   refine WL.start <| tK (.bool false) <| WL.nil <| ?_
   try simp only [pS]
   go_wp2
   rw [HC.out]
   exact ⟨ret_bool (by simp only [asksR, bsq, q1]), HF.out.kept⟩
  refine cB (r_bare ⟨m.k, m.fr, m.too, m.op, m.rd, m.ky, spZ, m.hd, slZ, cZ, m.bk, m.cm, m.mo⟩ _) q1 HF fun w12 HF => tK (.bool false) <| WL.nil <| ?_
  try simp only [pS]
  go_upto_region 7 with fail
  refine WL.start <| tK (pg g1 0) <| lD (.int .i64 m.k) HF 0 0 U3 rfl <| WL.nil <| ?_
  try simp only [pS]
  go_upto_region 8 with fail
  refine WL.start <| ?_
  cases q2 : (m.k == 1)
  rotate_left
  ·skip
   refine bN (eI q2) <| tK (.bool true) <| WL.nil <| ?_
   try simp only [pS]
   go_upto_region 9 with fail
   refine WL.start <| tK (pg g1 7) <| tK (pg g1 7) <| lD (.int .i64 m.ky.k) HF 0 7 U3 rfl <| ?_
   try simp only [pS]
   cases q22 : (m.ky.k == 1)
   ·skip
    refine bN (eI q22) <| tK (.bool false) <| sK <| sK <| tK (.bool false) <| tK (.bool false) <| WL.nil <| ?_
    try simp only [pS]
    go_wp2
    rw [HC.out]
    exact ⟨ret_bool (by simp only [asksR, bsq, q1, q2, q22]), HF.out.kept⟩
   refine bN (eI q22) <| tK (.bool true) <| lP (Mg.cs m) HF 0 0 U45 S45 (Mg.cs m) rfl <| ?_
   try simp only [pS]
   cases q23 : (bareR m)
   ·skip
    refine cB (r_bare m _) q23 HF fun w29 HF => tK (.bool false) <| tK (.bool false) <| WL.nil <| ?_
    try simp only [pS]
    go_wp2
    rw [HC.out]
    exact ⟨ret_bool (by simp only [asksR, bsq, q1, q2, q22, q23]), HF.out.kept⟩
   refine cB (r_bare m _) q23 HF fun w30 HF => tK (.bool true) <| tK (.bool true) <| WL.nil <| ?_
   try simp only [pS]
   go_wp2
   rw [HC.out]
   exact ⟨ret_bool (by simp only [asksR, bsq, q1, q2, q22, q23]), HF.out.kept⟩
  refine bN (eI q2) <| tK (.bool false) <| WL.nil <| ?_
  try simp only [pS]
  go_upto_region 10 with fail
  refine WL.start <| ?_
  cases q3 : (m.k == 2)
  rotate_left
  ·skip
   refine bN (eI q3) <| tK (.bool true) <| WL.nil <| ?_
   try simp only [pS]
   go_upto_region 11 with fail
   refine WL.start <| tK (pg g1 7) <| tK (pg g1 7) <| lD (.int .i64 m.ky.k) HF 0 7 U3 rfl <| ?_
   try simp only [pS]
   cases q18 : (m.ky.k == 1)
   ·skip
    refine bN (eI q18) <| tK (.bool false) <| sK <| sK <| sK <| tK (.bool false) <| tK (.bool false) <| sK <| sK <| sK <| sK <| sK <| sK <| tK (.bool false) <| tK (.bool false) <| sK <| sK <| sK <| tK (.bool false) <| tK (.bool false) <| WL.nil <| ?_
    try simp only [pS]
    go_wp2
    rw [HC.out]
    exact ⟨ret_bool (by simp only [asksR, bsq, q1, q2, q3, q18]), HF.out.kept⟩
   refine bN (eI q18) <| tK (.bool true) <| tK (pg g1 11) <| lP (Sp.cs m.st) HF 0 11 U34 S34 (Mg.cs m) rfl <| ?_
   try simp only [pS]
   cases q19 : (oneS m.st)
   ·skip
    refine cB (r_One m.st _) q19 HF fun w25 HF => tK (.bool false) <| tK (.bool false) <| sK <| sK <| sK <| sK <| sK <| sK <| tK (.bool false) <| tK (.bool false) <| sK <| sK <| sK <| tK (.bool false) <| tK (.bool false) <| WL.nil <| ?_
    try simp only [pS]
    go_wp2
    rw [HC.out]
    exact ⟨ret_bool (by simp only [asksR, bsq, q1, q2, q3, q18, q19]), HF.out.kept⟩
   refine cB (r_One m.st _) q19 HF fun w26 HF => tK (.bool true) <| tK (.bool true) <| tK (pg g1 15) <| lD (m.bl.v) HF 0 15 U35 rfl <| tK (.int .i64 ((m.bl.l : Nat) : Int)) <| tK (pg g3 4) <| lD (.int .i64 c.bl) HF 1 4 U3 rfl <| ?_
   try simp only [pS]
   cases q20 : (((m.bl.l : Nat) : Int) == c.bl)
   ·skip
    refine bN (eI q20) <| tK (.bool false) <| tK (.bool false) <| sK <| sK <| sK <| tK (.bool false) <| tK (.bool false) <| WL.nil <| ?_
    try simp only [pS]
    go_wp2
    rw [HC.out]
    exact ⟨ret_bool (by simp only [asksR, bsq, q1, q2, q3, q18, q19, q20]), HF.out.kept⟩
   refine bN (eI q20) <| tK (.bool true) <| tK (.bool true) <| tK (pg g1 16) <| lP (Cm.cs m.c) HF 0 16 U39 S39 (Mg.cs m) rfl <| ?_
   try simp only [pS]
   cases q21 : (eqC m.c cZ)
   ·skip
    refine cB (r_none m.c _) q21 HF fun w27 HF => tK (.bool false) <| tK (.bool false) <| WL.nil <| ?_
    try simp only [pS]
    go_wp2
    rw [HC.out]
    exact ⟨ret_bool (by simp only [asksR, bsq, q1, q2, q3, q18, q19, q20, q21]), HF.out.kept⟩
   refine cB (r_none m.c _) q21 HF fun w28 HF => tK (.bool true) <| tK (.bool true) <| WL.nil <| ?_
   try simp only [pS]
   go_wp2
   rw [HC.out]
   exact ⟨ret_bool (by simp only [asksR, bsq, q1, q2, q3, q18, q19, q20, q21]), HF.out.kept⟩
  refine bN (eI q3) <| tK (.bool false) <| WL.nil <| ?_
  try simp only [pS]
  go_upto_region 12 with fail
  refine WL.start <| ?_
  cases q4 : (m.k == 3)
  rotate_left
  ·skip
   refine bN (eI q4) <| tK (.bool true) <| WL.nil <| ?_
   try simp only [pS]
   go_upto_region 13 with fail
   refine WL.start <| tK (pg g1 7) <| tK (pg g1 7) <| lD (.int .i64 m.ky.k) HF 0 7 U3 rfl <| ?_
   try simp only [pS]
   cases q14 : (m.ky.k == 3)
   ·skip
    refine bN (eI q14) <| tK (.bool false) <| sK <| sK <| sK <| tK (.bool false) <| tK (.bool false) <| sK <| sK <| sK <| sK <| tK (.bool false) <| tK (.bool false) <| sK <| sK <| sK <| tK (.bool false) <| tK (.bool false) <| WL.nil <| ?_
    try simp only [pS]
    go_wp2
    rw [HC.out]
    exact ⟨ret_bool (by simp only [asksR, bsq, q1, q2, q3, q4, q14]), HF.out.kept⟩
   refine bN (eI q14) <| tK (.bool true) <| tK (pg g1 11) <| lP (Sp.cs m.st) HF 0 11 U34 S34 (Mg.cs m) rfl <| ?_
   try simp only [pS]
   cases q15 : (oneS m.st)
   ·skip
    refine cB (r_One m.st _) q15 HF fun w21 HF => tK (.bool false) <| tK (.bool false) <| sK <| sK <| sK <| sK <| tK (.bool false) <| tK (.bool false) <| sK <| sK <| sK <| tK (.bool false) <| tK (.bool false) <| WL.nil <| ?_
    try simp only [pS]
    go_wp2
    rw [HC.out]
    exact ⟨ret_bool (by simp only [asksR, bsq, q1, q2, q3, q4, q14, q15]), HF.out.kept⟩
   refine cB (r_One m.st _) q15 HF fun w22 HF => tK (.bool true) <| tK (.bool true) <| tK (pg g1 15) <| lD (m.bl.v) HF 0 15 U35 rfl <| tK (.int .i64 ((m.bl.l : Nat) : Int)) <| ?_
   try simp only [pS]
   cases q16 : (((m.bl.l : Nat) : Int) == 0)
   ·skip
    refine bN (eI q16) <| tK (.bool false) <| tK (.bool false) <| sK <| sK <| sK <| tK (.bool false) <| tK (.bool false) <| WL.nil <| ?_
    try simp only [pS]
    go_wp2
    rw [HC.out]
    exact ⟨ret_bool (by simp only [asksR, bsq, q1, q2, q3, q4, q14, q15, q16]), HF.out.kept⟩
   refine bN (eI q16) <| tK (.bool true) <| tK (.bool true) <| tK (pg g1 16) <| lP (Cm.cs m.c) HF 0 16 U39 S39 (Mg.cs m) rfl <| ?_
   try simp only [pS]
   cases q17 : (eqC m.c cZ)
   ·skip
    refine cB (r_none m.c _) q17 HF fun w23 HF => tK (.bool false) <| tK (.bool false) <| WL.nil <| ?_
    try simp only [pS]
    go_wp2
    rw [HC.out]
    exact ⟨ret_bool (by simp only [asksR, bsq, q1, q2, q3, q4, q14, q15, q16, q17]), HF.out.kept⟩
   refine cB (r_none m.c _) q17 HF fun w24 HF => tK (.bool true) <| tK (.bool true) <| WL.nil <| ?_
   try simp only [pS]
   go_wp2
   rw [HC.out]
   exact ⟨ret_bool (by simp only [asksR, bsq, q1, q2, q3, q4, q14, q15, q16, q17]), HF.out.kept⟩
  refine bN (eI q4) <| tK (.bool false) <| WL.nil <| ?_
  try simp only [pS]
  go_upto_region 14 with fail
  refine WL.start <| ?_
  cases q5 : (m.k == 4)
  ·skip
   refine bN (eI q5) <| tK (.bool false) <| WL.nil <| ?_
   try simp only [pS]
   go_upto_region 16 with fail
   refine WL.start <| tK (pg g1 7) <| tK (pg g1 7) <| lD (.int .i64 m.ky.k) HF 0 7 U3 rfl <| ?_
   try simp only [pS]
   cases q6 : (m.ky.k == 3)
   ·skip
    refine bN (eI q6) <| tK (.bool false) <| sK <| sK <| sK <| tK (.bool false) <| tK (.bool false) <| sK <| sK <| sK <| sK <| tK (.bool false) <| tK (.bool false) <| sK <| sK <| sK <| sK <| tK (.bool false) <| tK (.bool false) <| WL.nil <| ?_
    try simp only [pS]
    go_wp2
    rw [HC.out]
    exact ⟨ret_bool (by simp only [asksR, bsq, q1, q2, q3, q4, q5, q6]), HF.out.kept⟩
   refine bN (eI q6) <| tK (.bool true) <| tK (pg g1 11) <| lP (Sp.cs m.st) HF 0 11 U34 S34 (Mg.cs m) rfl <| ?_
   try simp only [pS]
   cases q7 : (eqS m.st spZ)
   ·skip
    refine cB (r_None m.st _) q7 HF fun w13 HF => tK (.bool false) <| tK (.bool false) <| sK <| sK <| sK <| sK <| tK (.bool false) <| tK (.bool false) <| sK <| sK <| sK <| sK <| tK (.bool false) <| tK (.bool false) <| WL.nil <| ?_
    try simp only [pS]
    go_wp2
    rw [HC.out]
    exact ⟨ret_bool (by simp only [asksR, bsq, q1, q2, q3, q4, q5, q6, q7]), HF.out.kept⟩
   refine cB (r_None m.st _) q7 HF fun w14 HF => tK (.bool true) <| tK (.bool true) <| tK (pg g1 15) <| lD (m.bl.v) HF 0 15 U35 rfl <| tK (.int .i64 ((m.bl.l : Nat) : Int)) <| ?_
   try simp only [pS]
   cases q8 : (((m.bl.l : Nat) : Int) == 0)
   ·skip
    refine bN (eI q8) <| tK (.bool false) <| tK (.bool false) <| sK <| sK <| sK <| sK <| tK (.bool false) <| tK (.bool false) <| WL.nil <| ?_
    try simp only [pS]
    go_wp2
    rw [HC.out]
    exact ⟨ret_bool (by simp only [asksR, bsq, q1, q2, q3, q4, q5, q6, q7, q8]), HF.out.kept⟩
   refine bN (eI q8) <| tK (.bool true) <| tK (.bool true) <| tK (pg g1 16) <| lP (Cm.cs m.c) HF 0 16 U39 S39 (Mg.cs m) rfl <| lP (Cg.cs c) HF 1 0 U24 S24 (Cg.cs c) rfl <| ?_
   try simp only [pS]
   cases q9 : (cmdR c.bl m.c)
   ·skip
    refine cB (r_IsCommand m.c c _ HB) q9 HF fun w15 HF => tK (.bool false) <| tK (.bool false) <| WL.nil <| ?_
    try simp only [pS]
    go_wp2
    rw [HC.out]
    exact ⟨ret_bool (by simp only [asksR, bsq, q1, q2, q3, q4, q5, q6, q7, q8, q9]), HF.out.kept⟩
   refine cB (r_IsCommand m.c c _ HB) q9 HF fun w16 HF => tK (.bool true) <| tK (.bool true) <| WL.nil <| ?_
   try simp only [pS]
   go_wp2
   rw [HC.out]
   exact ⟨ret_bool (by simp only [asksR, bsq, q1, q2, q3, q4, q5, q6, q7, q8, q9]), HF.out.kept⟩
  refine bN (eI q5) <| tK (.bool true) <| WL.nil <| ?_
  try simp only [pS]
  go_upto_region 15 with fail
  refine WL.start <| tK (pg g1 7) <| tK (pg g1 7) <| lD (.int .i64 m.ky.k) HF 0 7 U3 rfl <| ?_
  try simp only [pS]
  cases q10 : (m.ky.k == 3)
  ·skip
   refine bN (eI q10) <| tK (.bool false) <| sK <| sK <| sK <| tK (.bool false) <| tK (.bool false) <| sK <| sK <| sK <| sK <| tK (.bool false) <| tK (.bool false) <| sK <| sK <| sK <| sK <| tK (.bool false) <| tK (.bool false) <| WL.nil <| ?_
   try simp only [pS]
   go_wp2
   rw [HC.out]
   exact ⟨ret_bool (by simp only [asksR, bsq, q1, q2, q3, q4, q5, q10]), HF.out.kept⟩
  refine bN (eI q10) <| tK (.bool true) <| tK (pg g1 11) <| lP (Sp.cs m.st) HF 0 11 U34 S34 (Mg.cs m) rfl <| ?_
  try simp only [pS]
  cases q11 : (oneS m.st)
  ·skip
   refine cB (r_One m.st _) q11 HF fun w17 HF => tK (.bool false) <| tK (.bool false) <| sK <| sK <| sK <| sK <| tK (.bool false) <| tK (.bool false) <| sK <| sK <| sK <| sK <| tK (.bool false) <| tK (.bool false) <| WL.nil <| ?_
   try simp only [pS]
   go_wp2
   rw [HC.out]
   exact ⟨ret_bool (by simp only [asksR, bsq, q1, q2, q3, q4, q5, q10, q11]), HF.out.kept⟩
  refine cB (r_One m.st _) q11 HF fun w18 HF => tK (.bool true) <| tK (.bool true) <| tK (pg g1 15) <| lD (m.bl.v) HF 0 15 U35 rfl <| tK (.int .i64 ((m.bl.l : Nat) : Int)) <| ?_
  try simp only [pS]
  cases q12 : (((m.bl.l : Nat) : Int) == 0)
  ·skip
   refine bN (eI q12) <| tK (.bool false) <| tK (.bool false) <| sK <| sK <| sK <| sK <| tK (.bool false) <| tK (.bool false) <| WL.nil <| ?_
   try simp only [pS]
   go_wp2
   rw [HC.out]
   exact ⟨ret_bool (by simp only [asksR, bsq, q1, q2, q3, q4, q5, q10, q11, q12]), HF.out.kept⟩
  refine bN (eI q12) <| tK (.bool true) <| tK (.bool true) <| tK (pg g1 16) <| lP (Cm.cs m.c) HF 0 16 U39 S39 (Mg.cs m) rfl <| lP (Cg.cs c) HF 1 0 U24 S24 (Cg.cs c) rfl <| ?_
  try simp only [pS]
  cases q13 : (cmdR c.bl m.c)
  ·skip
   refine cB (r_IsCommand m.c c _ HB) q13 HF fun w19 HF => tK (.bool false) <| tK (.bool false) <| WL.nil <| ?_
   try simp only [pS]
   go_wp2
   rw [HC.out]
   exact ⟨ret_bool (by simp only [asksR, bsq, q1, q2, q3, q4, q5, q10, q11, q12, q13]), HF.out.kept⟩
  refine cB (r_IsCommand m.c c _ HB) q13 HF fun w20 HF => tK (.bool true) <| tK (.bool true) <| WL.nil <| ?_
  try simp only [pS]
  go_wp2
  rw [HC.out]
  exact ⟨ret_bool (by simp only [asksR, bsq, q1, q2, q3, q4, q5, q10, q11, q12, q13]), HF.out.kept⟩
end Go.Proofs.YtgdnofacgfjaeaaGreat.Md
