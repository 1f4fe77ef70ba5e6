import Derived.Test.YtgdnofacgfjaeaaGreatGa
namespace Go.Proofs.YtgdnofacgfjaeaaGreat.Md
open Go.RowKit
set_option linter.unusedVariables false
set_option linter.unusedSimpArgs false
set_option maxRecDepth 100000 in
set_option maxHeartbeats 4000000 in
theorem r_between (m : Mg) (bs : List Int) (es : List En) (ls : List La) (cs : List Cm) (c : Cg) (w : World) (hb : 0 ≤ c.bl ∧ c.bl ≤ 4096) (h1 : RdB w m.bl bs) (h2 : RdE w m.bk.e es) (h3 : RdL w m.bk.l ls) (h4 : RdC w m.cm cs) (hnb : m.bl.l ≤ 281474976710656) (hne : m.bk.e.l ≤ 281474976710656) (hnl : m.bk.l.l ≤ 281474976710656) (hnc : m.cm.l ≤ 281474976710656) : Calls Tryz.prog 98 #[.agg (Mg.cells m), .agg (Cg.cells c)] w (fun e w' => e = .returned (.bool (btwR c.bl c.rm m bs es ls cs)) ∧ Kept No w w') := by
  refine hidC fun C HC => ?_
  have HB : Hid (0 ≤ c.bl ∧ c.bl ≤ 4096) := hb
  clear hb
  have HRB : Hid (RdB w m.bl bs) := h1
  clear h1
  have HRE : Hid (RdE w m.bk.e es) := h2
  clear h2
  have HRL : Hid (RdL w m.bk.l ls) := h3
  clear h3
  have HRC : Hid (RdC w m.cm cs) := h4
  clear h4
  have HF : Hid (Fq No w w []) := Fq.start _ _
  go_enter Tryz.func98, Tryz.ntmps98
  go_upto_region 0 with fail
  refine WL.start <| xB (Mg.cells m) HF fun g1 w2 HF => xB (Cg.cells c) HF fun g3 w4 HF => tK (.bool false) <| WL.nil <| ?_
  try simp only [pS]
  go_upto_region 1 with fail
  refine WL.start <| tK (pg g1 13) <| lP (Sp.cs m.hd) HF 0 13 U34 S34 (Mg.cs m) rfl <| ?_
  try simp only [pS]
  cases q1 : (eqS m.hd spZ)
  ·skip
   refine cB (r_None m.hd _) q1 HF fun w5 HF => tK (.bool true) <| tK (.bool true) <| sK <| sK <| sK <| sK <| tK (.bool true) <| WL.nil <| ?_
   try simp only [pS]
   go_upto_region 2 with fail
   refine WL.start <| tK (.bool false) <| WL.nil <| ?_
   try simp only [pS]
   go_wp2
   rw [HC.out]
   exact ⟨ret_bool (by simp only [btwR, bsq, q1]), HF.out.kept⟩
  refine cB (r_None m.hd _) q1 HF fun w6 HF => tK (.bool false) <| tK (.bool false) <| tK (pg g1 16) <| lP (Cm.cs m.c) HF 0 16 U39 S39 (Mg.cs m) rfl <| ?_
  try simp only [pS]
  cases q2 : (eqC m.c cZ)
  ·skip
   refine cB (r_none m.c _) q2 HF fun w7 HF => tK (.bool true) <| tK (.bool true) <| WL.nil <| ?_
   try simp only [pS]
   go_upto_region 2 with fail
   refine WL.start <| tK (.bool false) <| WL.nil <| ?_
   try simp only [pS]
   go_wp2
   rw [HC.out]
   exact ⟨ret_bool (by simp only [btwR, bsq, q1, q2]), HF.out.kept⟩
  refine cB (r_none m.c _) q2 HF fun w8 HF => tK (.bool false) <| tK (.bool false) <| WL.nil <| ?_
  try simp only [pS]
  go_upto_region 3 with fail
  refine WL.start <| tK (pg g1 0) <| lD (.int .i64 m.k) HF 0 0 U3 rfl <| ?_
  try simp only [pS]
  cases q3 : (m.k == 21)
  rotate_left
  ·skip
   refine bN (eI q3) <| WL.nil <| ?_
   try simp only [pS]
   go_upto_region 4 with fail
   refine WL.start <| tK (pg g1 11) <| lP (Sp.cs m.st) HF 0 11 U34 S34 (Mg.cs m) rfl <| xA (Sp.cells spZ) Z34 HF fun g30 w31 HF => sB (Sp.cs m.st) (Sp.cs m.st) HF 2 0 (v := .agg (Sp.cells m.st)) rfl S34 (Sp.oneL _) (Sp.cs spZ) rfl fun w32 HF => WL.nil <| ?_
   try simp only [pS]
   go_upto_region 5 with fail
   refine WL.start <| bD (Sp.cells spZ) <| tK (pg g1 11) <| sB (Mg.cs ⟨m.k, m.fr, m.too, m.op, m.rd, m.ky, spZ, m.hd, m.bl, m.c, m.bk, m.cm, m.mo⟩) (Sp.cs spZ) HF 0 11 (v := .agg (Sp.cells spZ)) rfl S34 (Sp.oneL _) (Mg.cs m) rfl fun w33 HF => WL.nil <| ?_
   try simp only [pS]
   go_upto_region 6 with fail
   refine WL.start <| lP (Mg.cs ⟨m.k, m.fr, m.too, m.op, m.rd, m.ky, spZ, m.hd, m.bl, m.c, m.bk, m.cm, m.mo⟩) HF 0 0 U45 S45 (Mg.cs ⟨m.k, m.fr, m.too, m.op, m.rd, m.ky, spZ, m.hd, m.bl, m.c, m.bk, m.cm, m.mo⟩) rfl <| ?_
   try simp only [pS]
   cases q26 : (bareR ⟨m.k, m.fr, m.too, m.op, m.rd, m.ky, spZ, m.hd, m.bl, m.c, m.bk, m.cm, m.mo⟩)
   ·skip
    refine cB (r_bare ⟨m.k, m.fr, m.too, m.op, m.rd, m.ky, spZ, m.hd, m.bl, m.c, m.bk, m.cm, m.mo⟩ _) q26 HF fun w34 HF => tK (.bool false) <| sK <| sK <| sK <| sK <| sK <| sK <| sK <| sK <| sK <| sK <| sK <| sK <| sK <| sK <| sK <| sK <| sK <| sK <| tK (.bool false) <| tK (.bool false) <| WL.nil <| ?_
    try simp only [pS]
    go_wp2
    rw [HC.out]
    exact ⟨ret_bool (by simp only [btwR, bsq, q1, q2, q3, q26]), HF.out.kept⟩
   refine cB (r_bare ⟨m.k, m.fr, m.too, m.op, m.rd, m.ky, spZ, m.hd, m.bl, m.c, m.bk, m.cm, m.mo⟩ _) q26 HF fun w35 HF => tK (.bool true) <| tK (pg g1 7) <| tK (pg g1 7) <| lD (.int .i64 m.ky.k) HF 0 7 U3 rfl <| ?_
   try simp only [pS]
   cases q27 : (m.ky.k == 1)
   rotate_left
   ·skip
    refine bN (eI q27) <| tK (.bool true) <| lP (Sp.cs m.st) HF 2 0 U34 S34 (Sp.cs m.st) rfl <| ?_
    try simp only [pS]
    cases q30 : (eqS m.st spZ)
    rotate_left
    ·skip
     refine cB (r_None m.st _) q30 HF fun w39 HF => tK (.bool true) <| tK (.bool true) <| sK <| sK <| sK <| sK <| sK <| sK <| sK <| sK <| tK (.bool true) <| tK (.bool true) <| tK (.bool true) <| WL.nil <| ?_
     try simp only [pS]
     go_wp2
     rw [HC.out]
     exact ⟨ret_bool (by simp only [btwR, bsq, q1, q2, q3, q26, q27, q30]), HF.out.kept⟩
    refine cB (r_None m.st _) q30 HF fun w38 HF => tK (.bool false) <| tK (.bool false) <| tK (pg g1 7) <| tK (pg g1 7) <| lD (.int .i64 m.ky.k) HF 0 7 U3 rfl <| ?_
    try simp only [pS]
    have q31 : (m.ky.k == 2) = false := by rw [eq_of_beq q27]; rfl
    refine bN (eI q31) <| tK (.bool false) <| sK <| sK <| tK (.bool false) <| tK (.bool false) <| tK (.bool false) <| tK (.bool false) <| WL.nil <| ?_
    try simp only [pS]
    go_wp2
    rw [HC.out]
    exact ⟨ret_bool (by simp only [btwR, bsq, q1, q2, q3, q26, q27, q30, q31]), HF.out.kept⟩
   refine bN (eI q27) <| tK (.bool false) <| sK <| sK <| tK (.bool false) <| tK (.bool false) <| tK (pg g1 7) <| tK (pg g1 7) <| lD (.int .i64 m.ky.k) HF 0 7 U3 rfl <| ?_
   try simp only [pS]
   cases q28 : (m.ky.k == 2)
   ·skip
    refine bN (eI q28) <| tK (.bool false) <| sK <| sK <| tK (.bool false) <| tK (.bool false) <| tK (.bool false) <| tK (.bool false) <| WL.nil <| ?_
    try simp only [pS]
    go_wp2
    rw [HC.out]
    exact ⟨ret_bool (by simp only [btwR, bsq, q1, q2, q3, q26, q27, q28]), HF.out.kept⟩
   refine bN (eI q28) <| tK (.bool true) <| lP (Sp.cs m.st) HF 2 0 U34 S34 (Sp.cs m.st) rfl <| ?_
   try simp only [pS]
   cases q29 : (frmS m.st)
   ·skip
    refine cB (r_from m.st _) q29 HF fun w36 HF => tK (.bool false) <| tK (.bool false) <| tK (.bool false) <| tK (.bool false) <| WL.nil <| ?_
    try simp only [pS]
    go_wp2
    rw [HC.out]
    exact ⟨ret_bool (by simp only [btwR, bsq, q1, q2, q3, q26, q27, q28, q29]), HF.out.kept⟩
   refine cB (r_from m.st _) q29 HF fun w37 HF => tK (.bool true) <| tK (.bool true) <| tK (.bool true) <| tK (.bool true) <| WL.nil <| ?_
   try simp only [pS]
   go_wp2
   rw [HC.out]
   exact ⟨ret_bool (by simp only [btwR, bsq, q1, q2, q3, q26, q27, q28, q29]), HF.out.kept⟩
  refine bN (eI q3) <| WL.nil <| ?_
  try simp only [pS]
  go_upto_region 7 with fail
  refine WL.start <| tK (pg g1 7) <| tK (pg g1 7) <| lD (.int .i64 m.ky.k) HF 0 7 U3 rfl <| ?_
  try simp only [pS]
  cases q4 : (m.ky.k == 1)
  rotate_left
  ·skip
   refine bN (eI q4) <| WL.nil <| ?_
   try simp only [pS]
   go_upto_region 8 with fail
   refine WL.start <| tK (pg g1 25) <| lP (Bv.cs m.bk) HF 0 25 U43 S43 (Mg.cs m) rfl <| ?_
   try simp only [pS]
   cases q17 : (empK m.bk)
   ·skip
    refine cB (r_empty m.bk _) q17 HF fun w22 HF => tK (.bool true) <| tK (.bool true) <| sK <| sK <| sK <| sK <| tK (.bool true) <| tK (.bool true) <| sK <| sK <| tK (.bool true) <| WL.nil <| ?_
    try simp only [pS]
    go_upto_region 9 with fail
    refine WL.start <| tK (.bool false) <| WL.nil <| ?_
    try simp only [pS]
    go_wp2
    rw [HC.out]
    exact ⟨ret_bool (by simp only [btwR, bsq, q1, q2, q3, q4, q17]), HF.out.kept⟩
   refine cB (r_empty m.bk _) q17 HF fun w23 HF => tK (.bool false) <| tK (.bool false) <| tK (pg g1 28) <| lD (m.cm.v) HF 0 28 U26 rfl <| tK (.int .i64 ((m.cm.l : Nat) : Int)) <| ?_
   try simp only [pS]
   cases q18 : (decide (0 < ((m.cm.l : Nat) : Int)))
   rotate_left
   ·skip
    refine bN (gI q18) <| tK (.bool true) <| tK (.bool true) <| sK <| sK <| tK (.bool true) <| WL.nil <| ?_
    try simp only [pS]
    go_upto_region 9 with fail
    refine WL.start <| tK (.bool false) <| WL.nil <| ?_
    try simp only [pS]
    go_wp2
    rw [HC.out]
    exact ⟨ret_bool (by simp only [btwR, bsq, q1, q2, q3, q4, q17, q18]), HF.out.kept⟩
   refine bN (gI q18) <| tK (.bool false) <| tK (.bool false) <| tK (pg g1 29) <| lD (.bool m.mo) HF 0 29 U4 rfl <| tK (.bool m.mo) <| WL.nil <| ?_
   try simp only [pS]
   cases q19 : (m.mo)
   rotate_left
   ·skip
    go_upto_region 9 with fail
    refine WL.start <| tK (.bool false) <| WL.nil <| ?_
    try simp only [pS]
    go_wp2
    rw [HC.out]
    exact ⟨ret_bool (by simp only [btwR, bsq, q1, q2, q3, q4, q17, q18, q19]), HF.out.kept⟩
   go_upto_region 10 with fail
   refine WL.start <| tK (pg g1 11) <| lP (Sp.cs m.st) HF 0 11 U34 S34 (Mg.cs m) rfl <| ?_
   try simp only [pS]
   cases q20 : (eqS m.st spZ)
   ·skip
    refine cB (r_None m.st _) q20 HF fun w24 HF => tK (.bool false) <| sK <| sK <| sK <| sK <| tK (.bool false) <| tK (.bool false) <| tK (pg g1 11) <| lP (Sp.cs m.st) HF 0 11 U34 S34 (Mg.cs m) rfl <| ?_
    try simp only [pS]
    cases q21 : (oneS m.st)
    ·skip
     refine cB (r_One m.st _) q21 HF fun w25 HF => tK (.bool false) <| sK <| sK <| sK <| sK <| sK <| sK <| tK (.bool false) <| tK (.bool false) <| tK (.bool false) <| WL.nil <| ?_
     try simp only [pS]
     go_wp2
     rw [HC.out]
     exact ⟨ret_bool (by simp only [btwR, bsq, q1, q2, q3, q4, q17, q18, q19, q20, q21]), HF.out.kept⟩
    refine cB (r_One m.st _) q21 HF fun w26 HF => tK (.bool true) <| tK (pg g1 15) <| lD (m.bl.v) HF 0 15 U35 rfl <| tK (.int .i64 ((m.bl.l : Nat) : Int)) <| tK (pg g3 4) <| lD (.int .i64 c.bl) HF 1 4 U3 rfl <| ?_
    try simp only [pS]
    cases q22 : (((m.bl.l : Nat) : Int) == c.bl)
    ·skip
     refine bN (eI q22) <| tK (.bool false) <| tK (.bool false) <| tK (.bool false) <| WL.nil <| ?_
     try simp only [pS]
     go_wp2
     rw [HC.out]
     exact ⟨ret_bool (by simp only [btwR, bsq, q1, q2, q3, q4, q17, q18, q19, q20, q21, q22]), HF.out.kept⟩
    refine bN (eI q22) <| tK (.bool true) <| tK (.bool true) <| tK (.bool true) <| WL.nil <| ?_
    try simp only [pS]
    go_wp2
    rw [HC.out]
    exact ⟨ret_bool (by simp only [btwR, bsq, q1, q2, q3, q4, q17, q18, q19, q20, q21, q22]), HF.out.kept⟩
   refine cB (r_None m.st _) q20 HF fun w27 HF => tK (.bool true) <| tK (pg g1 15) <| lD (m.bl.v) HF 0 15 U35 rfl <| tK (.int .i64 ((m.bl.l : Nat) : Int)) <| ?_
   try simp only [pS]
   cases q23 : (((m.bl.l : Nat) : Int) == 0)
   rotate_left
   ·skip
    refine bN (eI q23) <| tK (.bool true) <| tK (.bool true) <| sK <| sK <| sK <| sK <| sK <| sK <| sK <| sK <| sK <| sK <| sK <| tK (.bool true) <| tK (.bool true) <| WL.nil <| ?_
    try simp only [pS]
    go_wp2
    rw [HC.out]
    exact ⟨ret_bool (by simp only [btwR, bsq, q1, q2, q3, q4, q17, q18, q19, q20, q23]), HF.out.kept⟩
   refine bN (eI q23) <| tK (.bool false) <| tK (.bool false) <| tK (pg g1 11) <| lP (Sp.cs m.st) HF 0 11 U34 S34 (Mg.cs m) rfl <| ?_
   try simp only [pS]
   cases q24 : (oneS m.st)
   ·skip
    refine cB (r_One m.st _) q24 HF fun w28 HF => tK (.bool false) <| sK <| sK <| sK <| sK <| sK <| sK <| tK (.bool false) <| tK (.bool false) <| tK (.bool false) <| WL.nil <| ?_
    try simp only [pS]
    go_wp2
    rw [HC.out]
    exact ⟨ret_bool (by simp only [btwR, bsq, q1, q2, q3, q4, q17, q18, q19, q20, q23, q24]), HF.out.kept⟩
   refine cB (r_One m.st _) q24 HF fun w29 HF => tK (.bool true) <| tK (pg g1 15) <| lD (m.bl.v) HF 0 15 U35 rfl <| tK (.int .i64 ((m.bl.l : Nat) : Int)) <| tK (pg g3 4) <| lD (.int .i64 c.bl) HF 1 4 U3 rfl <| ?_
   try simp only [pS]
   cases q25 : (((m.bl.l : Nat) : Int) == c.bl)
   ·skip
    refine bN (eI q25) <| tK (.bool false) <| tK (.bool false) <| tK (.bool false) <| WL.nil <| ?_
    try simp only [pS]
    go_wp2
    rw [HC.out]
    exact ⟨ret_bool (by simp only [btwR, bsq, q1, q2, q3, q4, q17, q18, q19, q20, q23, q24, q25]), HF.out.kept⟩
   refine bN (eI q25) <| tK (.bool true) <| tK (.bool true) <| tK (.bool true) <| WL.nil <| ?_
   try simp only [pS]
   go_wp2
   rw [HC.out]
   exact ⟨ret_bool (by simp only [btwR, bsq, q1, q2, q3, q4, q17, q18, q19, q20, q23, q24, q25]), HF.out.kept⟩
  refine bN (eI q4) <| WL.nil <| ?_
  try simp only [pS]
  go_upto_region 11 with fail
  refine WL.start <| tK (pg g1 7) <| tK (pg g1 7) <| lD (.int .i64 m.ky.k) HF 0 7 U3 rfl <| ?_
  try simp only [pS]
  cases q5 : (m.ky.k == 2)
  ·skip
   refine bN (nI0 q5) <| tK (.bool true) <| sK <| sK <| sK <| sK <| tK (.bool true) <| WL.nil <| ?_
   try simp only [pS]
   go_upto_region 12 with fail
   refine WL.start <| tK (.bool false) <| WL.nil <| ?_
   try simp only [pS]
   go_wp2
   rw [HC.out]
   exact ⟨ret_bool (by simp only [btwR, bsq, q1, q2, q3, q4, q5]), HF.out.kept⟩
  refine bN (nI1 q5) <| tK (.bool false) <| tK (pg g1 15) <| lD (m.bl.v) HF 0 15 U35 rfl <| tK (.int .i64 ((m.bl.l : Nat) : Int)) <| ?_
  try simp only [pS]
  cases q6 : (decide (0 < ((m.bl.l : Nat) : Int)))
  rotate_left
  ·skip
   refine bN (gI q6) <| tK (.bool true) <| WL.nil <| ?_
   try simp only [pS]
   go_upto_region 12 with fail
   refine WL.start <| tK (.bool false) <| WL.nil <| ?_
   try simp only [pS]
   go_wp2
   rw [HC.out]
   exact ⟨ret_bool (by simp only [btwR, bsq, q1, q2, q3, q4, q5, q6]), HF.out.kept⟩
  refine bN (gI q6) <| tK (.bool false) <| WL.nil <| ?_
  try simp only [pS]
  go_upto_region 13 with fail
  refine WL.start <| tK (pg g1 11) <| lP (Sp.cs m.st) HF 0 11 U34 S34 (Mg.cs m) rfl <| ?_
  try simp only [pS]
  cases q7 : (eqS m.st spZ)
  rotate_left
  ·skip
   refine cB (r_None m.st _) q7 HF fun w19 HF => WL.nil <| ?_
   try simp only [pS]
   go_upto_region 14 with fail
   refine WL.start <| tK (pg g1 25) <| lP (Bv.cs m.bk) HF 0 25 U43 S43 (Mg.cs m) rfl <| lP (Cg.cs c) HF 1 0 U24 S24 (Cg.cs c) rfl <| ?_
   try simp only [pS]
   cases q14 : (bktR c.bl c.rm m.bk es ls)
   ·skip
    refine cB (r_IsBucket m.bk es ls c _ HB (HRE.out.no HF.out.kept) (HRL.out.no HF.out.kept) hne hnl) q14 HF fun w20 HF => tK (.bool false) <| sK <| sK <| sK <| sK <| tK (.bool false) <| tK (.bool false) <| sK <| sK <| sK <| sK <| tK (.bool false) <| tK (.bool false) <| WL.nil <| ?_
    try simp only [pS]
    go_wp2
    rw [HC.out]
    exact ⟨ret_bool (by simp only [btwR, bsq, q1, q2, q3, q4, q5, q6, q7, q14]), HF.out.kept⟩
   refine cB (r_IsBucket m.bk es ls c _ HB (HRE.out.no HF.out.kept) (HRL.out.no HF.out.kept) hne hnl) q14 HF fun w21 HF => tK (.bool true) <| tK (pg g1 25) <| tK (pg g1 25) <| lD (.int .i64 m.bk.up) HF 0 25 U3 rfl <| ?_
   try simp only [pS]
   cases q15 : (decide (0 < m.bk.up))
   ·skip
    refine bN (gI q15) <| tK (.bool false) <| tK (.bool false) <| sK <| sK <| sK <| sK <| tK (.bool false) <| tK (.bool false) <| WL.nil <| ?_
    try simp only [pS]
    go_wp2
    rw [HC.out]
    exact ⟨ret_bool (by simp only [btwR, bsq, q1, q2, q3, q4, q5, q6, q7, q14, q15]), HF.out.kept⟩
   refine bN (gI q15) <| tK (.bool true) <| tK (.bool true) <| tK (pg g1 28) <| lD (m.cm.v) HF 0 28 U26 rfl <| tK (.int .i64 ((m.cm.l : Nat) : Int)) <| ?_
   try simp only [pS]
   cases q16 : (((m.cm.l : Nat) : Int) == 0)
   ·skip
    refine bN (eI q16) <| tK (.bool false) <| tK (.bool false) <| WL.nil <| ?_
    try simp only [pS]
    go_wp2
    rw [HC.out]
    exact ⟨ret_bool (by simp only [btwR, bsq, q1, q2, q3, q4, q5, q6, q7, q14, q15, q16]), HF.out.kept⟩
   refine bN (eI q16) <| tK (.bool true) <| tK (.bool true) <| WL.nil <| ?_
   try simp only [pS]
   go_wp2
   rw [HC.out]
   exact ⟨ret_bool (by simp only [btwR, bsq, q1, q2, q3, q4, q5, q6, q7, q14, q15, q16]), HF.out.kept⟩
  refine cB (r_None m.st _) q7 HF fun w9 HF => WL.nil <| ?_
  try simp only [pS]
  go_upto_region 15 with fail
  refine WL.start <| tK (pg g1 11) <| lP (Sp.cs m.st) HF 0 11 U34 S34 (Mg.cs m) rfl <| ?_
  try simp only [pS]
  cases q8 : (frmS m.st)
  ·skip
   refine cB (r_from m.st _) q8 HF fun w10 HF => tK (.bool true) <| tK (.bool true) <| sK <| sK <| sK <| sK <| tK (.bool true) <| tK (.bool true) <| sK <| sK <| sK <| sK <| tK (.bool true) <| tK (.bool true) <| sK <| ?_
   try simp only [pS]
   refine sK <| sK <| sK <| sK <| sK <| sK <| sK <| tK (.bool true) <| WL.nil <| ?_
   try simp only [pS]
   go_upto_region 16 with fail
   refine WL.start <| tK (.bool false) <| WL.nil <| ?_
   try simp only [pS]
   go_wp2
   rw [HC.out]
   exact ⟨ret_bool (by simp only [btwR, bsq, q1, q2, q3, q4, q5, q6, q7, q8]), HF.out.kept⟩
  refine cB (r_from m.st _) q8 HF fun w11 HF => tK (.bool false) <| tK (.bool false) <| tK (pg g1 25) <| lP (Bv.cs m.bk) HF 0 25 U43 S43 (Mg.cs m) rfl <| ?_
  try simp only [pS]
  cases q9 : (empK m.bk)
  ·skip
   refine cB (r_empty m.bk _) q9 HF fun w12 HF => tK (.bool true) <| tK (.bool true) <| tK (.bool true) <| sK <| sK <| sK <| sK <| tK (.bool true) <| tK (.bool true) <| sK <| sK <| sK <| sK <| sK <| sK <| sK <| sK <| tK (.bool true) <| WL.nil <| ?_
   try simp only [pS]
   go_upto_region 16 with fail
   refine WL.start <| tK (.bool false) <| WL.nil <| ?_
   try simp only [pS]
   go_wp2
   rw [HC.out]
   exact ⟨ret_bool (by simp only [btwR, bsq, q1, q2, q3, q4, q5, q6, q7, q8, q9]), HF.out.kept⟩
  refine cB (r_empty m.bk _) q9 HF fun w13 HF => tK (.bool false) <| tK (.bool false) <| tK (.bool false) <| tK (pg g1 28) <| lD (m.cm.v) HF 0 28 U26 rfl <| tK (.int .i64 ((m.cm.l : Nat) : Int)) <| ?_
  try simp only [pS]
  cases q10 : (decide (64 < ((m.cm.l : Nat) : Int)))
  rotate_left
  ·skip
   refine bN (gI q10) <| tK (.bool true) <| tK (.bool true) <| sK <| sK <| sK <| sK <| sK <| sK <| sK <| sK <| tK (.bool true) <| WL.nil <| ?_
   try simp only [pS]
   go_upto_region 16 with fail
   refine WL.start <| tK (.bool false) <| WL.nil <| ?_
   try simp only [pS]
   go_wp2
   rw [HC.out]
   exact ⟨ret_bool (by simp only [btwR, bsq, q1, q2, q3, q4, q5, q6, q7, q8, q9, q10]), HF.out.kept⟩
  refine bN (gI q10) <| tK (.bool false) <| tK (.bool false) <| tK (pg g1 11) <| tK (pg g1 11) <| lD (.int .i64 m.st.n) HF 0 11 U3 rfl <| tK (pg g1 28) <| lD (m.cm.v) HF 0 28 U26 rfl <| tK (.int .i64 ((m.cm.l : Nat) : Int)) <| bN (v := .int .i64 (m.st.n + ((m.cm.l : Nat) : Int))) (b_addw m.st.n ((m.cm.l : Nat) : Int) (m.st.n + ((m.cm.l : Nat) : Int)) (by rw [IntKind.wrap_i64]; have h1 := frm_bd q8; have h2 := of_decide_eq_false q10; omega)) <| ?_
  try simp only [pS]
  cases q11 : (decide (1048577 < (m.st.n + ((m.cm.l : Nat) : Int))))
  rotate_left
  ·skip
   refine bN (gI q11) <| tK (.bool true) <| WL.nil <| ?_
   try simp only [pS]
   go_upto_region 16 with fail
   refine WL.start <| tK (.bool false) <| WL.nil <| ?_
   try simp only [pS]
   go_wp2
   rw [HC.out]
   exact ⟨ret_bool (by simp only [btwR, bsq, q1, q2, q3, q4, q5, q6, q7, q8, q9, q10, q11]), HF.out.kept⟩
  refine bN (gI q11) <| tK (.bool false) <| WL.nil <| ?_
  try simp only [pS]
  go_upto_region 17 with fail
  refine WL.start <| tK (.int .i64 0) <| WL.nil <| ?_
  try simp only [pS]
  go_wp2
  go_loopw [6] (fun v6 wr => ∃ i : Nat, v6 = .int .i64 ((i : Nat) : Int) ∧ i ≤ m.cm.l ∧ Hid (∀ j, j < i → (eqC (cAt cs j) cZ || cmdR c.bl (cAt cs j)) = true) ∧ Hid (Fq No w wr [(g1, 45, Mg.cells m), (g3, 24, Cg.cells c)])) (fun v6 _ => m.cm.l - (intOf v6).toNat)
  case atStart => exact ⟨0, by go_num, by omega, fun j hj => absurd hj (Nat.not_lt_zero _), HF⟩
  case round =>
    clear HF
    obtain ⟨i, rfl, hi, HP, HF⟩ := hrel
    by_cases hlt : i < m.cm.l
    ·skip
     obtain ⟨b, off, hsl, hc⟩ := RdC.at' HRC.out (i := i) (by omega)
     go_upto_region 18 with fail
     refine WL.start <| tK (.int .i64 ((i : Nat) : Int)) <| tK (pg g1 28) <| lD (m.cm.v) HF 0 28 U26 rfl <| tK (.int .i64 ((m.cm.l : Nat) : Int)) <| bN (lI (a := ((i : Nat) : Int)) (b := ((m.cm.l : Nat) : Int)) (decide_eq_true (by omega))) <| WL.nil <| ?_
     try simp only [pS]
     go_upto_region 20 with fail
     refine wp_region_held_drew (S := fun w' => Hid (Fq No w w' [(g1, 45, Mg.cells m), (g3, 24, Cg.cells c)])) rfl (show Hid _ from HF.out.drew) (fun hH => ?_)
     replace HF : Hid (Fq No w wr.drew [(g1, 45, Mg.cells m), (g3, 24, Cg.cells c)]) := hH
     clear hH
     generalize wr.drew = w14 at HF ⊢
     refine yK 0 148 HF (pg g1 28) <| yT 1 149 HF (v := m.cm.v) (zD 0 28 U26 rfl) <| yK 2 150 HF (.int .i64 ((i : Nat) : Int)) <| yT 3 151 HF (zI (s := m.cm) (i := i) hsl E26 F26 (by omega)) <| yT 4 152 HF (zL fun w HF => (load_Ca (fun j v h => HF.out.kept.cell (hc j v h) (fun e => e)))) <| ?_
     try simp only [pS]
     cases q12 : (eqC (cAt cs i) cZ)
     rotate_left
     ·skip
      refine yC 5 153 (r_none (cAt cs i) _) q12 HF fun w18 HF => yK 6 154 HF (.bool false) <| yK 7 155 HF (.bool false) <| yS 8 156 HF <| yS 9 157 HF <| yS 10 158 HF <| yS 11 159 HF <| yS 12 160 HF <| ?_
      try simp only [pS]
      refine yS 13 161 HF <| yS 14 162 HF <| yS 15 163 HF <| yK 16 164 HF (.bool false) <| ?_
      try simp only [pS]
      refine wpAnyH_done (by kernel_rfl) ?_ _
      try simp only [pS]
      go_upto_region 19 with fail
      refine WL.start <| tK (.int .i64 ((i : Nat) : Int)) <| bN (v := .int .i64 (((i + 1) : Nat) : Int)) (b_addw ((i : Nat) : Int) 1 (((i + 1) : Nat) : Int) (by rw [IntKind.wrap_i64]; omega)) <| tK (.int .i64 (((i + 1) : Nat) : Int)) <| WL.nil <| ?_
      try simp only [pS]
      go_wp2
      go_roundw
      case rel => exact ⟨i + 1, by go_num, by omega, up_j (P := fun j => (eqC (cAt cs j) cZ || cmdR c.bl (cAt cs j)) = true) HP.out (by simp only [bsq, q12]), HF⟩
      case measure => simp [intOf]; omega
     refine yC 5 153 (r_none (cAt cs i) _) q12 HF fun w15 HF => yK 6 154 HF (.bool true) <| yK 7 155 HF (.bool true) <| yK 8 156 HF (pg g1 28) <| yT 9 157 HF (v := m.cm.v) (zD 0 28 U26 rfl) <| yK 10 158 HF (.int .i64 ((i : Nat) : Int)) <| yT 11 159 HF (zI (s := m.cm) (i := i) hsl E26 F26 (by omega)) <| yT 12 160 HF (zL fun w HF => (load_Ca (fun j v h => HF.out.kept.cell (hc j v h) (fun e => e)))) <| ?_
     try simp only [pS]
     refine yT 13 161 HF (zP (Cg.cs c) 1 0 U24 S24 (Cg.cs c) rfl) <| ?_
     try simp only [pS]
     cases q13 : (cmdR c.bl (cAt cs i))
     ·skip
      refine yC 14 162 (r_IsCommand (cAt cs i) c _ HB) q13 HF fun w16 HF => yK 15 163 HF (.bool true) <| yK 16 164 HF (.bool true) <| ?_
      try simp only [pS]
      refine wpAnyH_done (by kernel_rfl) ?_ _
      try simp only [pS]
      go_upto_region 21 with fail
      refine WL.start <| tK (.bool false) <| WL.nil <| ?_
      try simp only [pS]
      go_wp2
      rw [HC.out]
      exact ⟨ret_bool (by rw [show btwR c.bl c.rm m bs es ls cs = false from by unfold btwR; rw [show rowR c.bl cs = false from rng_f (i := i) (by rw [HRC.out.len]; exact hlt) (by simp only [bsq, q12, q13])]; simp only [bsq, q1, q6, q10, q3, q4, q7, q8, q5, q2, q9, q11]]), HF.out.kept⟩
     refine yC 14 162 (r_IsCommand (cAt cs i) c _ HB) q13 HF fun w17 HF => yK 15 163 HF (.bool false) <| yK 16 164 HF (.bool false) <| ?_
     try simp only [pS]
     refine wpAnyH_done (by kernel_rfl) ?_ _
     try simp only [pS]
     go_upto_region 19 with fail
     refine WL.start <| tK (.int .i64 ((i : Nat) : Int)) <| bN (v := .int .i64 (((i + 1) : Nat) : Int)) (b_addw ((i : Nat) : Int) 1 (((i + 1) : Nat) : Int) (by rw [IntKind.wrap_i64]; omega)) <| tK (.int .i64 (((i + 1) : Nat) : Int)) <| WL.nil <| ?_
     try simp only [pS]
     go_wp2
     go_roundw
     case rel => exact ⟨i + 1, by go_num, by omega, up_j (P := fun j => (eqC (cAt cs j) cZ || cmdR c.bl (cAt cs j)) = true) HP.out (by simp only [bsq, q12, q13]), HF⟩
     case measure => simp [intOf]; omega
    ·skip
     go_upto_region 18 with fail
     refine WL.start <| tK (.int .i64 ((i : Nat) : Int)) <| tK (pg g1 28) <| lD (m.cm.v) HF 0 28 U26 rfl <| tK (.int .i64 ((m.cm.l : Nat) : Int)) <| bN (lI (a := ((i : Nat) : Int)) (b := ((m.cm.l : Nat) : Int)) (decide_eq_false (by omega))) <| WL.nil <| ?_
     try simp only [pS]
     go_upto_region 22 with fail
     refine WL.start <| tK (.bool true) <| WL.nil <| ?_
     try simp only [pS]
     go_wp2
     rw [HC.out]
     exact ⟨ret_bool (by rw [show btwR c.bl c.rm m bs es ls cs = true from by unfold btwR; rw [show rowR c.bl cs = true from rng_t (fun j hj => HP.out j (by rw [HRC.out.len] at hj; omega))]; simp only [bsq, q1, q6, q10, q3, q4, q7, q8, q5, q2, q9, q11]]), HF.out.kept⟩
end Go.Proofs.YtgdnofacgfjaeaaGreat.Md
