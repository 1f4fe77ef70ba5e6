import Derived.Test.YtgdnofacgfjaeaaGreatGb
import Derived.Test.YtgdnofacgfjaeaaGreatGc
namespace Go.Proofs.YtgdnofacgfjaeaaGreat.Md
open Go.RowKit
set_option linter.unusedVariables false
set_option linter.unusedSimpArgs false
set_option maxRecDepth 100000 in
set_option maxHeartbeats 4000000 in
theorem r_Is (m : Mg) (c : Cg) (zs : List Int) (bs : List Int) (es : List En) (ls : List La) (cs : List Cm) (w : World) (hb : 0 ≤ c.bl ∧ c.bl ≤ 4096) (hu : 1 ≤ c.bu ∧ c.bu ≤ 256) (hz : RdI w c.sv zs) (h1 : RdB w m.bl bs) (h2 : RdE w m.bk.e es) (h3 : RdL w m.bk.l ls) (h4 : RdC w m.cm cs) (hnz : c.sv.l ≤ 281474976710656) (hnb : m.bl.l ≤ 281474976710656) (hne : m.bk.e.l ≤ 281474976710656) (hnl : m.bk.l.l ≤ 281474976710656) (hnc : m.cm.l ≤ 281474976710656) : Calls Tryz.prog 42 #[.agg (Mg.cells m), .agg (Cg.cells c)] w (fun e w' => e = .returned (.bool (msgR c.bl c.rm c.bu zs m bs es ls cs)) ∧ Kept No w w') := by
  refine hidC fun C HC => ?_
  have HB : Hid (0 ≤ c.bl ∧ c.bl ≤ 4096) := hb
  clear hb
  have HU : Hid (1 ≤ c.bu ∧ c.bu ≤ 256) := hu
  clear hu
  have HZ : Hid (RdI w c.sv zs) := hz
  clear hz
  have HRB : Hid (RdB w m.bl bs) := h1
  clear h1
  have HRE : Hid (RdE w m.bk.e es) := h2
  clear h2
  have HRL : Hid (RdL w m.bk.l ls) := h3
  clear h3
  have HRC : Hid (RdC w m.cm cs) := h4
  clear h4
  have HF : Hid (Fq No w w []) := Fq.start _ _
  go_enter Tryz.func42, Tryz.ntmps42
  go_upto_region 0 with fail
  refine WL.start <| xB (Mg.cells m) HF fun g1 w2 HF => xB (Cg.cells c) HF fun g3 w4 HF => tK (.bool false) <| WL.nil <| ?_
  try simp only [pS]
  go_upto_region 1 with fail
  refine WL.start <| tK (pg g1 7) <| lP (Ky.cs m.ky) HF 0 7 U32 S32 (Mg.cs m) rfl <| lP (Cg.cs c) HF 1 0 U24 S24 (Cg.cs c) rfl <| ?_
  try simp only [pS]
  cases q1 : (keyR c.bu m.ky)
  ·skip
   refine cB (q_Right m.ky c _ HU) q1 HF fun w5 HF => tK (.bool true) <| WL.nil <| ?_
   try simp only [pS]
   go_upto_region 2 with fail
   refine WL.start <| tK (.bool false) <| WL.nil <| ?_
   try simp only [pS]
   go_wp2
   rw [HC.out]
   exact ⟨ret_bool (by simp only [msgR, bsq, q1]), HF.out.kept⟩
  refine cB (q_Right m.ky c _ HU) q1 HF fun w6 HF => tK (.bool false) <| WL.nil <| ?_
  try simp only [pS]
  go_upto_region 3 with fail
  refine WL.start <| tK (pg g1 0) <| lD (.int .i64 m.k) HF 0 0 U3 rfl <| WL.nil <| ?_
  try simp only [pS]
  go_upto_region 4 with fail
  refine WL.start <| ?_
  cases q2 : (m.k == 1)
  rotate_left
  ·skip
   refine bN (eI q2) <| tK (.bool true) <| WL.nil <| ?_
   try simp only [pS]
   go_upto_region 9 with fail
   refine WL.start <| tK (pg g1 1) <| lP (Ad.cs m.fr) HF 0 1 U30 S30 (Mg.cs m) rfl <| ?_
   try simp only [pS]
   cases q72 : (cliB m.fr)
   ·skip
    refine cB (r_client m.fr _) q72 HF fun w107 HF => tK (.bool false) <| sK <| sK <| sK <| sK <| tK (.bool false) <| tK (.bool false) <| sK <| sK <| tK (.bool false) <| tK (.bool false) <| sK <| sK <| sK <| tK (.bool false) <| tK (.bool false) <| WL.nil <| ?_
    try simp only [pS]
    go_wp2
    rw [HC.out]
    exact ⟨ret_bool (by simp only [msgR, bsq, q1, q2, q72]), HF.out.kept⟩
   refine cB (r_client m.fr _) q72 HF fun w108 HF => tK (.bool true) <| tK (pg g1 3) <| lP (Ad.cs m.too) HF 0 3 U30 S30 (Mg.cs m) rfl <| lP (Cg.cs c) HF 1 0 U24 S24 (Cg.cs c) rfl <| ?_
   try simp only [pS]
   cases q73 : (srvB zs m.too)
   ·skip
    refine cB (r_server m.too c zs _ (HZ.out.no HF.out.kept) hnz) q73 HF fun w109 HF => tK (.bool false) <| tK (.bool false) <| sK <| sK <| tK (.bool false) <| tK (.bool false) <| sK <| sK <| sK <| tK (.bool false) <| tK (.bool false) <| WL.nil <| ?_
    try simp only [pS]
    go_wp2
    rw [HC.out]
    exact ⟨ret_bool (by simp only [msgR, bsq, q1, q2, q72, q73]), HF.out.kept⟩
   refine cB (r_server m.too c zs _ (HZ.out.no HF.out.kept) hnz) q73 HF fun w110 HF => tK (.bool true) <| tK (.bool true) <| lP (Mg.cs m) HF 0 0 U45 S45 (Mg.cs m) rfl <| ?_
   try simp only [pS]
   cases q74 : (cntB m)
   ·skip
    refine cB (r_counted m _) q74 HF fun w111 HF => tK (.bool false) <| tK (.bool false) <| sK <| sK <| sK <| tK (.bool false) <| tK (.bool false) <| WL.nil <| ?_
    try simp only [pS]
    go_wp2
    rw [HC.out]
    exact ⟨ret_bool (by simp only [msgR, bsq, q1, q2, q72, q73, q74]), HF.out.kept⟩
   refine cB (r_counted m _) q74 HF fun w112 HF => tK (.bool true) <| tK (.bool true) <| lP (Mg.cs m) HF 0 0 U45 S45 (Mg.cs m) rfl <| lP (Cg.cs c) HF 1 0 U24 S24 (Cg.cs c) rfl <| ?_
   try simp only [pS]
   cases q75 : (asksR c.bl m)
   ·skip
    refine cB (r_asks m c _ HB) q75 HF fun w113 HF => tK (.bool false) <| tK (.bool false) <| WL.nil <| ?_
    try simp only [pS]
    go_wp2
    rw [HC.out]
    exact ⟨ret_bool (by simp only [msgR, bsq, q1, q2, q72, q73, q74, q75]), HF.out.kept⟩
   refine cB (r_asks m c _ HB) q75 HF fun w114 HF => tK (.bool true) <| tK (.bool true) <| WL.nil <| ?_
   try simp only [pS]
   go_wp2
   rw [HC.out]
   exact ⟨ret_bool (by simp only [msgR, bsq, q1, q2, q72, q73, q74, q75]), HF.out.kept⟩
  refine bN (eI q2) <| tK (.bool false) <| WL.nil <| ?_
  try simp only [pS]
  go_upto_region 5 with fail
  refine WL.start <| ?_
  cases q3 : (m.k == 2)
  rotate_left
  ·skip
   refine bN (eI q3) <| tK (.bool true) <| WL.nil <| ?_
   try simp only [pS]
   go_upto_region 9 with fail
   refine WL.start <| tK (pg g1 1) <| lP (Ad.cs m.fr) HF 0 1 U30 S30 (Mg.cs m) rfl <| ?_
   try simp only [pS]
   cases q68 : (cliB m.fr)
   ·skip
    refine cB (r_client m.fr _) q68 HF fun w99 HF => tK (.bool false) <| sK <| sK <| sK <| sK <| tK (.bool false) <| tK (.bool false) <| sK <| sK <| tK (.bool false) <| tK (.bool false) <| sK <| sK <| sK <| tK (.bool false) <| tK (.bool false) <| WL.nil <| ?_
    try simp only [pS]
    go_wp2
    rw [HC.out]
    exact ⟨ret_bool (by simp only [msgR, bsq, q1, q2, q3, q68]), HF.out.kept⟩
   refine cB (r_client m.fr _) q68 HF fun w100 HF => tK (.bool true) <| tK (pg g1 3) <| lP (Ad.cs m.too) HF 0 3 U30 S30 (Mg.cs m) rfl <| lP (Cg.cs c) HF 1 0 U24 S24 (Cg.cs c) rfl <| ?_
   try simp only [pS]
   cases q69 : (srvB zs m.too)
   ·skip
    refine cB (r_server m.too c zs _ (HZ.out.no HF.out.kept) hnz) q69 HF fun w101 HF => tK (.bool false) <| tK (.bool false) <| sK <| sK <| tK (.bool false) <| tK (.bool false) <| sK <| sK <| sK <| tK (.bool false) <| tK (.bool false) <| WL.nil <| ?_
    try simp only [pS]
    go_wp2
    rw [HC.out]
    exact ⟨ret_bool (by simp only [msgR, bsq, q1, q2, q3, q68, q69]), HF.out.kept⟩
   refine cB (r_server m.too c zs _ (HZ.out.no HF.out.kept) hnz) q69 HF fun w102 HF => tK (.bool true) <| tK (.bool true) <| lP (Mg.cs m) HF 0 0 U45 S45 (Mg.cs m) rfl <| ?_
   try simp only [pS]
   cases q70 : (cntB m)
   ·skip
    refine cB (r_counted m _) q70 HF fun w103 HF => tK (.bool false) <| tK (.bool false) <| sK <| sK <| sK <| tK (.bool false) <| tK (.bool false) <| WL.nil <| ?_
    try simp only [pS]
    go_wp2
    rw [HC.out]
    exact ⟨ret_bool (by simp only [msgR, bsq, q1, q2, q3, q68, q69, q70]), HF.out.kept⟩
   refine cB (r_counted m _) q70 HF fun w104 HF => tK (.bool true) <| tK (.bool true) <| lP (Mg.cs m) HF 0 0 U45 S45 (Mg.cs m) rfl <| lP (Cg.cs c) HF 1 0 U24 S24 (Cg.cs c) rfl <| ?_
   try simp only [pS]
   cases q71 : (asksR c.bl m)
   ·skip
    refine cB (r_asks m c _ HB) q71 HF fun w105 HF => tK (.bool false) <| tK (.bool false) <| WL.nil <| ?_
    try simp only [pS]
    go_wp2
    rw [HC.out]
    exact ⟨ret_bool (by simp only [msgR, bsq, q1, q2, q3, q68, q69, q70, q71]), HF.out.kept⟩
   refine cB (r_asks m c _ HB) q71 HF fun w106 HF => tK (.bool true) <| tK (.bool true) <| WL.nil <| ?_
   try simp only [pS]
   go_wp2
   rw [HC.out]
   exact ⟨ret_bool (by simp only [msgR, bsq, q1, q2, q3, q68, q69, q70, q71]), HF.out.kept⟩
  refine bN (eI q3) <| tK (.bool false) <| WL.nil <| ?_
  try simp only [pS]
  go_upto_region 6 with fail
  refine WL.start <| ?_
  cases q4 : (m.k == 3)
  rotate_left
  ·skip
   refine bN (eI q4) <| tK (.bool true) <| WL.nil <| ?_
   try simp only [pS]
   go_upto_region 9 with fail
   refine WL.start <| tK (pg g1 1) <| lP (Ad.cs m.fr) HF 0 1 U30 S30 (Mg.cs m) rfl <| ?_
   try simp only [pS]
   cases q64 : (cliB m.fr)
   ·skip
    refine cB (r_client m.fr _) q64 HF fun w91 HF => tK (.bool false) <| sK <| sK <| sK <| sK <| tK (.bool false) <| tK (.bool false) <| sK <| sK <| tK (.bool false) <| tK (.bool false) <| sK <| sK <| sK <| tK (.bool false) <| tK (.bool false) <| WL.nil <| ?_
    try simp only [pS]
    go_wp2
    rw [HC.out]
    exact ⟨ret_bool (by simp only [msgR, bsq, q1, q2, q3, q4, q64]), HF.out.kept⟩
   refine cB (r_client m.fr _) q64 HF fun w92 HF => tK (.bool true) <| tK (pg g1 3) <| lP (Ad.cs m.too) HF 0 3 U30 S30 (Mg.cs m) rfl <| lP (Cg.cs c) HF 1 0 U24 S24 (Cg.cs c) rfl <| ?_
   try simp only [pS]
   cases q65 : (srvB zs m.too)
   ·skip
    refine cB (r_server m.too c zs _ (HZ.out.no HF.out.kept) hnz) q65 HF fun w93 HF => tK (.bool false) <| tK (.bool false) <| sK <| sK <| tK (.bool false) <| tK (.bool false) <| sK <| sK <| sK <| tK (.bool false) <| tK (.bool false) <| WL.nil <| ?_
    try simp only [pS]
    go_wp2
    rw [HC.out]
    exact ⟨ret_bool (by simp only [msgR, bsq, q1, q2, q3, q4, q64, q65]), HF.out.kept⟩
   refine cB (r_server m.too c zs _ (HZ.out.no HF.out.kept) hnz) q65 HF fun w94 HF => tK (.bool true) <| tK (.bool true) <| lP (Mg.cs m) HF 0 0 U45 S45 (Mg.cs m) rfl <| ?_
   try simp only [pS]
   cases q66 : (cntB m)
   ·skip
    refine cB (r_counted m _) q66 HF fun w95 HF => tK (.bool false) <| tK (.bool false) <| sK <| sK <| sK <| tK (.bool false) <| tK (.bool false) <| WL.nil <| ?_
    try simp only [pS]
    go_wp2
    rw [HC.out]
    exact ⟨ret_bool (by simp only [msgR, bsq, q1, q2, q3, q4, q64, q65, q66]), HF.out.kept⟩
   refine cB (r_counted m _) q66 HF fun w96 HF => tK (.bool true) <| tK (.bool true) <| lP (Mg.cs m) HF 0 0 U45 S45 (Mg.cs m) rfl <| lP (Cg.cs c) HF 1 0 U24 S24 (Cg.cs c) rfl <| ?_
   try simp only [pS]
   cases q67 : (asksR c.bl m)
   ·skip
    refine cB (r_asks m c _ HB) q67 HF fun w97 HF => tK (.bool false) <| tK (.bool false) <| WL.nil <| ?_
    try simp only [pS]
    go_wp2
    rw [HC.out]
    exact ⟨ret_bool (by simp only [msgR, bsq, q1, q2, q3, q4, q64, q65, q66, q67]), HF.out.kept⟩
   refine cB (r_asks m c _ HB) q67 HF fun w98 HF => tK (.bool true) <| tK (.bool true) <| WL.nil <| ?_
   try simp only [pS]
   go_wp2
   rw [HC.out]
   exact ⟨ret_bool (by simp only [msgR, bsq, q1, q2, q3, q4, q64, q65, q66, q67]), HF.out.kept⟩
  refine bN (eI q4) <| tK (.bool false) <| WL.nil <| ?_
  try simp only [pS]
  go_upto_region 7 with fail
  refine WL.start <| ?_
  cases q5 : (m.k == 4)
  rotate_left
  ·skip
   refine bN (eI q5) <| tK (.bool true) <| WL.nil <| ?_
   try simp only [pS]
   go_upto_region 9 with fail
   refine WL.start <| tK (pg g1 1) <| lP (Ad.cs m.fr) HF 0 1 U30 S30 (Mg.cs m) rfl <| ?_
   try simp only [pS]
   cases q60 : (cliB m.fr)
   ·skip
    refine cB (r_client m.fr _) q60 HF fun w83 HF => tK (.bool false) <| sK <| sK <| sK <| sK <| tK (.bool false) <| tK (.bool false) <| sK <| sK <| tK (.bool false) <| tK (.bool false) <| sK <| sK <| sK <| tK (.bool false) <| tK (.bool false) <| WL.nil <| ?_
    try simp only [pS]
    go_wp2
    rw [HC.out]
    exact ⟨ret_bool (by simp only [msgR, bsq, q1, q2, q3, q4, q5, q60]), HF.out.kept⟩
   refine cB (r_client m.fr _) q60 HF fun w84 HF => tK (.bool true) <| tK (pg g1 3) <| lP (Ad.cs m.too) HF 0 3 U30 S30 (Mg.cs m) rfl <| lP (Cg.cs c) HF 1 0 U24 S24 (Cg.cs c) rfl <| ?_
   try simp only [pS]
   cases q61 : (srvB zs m.too)
   ·skip
    refine cB (r_server m.too c zs _ (HZ.out.no HF.out.kept) hnz) q61 HF fun w85 HF => tK (.bool false) <| tK (.bool false) <| sK <| sK <| tK (.bool false) <| tK (.bool false) <| sK <| sK <| sK <| tK (.bool false) <| tK (.bool false) <| WL.nil <| ?_
    try simp only [pS]
    go_wp2
    rw [HC.out]
    exact ⟨ret_bool (by simp only [msgR, bsq, q1, q2, q3, q4, q5, q60, q61]), HF.out.kept⟩
   refine cB (r_server m.too c zs _ (HZ.out.no HF.out.kept) hnz) q61 HF fun w86 HF => tK (.bool true) <| tK (.bool true) <| lP (Mg.cs m) HF 0 0 U45 S45 (Mg.cs m) rfl <| ?_
   try simp only [pS]
   cases q62 : (cntB m)
   ·skip
    refine cB (r_counted m _) q62 HF fun w87 HF => tK (.bool false) <| tK (.bool false) <| sK <| sK <| sK <| tK (.bool false) <| tK (.bool false) <| WL.nil <| ?_
    try simp only [pS]
    go_wp2
    rw [HC.out]
    exact ⟨ret_bool (by simp only [msgR, bsq, q1, q2, q3, q4, q5, q60, q61, q62]), HF.out.kept⟩
   refine cB (r_counted m _) q62 HF fun w88 HF => tK (.bool true) <| tK (.bool true) <| lP (Mg.cs m) HF 0 0 U45 S45 (Mg.cs m) rfl <| lP (Cg.cs c) HF 1 0 U24 S24 (Cg.cs c) rfl <| ?_
   try simp only [pS]
   cases q63 : (asksR c.bl m)
   ·skip
    refine cB (r_asks m c _ HB) q63 HF fun w89 HF => tK (.bool false) <| tK (.bool false) <| WL.nil <| ?_
    try simp only [pS]
    go_wp2
    rw [HC.out]
    exact ⟨ret_bool (by simp only [msgR, bsq, q1, q2, q3, q4, q5, q60, q61, q62, q63]), HF.out.kept⟩
   refine cB (r_asks m c _ HB) q63 HF fun w90 HF => tK (.bool true) <| tK (.bool true) <| WL.nil <| ?_
   try simp only [pS]
   go_wp2
   rw [HC.out]
   exact ⟨ret_bool (by simp only [msgR, bsq, q1, q2, q3, q4, q5, q60, q61, q62, q63]), HF.out.kept⟩
  refine bN (eI q5) <| tK (.bool false) <| WL.nil <| ?_
  try simp only [pS]
  go_upto_region 8 with fail
  refine WL.start <| ?_
  cases q6 : (m.k == 5)
  rotate_left
  ·skip
   refine bN (eI q6) <| tK (.bool true) <| WL.nil <| ?_
   try simp only [pS]
   go_upto_region 9 with fail
   refine WL.start <| tK (pg g1 1) <| lP (Ad.cs m.fr) HF 0 1 U30 S30 (Mg.cs m) rfl <| ?_
   try simp only [pS]
   cases q56 : (cliB m.fr)
   ·skip
    refine cB (r_client m.fr _) q56 HF fun w75 HF => tK (.bool false) <| sK <| sK <| sK <| sK <| tK (.bool false) <| tK (.bool false) <| sK <| sK <| tK (.bool false) <| tK (.bool false) <| sK <| sK <| sK <| tK (.bool false) <| tK (.bool false) <| WL.nil <| ?_
    try simp only [pS]
    go_wp2
    rw [HC.out]
    exact ⟨ret_bool (by simp only [msgR, bsq, q1, q2, q3, q4, q5, q6, q56]), HF.out.kept⟩
   refine cB (r_client m.fr _) q56 HF fun w76 HF => tK (.bool true) <| tK (pg g1 3) <| lP (Ad.cs m.too) HF 0 3 U30 S30 (Mg.cs m) rfl <| lP (Cg.cs c) HF 1 0 U24 S24 (Cg.cs c) rfl <| ?_
   try simp only [pS]
   cases q57 : (srvB zs m.too)
   ·skip
    refine cB (r_server m.too c zs _ (HZ.out.no HF.out.kept) hnz) q57 HF fun w77 HF => tK (.bool false) <| tK (.bool false) <| sK <| sK <| tK (.bool false) <| tK (.bool false) <| sK <| sK <| sK <| tK (.bool false) <| tK (.bool false) <| WL.nil <| ?_
    try simp only [pS]
    go_wp2
    rw [HC.out]
    exact ⟨ret_bool (by simp only [msgR, bsq, q1, q2, q3, q4, q5, q6, q56, q57]), HF.out.kept⟩
   refine cB (r_server m.too c zs _ (HZ.out.no HF.out.kept) hnz) q57 HF fun w78 HF => tK (.bool true) <| tK (.bool true) <| lP (Mg.cs m) HF 0 0 U45 S45 (Mg.cs m) rfl <| ?_
   try simp only [pS]
   cases q58 : (cntB m)
   ·skip
    refine cB (r_counted m _) q58 HF fun w79 HF => tK (.bool false) <| tK (.bool false) <| sK <| sK <| sK <| tK (.bool false) <| tK (.bool false) <| WL.nil <| ?_
    try simp only [pS]
    go_wp2
    rw [HC.out]
    exact ⟨ret_bool (by simp only [msgR, bsq, q1, q2, q3, q4, q5, q6, q56, q57, q58]), HF.out.kept⟩
   refine cB (r_counted m _) q58 HF fun w80 HF => tK (.bool true) <| tK (.bool true) <| lP (Mg.cs m) HF 0 0 U45 S45 (Mg.cs m) rfl <| lP (Cg.cs c) HF 1 0 U24 S24 (Cg.cs c) rfl <| ?_
   try simp only [pS]
   cases q59 : (asksR c.bl m)
   ·skip
    refine cB (r_asks m c _ HB) q59 HF fun w81 HF => tK (.bool false) <| tK (.bool false) <| WL.nil <| ?_
    try simp only [pS]
    go_wp2
    rw [HC.out]
    exact ⟨ret_bool (by simp only [msgR, bsq, q1, q2, q3, q4, q5, q6, q56, q57, q58, q59]), HF.out.kept⟩
   refine cB (r_asks m c _ HB) q59 HF fun w82 HF => tK (.bool true) <| tK (.bool true) <| WL.nil <| ?_
   try simp only [pS]
   go_wp2
   rw [HC.out]
   exact ⟨ret_bool (by simp only [msgR, bsq, q1, q2, q3, q4, q5, q6, q56, q57, q58, q59]), HF.out.kept⟩
  refine bN (eI q6) <| tK (.bool false) <| WL.nil <| ?_
  try simp only [pS]
  go_upto_region 10 with fail
  refine WL.start <| ?_
  cases q7 : (m.k == 11)
  rotate_left
  ·skip
   refine bN (eI q7) <| tK (.bool true) <| WL.nil <| ?_
   try simp only [pS]
   go_upto_region 17 with fail
   refine WL.start <| tK (pg g1 1) <| lP (Ad.cs m.fr) HF 0 1 U30 S30 (Mg.cs m) rfl <| lP (Cg.cs c) HF 1 0 U24 S24 (Cg.cs c) rfl <| ?_
   try simp only [pS]
   cases q52 : (srvB zs m.fr)
   ·skip
    refine cB (r_server m.fr c zs _ (HZ.out.no HF.out.kept) hnz) q52 HF fun w67 HF => tK (.bool false) <| sK <| sK <| sK <| tK (.bool false) <| tK (.bool false) <| sK <| sK <| tK (.bool false) <| tK (.bool false) <| sK <| sK <| sK <| tK (.bool false) <| tK (.bool false) <| WL.nil <| ?_
    try simp only [pS]
    go_wp2
    rw [HC.out]
    exact ⟨ret_bool (by simp only [msgR, bsq, q1, q2, q3, q4, q5, q6, q7, q52]), HF.out.kept⟩
   refine cB (r_server m.fr c zs _ (HZ.out.no HF.out.kept) hnz) q52 HF fun w68 HF => tK (.bool true) <| tK (pg g1 3) <| lP (Ad.cs m.too) HF 0 3 U30 S30 (Mg.cs m) rfl <| ?_
   try simp only [pS]
   cases q53 : (cliB m.too)
   ·skip
    refine cB (r_client m.too _) q53 HF fun w69 HF => tK (.bool false) <| tK (.bool false) <| sK <| sK <| tK (.bool false) <| tK (.bool false) <| sK <| sK <| sK <| tK (.bool false) <| tK (.bool false) <| WL.nil <| ?_
    try simp only [pS]
    go_wp2
    rw [HC.out]
    exact ⟨ret_bool (by simp only [msgR, bsq, q1, q2, q3, q4, q5, q6, q7, q52, q53]), HF.out.kept⟩
   refine cB (r_client m.too _) q53 HF fun w70 HF => tK (.bool true) <| tK (.bool true) <| lP (Mg.cs m) HF 0 0 U45 S45 (Mg.cs m) rfl <| ?_
   try simp only [pS]
   cases q54 : (cntB m)
   ·skip
    refine cB (r_counted m _) q54 HF fun w71 HF => tK (.bool false) <| tK (.bool false) <| sK <| sK <| sK <| tK (.bool false) <| tK (.bool false) <| WL.nil <| ?_
    try simp only [pS]
    go_wp2
    rw [HC.out]
    exact ⟨ret_bool (by simp only [msgR, bsq, q1, q2, q3, q4, q5, q6, q7, q52, q53, q54]), HF.out.kept⟩
   refine cB (r_counted m _) q54 HF fun w72 HF => tK (.bool true) <| tK (.bool true) <| lP (Mg.cs m) HF 0 0 U45 S45 (Mg.cs m) rfl <| lP (Cg.cs c) HF 1 0 U24 S24 (Cg.cs c) rfl <| ?_
   try simp only [pS]
   cases q55 : (ansR c.bl c.rm m bs es ls)
   ·skip
    refine cB (r_answers m bs es ls c _ HB (HRB.out.no HF.out.kept) (HRE.out.no HF.out.kept) (HRL.out.no HF.out.kept) hnb hne hnl) q55 HF fun w73 HF => tK (.bool false) <| tK (.bool false) <| WL.nil <| ?_
    try simp only [pS]
    go_wp2
    rw [HC.out]
    exact ⟨ret_bool (by simp only [msgR, bsq, q1, q2, q3, q4, q5, q6, q7, q52, q53, q54, q55]), HF.out.kept⟩
   refine cB (r_answers m bs es ls c _ HB (HRB.out.no HF.out.kept) (HRE.out.no HF.out.kept) (HRL.out.no HF.out.kept) hnb hne hnl) q55 HF fun w74 HF => tK (.bool true) <| tK (.bool true) <| WL.nil <| ?_
   try simp only [pS]
   go_wp2
   rw [HC.out]
   exact ⟨ret_bool (by simp only [msgR, bsq, q1, q2, q3, q4, q5, q6, q7, q52, q53, q54, q55]), HF.out.kept⟩
  refine bN (eI q7) <| tK (.bool false) <| WL.nil <| ?_
  try simp only [pS]
  go_upto_region 11 with fail
  refine WL.start <| ?_
  cases q8 : (m.k == 12)
  rotate_left
  ·skip
   refine bN (eI q8) <| tK (.bool true) <| WL.nil <| ?_
   try simp only [pS]
   go_upto_region 17 with fail
   refine WL.start <| tK (pg g1 1) <| lP (Ad.cs m.fr) HF 0 1 U30 S30 (Mg.cs m) rfl <| lP (Cg.cs c) HF 1 0 U24 S24 (Cg.cs c) rfl <| ?_
   try simp only [pS]
   cases q48 : (srvB zs m.fr)
   ·skip
    refine cB (r_server m.fr c zs _ (HZ.out.no HF.out.kept) hnz) q48 HF fun w59 HF => tK (.bool false) <| sK <| sK <| sK <| tK (.bool false) <| tK (.bool false) <| sK <| sK <| tK (.bool false) <| tK (.bool false) <| sK <| sK <| sK <| tK (.bool false) <| tK (.bool false) <| WL.nil <| ?_
    try simp only [pS]
    go_wp2
    rw [HC.out]
    exact ⟨ret_bool (by simp only [msgR, bsq, q1, q2, q3, q4, q5, q6, q7, q8, q48]), HF.out.kept⟩
   refine cB (r_server m.fr c zs _ (HZ.out.no HF.out.kept) hnz) q48 HF fun w60 HF => tK (.bool true) <| tK (pg g1 3) <| lP (Ad.cs m.too) HF 0 3 U30 S30 (Mg.cs m) rfl <| ?_
   try simp only [pS]
   cases q49 : (cliB m.too)
   ·skip
    refine cB (r_client m.too _) q49 HF fun w61 HF => tK (.bool false) <| tK (.bool false) <| sK <| sK <| tK (.bool false) <| tK (.bool false) <| sK <| sK <| sK <| tK (.bool false) <| tK (.bool false) <| WL.nil <| ?_
    try simp only [pS]
    go_wp2
    rw [HC.out]
    exact ⟨ret_bool (by simp only [msgR, bsq, q1, q2, q3, q4, q5, q6, q7, q8, q48, q49]), HF.out.kept⟩
   refine cB (r_client m.too _) q49 HF fun w62 HF => tK (.bool true) <| tK (.bool true) <| lP (Mg.cs m) HF 0 0 U45 S45 (Mg.cs m) rfl <| ?_
   try simp only [pS]
   cases q50 : (cntB m)
   ·skip
    refine cB (r_counted m _) q50 HF fun w63 HF => tK (.bool false) <| tK (.bool false) <| sK <| sK <| sK <| tK (.bool false) <| tK (.bool false) <| WL.nil <| ?_
    try simp only [pS]
    go_wp2
    rw [HC.out]
    exact ⟨ret_bool (by simp only [msgR, bsq, q1, q2, q3, q4, q5, q6, q7, q8, q48, q49, q50]), HF.out.kept⟩
   refine cB (r_counted m _) q50 HF fun w64 HF => tK (.bool true) <| tK (.bool true) <| lP (Mg.cs m) HF 0 0 U45 S45 (Mg.cs m) rfl <| lP (Cg.cs c) HF 1 0 U24 S24 (Cg.cs c) rfl <| ?_
   try simp only [pS]
   cases q51 : (ansR c.bl c.rm m bs es ls)
   ·skip
    refine cB (r_answers m bs es ls c _ HB (HRB.out.no HF.out.kept) (HRE.out.no HF.out.kept) (HRL.out.no HF.out.kept) hnb hne hnl) q51 HF fun w65 HF => tK (.bool false) <| tK (.bool false) <| WL.nil <| ?_
    try simp only [pS]
    go_wp2
    rw [HC.out]
    exact ⟨ret_bool (by simp only [msgR, bsq, q1, q2, q3, q4, q5, q6, q7, q8, q48, q49, q50, q51]), HF.out.kept⟩
   refine cB (r_answers m bs es ls c _ HB (HRB.out.no HF.out.kept) (HRE.out.no HF.out.kept) (HRL.out.no HF.out.kept) hnb hne hnl) q51 HF fun w66 HF => tK (.bool true) <| tK (.bool true) <| WL.nil <| ?_
   try simp only [pS]
   go_wp2
   rw [HC.out]
   exact ⟨ret_bool (by simp only [msgR, bsq, q1, q2, q3, q4, q5, q6, q7, q8, q48, q49, q50, q51]), HF.out.kept⟩
  refine bN (eI q8) <| tK (.bool false) <| WL.nil <| ?_
  try simp only [pS]
  go_upto_region 12 with fail
  refine WL.start <| ?_
  cases q9 : (m.k == 13)
  rotate_left
  ·skip
   refine bN (eI q9) <| tK (.bool true) <| WL.nil <| ?_
   try simp only [pS]
   go_upto_region 17 with fail
   refine WL.start <| tK (pg g1 1) <| lP (Ad.cs m.fr) HF 0 1 U30 S30 (Mg.cs m) rfl <| lP (Cg.cs c) HF 1 0 U24 S24 (Cg.cs c) rfl <| ?_
   try simp only [pS]
   cases q44 : (srvB zs m.fr)
   ·skip
    refine cB (r_server m.fr c zs _ (HZ.out.no HF.out.kept) hnz) q44 HF fun w51 HF => tK (.bool false) <| sK <| sK <| sK <| tK (.bool false) <| tK (.bool false) <| sK <| sK <| tK (.bool false) <| tK (.bool false) <| sK <| sK <| sK <| tK (.bool false) <| tK (.bool false) <| WL.nil <| ?_
    try simp only [pS]
    go_wp2
    rw [HC.out]
    exact ⟨ret_bool (by simp only [msgR, bsq, q1, q2, q3, q4, q5, q6, q7, q8, q9, q44]), HF.out.kept⟩
   refine cB (r_server m.fr c zs _ (HZ.out.no HF.out.kept) hnz) q44 HF fun w52 HF => tK (.bool true) <| tK (pg g1 3) <| lP (Ad.cs m.too) HF 0 3 U30 S30 (Mg.cs m) rfl <| ?_
   try simp only [pS]
   cases q45 : (cliB m.too)
   ·skip
    refine cB (r_client m.too _) q45 HF fun w53 HF => tK (.bool false) <| tK (.bool false) <| sK <| sK <| tK (.bool false) <| tK (.bool false) <| sK <| sK <| sK <| tK (.bool false) <| tK (.bool false) <| WL.nil <| ?_
    try simp only [pS]
    go_wp2
    rw [HC.out]
    exact ⟨ret_bool (by simp only [msgR, bsq, q1, q2, q3, q4, q5, q6, q7, q8, q9, q44, q45]), HF.out.kept⟩
   refine cB (r_client m.too _) q45 HF fun w54 HF => tK (.bool true) <| tK (.bool true) <| lP (Mg.cs m) HF 0 0 U45 S45 (Mg.cs m) rfl <| ?_
   try simp only [pS]
   cases q46 : (cntB m)
   ·skip
    refine cB (r_counted m _) q46 HF fun w55 HF => tK (.bool false) <| tK (.bool false) <| sK <| sK <| sK <| tK (.bool false) <| tK (.bool false) <| WL.nil <| ?_
    try simp only [pS]
    go_wp2
    rw [HC.out]
    exact ⟨ret_bool (by simp only [msgR, bsq, q1, q2, q3, q4, q5, q6, q7, q8, q9, q44, q45, q46]), HF.out.kept⟩
   refine cB (r_counted m _) q46 HF fun w56 HF => tK (.bool true) <| tK (.bool true) <| lP (Mg.cs m) HF 0 0 U45 S45 (Mg.cs m) rfl <| lP (Cg.cs c) HF 1 0 U24 S24 (Cg.cs c) rfl <| ?_
   try simp only [pS]
   cases q47 : (ansR c.bl c.rm m bs es ls)
   ·skip
    refine cB (r_answers m bs es ls c _ HB (HRB.out.no HF.out.kept) (HRE.out.no HF.out.kept) (HRL.out.no HF.out.kept) hnb hne hnl) q47 HF fun w57 HF => tK (.bool false) <| tK (.bool false) <| WL.nil <| ?_
    try simp only [pS]
    go_wp2
    rw [HC.out]
    exact ⟨ret_bool (by simp only [msgR, bsq, q1, q2, q3, q4, q5, q6, q7, q8, q9, q44, q45, q46, q47]), HF.out.kept⟩
   refine cB (r_answers m bs es ls c _ HB (HRB.out.no HF.out.kept) (HRE.out.no HF.out.kept) (HRL.out.no HF.out.kept) hnb hne hnl) q47 HF fun w58 HF => tK (.bool true) <| tK (.bool true) <| WL.nil <| ?_
   try simp only [pS]
   go_wp2
   rw [HC.out]
   exact ⟨ret_bool (by simp only [msgR, bsq, q1, q2, q3, q4, q5, q6, q7, q8, q9, q44, q45, q46, q47]), HF.out.kept⟩
  refine bN (eI q9) <| tK (.bool false) <| WL.nil <| ?_
  try simp only [pS]
  go_upto_region 13 with fail
  refine WL.start <| ?_
  cases q10 : (m.k == 14)
  rotate_left
  ·skip
   refine bN (eI q10) <| tK (.bool true) <| WL.nil <| ?_
   try simp only [pS]
   go_upto_region 17 with fail
   refine WL.start <| tK (pg g1 1) <| lP (Ad.cs m.fr) HF 0 1 U30 S30 (Mg.cs m) rfl <| lP (Cg.cs c) HF 1 0 U24 S24 (Cg.cs c) rfl <| ?_
   try simp only [pS]
   cases q40 : (srvB zs m.fr)
   ·skip
    refine cB (r_server m.fr c zs _ (HZ.out.no HF.out.kept) hnz) q40 HF fun w43 HF => tK (.bool false) <| sK <| sK <| sK <| tK (.bool false) <| tK (.bool false) <| sK <| sK <| tK (.bool false) <| tK (.bool false) <| sK <| sK <| sK <| tK (.bool false) <| tK (.bool false) <| WL.nil <| ?_
    try simp only [pS]
    go_wp2
    rw [HC.out]
    exact ⟨ret_bool (by simp only [msgR, bsq, q1, q2, q3, q4, q5, q6, q7, q8, q9, q10, q40]), HF.out.kept⟩
   refine cB (r_server m.fr c zs _ (HZ.out.no HF.out.kept) hnz) q40 HF fun w44 HF => tK (.bool true) <| tK (pg g1 3) <| lP (Ad.cs m.too) HF 0 3 U30 S30 (Mg.cs m) rfl <| ?_
   try simp only [pS]
   cases q41 : (cliB m.too)
   ·skip
    refine cB (r_client m.too _) q41 HF fun w45 HF => tK (.bool false) <| tK (.bool false) <| sK <| sK <| tK (.bool false) <| tK (.bool false) <| sK <| sK <| sK <| tK (.bool false) <| tK (.bool false) <| WL.nil <| ?_
    try simp only [pS]
    go_wp2
    rw [HC.out]
    exact ⟨ret_bool (by simp only [msgR, bsq, q1, q2, q3, q4, q5, q6, q7, q8, q9, q10, q40, q41]), HF.out.kept⟩
   refine cB (r_client m.too _) q41 HF fun w46 HF => tK (.bool true) <| tK (.bool true) <| lP (Mg.cs m) HF 0 0 U45 S45 (Mg.cs m) rfl <| ?_
   try simp only [pS]
   cases q42 : (cntB m)
   ·skip
    refine cB (r_counted m _) q42 HF fun w47 HF => tK (.bool false) <| tK (.bool false) <| sK <| sK <| sK <| tK (.bool false) <| tK (.bool false) <| WL.nil <| ?_
    try simp only [pS]
    go_wp2
    rw [HC.out]
    exact ⟨ret_bool (by simp only [msgR, bsq, q1, q2, q3, q4, q5, q6, q7, q8, q9, q10, q40, q41, q42]), HF.out.kept⟩
   refine cB (r_counted m _) q42 HF fun w48 HF => tK (.bool true) <| tK (.bool true) <| lP (Mg.cs m) HF 0 0 U45 S45 (Mg.cs m) rfl <| lP (Cg.cs c) HF 1 0 U24 S24 (Cg.cs c) rfl <| ?_
   try simp only [pS]
   cases q43 : (ansR c.bl c.rm m bs es ls)
   ·skip
    refine cB (r_answers m bs es ls c _ HB (HRB.out.no HF.out.kept) (HRE.out.no HF.out.kept) (HRL.out.no HF.out.kept) hnb hne hnl) q43 HF fun w49 HF => tK (.bool false) <| tK (.bool false) <| WL.nil <| ?_
    try simp only [pS]
    go_wp2
    rw [HC.out]
    exact ⟨ret_bool (by simp only [msgR, bsq, q1, q2, q3, q4, q5, q6, q7, q8, q9, q10, q40, q41, q42, q43]), HF.out.kept⟩
   refine cB (r_answers m bs es ls c _ HB (HRB.out.no HF.out.kept) (HRE.out.no HF.out.kept) (HRL.out.no HF.out.kept) hnb hne hnl) q43 HF fun w50 HF => tK (.bool true) <| tK (.bool true) <| WL.nil <| ?_
   try simp only [pS]
   go_wp2
   rw [HC.out]
   exact ⟨ret_bool (by simp only [msgR, bsq, q1, q2, q3, q4, q5, q6, q7, q8, q9, q10, q40, q41, q42, q43]), HF.out.kept⟩
  refine bN (eI q10) <| tK (.bool false) <| WL.nil <| ?_
  try simp only [pS]
  go_upto_region 14 with fail
  refine WL.start <| ?_
  cases q11 : (m.k == 15)
  rotate_left
  ·skip
   refine bN (eI q11) <| tK (.bool true) <| WL.nil <| ?_
   try simp only [pS]
   go_upto_region 17 with fail
   refine WL.start <| tK (pg g1 1) <| lP (Ad.cs m.fr) HF 0 1 U30 S30 (Mg.cs m) rfl <| lP (Cg.cs c) HF 1 0 U24 S24 (Cg.cs c) rfl <| ?_
   try simp only [pS]
   cases q36 : (srvB zs m.fr)
   ·skip
    refine cB (r_server m.fr c zs _ (HZ.out.no HF.out.kept) hnz) q36 HF fun w35 HF => tK (.bool false) <| sK <| sK <| sK <| tK (.bool false) <| tK (.bool false) <| sK <| sK <| tK (.bool false) <| tK (.bool false) <| sK <| sK <| sK <| tK (.bool false) <| tK (.bool false) <| WL.nil <| ?_
    try simp only [pS]
    go_wp2
    rw [HC.out]
    exact ⟨ret_bool (by simp only [msgR, bsq, q1, q2, q3, q4, q5, q6, q7, q8, q9, q10, q11, q36]), HF.out.kept⟩
   refine cB (r_server m.fr c zs _ (HZ.out.no HF.out.kept) hnz) q36 HF fun w36 HF => tK (.bool true) <| tK (pg g1 3) <| lP (Ad.cs m.too) HF 0 3 U30 S30 (Mg.cs m) rfl <| ?_
   try simp only [pS]
   cases q37 : (cliB m.too)
   ·skip
    refine cB (r_client m.too _) q37 HF fun w37 HF => tK (.bool false) <| tK (.bool false) <| sK <| sK <| tK (.bool false) <| tK (.bool false) <| sK <| sK <| sK <| tK (.bool false) <| tK (.bool false) <| WL.nil <| ?_
    try simp only [pS]
    go_wp2
    rw [HC.out]
    exact ⟨ret_bool (by simp only [msgR, bsq, q1, q2, q3, q4, q5, q6, q7, q8, q9, q10, q11, q36, q37]), HF.out.kept⟩
   refine cB (r_client m.too _) q37 HF fun w38 HF => tK (.bool true) <| tK (.bool true) <| lP (Mg.cs m) HF 0 0 U45 S45 (Mg.cs m) rfl <| ?_
   try simp only [pS]
   cases q38 : (cntB m)
   ·skip
    refine cB (r_counted m _) q38 HF fun w39 HF => tK (.bool false) <| tK (.bool false) <| sK <| sK <| sK <| tK (.bool false) <| tK (.bool false) <| WL.nil <| ?_
    try simp only [pS]
    go_wp2
    rw [HC.out]
    exact ⟨ret_bool (by simp only [msgR, bsq, q1, q2, q3, q4, q5, q6, q7, q8, q9, q10, q11, q36, q37, q38]), HF.out.kept⟩
   refine cB (r_counted m _) q38 HF fun w40 HF => tK (.bool true) <| tK (.bool true) <| lP (Mg.cs m) HF 0 0 U45 S45 (Mg.cs m) rfl <| lP (Cg.cs c) HF 1 0 U24 S24 (Cg.cs c) rfl <| ?_
   try simp only [pS]
   cases q39 : (ansR c.bl c.rm m bs es ls)
   ·skip
    refine cB (r_answers m bs es ls c _ HB (HRB.out.no HF.out.kept) (HRE.out.no HF.out.kept) (HRL.out.no HF.out.kept) hnb hne hnl) q39 HF fun w41 HF => tK (.bool false) <| tK (.bool false) <| WL.nil <| ?_
    try simp only [pS]
    go_wp2
    rw [HC.out]
    exact ⟨ret_bool (by simp only [msgR, bsq, q1, q2, q3, q4, q5, q6, q7, q8, q9, q10, q11, q36, q37, q38, q39]), HF.out.kept⟩
   refine cB (r_answers m bs es ls c _ HB (HRB.out.no HF.out.kept) (HRE.out.no HF.out.kept) (HRL.out.no HF.out.kept) hnb hne hnl) q39 HF fun w42 HF => tK (.bool true) <| tK (.bool true) <| WL.nil <| ?_
   try simp only [pS]
   go_wp2
   rw [HC.out]
   exact ⟨ret_bool (by simp only [msgR, bsq, q1, q2, q3, q4, q5, q6, q7, q8, q9, q10, q11, q36, q37, q38, q39]), HF.out.kept⟩
  refine bN (eI q11) <| tK (.bool false) <| WL.nil <| ?_
  try simp only [pS]
  go_upto_region 15 with fail
  refine WL.start <| ?_
  cases q12 : (m.k == 16)
  rotate_left
  ·skip
   refine bN (eI q12) <| tK (.bool true) <| WL.nil <| ?_
   try simp only [pS]
   go_upto_region 17 with fail
   refine WL.start <| tK (pg g1 1) <| lP (Ad.cs m.fr) HF 0 1 U30 S30 (Mg.cs m) rfl <| lP (Cg.cs c) HF 1 0 U24 S24 (Cg.cs c) rfl <| ?_
   try simp only [pS]
   cases q32 : (srvB zs m.fr)
   ·skip
    refine cB (r_server m.fr c zs _ (HZ.out.no HF.out.kept) hnz) q32 HF fun w27 HF => tK (.bool false) <| sK <| sK <| sK <| tK (.bool false) <| tK (.bool false) <| sK <| sK <| tK (.bool false) <| tK (.bool false) <| sK <| sK <| sK <| tK (.bool false) <| tK (.bool false) <| WL.nil <| ?_
    try simp only [pS]
    go_wp2
    rw [HC.out]
    exact ⟨ret_bool (by simp only [msgR, bsq, q1, q2, q3, q4, q5, q6, q7, q8, q9, q10, q11, q12, q32]), HF.out.kept⟩
   refine cB (r_server m.fr c zs _ (HZ.out.no HF.out.kept) hnz) q32 HF fun w28 HF => tK (.bool true) <| tK (pg g1 3) <| lP (Ad.cs m.too) HF 0 3 U30 S30 (Mg.cs m) rfl <| ?_
   try simp only [pS]
   cases q33 : (cliB m.too)
   ·skip
    refine cB (r_client m.too _) q33 HF fun w29 HF => tK (.bool false) <| tK (.bool false) <| sK <| sK <| tK (.bool false) <| tK (.bool false) <| sK <| sK <| sK <| tK (.bool false) <| tK (.bool false) <| WL.nil <| ?_
    try simp only [pS]
    go_wp2
    rw [HC.out]
    exact ⟨ret_bool (by simp only [msgR, bsq, q1, q2, q3, q4, q5, q6, q7, q8, q9, q10, q11, q12, q32, q33]), HF.out.kept⟩
   refine cB (r_client m.too _) q33 HF fun w30 HF => tK (.bool true) <| tK (.bool true) <| lP (Mg.cs m) HF 0 0 U45 S45 (Mg.cs m) rfl <| ?_
   try simp only [pS]
   cases q34 : (cntB m)
   ·skip
    refine cB (r_counted m _) q34 HF fun w31 HF => tK (.bool false) <| tK (.bool false) <| sK <| sK <| sK <| tK (.bool false) <| tK (.bool false) <| WL.nil <| ?_
    try simp only [pS]
    go_wp2
    rw [HC.out]
    exact ⟨ret_bool (by simp only [msgR, bsq, q1, q2, q3, q4, q5, q6, q7, q8, q9, q10, q11, q12, q32, q33, q34]), HF.out.kept⟩
   refine cB (r_counted m _) q34 HF fun w32 HF => tK (.bool true) <| tK (.bool true) <| lP (Mg.cs m) HF 0 0 U45 S45 (Mg.cs m) rfl <| lP (Cg.cs c) HF 1 0 U24 S24 (Cg.cs c) rfl <| ?_
   try simp only [pS]
   cases q35 : (ansR c.bl c.rm m bs es ls)
   ·skip
    refine cB (r_answers m bs es ls c _ HB (HRB.out.no HF.out.kept) (HRE.out.no HF.out.kept) (HRL.out.no HF.out.kept) hnb hne hnl) q35 HF fun w33 HF => tK (.bool false) <| tK (.bool false) <| WL.nil <| ?_
    try simp only [pS]
    go_wp2
    rw [HC.out]
    exact ⟨ret_bool (by simp only [msgR, bsq, q1, q2, q3, q4, q5, q6, q7, q8, q9, q10, q11, q12, q32, q33, q34, q35]), HF.out.kept⟩
   refine cB (r_answers m bs es ls c _ HB (HRB.out.no HF.out.kept) (HRE.out.no HF.out.kept) (HRL.out.no HF.out.kept) hnb hne hnl) q35 HF fun w34 HF => tK (.bool true) <| tK (.bool true) <| WL.nil <| ?_
   try simp only [pS]
   go_wp2
   rw [HC.out]
   exact ⟨ret_bool (by simp only [msgR, bsq, q1, q2, q3, q4, q5, q6, q7, q8, q9, q10, q11, q12, q32, q33, q34, q35]), HF.out.kept⟩
  refine bN (eI q12) <| tK (.bool false) <| WL.nil <| ?_
  try simp only [pS]
  go_upto_region 16 with fail
  refine WL.start <| ?_
  cases q13 : (m.k == 17)
  rotate_left
  ·skip
   refine bN (eI q13) <| tK (.bool true) <| WL.nil <| ?_
   try simp only [pS]
   go_upto_region 17 with fail
   refine WL.start <| tK (pg g1 1) <| lP (Ad.cs m.fr) HF 0 1 U30 S30 (Mg.cs m) rfl <| lP (Cg.cs c) HF 1 0 U24 S24 (Cg.cs c) rfl <| ?_
   try simp only [pS]
   cases q28 : (srvB zs m.fr)
   ·skip
    refine cB (r_server m.fr c zs _ (HZ.out.no HF.out.kept) hnz) q28 HF fun w19 HF => tK (.bool false) <| sK <| sK <| sK <| tK (.bool false) <| tK (.bool false) <| sK <| sK <| tK (.bool false) <| tK (.bool false) <| sK <| sK <| sK <| tK (.bool false) <| tK (.bool false) <| WL.nil <| ?_
    try simp only [pS]
    go_wp2
    rw [HC.out]
    exact ⟨ret_bool (by simp only [msgR, bsq, q1, q2, q3, q4, q5, q6, q7, q8, q9, q10, q11, q12, q13, q28]), HF.out.kept⟩
   refine cB (r_server m.fr c zs _ (HZ.out.no HF.out.kept) hnz) q28 HF fun w20 HF => tK (.bool true) <| tK (pg g1 3) <| lP (Ad.cs m.too) HF 0 3 U30 S30 (Mg.cs m) rfl <| ?_
   try simp only [pS]
   cases q29 : (cliB m.too)
   ·skip
    refine cB (r_client m.too _) q29 HF fun w21 HF => tK (.bool false) <| tK (.bool false) <| sK <| sK <| tK (.bool false) <| tK (.bool false) <| sK <| sK <| sK <| tK (.bool false) <| tK (.bool false) <| WL.nil <| ?_
    try simp only [pS]
    go_wp2
    rw [HC.out]
    exact ⟨ret_bool (by simp only [msgR, bsq, q1, q2, q3, q4, q5, q6, q7, q8, q9, q10, q11, q12, q13, q28, q29]), HF.out.kept⟩
   refine cB (r_client m.too _) q29 HF fun w22 HF => tK (.bool true) <| tK (.bool true) <| lP (Mg.cs m) HF 0 0 U45 S45 (Mg.cs m) rfl <| ?_
   try simp only [pS]
   cases q30 : (cntB m)
   ·skip
    refine cB (r_counted m _) q30 HF fun w23 HF => tK (.bool false) <| tK (.bool false) <| sK <| sK <| sK <| tK (.bool false) <| tK (.bool false) <| WL.nil <| ?_
    try simp only [pS]
    go_wp2
    rw [HC.out]
    exact ⟨ret_bool (by simp only [msgR, bsq, q1, q2, q3, q4, q5, q6, q7, q8, q9, q10, q11, q12, q13, q28, q29, q30]), HF.out.kept⟩
   refine cB (r_counted m _) q30 HF fun w24 HF => tK (.bool true) <| tK (.bool true) <| lP (Mg.cs m) HF 0 0 U45 S45 (Mg.cs m) rfl <| lP (Cg.cs c) HF 1 0 U24 S24 (Cg.cs c) rfl <| ?_
   try simp only [pS]
   cases q31 : (ansR c.bl c.rm m bs es ls)
   ·skip
    refine cB (r_answers m bs es ls c _ HB (HRB.out.no HF.out.kept) (HRE.out.no HF.out.kept) (HRL.out.no HF.out.kept) hnb hne hnl) q31 HF fun w25 HF => tK (.bool false) <| tK (.bool false) <| WL.nil <| ?_
    try simp only [pS]
    go_wp2
    rw [HC.out]
    exact ⟨ret_bool (by simp only [msgR, bsq, q1, q2, q3, q4, q5, q6, q7, q8, q9, q10, q11, q12, q13, q28, q29, q30, q31]), HF.out.kept⟩
   refine cB (r_answers m bs es ls c _ HB (HRB.out.no HF.out.kept) (HRE.out.no HF.out.kept) (HRL.out.no HF.out.kept) hnb hne hnl) q31 HF fun w26 HF => tK (.bool true) <| tK (.bool true) <| WL.nil <| ?_
   try simp only [pS]
   go_wp2
   rw [HC.out]
   exact ⟨ret_bool (by simp only [msgR, bsq, q1, q2, q3, q4, q5, q6, q7, q8, q9, q10, q11, q12, q13, q28, q29, q30, q31]), HF.out.kept⟩
  refine bN (eI q13) <| tK (.bool false) <| WL.nil <| ?_
  try simp only [pS]
  go_upto_region 18 with fail
  refine WL.start <| ?_
  cases q14 : (m.k == 21)
  rotate_left
  ·skip
   refine bN (eI q14) <| tK (.bool true) <| WL.nil <| ?_
   try simp only [pS]
   go_upto_region 20 with fail
   refine WL.start <| tK (pg g1 1) <| lP (Ad.cs m.fr) HF 0 1 U30 S30 (Mg.cs m) rfl <| lP (Cg.cs c) HF 1 0 U24 S24 (Cg.cs c) rfl <| ?_
   try simp only [pS]
   cases q22 : (srvB zs m.fr)
   ·skip
    refine cB (r_server m.fr c zs _ (HZ.out.no HF.out.kept) hnz) q22 HF fun w13 HF => tK (.bool false) <| sK <| sK <| sK <| sK <| tK (.bool false) <| tK (.bool false) <| sK <| sK <| sK <| sK <| sK <| tK (.bool false) <| tK (.bool false) <| sK <| ?_
    try simp only [pS]
    refine sK <| sK <| tK (.bool false) <| tK (.bool false) <| sK <| sK <| sK <| tK (.bool false) <| tK (.bool false) <| sK <| sK <| sK <| tK (.bool false) <| tK (.bool false) <| WL.nil <| ?_
    try simp only [pS]
    go_wp2
    rw [HC.out]
    exact ⟨ret_bool (by simp only [msgR, bsq, q1, q2, q3, q4, q5, q6, q7, q8, q9, q10, q11, q12, q13, q14, q22]), HF.out.kept⟩
   refine cB (r_server m.fr c zs _ (HZ.out.no HF.out.kept) hnz) q22 HF fun w14 HF => tK (.bool true) <| tK (pg g1 3) <| lP (Ad.cs m.too) HF 0 3 U30 S30 (Mg.cs m) rfl <| lP (Cg.cs c) HF 1 0 U24 S24 (Cg.cs c) rfl <| ?_
   try simp only [pS]
   cases q23 : (srvB zs m.too)
   ·skip
    refine cB (r_server m.too c zs _ (HZ.out.no HF.out.kept) hnz) q23 HF fun w15 HF => tK (.bool false) <| tK (.bool false) <| sK <| sK <| sK <| sK <| sK <| tK (.bool false) <| tK (.bool false) <| sK <| sK <| sK <| tK (.bool false) <| tK (.bool false) <| sK <| ?_
    try simp only [pS]
    refine sK <| sK <| tK (.bool false) <| tK (.bool false) <| sK <| sK <| sK <| tK (.bool false) <| tK (.bool false) <| WL.nil <| ?_
    try simp only [pS]
    go_wp2
    rw [HC.out]
    exact ⟨ret_bool (by simp only [msgR, bsq, q1, q2, q3, q4, q5, q6, q7, q8, q9, q10, q11, q12, q13, q14, q22, q23]), HF.out.kept⟩
   refine cB (r_server m.too c zs _ (HZ.out.no HF.out.kept) hnz) q23 HF fun w16 HF => tK (.bool true) <| tK (.bool true) <| tK (pg g1 1) <| lP (Ad.cs m.fr) HF 0 1 U30 S30 (Mg.cs m) rfl <| tK (pg g1 3) <| lP (Ad.cs m.too) HF 0 3 U30 S30 (Mg.cs m) rfl <| ?_
   try simp only [pS]
   cases q24 : (eqA m.fr m.too)
   rotate_left
   ·skip
    refine bN (qn1A q24) <| tK (.bool false) <| tK (.bool false) <| sK <| sK <| sK <| tK (.bool false) <| tK (.bool false) <| sK <| sK <| sK <| tK (.bool false) <| tK (.bool false) <| sK <| sK <| sK <| tK (.bool false) <| tK (.bool false) <| WL.nil <| ?_
    try simp only [pS]
    go_wp2
    rw [HC.out]
    exact ⟨ret_bool (by simp only [msgR, bsq, q1, q2, q3, q4, q5, q6, q7, q8, q9, q10, q11, q12, q13, q14, q22, q23, q24]), HF.out.kept⟩
   refine bN (qn0A q24) <| tK (.bool true) <| tK (.bool true) <| tK (pg g1 5) <| lD (.int .i64 m.op) HF 0 5 U3 rfl <| ?_
   try simp only [pS]
   cases q25 : (m.op == 0)
   ·skip
    refine bN (eI q25) <| tK (.bool false) <| tK (.bool false) <| sK <| sK <| sK <| tK (.bool false) <| tK (.bool false) <| sK <| sK <| sK <| tK (.bool false) <| tK (.bool false) <| WL.nil <| ?_
    try simp only [pS]
    go_wp2
    rw [HC.out]
    exact ⟨ret_bool (by simp only [msgR, bsq, q1, q2, q3, q4, q5, q6, q7, q8, q9, q10, q11, q12, q13, q14, q22, q23, q24, q25]), HF.out.kept⟩
   refine bN (eI q25) <| tK (.bool true) <| tK (.bool true) <| tK (pg g1 6) <| lD (.int .i64 m.rd) HF 0 6 U3 rfl <| ?_
   try simp only [pS]
   cases q26 : (m.rd == 0)
   ·skip
    refine bN (eI q26) <| tK (.bool false) <| tK (.bool false) <| sK <| sK <| sK <| tK (.bool false) <| tK (.bool false) <| WL.nil <| ?_
    try simp only [pS]
    go_wp2
    rw [HC.out]
    exact ⟨ret_bool (by simp only [msgR, bsq, q1, q2, q3, q4, q5, q6, q7, q8, q9, q10, q11, q12, q13, q14, q22, q23, q24, q25, q26]), HF.out.kept⟩
   refine bN (eI q26) <| tK (.bool true) <| tK (.bool true) <| lP (Mg.cs m) HF 0 0 U45 S45 (Mg.cs m) rfl <| lP (Cg.cs c) HF 1 0 U24 S24 (Cg.cs c) rfl <| ?_
   try simp only [pS]
   cases q27 : (btwR c.bl c.rm m bs es ls cs)
   ·skip
    refine cB (r_between m bs es ls cs c _ HB (HRB.out.no HF.out.kept) (HRE.out.no HF.out.kept) (HRL.out.no HF.out.kept) (HRC.out.no HF.out.kept) hnb hne hnl hnc) q27 HF fun w17 HF => tK (.bool false) <| tK (.bool false) <| WL.nil <| ?_
    try simp only [pS]
    go_wp2
    rw [HC.out]
    exact ⟨ret_bool (by simp only [msgR, bsq, q1, q2, q3, q4, q5, q6, q7, q8, q9, q10, q11, q12, q13, q14, q22, q23, q24, q25, q26, q27]), HF.out.kept⟩
   refine cB (r_between m bs es ls cs c _ HB (HRB.out.no HF.out.kept) (HRE.out.no HF.out.kept) (HRL.out.no HF.out.kept) (HRC.out.no HF.out.kept) hnb hne hnl hnc) q27 HF fun w18 HF => tK (.bool true) <| tK (.bool true) <| WL.nil <| ?_
   try simp only [pS]
   go_wp2
   rw [HC.out]
   exact ⟨ret_bool (by simp only [msgR, bsq, q1, q2, q3, q4, q5, q6, q7, q8, q9, q10, q11, q12, q13, q14, q22, q23, q24, q25, q26, q27]), HF.out.kept⟩
  refine bN (eI q14) <| tK (.bool false) <| WL.nil <| ?_
  try simp only [pS]
  go_upto_region 19 with fail
  refine WL.start <| ?_
  cases q15 : (m.k == 22)
  ·skip
   refine bN (eI q15) <| tK (.bool false) <| WL.nil <| ?_
   try simp only [pS]
   go_upto_region 21 with fail
   refine WL.start <| tK (.bool false) <| WL.nil <| ?_
   try simp only [pS]
   go_wp2
   rw [HC.out]
   exact ⟨ret_bool (by simp only [msgR, bsq, q1, q2, q3, q4, q5, q6, q7, q8, q9, q10, q11, q12, q13, q14, q15]), HF.out.kept⟩
  refine bN (eI q15) <| tK (.bool true) <| WL.nil <| ?_
  try simp only [pS]
  go_upto_region 20 with fail
  refine WL.start <| tK (pg g1 1) <| lP (Ad.cs m.fr) HF 0 1 U30 S30 (Mg.cs m) rfl <| lP (Cg.cs c) HF 1 0 U24 S24 (Cg.cs c) rfl <| ?_
  try simp only [pS]
  cases q16 : (srvB zs m.fr)
  ·skip
   refine cB (r_server m.fr c zs _ (HZ.out.no HF.out.kept) hnz) q16 HF fun w7 HF => tK (.bool false) <| sK <| sK <| sK <| sK <| tK (.bool false) <| tK (.bool false) <| sK <| sK <| sK <| sK <| sK <| tK (.bool false) <| tK (.bool false) <| sK <| ?_
   try simp only [pS]
   refine sK <| sK <| tK (.bool false) <| tK (.bool false) <| sK <| sK <| sK <| tK (.bool false) <| tK (.bool false) <| sK <| sK <| sK <| tK (.bool false) <| tK (.bool false) <| WL.nil <| ?_
   try simp only [pS]
   go_wp2
   rw [HC.out]
   exact ⟨ret_bool (by simp only [msgR, bsq, q1, q2, q3, q4, q5, q6, q7, q8, q9, q10, q11, q12, q13, q14, q15, q16]), HF.out.kept⟩
  refine cB (r_server m.fr c zs _ (HZ.out.no HF.out.kept) hnz) q16 HF fun w8 HF => tK (.bool true) <| tK (pg g1 3) <| lP (Ad.cs m.too) HF 0 3 U30 S30 (Mg.cs m) rfl <| lP (Cg.cs c) HF 1 0 U24 S24 (Cg.cs c) rfl <| ?_
  try simp only [pS]
  cases q17 : (srvB zs m.too)
  ·skip
   refine cB (r_server m.too c zs _ (HZ.out.no HF.out.kept) hnz) q17 HF fun w9 HF => tK (.bool false) <| tK (.bool false) <| sK <| sK <| sK <| sK <| sK <| tK (.bool false) <| tK (.bool false) <| sK <| sK <| sK <| tK (.bool false) <| tK (.bool false) <| sK <| ?_
   try simp only [pS]
   refine sK <| sK <| tK (.bool false) <| tK (.bool false) <| sK <| sK <| sK <| tK (.bool false) <| tK (.bool false) <| WL.nil <| ?_
   try simp only [pS]
   go_wp2
   rw [HC.out]
   exact ⟨ret_bool (by simp only [msgR, bsq, q1, q2, q3, q4, q5, q6, q7, q8, q9, q10, q11, q12, q13, q14, q15, q16, q17]), HF.out.kept⟩
  refine cB (r_server m.too c zs _ (HZ.out.no HF.out.kept) hnz) q17 HF fun w10 HF => tK (.bool true) <| tK (.bool true) <| tK (pg g1 1) <| lP (Ad.cs m.fr) HF 0 1 U30 S30 (Mg.cs m) rfl <| tK (pg g1 3) <| lP (Ad.cs m.too) HF 0 3 U30 S30 (Mg.cs m) rfl <| ?_
  try simp only [pS]
  cases q18 : (eqA m.fr m.too)
  rotate_left
  ·skip
   refine bN (qn1A q18) <| tK (.bool false) <| tK (.bool false) <| sK <| sK <| sK <| tK (.bool false) <| tK (.bool false) <| sK <| sK <| sK <| tK (.bool false) <| tK (.bool false) <| sK <| sK <| sK <| tK (.bool false) <| tK (.bool false) <| WL.nil <| ?_
   try simp only [pS]
   go_wp2
   rw [HC.out]
   exact ⟨ret_bool (by simp only [msgR, bsq, q1, q2, q3, q4, q5, q6, q7, q8, q9, q10, q11, q12, q13, q14, q15, q16, q17, q18]), HF.out.kept⟩
  refine bN (qn0A q18) <| tK (.bool true) <| tK (.bool true) <| tK (pg g1 5) <| lD (.int .i64 m.op) HF 0 5 U3 rfl <| ?_
  try simp only [pS]
  cases q19 : (m.op == 0)
  ·skip
   refine bN (eI q19) <| tK (.bool false) <| tK (.bool false) <| sK <| sK <| sK <| tK (.bool false) <| tK (.bool false) <| sK <| sK <| sK <| tK (.bool false) <| tK (.bool false) <| WL.nil <| ?_
   try simp only [pS]
   go_wp2
   rw [HC.out]
   exact ⟨ret_bool (by simp only [msgR, bsq, q1, q2, q3, q4, q5, q6, q7, q8, q9, q10, q11, q12, q13, q14, q15, q16, q17, q18, q19]), HF.out.kept⟩
  refine bN (eI q19) <| tK (.bool true) <| tK (.bool true) <| tK (pg g1 6) <| lD (.int .i64 m.rd) HF 0 6 U3 rfl <| ?_
  try simp only [pS]
  cases q20 : (m.rd == 0)
  ·skip
   refine bN (eI q20) <| tK (.bool false) <| tK (.bool false) <| sK <| sK <| sK <| tK (.bool false) <| tK (.bool false) <| WL.nil <| ?_
   try simp only [pS]
   go_wp2
   rw [HC.out]
   exact ⟨ret_bool (by simp only [msgR, bsq, q1, q2, q3, q4, q5, q6, q7, q8, q9, q10, q11, q12, q13, q14, q15, q16, q17, q18, q19, q20]), HF.out.kept⟩
  refine bN (eI q20) <| tK (.bool true) <| tK (.bool true) <| lP (Mg.cs m) HF 0 0 U45 S45 (Mg.cs m) rfl <| lP (Cg.cs c) HF 1 0 U24 S24 (Cg.cs c) rfl <| ?_
  try simp only [pS]
  cases q21 : (btwR c.bl c.rm m bs es ls cs)
  ·skip
   refine cB (r_between m bs es ls cs c _ HB (HRB.out.no HF.out.kept) (HRE.out.no HF.out.kept) (HRL.out.no HF.out.kept) (HRC.out.no HF.out.kept) hnb hne hnl hnc) q21 HF fun w11 HF => tK (.bool false) <| tK (.bool false) <| WL.nil <| ?_
   try simp only [pS]
   go_wp2
   rw [HC.out]
   exact ⟨ret_bool (by simp only [msgR, bsq, q1, q2, q3, q4, q5, q6, q7, q8, q9, q10, q11, q12, q13, q14, q15, q16, q17, q18, q19, q20, q21]), HF.out.kept⟩
  refine cB (r_between m bs es ls cs c _ HB (HRB.out.no HF.out.kept) (HRE.out.no HF.out.kept) (HRL.out.no HF.out.kept) (HRC.out.no HF.out.kept) hnb hne hnl hnc) q21 HF fun w12 HF => tK (.bool true) <| tK (.bool true) <| WL.nil <| ?_
  try simp only [pS]
  go_wp2
  rw [HC.out]
  exact ⟨ret_bool (by simp only [msgR, bsq, q1, q2, q3, q4, q5, q6, q7, q8, q9, q10, q11, q12, q13, q14, q15, q16, q17, q18, q19, q20, q21]), HF.out.kept⟩
end Go.Proofs.YtgdnofacgfjaeaaGreat.Md
