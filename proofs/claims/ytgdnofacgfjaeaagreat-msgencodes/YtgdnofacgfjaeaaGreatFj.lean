import Derived.Test.YtgdnofacgfjaeaaGreatFi
namespace Go.Proofs.YtgdnofacgfjaeaaGreat.Md
set_option maxRecDepth 100000
set_option maxHeartbeats 4000000
open Go.RowKit
set_option linter.unusedVariables false
set_option linter.unusedSimpArgs false
theorem p_rightEnds (m : Mg) (c : Cg) (zs : List Int) (w : World) (hz : RdI w c.sv zs) (hnz : c.sv.l ≤ 281474976710656) : Calls Tryz.prog 86 #[.agg (Mg.cells m), .agg (Cg.cells c)] w (fun e w' => e = .returned (.bool (endsP zs m)) ∧ Kept No w w') := by
  refine hidC fun C HC => ?_
  have HZ : Hid (RdI w c.sv zs) := hz
  clear hz
  have HF : Hid (Fq No w w []) := Fq.start _ _
  go_enter Tryz.func86, Tryz.ntmps86
  go_upto_region 0 with fail
  refine WL.start <| xB (Mg.cells m) HF fun g1 w2 HF => xB (Cg.cells c) HF fun g3 w4 HF => tK (.bool false) <| WL.nil <| ?_
  try simp only [pS]
  go_upto_region 1 with fail
  refine WL.start <| tK (pg g1 0) <| lD (.int .i64 m.k) HF 0 0 U3 rfl <| WL.nil <| ?_
  try simp only [pS]
  go_upto_region 2 with fail
  refine WL.start <| ?_
  cases q1 : (m.k == 1)
  rotate_left
  ·skip
   refine bN (eI q1) <| tK (.bool true) <| WL.nil <| ?_
   try simp only [pS]
   go_upto_region 7 with fail
   refine WL.start <| tK (pg g1 1) <| lP (Ad.cs m.fr) HF 0 1 U30 S30 (Mg.cs m) rfl <| ?_
   try simp only [pS]
   cases q69 : (cliB m.fr)
   ·skip
    refine cB (p_isClient m.fr _) q69 HF fun w101 HF => tK (.bool false) <| sK <| sK <| sK <| sK <| tK (.bool false) <| tK (.bool false) <| sK <| sK <| sK <| tK (.bool false) <| tK (.bool false) <| sK <| sK <| sK <| tK (.bool false) <| tK (.bool false) <| WL.nil <| ?_
    try simp only [pS]
    go_wp2
    rw [HC.out]
    exact ⟨ret_bool (by simp only [endsP, bsq, q1, q69]), HF.out.kept⟩
   refine cB (p_isClient m.fr _) q69 HF fun w102 HF => tK (.bool true) <| tK (pg g1 3) <| lP (Ad.cs m.too) HF 0 3 U30 S30 (Mg.cs m) rfl <| lP (Cg.cs c) HF 1 0 U24 S24 (Cg.cs c) rfl <| ?_
   try simp only [pS]
   cases q70 : (srvB zs m.too)
   ·skip
    refine cB (p_isServer m.too c zs _ (HZ.out.no HF.out.kept) hnz) q70 HF fun w103 HF => tK (.bool false) <| tK (.bool false) <| sK <| sK <| sK <| tK (.bool false) <| tK (.bool false) <| sK <| sK <| sK <| tK (.bool false) <| tK (.bool false) <| WL.nil <| ?_
    try simp only [pS]
    go_wp2
    rw [HC.out]
    exact ⟨ret_bool (by simp only [endsP, bsq, q1, q69, q70]), HF.out.kept⟩
   refine cB (p_isServer m.too c zs _ (HZ.out.no HF.out.kept) hnz) q70 HF fun w104 HF => tK (.bool true) <| tK (.bool true) <| tK (pg g1 5) <| lD (.int .i64 m.op) HF 0 5 U3 rfl <| ?_
   try simp only [pS]
   cases q71 : (wn m.op 1 1099511627776)
   ·skip
    refine cB (p_rightNum m.op _) q71 HF fun w105 HF => tK (.bool false) <| tK (.bool false) <| sK <| sK <| sK <| tK (.bool false) <| tK (.bool false) <| WL.nil <| ?_
    try simp only [pS]
    go_wp2
    rw [HC.out]
    exact ⟨ret_bool (by simp only [endsP, bsq, q1, q69, q70, q71]), HF.out.kept⟩
   refine cB (p_rightNum m.op _) q71 HF fun w106 HF => tK (.bool true) <| tK (.bool true) <| tK (pg g1 6) <| lD (.int .i64 m.rd) HF 0 6 U3 rfl <| ?_
   try simp only [pS]
   cases q72 : (wn m.rd 1 1099511627776)
   ·skip
    refine cB (p_rightNum m.rd _) q72 HF fun w107 HF => tK (.bool false) <| tK (.bool false) <| WL.nil <| ?_
    try simp only [pS]
    go_wp2
    rw [HC.out]
    exact ⟨ret_bool (by simp only [endsP, bsq, q1, q69, q70, q71, q72]), HF.out.kept⟩
   refine cB (p_rightNum m.rd _) q72 HF fun w108 HF => tK (.bool true) <| tK (.bool true) <| WL.nil <| ?_
   try simp only [pS]
   go_wp2
   rw [HC.out]
   exact ⟨ret_bool (by simp only [endsP, bsq, q1, q69, q70, q71, q72]), HF.out.kept⟩
  refine bN (eI q1) <| tK (.bool false) <| WL.nil <| ?_
  try simp only [pS]
  go_upto_region 3 with fail
  refine WL.start <| ?_
  cases q2 : (m.k == 2)
  rotate_left
  ·skip
   refine bN (eI q2) <| tK (.bool true) <| WL.nil <| ?_
   try simp only [pS]
   go_upto_region 7 with fail
   refine WL.start <| tK (pg g1 1) <| lP (Ad.cs m.fr) HF 0 1 U30 S30 (Mg.cs m) rfl <| ?_
   try simp only [pS]
   cases q65 : (cliB m.fr)
   ·skip
    refine cB (p_isClient m.fr _) q65 HF fun w93 HF => tK (.bool false) <| sK <| sK <| sK <| sK <| tK (.bool false) <| tK (.bool false) <| sK <| sK <| sK <| tK (.bool false) <| tK (.bool false) <| sK <| sK <| sK <| tK (.bool false) <| tK (.bool false) <| WL.nil <| ?_
    try simp only [pS]
    go_wp2
    rw [HC.out]
    exact ⟨ret_bool (by simp only [endsP, bsq, q1, q2, q65]), HF.out.kept⟩
   refine cB (p_isClient m.fr _) q65 HF fun w94 HF => tK (.bool true) <| tK (pg g1 3) <| lP (Ad.cs m.too) HF 0 3 U30 S30 (Mg.cs m) rfl <| lP (Cg.cs c) HF 1 0 U24 S24 (Cg.cs c) rfl <| ?_
   try simp only [pS]
   cases q66 : (srvB zs m.too)
   ·skip
    refine cB (p_isServer m.too c zs _ (HZ.out.no HF.out.kept) hnz) q66 HF fun w95 HF => tK (.bool false) <| tK (.bool false) <| sK <| sK <| sK <| tK (.bool false) <| tK (.bool false) <| sK <| sK <| sK <| tK (.bool false) <| tK (.bool false) <| WL.nil <| ?_
    try simp only [pS]
    go_wp2
    rw [HC.out]
    exact ⟨ret_bool (by simp only [endsP, bsq, q1, q2, q65, q66]), HF.out.kept⟩
   refine cB (p_isServer m.too c zs _ (HZ.out.no HF.out.kept) hnz) q66 HF fun w96 HF => tK (.bool true) <| tK (.bool true) <| tK (pg g1 5) <| lD (.int .i64 m.op) HF 0 5 U3 rfl <| ?_
   try simp only [pS]
   cases q67 : (wn m.op 1 1099511627776)
   ·skip
    refine cB (p_rightNum m.op _) q67 HF fun w97 HF => tK (.bool false) <| tK (.bool false) <| sK <| sK <| sK <| tK (.bool false) <| tK (.bool false) <| WL.nil <| ?_
    try simp only [pS]
    go_wp2
    rw [HC.out]
    exact ⟨ret_bool (by simp only [endsP, bsq, q1, q2, q65, q66, q67]), HF.out.kept⟩
   refine cB (p_rightNum m.op _) q67 HF fun w98 HF => tK (.bool true) <| tK (.bool true) <| tK (pg g1 6) <| lD (.int .i64 m.rd) HF 0 6 U3 rfl <| ?_
   try simp only [pS]
   cases q68 : (wn m.rd 1 1099511627776)
   ·skip
    refine cB (p_rightNum m.rd _) q68 HF fun w99 HF => tK (.bool false) <| tK (.bool false) <| WL.nil <| ?_
    try simp only [pS]
    go_wp2
    rw [HC.out]
    exact ⟨ret_bool (by simp only [endsP, bsq, q1, q2, q65, q66, q67, q68]), HF.out.kept⟩
   refine cB (p_rightNum m.rd _) q68 HF fun w100 HF => tK (.bool true) <| tK (.bool true) <| WL.nil <| ?_
   try simp only [pS]
   go_wp2
   rw [HC.out]
   exact ⟨ret_bool (by simp only [endsP, bsq, q1, q2, q65, q66, q67, q68]), HF.out.kept⟩
  refine bN (eI q2) <| tK (.bool false) <| WL.nil <| ?_
  try simp only [pS]
  go_upto_region 4 with fail
  refine WL.start <| ?_
  cases q3 : (m.k == 3)
  rotate_left
  ·skip
   refine bN (eI q3) <| tK (.bool true) <| WL.nil <| ?_
   try simp only [pS]
   go_upto_region 7 with fail
   refine WL.start <| tK (pg g1 1) <| lP (Ad.cs m.fr) HF 0 1 U30 S30 (Mg.cs m) rfl <| ?_
   try simp only [pS]
   cases q61 : (cliB m.fr)
   ·skip
    refine cB (p_isClient m.fr _) q61 HF fun w85 HF => tK (.bool false) <| sK <| sK <| sK <| sK <| tK (.bool false) <| tK (.bool false) <| sK <| sK <| sK <| tK (.bool false) <| tK (.bool false) <| sK <| sK <| sK <| tK (.bool false) <| tK (.bool false) <| WL.nil <| ?_
    try simp only [pS]
    go_wp2
    rw [HC.out]
    exact ⟨ret_bool (by simp only [endsP, bsq, q1, q2, q3, q61]), HF.out.kept⟩
   refine cB (p_isClient m.fr _) q61 HF fun w86 HF => tK (.bool true) <| tK (pg g1 3) <| lP (Ad.cs m.too) HF 0 3 U30 S30 (Mg.cs m) rfl <| lP (Cg.cs c) HF 1 0 U24 S24 (Cg.cs c) rfl <| ?_
   try simp only [pS]
   cases q62 : (srvB zs m.too)
   ·skip
    refine cB (p_isServer m.too c zs _ (HZ.out.no HF.out.kept) hnz) q62 HF fun w87 HF => tK (.bool false) <| tK (.bool false) <| sK <| sK <| sK <| tK (.bool false) <| tK (.bool false) <| sK <| sK <| sK <| tK (.bool false) <| tK (.bool false) <| WL.nil <| ?_
    try simp only [pS]
    go_wp2
    rw [HC.out]
    exact ⟨ret_bool (by simp only [endsP, bsq, q1, q2, q3, q61, q62]), HF.out.kept⟩
   refine cB (p_isServer m.too c zs _ (HZ.out.no HF.out.kept) hnz) q62 HF fun w88 HF => tK (.bool true) <| tK (.bool true) <| tK (pg g1 5) <| lD (.int .i64 m.op) HF 0 5 U3 rfl <| ?_
   try simp only [pS]
   cases q63 : (wn m.op 1 1099511627776)
   ·skip
    refine cB (p_rightNum m.op _) q63 HF fun w89 HF => tK (.bool false) <| tK (.bool false) <| sK <| sK <| sK <| tK (.bool false) <| tK (.bool false) <| WL.nil <| ?_
    try simp only [pS]
    go_wp2
    rw [HC.out]
    exact ⟨ret_bool (by simp only [endsP, bsq, q1, q2, q3, q61, q62, q63]), HF.out.kept⟩
   refine cB (p_rightNum m.op _) q63 HF fun w90 HF => tK (.bool true) <| tK (.bool true) <| tK (pg g1 6) <| lD (.int .i64 m.rd) HF 0 6 U3 rfl <| ?_
   try simp only [pS]
   cases q64 : (wn m.rd 1 1099511627776)
   ·skip
    refine cB (p_rightNum m.rd _) q64 HF fun w91 HF => tK (.bool false) <| tK (.bool false) <| WL.nil <| ?_
    try simp only [pS]
    go_wp2
    rw [HC.out]
    exact ⟨ret_bool (by simp only [endsP, bsq, q1, q2, q3, q61, q62, q63, q64]), HF.out.kept⟩
   refine cB (p_rightNum m.rd _) q64 HF fun w92 HF => tK (.bool true) <| tK (.bool true) <| WL.nil <| ?_
   try simp only [pS]
   go_wp2
   rw [HC.out]
   exact ⟨ret_bool (by simp only [endsP, bsq, q1, q2, q3, q61, q62, q63, q64]), HF.out.kept⟩
  refine bN (eI q3) <| tK (.bool false) <| WL.nil <| ?_
  try simp only [pS]
  go_upto_region 5 with fail
  refine WL.start <| ?_
  cases q4 : (m.k == 4)
  rotate_left
  ·skip
   refine bN (eI q4) <| tK (.bool true) <| WL.nil <| ?_
   try simp only [pS]
   go_upto_region 7 with fail
   refine WL.start <| tK (pg g1 1) <| lP (Ad.cs m.fr) HF 0 1 U30 S30 (Mg.cs m) rfl <| ?_
   try simp only [pS]
   cases q57 : (cliB m.fr)
   ·skip
    refine cB (p_isClient m.fr _) q57 HF fun w77 HF => tK (.bool false) <| sK <| sK <| sK <| sK <| tK (.bool false) <| tK (.bool false) <| sK <| sK <| sK <| tK (.bool false) <| tK (.bool false) <| sK <| sK <| sK <| tK (.bool false) <| tK (.bool false) <| WL.nil <| ?_
    try simp only [pS]
    go_wp2
    rw [HC.out]
    exact ⟨ret_bool (by simp only [endsP, bsq, q1, q2, q3, q4, q57]), HF.out.kept⟩
   refine cB (p_isClient m.fr _) q57 HF fun w78 HF => tK (.bool true) <| tK (pg g1 3) <| lP (Ad.cs m.too) HF 0 3 U30 S30 (Mg.cs m) rfl <| lP (Cg.cs c) HF 1 0 U24 S24 (Cg.cs c) rfl <| ?_
   try simp only [pS]
   cases q58 : (srvB zs m.too)
   ·skip
    refine cB (p_isServer m.too c zs _ (HZ.out.no HF.out.kept) hnz) q58 HF fun w79 HF => tK (.bool false) <| tK (.bool false) <| sK <| sK <| sK <| tK (.bool false) <| tK (.bool false) <| sK <| sK <| sK <| tK (.bool false) <| tK (.bool false) <| WL.nil <| ?_
    try simp only [pS]
    go_wp2
    rw [HC.out]
    exact ⟨ret_bool (by simp only [endsP, bsq, q1, q2, q3, q4, q57, q58]), HF.out.kept⟩
   refine cB (p_isServer m.too c zs _ (HZ.out.no HF.out.kept) hnz) q58 HF fun w80 HF => tK (.bool true) <| tK (.bool true) <| tK (pg g1 5) <| lD (.int .i64 m.op) HF 0 5 U3 rfl <| ?_
   try simp only [pS]
   cases q59 : (wn m.op 1 1099511627776)
   ·skip
    refine cB (p_rightNum m.op _) q59 HF fun w81 HF => tK (.bool false) <| tK (.bool false) <| sK <| sK <| sK <| tK (.bool false) <| tK (.bool false) <| WL.nil <| ?_
    try simp only [pS]
    go_wp2
    rw [HC.out]
    exact ⟨ret_bool (by simp only [endsP, bsq, q1, q2, q3, q4, q57, q58, q59]), HF.out.kept⟩
   refine cB (p_rightNum m.op _) q59 HF fun w82 HF => tK (.bool true) <| tK (.bool true) <| tK (pg g1 6) <| lD (.int .i64 m.rd) HF 0 6 U3 rfl <| ?_
   try simp only [pS]
   cases q60 : (wn m.rd 1 1099511627776)
   ·skip
    refine cB (p_rightNum m.rd _) q60 HF fun w83 HF => tK (.bool false) <| tK (.bool false) <| WL.nil <| ?_
    try simp only [pS]
    go_wp2
    rw [HC.out]
    exact ⟨ret_bool (by simp only [endsP, bsq, q1, q2, q3, q4, q57, q58, q59, q60]), HF.out.kept⟩
   refine cB (p_rightNum m.rd _) q60 HF fun w84 HF => tK (.bool true) <| tK (.bool true) <| WL.nil <| ?_
   try simp only [pS]
   go_wp2
   rw [HC.out]
   exact ⟨ret_bool (by simp only [endsP, bsq, q1, q2, q3, q4, q57, q58, q59, q60]), HF.out.kept⟩
  refine bN (eI q4) <| tK (.bool false) <| WL.nil <| ?_
  try simp only [pS]
  go_upto_region 6 with fail
  refine WL.start <| ?_
  cases q5 : (m.k == 5)
  rotate_left
  ·skip
   refine bN (eI q5) <| tK (.bool true) <| WL.nil <| ?_
   try simp only [pS]
   go_upto_region 7 with fail
   refine WL.start <| tK (pg g1 1) <| lP (Ad.cs m.fr) HF 0 1 U30 S30 (Mg.cs m) rfl <| ?_
   try simp only [pS]
   cases q53 : (cliB m.fr)
   ·skip
    refine cB (p_isClient m.fr _) q53 HF fun w69 HF => tK (.bool false) <| sK <| sK <| sK <| sK <| tK (.bool false) <| tK (.bool false) <| sK <| sK <| sK <| tK (.bool false) <| tK (.bool false) <| sK <| sK <| sK <| tK (.bool false) <| tK (.bool false) <| WL.nil <| ?_
    try simp only [pS]
    go_wp2
    rw [HC.out]
    exact ⟨ret_bool (by simp only [endsP, bsq, q1, q2, q3, q4, q5, q53]), HF.out.kept⟩
   refine cB (p_isClient m.fr _) q53 HF fun w70 HF => tK (.bool true) <| tK (pg g1 3) <| lP (Ad.cs m.too) HF 0 3 U30 S30 (Mg.cs m) rfl <| lP (Cg.cs c) HF 1 0 U24 S24 (Cg.cs c) rfl <| ?_
   try simp only [pS]
   cases q54 : (srvB zs m.too)
   ·skip
    refine cB (p_isServer m.too c zs _ (HZ.out.no HF.out.kept) hnz) q54 HF fun w71 HF => tK (.bool false) <| tK (.bool false) <| sK <| sK <| sK <| tK (.bool false) <| tK (.bool false) <| sK <| sK <| sK <| tK (.bool false) <| tK (.bool false) <| WL.nil <| ?_
    try simp only [pS]
    go_wp2
    rw [HC.out]
    exact ⟨ret_bool (by simp only [endsP, bsq, q1, q2, q3, q4, q5, q53, q54]), HF.out.kept⟩
   refine cB (p_isServer m.too c zs _ (HZ.out.no HF.out.kept) hnz) q54 HF fun w72 HF => tK (.bool true) <| tK (.bool true) <| tK (pg g1 5) <| lD (.int .i64 m.op) HF 0 5 U3 rfl <| ?_
   try simp only [pS]
   cases q55 : (wn m.op 1 1099511627776)
   ·skip
    refine cB (p_rightNum m.op _) q55 HF fun w73 HF => tK (.bool false) <| tK (.bool false) <| sK <| sK <| sK <| tK (.bool false) <| tK (.bool false) <| WL.nil <| ?_
    try simp only [pS]
    go_wp2
    rw [HC.out]
    exact ⟨ret_bool (by simp only [endsP, bsq, q1, q2, q3, q4, q5, q53, q54, q55]), HF.out.kept⟩
   refine cB (p_rightNum m.op _) q55 HF fun w74 HF => tK (.bool true) <| tK (.bool true) <| tK (pg g1 6) <| lD (.int .i64 m.rd) HF 0 6 U3 rfl <| ?_
   try simp only [pS]
   cases q56 : (wn m.rd 1 1099511627776)
   ·skip
    refine cB (p_rightNum m.rd _) q56 HF fun w75 HF => tK (.bool false) <| tK (.bool false) <| WL.nil <| ?_
    try simp only [pS]
    go_wp2
    rw [HC.out]
    exact ⟨ret_bool (by simp only [endsP, bsq, q1, q2, q3, q4, q5, q53, q54, q55, q56]), HF.out.kept⟩
   refine cB (p_rightNum m.rd _) q56 HF fun w76 HF => tK (.bool true) <| tK (.bool true) <| WL.nil <| ?_
   try simp only [pS]
   go_wp2
   rw [HC.out]
   exact ⟨ret_bool (by simp only [endsP, bsq, q1, q2, q3, q4, q5, q53, q54, q55, q56]), HF.out.kept⟩
  refine bN (eI q5) <| tK (.bool false) <| WL.nil <| ?_
  try simp only [pS]
  go_upto_region 8 with fail
  refine WL.start <| ?_
  cases q6 : (m.k == 11)
  rotate_left
  ·skip
   refine bN (eI q6) <| tK (.bool true) <| WL.nil <| ?_
   try simp only [pS]
   go_upto_region 15 with fail
   refine WL.start <| tK (pg g1 1) <| lP (Ad.cs m.fr) HF 0 1 U30 S30 (Mg.cs m) rfl <| lP (Cg.cs c) HF 1 0 U24 S24 (Cg.cs c) rfl <| ?_
   try simp only [pS]
   cases q49 : (srvB zs m.fr)
   ·skip
    refine cB (p_isServer m.fr c zs _ (HZ.out.no HF.out.kept) hnz) q49 HF fun w61 HF => tK (.bool false) <| sK <| sK <| sK <| tK (.bool false) <| tK (.bool false) <| sK <| sK <| sK <| tK (.bool false) <| tK (.bool false) <| sK <| sK <| sK <| tK (.bool false) <| tK (.bool false) <| WL.nil <| ?_
    try simp only [pS]
    go_wp2
    rw [HC.out]
    exact ⟨ret_bool (by simp only [endsP, bsq, q1, q2, q3, q4, q5, q6, q49]), HF.out.kept⟩
   refine cB (p_isServer m.fr c zs _ (HZ.out.no HF.out.kept) hnz) q49 HF fun w62 HF => tK (.bool true) <| tK (pg g1 3) <| lP (Ad.cs m.too) HF 0 3 U30 S30 (Mg.cs m) rfl <| ?_
   try simp only [pS]
   cases q50 : (cliB m.too)
   ·skip
    refine cB (p_isClient m.too _) q50 HF fun w63 HF => tK (.bool false) <| tK (.bool false) <| sK <| sK <| sK <| tK (.bool false) <| tK (.bool false) <| sK <| sK <| sK <| tK (.bool false) <| tK (.bool false) <| WL.nil <| ?_
    try simp only [pS]
    go_wp2
    rw [HC.out]
    exact ⟨ret_bool (by simp only [endsP, bsq, q1, q2, q3, q4, q5, q6, q49, q50]), HF.out.kept⟩
   refine cB (p_isClient m.too _) q50 HF fun w64 HF => tK (.bool true) <| tK (.bool true) <| tK (pg g1 5) <| lD (.int .i64 m.op) HF 0 5 U3 rfl <| ?_
   try simp only [pS]
   cases q51 : (wn m.op 1 1099511627776)
   ·skip
    refine cB (p_rightNum m.op _) q51 HF fun w65 HF => tK (.bool false) <| tK (.bool false) <| sK <| sK <| sK <| tK (.bool false) <| tK (.bool false) <| WL.nil <| ?_
    try simp only [pS]
    go_wp2
    rw [HC.out]
    exact ⟨ret_bool (by simp only [endsP, bsq, q1, q2, q3, q4, q5, q6, q49, q50, q51]), HF.out.kept⟩
   refine cB (p_rightNum m.op _) q51 HF fun w66 HF => tK (.bool true) <| tK (.bool true) <| tK (pg g1 6) <| lD (.int .i64 m.rd) HF 0 6 U3 rfl <| ?_
   try simp only [pS]
   cases q52 : (wn m.rd 1 1099511627776)
   ·skip
    refine cB (p_rightNum m.rd _) q52 HF fun w67 HF => tK (.bool false) <| tK (.bool false) <| WL.nil <| ?_
    try simp only [pS]
    go_wp2
    rw [HC.out]
    exact ⟨ret_bool (by simp only [endsP, bsq, q1, q2, q3, q4, q5, q6, q49, q50, q51, q52]), HF.out.kept⟩
   refine cB (p_rightNum m.rd _) q52 HF fun w68 HF => tK (.bool true) <| tK (.bool true) <| WL.nil <| ?_
   try simp only [pS]
   go_wp2
   rw [HC.out]
   exact ⟨ret_bool (by simp only [endsP, bsq, q1, q2, q3, q4, q5, q6, q49, q50, q51, q52]), HF.out.kept⟩
  refine bN (eI q6) <| tK (.bool false) <| WL.nil <| ?_
  try simp only [pS]
  go_upto_region 9 with fail
  refine WL.start <| ?_
  cases q7 : (m.k == 12)
  rotate_left
  ·skip
   refine bN (eI q7) <| tK (.bool true) <| WL.nil <| ?_
   try simp only [pS]
   go_upto_region 15 with fail
   refine WL.start <| tK (pg g1 1) <| lP (Ad.cs m.fr) HF 0 1 U30 S30 (Mg.cs m) rfl <| lP (Cg.cs c) HF 1 0 U24 S24 (Cg.cs c) rfl <| ?_
   try simp only [pS]
   cases q45 : (srvB zs m.fr)
   ·skip
    refine cB (p_isServer m.fr c zs _ (HZ.out.no HF.out.kept) hnz) q45 HF fun w53 HF => tK (.bool false) <| sK <| sK <| sK <| tK (.bool false) <| tK (.bool false) <| sK <| sK <| sK <| tK (.bool false) <| tK (.bool false) <| sK <| sK <| sK <| tK (.bool false) <| tK (.bool false) <| WL.nil <| ?_
    try simp only [pS]
    go_wp2
    rw [HC.out]
    exact ⟨ret_bool (by simp only [endsP, bsq, q1, q2, q3, q4, q5, q6, q7, q45]), HF.out.kept⟩
   refine cB (p_isServer m.fr c zs _ (HZ.out.no HF.out.kept) hnz) q45 HF fun w54 HF => tK (.bool true) <| tK (pg g1 3) <| lP (Ad.cs m.too) HF 0 3 U30 S30 (Mg.cs m) rfl <| ?_
   try simp only [pS]
   cases q46 : (cliB m.too)
   ·skip
    refine cB (p_isClient m.too _) q46 HF fun w55 HF => tK (.bool false) <| tK (.bool false) <| sK <| sK <| sK <| tK (.bool false) <| tK (.bool false) <| sK <| sK <| sK <| tK (.bool false) <| tK (.bool false) <| WL.nil <| ?_
    try simp only [pS]
    go_wp2
    rw [HC.out]
    exact ⟨ret_bool (by simp only [endsP, bsq, q1, q2, q3, q4, q5, q6, q7, q45, q46]), HF.out.kept⟩
   refine cB (p_isClient m.too _) q46 HF fun w56 HF => tK (.bool true) <| tK (.bool true) <| tK (pg g1 5) <| lD (.int .i64 m.op) HF 0 5 U3 rfl <| ?_
   try simp only [pS]
   cases q47 : (wn m.op 1 1099511627776)
   ·skip
    refine cB (p_rightNum m.op _) q47 HF fun w57 HF => tK (.bool false) <| tK (.bool false) <| sK <| sK <| sK <| tK (.bool false) <| tK (.bool false) <| WL.nil <| ?_
    try simp only [pS]
    go_wp2
    rw [HC.out]
    exact ⟨ret_bool (by simp only [endsP, bsq, q1, q2, q3, q4, q5, q6, q7, q45, q46, q47]), HF.out.kept⟩
   refine cB (p_rightNum m.op _) q47 HF fun w58 HF => tK (.bool true) <| tK (.bool true) <| tK (pg g1 6) <| lD (.int .i64 m.rd) HF 0 6 U3 rfl <| ?_
   try simp only [pS]
   cases q48 : (wn m.rd 1 1099511627776)
   ·skip
    refine cB (p_rightNum m.rd _) q48 HF fun w59 HF => tK (.bool false) <| tK (.bool false) <| WL.nil <| ?_
    try simp only [pS]
    go_wp2
    rw [HC.out]
    exact ⟨ret_bool (by simp only [endsP, bsq, q1, q2, q3, q4, q5, q6, q7, q45, q46, q47, q48]), HF.out.kept⟩
   refine cB (p_rightNum m.rd _) q48 HF fun w60 HF => tK (.bool true) <| tK (.bool true) <| WL.nil <| ?_
   try simp only [pS]
   go_wp2
   rw [HC.out]
   exact ⟨ret_bool (by simp only [endsP, bsq, q1, q2, q3, q4, q5, q6, q7, q45, q46, q47, q48]), HF.out.kept⟩
  refine bN (eI q7) <| tK (.bool false) <| WL.nil <| ?_
  try simp only [pS]
  go_upto_region 10 with fail
  refine WL.start <| ?_
  cases q8 : (m.k == 13)
  rotate_left
  ·skip
   refine bN (eI q8) <| tK (.bool true) <| WL.nil <| ?_
   try simp only [pS]
   go_upto_region 15 with fail
   refine WL.start <| tK (pg g1 1) <| lP (Ad.cs m.fr) HF 0 1 U30 S30 (Mg.cs m) rfl <| lP (Cg.cs c) HF 1 0 U24 S24 (Cg.cs c) rfl <| ?_
   try simp only [pS]
   cases q41 : (srvB zs m.fr)
   ·skip
    refine cB (p_isServer m.fr c zs _ (HZ.out.no HF.out.kept) hnz) q41 HF fun w45 HF => tK (.bool false) <| sK <| sK <| sK <| tK (.bool false) <| tK (.bool false) <| sK <| sK <| sK <| tK (.bool false) <| tK (.bool false) <| sK <| sK <| sK <| tK (.bool false) <| tK (.bool false) <| WL.nil <| ?_
    try simp only [pS]
    go_wp2
    rw [HC.out]
    exact ⟨ret_bool (by simp only [endsP, bsq, q1, q2, q3, q4, q5, q6, q7, q8, q41]), HF.out.kept⟩
   refine cB (p_isServer m.fr c zs _ (HZ.out.no HF.out.kept) hnz) q41 HF fun w46 HF => tK (.bool true) <| tK (pg g1 3) <| lP (Ad.cs m.too) HF 0 3 U30 S30 (Mg.cs m) rfl <| ?_
   try simp only [pS]
   cases q42 : (cliB m.too)
   ·skip
    refine cB (p_isClient m.too _) q42 HF fun w47 HF => tK (.bool false) <| tK (.bool false) <| sK <| sK <| sK <| tK (.bool false) <| tK (.bool false) <| sK <| sK <| sK <| tK (.bool false) <| tK (.bool false) <| WL.nil <| ?_
    try simp only [pS]
    go_wp2
    rw [HC.out]
    exact ⟨ret_bool (by simp only [endsP, bsq, q1, q2, q3, q4, q5, q6, q7, q8, q41, q42]), HF.out.kept⟩
   refine cB (p_isClient m.too _) q42 HF fun w48 HF => tK (.bool true) <| tK (.bool true) <| tK (pg g1 5) <| lD (.int .i64 m.op) HF 0 5 U3 rfl <| ?_
   try simp only [pS]
   cases q43 : (wn m.op 1 1099511627776)
   ·skip
    refine cB (p_rightNum m.op _) q43 HF fun w49 HF => tK (.bool false) <| tK (.bool false) <| sK <| sK <| sK <| tK (.bool false) <| tK (.bool false) <| WL.nil <| ?_
    try simp only [pS]
    go_wp2
    rw [HC.out]
    exact ⟨ret_bool (by simp only [endsP, bsq, q1, q2, q3, q4, q5, q6, q7, q8, q41, q42, q43]), HF.out.kept⟩
   refine cB (p_rightNum m.op _) q43 HF fun w50 HF => tK (.bool true) <| tK (.bool true) <| tK (pg g1 6) <| lD (.int .i64 m.rd) HF 0 6 U3 rfl <| ?_
   try simp only [pS]
   cases q44 : (wn m.rd 1 1099511627776)
   ·skip
    refine cB (p_rightNum m.rd _) q44 HF fun w51 HF => tK (.bool false) <| tK (.bool false) <| WL.nil <| ?_
    try simp only [pS]
    go_wp2
    rw [HC.out]
    exact ⟨ret_bool (by simp only [endsP, bsq, q1, q2, q3, q4, q5, q6, q7, q8, q41, q42, q43, q44]), HF.out.kept⟩
   refine cB (p_rightNum m.rd _) q44 HF fun w52 HF => tK (.bool true) <| tK (.bool true) <| WL.nil <| ?_
   try simp only [pS]
   go_wp2
   rw [HC.out]
   exact ⟨ret_bool (by simp only [endsP, bsq, q1, q2, q3, q4, q5, q6, q7, q8, q41, q42, q43, q44]), HF.out.kept⟩
  refine bN (eI q8) <| tK (.bool false) <| WL.nil <| ?_
  try simp only [pS]
  go_upto_region 11 with fail
  refine WL.start <| ?_
  cases q9 : (m.k == 14)
  rotate_left
  ·skip
   refine bN (eI q9) <| tK (.bool true) <| WL.nil <| ?_
   try simp only [pS]
   go_upto_region 15 with fail
   refine WL.start <| tK (pg g1 1) <| lP (Ad.cs m.fr) HF 0 1 U30 S30 (Mg.cs m) rfl <| lP (Cg.cs c) HF 1 0 U24 S24 (Cg.cs c) rfl <| ?_
   try simp only [pS]
   cases q37 : (srvB zs m.fr)
   ·skip
    refine cB (p_isServer m.fr c zs _ (HZ.out.no HF.out.kept) hnz) q37 HF fun w37 HF => tK (.bool false) <| sK <| sK <| sK <| tK (.bool false) <| tK (.bool false) <| sK <| sK <| sK <| tK (.bool false) <| tK (.bool false) <| sK <| sK <| sK <| tK (.bool false) <| tK (.bool false) <| WL.nil <| ?_
    try simp only [pS]
    go_wp2
    rw [HC.out]
    exact ⟨ret_bool (by simp only [endsP, bsq, q1, q2, q3, q4, q5, q6, q7, q8, q9, q37]), HF.out.kept⟩
   refine cB (p_isServer m.fr c zs _ (HZ.out.no HF.out.kept) hnz) q37 HF fun w38 HF => tK (.bool true) <| tK (pg g1 3) <| lP (Ad.cs m.too) HF 0 3 U30 S30 (Mg.cs m) rfl <| ?_
   try simp only [pS]
   cases q38 : (cliB m.too)
   ·skip
    refine cB (p_isClient m.too _) q38 HF fun w39 HF => tK (.bool false) <| tK (.bool false) <| sK <| sK <| sK <| tK (.bool false) <| tK (.bool false) <| sK <| sK <| sK <| tK (.bool false) <| tK (.bool false) <| WL.nil <| ?_
    try simp only [pS]
    go_wp2
    rw [HC.out]
    exact ⟨ret_bool (by simp only [endsP, bsq, q1, q2, q3, q4, q5, q6, q7, q8, q9, q37, q38]), HF.out.kept⟩
   refine cB (p_isClient m.too _) q38 HF fun w40 HF => tK (.bool true) <| tK (.bool true) <| tK (pg g1 5) <| lD (.int .i64 m.op) HF 0 5 U3 rfl <| ?_
   try simp only [pS]
   cases q39 : (wn m.op 1 1099511627776)
   ·skip
    refine cB (p_rightNum m.op _) q39 HF fun w41 HF => tK (.bool false) <| tK (.bool false) <| sK <| sK <| sK <| tK (.bool false) <| tK (.bool false) <| WL.nil <| ?_
    try simp only [pS]
    go_wp2
    rw [HC.out]
    exact ⟨ret_bool (by simp only [endsP, bsq, q1, q2, q3, q4, q5, q6, q7, q8, q9, q37, q38, q39]), HF.out.kept⟩
   refine cB (p_rightNum m.op _) q39 HF fun w42 HF => tK (.bool true) <| tK (.bool true) <| tK (pg g1 6) <| lD (.int .i64 m.rd) HF 0 6 U3 rfl <| ?_
   try simp only [pS]
   cases q40 : (wn m.rd 1 1099511627776)
   ·skip
    refine cB (p_rightNum m.rd _) q40 HF fun w43 HF => tK (.bool false) <| tK (.bool false) <| WL.nil <| ?_
    try simp only [pS]
    go_wp2
    rw [HC.out]
    exact ⟨ret_bool (by simp only [endsP, bsq, q1, q2, q3, q4, q5, q6, q7, q8, q9, q37, q38, q39, q40]), HF.out.kept⟩
   refine cB (p_rightNum m.rd _) q40 HF fun w44 HF => tK (.bool true) <| tK (.bool true) <| WL.nil <| ?_
   try simp only [pS]
   go_wp2
   rw [HC.out]
   exact ⟨ret_bool (by simp only [endsP, bsq, q1, q2, q3, q4, q5, q6, q7, q8, q9, q37, q38, q39, q40]), HF.out.kept⟩
  refine bN (eI q9) <| tK (.bool false) <| WL.nil <| ?_
  try simp only [pS]
  go_upto_region 12 with fail
  refine WL.start <| ?_
  cases q10 : (m.k == 15)
  rotate_left
  ·skip
   refine bN (eI q10) <| tK (.bool true) <| WL.nil <| ?_
   try simp only [pS]
   go_upto_region 15 with fail
   refine WL.start <| tK (pg g1 1) <| lP (Ad.cs m.fr) HF 0 1 U30 S30 (Mg.cs m) rfl <| lP (Cg.cs c) HF 1 0 U24 S24 (Cg.cs c) rfl <| ?_
   try simp only [pS]
   cases q33 : (srvB zs m.fr)
   ·skip
    refine cB (p_isServer m.fr c zs _ (HZ.out.no HF.out.kept) hnz) q33 HF fun w29 HF => tK (.bool false) <| sK <| sK <| sK <| tK (.bool false) <| tK (.bool false) <| sK <| sK <| sK <| tK (.bool false) <| tK (.bool false) <| sK <| sK <| sK <| tK (.bool false) <| tK (.bool false) <| WL.nil <| ?_
    try simp only [pS]
    go_wp2
    rw [HC.out]
    exact ⟨ret_bool (by simp only [endsP, bsq, q1, q2, q3, q4, q5, q6, q7, q8, q9, q10, q33]), HF.out.kept⟩
   refine cB (p_isServer m.fr c zs _ (HZ.out.no HF.out.kept) hnz) q33 HF fun w30 HF => tK (.bool true) <| tK (pg g1 3) <| lP (Ad.cs m.too) HF 0 3 U30 S30 (Mg.cs m) rfl <| ?_
   try simp only [pS]
   cases q34 : (cliB m.too)
   ·skip
    refine cB (p_isClient m.too _) q34 HF fun w31 HF => tK (.bool false) <| tK (.bool false) <| sK <| sK <| sK <| tK (.bool false) <| tK (.bool false) <| sK <| sK <| sK <| tK (.bool false) <| tK (.bool false) <| WL.nil <| ?_
    try simp only [pS]
    go_wp2
    rw [HC.out]
    exact ⟨ret_bool (by simp only [endsP, bsq, q1, q2, q3, q4, q5, q6, q7, q8, q9, q10, q33, q34]), HF.out.kept⟩
   refine cB (p_isClient m.too _) q34 HF fun w32 HF => tK (.bool true) <| tK (.bool true) <| tK (pg g1 5) <| lD (.int .i64 m.op) HF 0 5 U3 rfl <| ?_
   try simp only [pS]
   cases q35 : (wn m.op 1 1099511627776)
   ·skip
    refine cB (p_rightNum m.op _) q35 HF fun w33 HF => tK (.bool false) <| tK (.bool false) <| sK <| sK <| sK <| tK (.bool false) <| tK (.bool false) <| WL.nil <| ?_
    try simp only [pS]
    go_wp2
    rw [HC.out]
    exact ⟨ret_bool (by simp only [endsP, bsq, q1, q2, q3, q4, q5, q6, q7, q8, q9, q10, q33, q34, q35]), HF.out.kept⟩
   refine cB (p_rightNum m.op _) q35 HF fun w34 HF => tK (.bool true) <| tK (.bool true) <| tK (pg g1 6) <| lD (.int .i64 m.rd) HF 0 6 U3 rfl <| ?_
   try simp only [pS]
   cases q36 : (wn m.rd 1 1099511627776)
   ·skip
    refine cB (p_rightNum m.rd _) q36 HF fun w35 HF => tK (.bool false) <| tK (.bool false) <| WL.nil <| ?_
    try simp only [pS]
    go_wp2
    rw [HC.out]
    exact ⟨ret_bool (by simp only [endsP, bsq, q1, q2, q3, q4, q5, q6, q7, q8, q9, q10, q33, q34, q35, q36]), HF.out.kept⟩
   refine cB (p_rightNum m.rd _) q36 HF fun w36 HF => tK (.bool true) <| tK (.bool true) <| WL.nil <| ?_
   try simp only [pS]
   go_wp2
   rw [HC.out]
   exact ⟨ret_bool (by simp only [endsP, bsq, q1, q2, q3, q4, q5, q6, q7, q8, q9, q10, q33, q34, q35, q36]), HF.out.kept⟩
  refine bN (eI q10) <| tK (.bool false) <| WL.nil <| ?_
  try simp only [pS]
  go_upto_region 13 with fail
  refine WL.start <| ?_
  cases q11 : (m.k == 16)
  rotate_left
  ·skip
   refine bN (eI q11) <| tK (.bool true) <| WL.nil <| ?_
   try simp only [pS]
   go_upto_region 15 with fail
   refine WL.start <| tK (pg g1 1) <| lP (Ad.cs m.fr) HF 0 1 U30 S30 (Mg.cs m) rfl <| lP (Cg.cs c) HF 1 0 U24 S24 (Cg.cs c) rfl <| ?_
   try simp only [pS]
   cases q29 : (srvB zs m.fr)
   ·skip
    refine cB (p_isServer m.fr c zs _ (HZ.out.no HF.out.kept) hnz) q29 HF fun w21 HF => tK (.bool false) <| sK <| sK <| sK <| tK (.bool false) <| tK (.bool false) <| sK <| sK <| sK <| tK (.bool false) <| tK (.bool false) <| sK <| sK <| sK <| tK (.bool false) <| tK (.bool false) <| WL.nil <| ?_
    try simp only [pS]
    go_wp2
    rw [HC.out]
    exact ⟨ret_bool (by simp only [endsP, bsq, q1, q2, q3, q4, q5, q6, q7, q8, q9, q10, q11, q29]), HF.out.kept⟩
   refine cB (p_isServer m.fr c zs _ (HZ.out.no HF.out.kept) hnz) q29 HF fun w22 HF => tK (.bool true) <| tK (pg g1 3) <| lP (Ad.cs m.too) HF 0 3 U30 S30 (Mg.cs m) rfl <| ?_
   try simp only [pS]
   cases q30 : (cliB m.too)
   ·skip
    refine cB (p_isClient m.too _) q30 HF fun w23 HF => tK (.bool false) <| tK (.bool false) <| sK <| sK <| sK <| tK (.bool false) <| tK (.bool false) <| sK <| sK <| sK <| tK (.bool false) <| tK (.bool false) <| WL.nil <| ?_
    try simp only [pS]
    go_wp2
    rw [HC.out]
    exact ⟨ret_bool (by simp only [endsP, bsq, q1, q2, q3, q4, q5, q6, q7, q8, q9, q10, q11, q29, q30]), HF.out.kept⟩
   refine cB (p_isClient m.too _) q30 HF fun w24 HF => tK (.bool true) <| tK (.bool true) <| tK (pg g1 5) <| lD (.int .i64 m.op) HF 0 5 U3 rfl <| ?_
   try simp only [pS]
   cases q31 : (wn m.op 1 1099511627776)
   ·skip
    refine cB (p_rightNum m.op _) q31 HF fun w25 HF => tK (.bool false) <| tK (.bool false) <| sK <| sK <| sK <| tK (.bool false) <| tK (.bool false) <| WL.nil <| ?_
    try simp only [pS]
    go_wp2
    rw [HC.out]
    exact ⟨ret_bool (by simp only [endsP, bsq, q1, q2, q3, q4, q5, q6, q7, q8, q9, q10, q11, q29, q30, q31]), HF.out.kept⟩
   refine cB (p_rightNum m.op _) q31 HF fun w26 HF => tK (.bool true) <| tK (.bool true) <| tK (pg g1 6) <| lD (.int .i64 m.rd) HF 0 6 U3 rfl <| ?_
   try simp only [pS]
   cases q32 : (wn m.rd 1 1099511627776)
   ·skip
    refine cB (p_rightNum m.rd _) q32 HF fun w27 HF => tK (.bool false) <| tK (.bool false) <| WL.nil <| ?_
    try simp only [pS]
    go_wp2
    rw [HC.out]
    exact ⟨ret_bool (by simp only [endsP, bsq, q1, q2, q3, q4, q5, q6, q7, q8, q9, q10, q11, q29, q30, q31, q32]), HF.out.kept⟩
   refine cB (p_rightNum m.rd _) q32 HF fun w28 HF => tK (.bool true) <| tK (.bool true) <| WL.nil <| ?_
   try simp only [pS]
   go_wp2
   rw [HC.out]
   exact ⟨ret_bool (by simp only [endsP, bsq, q1, q2, q3, q4, q5, q6, q7, q8, q9, q10, q11, q29, q30, q31, q32]), HF.out.kept⟩
  refine bN (eI q11) <| tK (.bool false) <| WL.nil <| ?_
  try simp only [pS]
  go_upto_region 14 with fail
  refine WL.start <| ?_
  cases q12 : (m.k == 17)
  rotate_left
  ·skip
   refine bN (eI q12) <| tK (.bool true) <| WL.nil <| ?_
   try simp only [pS]
   go_upto_region 15 with fail
   refine WL.start <| tK (pg g1 1) <| lP (Ad.cs m.fr) HF 0 1 U30 S30 (Mg.cs m) rfl <| lP (Cg.cs c) HF 1 0 U24 S24 (Cg.cs c) rfl <| ?_
   try simp only [pS]
   cases q25 : (srvB zs m.fr)
   ·skip
    refine cB (p_isServer m.fr c zs _ (HZ.out.no HF.out.kept) hnz) q25 HF fun w13 HF => tK (.bool false) <| sK <| sK <| sK <| tK (.bool false) <| tK (.bool false) <| sK <| sK <| sK <| tK (.bool false) <| tK (.bool false) <| sK <| sK <| sK <| tK (.bool false) <| tK (.bool false) <| WL.nil <| ?_
    try simp only [pS]
    go_wp2
    rw [HC.out]
    exact ⟨ret_bool (by simp only [endsP, bsq, q1, q2, q3, q4, q5, q6, q7, q8, q9, q10, q11, q12, q25]), HF.out.kept⟩
   refine cB (p_isServer m.fr c zs _ (HZ.out.no HF.out.kept) hnz) q25 HF fun w14 HF => tK (.bool true) <| tK (pg g1 3) <| lP (Ad.cs m.too) HF 0 3 U30 S30 (Mg.cs m) rfl <| ?_
   try simp only [pS]
   cases q26 : (cliB m.too)
   ·skip
    refine cB (p_isClient m.too _) q26 HF fun w15 HF => tK (.bool false) <| tK (.bool false) <| sK <| sK <| sK <| tK (.bool false) <| tK (.bool false) <| sK <| sK <| sK <| tK (.bool false) <| tK (.bool false) <| WL.nil <| ?_
    try simp only [pS]
    go_wp2
    rw [HC.out]
    exact ⟨ret_bool (by simp only [endsP, bsq, q1, q2, q3, q4, q5, q6, q7, q8, q9, q10, q11, q12, q25, q26]), HF.out.kept⟩
   refine cB (p_isClient m.too _) q26 HF fun w16 HF => tK (.bool true) <| tK (.bool true) <| tK (pg g1 5) <| lD (.int .i64 m.op) HF 0 5 U3 rfl <| ?_
   try simp only [pS]
   cases q27 : (wn m.op 1 1099511627776)
   ·skip
    refine cB (p_rightNum m.op _) q27 HF fun w17 HF => tK (.bool false) <| tK (.bool false) <| sK <| sK <| sK <| tK (.bool false) <| tK (.bool false) <| WL.nil <| ?_
    try simp only [pS]
    go_wp2
    rw [HC.out]
    exact ⟨ret_bool (by simp only [endsP, bsq, q1, q2, q3, q4, q5, q6, q7, q8, q9, q10, q11, q12, q25, q26, q27]), HF.out.kept⟩
   refine cB (p_rightNum m.op _) q27 HF fun w18 HF => tK (.bool true) <| tK (.bool true) <| tK (pg g1 6) <| lD (.int .i64 m.rd) HF 0 6 U3 rfl <| ?_
   try simp only [pS]
   cases q28 : (wn m.rd 1 1099511627776)
   ·skip
    refine cB (p_rightNum m.rd _) q28 HF fun w19 HF => tK (.bool false) <| tK (.bool false) <| WL.nil <| ?_
    try simp only [pS]
    go_wp2
    rw [HC.out]
    exact ⟨ret_bool (by simp only [endsP, bsq, q1, q2, q3, q4, q5, q6, q7, q8, q9, q10, q11, q12, q25, q26, q27, q28]), HF.out.kept⟩
   refine cB (p_rightNum m.rd _) q28 HF fun w20 HF => tK (.bool true) <| tK (.bool true) <| WL.nil <| ?_
   try simp only [pS]
   go_wp2
   rw [HC.out]
   exact ⟨ret_bool (by simp only [endsP, bsq, q1, q2, q3, q4, q5, q6, q7, q8, q9, q10, q11, q12, q25, q26, q27, q28]), HF.out.kept⟩
  refine bN (eI q12) <| tK (.bool false) <| WL.nil <| ?_
  try simp only [pS]
  go_upto_region 16 with fail
  refine WL.start <| ?_
  cases q13 : (m.k == 21)
  rotate_left
  ·skip
   refine bN (eI q13) <| tK (.bool true) <| WL.nil <| ?_
   try simp only [pS]
   go_upto_region 18 with fail
   refine WL.start <| tK (pg g1 1) <| lP (Ad.cs m.fr) HF 0 1 U30 S30 (Mg.cs m) rfl <| lP (Cg.cs c) HF 1 0 U24 S24 (Cg.cs c) rfl <| ?_
   try simp only [pS]
   cases q20 : (srvB zs m.fr)
   ·skip
    refine cB (p_isServer m.fr c zs _ (HZ.out.no HF.out.kept) hnz) q20 HF fun w9 HF => tK (.bool false) <| sK <| sK <| sK <| sK <| tK (.bool false) <| tK (.bool false) <| sK <| sK <| sK <| sK <| sK <| tK (.bool false) <| tK (.bool false) <| sK <| ?_
    try simp only [pS]
    refine sK <| sK <| tK (.bool false) <| tK (.bool false) <| sK <| sK <| sK <| tK (.bool false) <| tK (.bool false) <| WL.nil <| ?_
    try simp only [pS]
    go_wp2
    rw [HC.out]
    exact ⟨ret_bool (by simp only [endsP, bsq, q1, q2, q3, q4, q5, q6, q7, q8, q9, q10, q11, q12, q13, q20]), HF.out.kept⟩
   refine cB (p_isServer m.fr c zs _ (HZ.out.no HF.out.kept) hnz) q20 HF fun w10 HF => tK (.bool true) <| tK (pg g1 3) <| lP (Ad.cs m.too) HF 0 3 U30 S30 (Mg.cs m) rfl <| lP (Cg.cs c) HF 1 0 U24 S24 (Cg.cs c) rfl <| ?_
   try simp only [pS]
   cases q21 : (srvB zs m.too)
   ·skip
    refine cB (p_isServer m.too c zs _ (HZ.out.no HF.out.kept) hnz) q21 HF fun w11 HF => tK (.bool false) <| tK (.bool false) <| sK <| sK <| sK <| sK <| sK <| tK (.bool false) <| tK (.bool false) <| sK <| sK <| sK <| tK (.bool false) <| tK (.bool false) <| sK <| sK <| sK <| tK (.bool false) <| tK (.bool false) <| WL.nil <| ?_
    try simp only [pS]
    go_wp2
    rw [HC.out]
    exact ⟨ret_bool (by simp only [endsP, bsq, q1, q2, q3, q4, q5, q6, q7, q8, q9, q10, q11, q12, q13, q20, q21]), HF.out.kept⟩
   refine cB (p_isServer m.too c zs _ (HZ.out.no HF.out.kept) hnz) q21 HF fun w12 HF => tK (.bool true) <| tK (.bool true) <| tK (pg g1 1) <| lP (Ad.cs m.fr) HF 0 1 U30 S30 (Mg.cs m) rfl <| tK (pg g1 3) <| lP (Ad.cs m.too) HF 0 3 U30 S30 (Mg.cs m) rfl <| ?_
   try simp only [pS]
   cases q22 : (eqA m.fr m.too)
   rotate_left
   ·skip
    refine bN (qn1A q22) <| tK (.bool false) <| tK (.bool false) <| sK <| sK <| sK <| tK (.bool false) <| tK (.bool false) <| sK <| sK <| sK <| tK (.bool false) <| tK (.bool false) <| WL.nil <| ?_
    try simp only [pS]
    go_wp2
    rw [HC.out]
    exact ⟨ret_bool (by simp only [endsP, bsq, q1, q2, q3, q4, q5, q6, q7, q8, q9, q10, q11, q12, q13, q20, q21, q22]), HF.out.kept⟩
   refine bN (qn0A q22) <| tK (.bool true) <| tK (.bool true) <| tK (pg g1 5) <| lD (.int .i64 m.op) HF 0 5 U3 rfl <| ?_
   try simp only [pS]
   cases q23 : (m.op == 0)
   ·skip
    refine bN (eI q23) <| tK (.bool false) <| tK (.bool false) <| sK <| sK <| sK <| tK (.bool false) <| tK (.bool false) <| WL.nil <| ?_
    try simp only [pS]
    go_wp2
    rw [HC.out]
    exact ⟨ret_bool (by simp only [endsP, bsq, q1, q2, q3, q4, q5, q6, q7, q8, q9, q10, q11, q12, q13, q20, q21, q22, q23]), HF.out.kept⟩
   refine bN (eI q23) <| tK (.bool true) <| tK (.bool true) <| tK (pg g1 6) <| lD (.int .i64 m.rd) HF 0 6 U3 rfl <| ?_
   try simp only [pS]
   cases q24 : (m.rd == 0)
   ·skip
    refine bN (eI q24) <| tK (.bool false) <| tK (.bool false) <| WL.nil <| ?_
    try simp only [pS]
    go_wp2
    rw [HC.out]
    exact ⟨ret_bool (by simp only [endsP, bsq, q1, q2, q3, q4, q5, q6, q7, q8, q9, q10, q11, q12, q13, q20, q21, q22, q23, q24]), HF.out.kept⟩
   refine bN (eI q24) <| tK (.bool true) <| tK (.bool true) <| WL.nil <| ?_
   try simp only [pS]
   go_wp2
   rw [HC.out]
   exact ⟨ret_bool (by simp only [endsP, bsq, q1, q2, q3, q4, q5, q6, q7, q8, q9, q10, q11, q12, q13, q20, q21, q22, q23, q24]), HF.out.kept⟩
  refine bN (eI q13) <| tK (.bool false) <| WL.nil <| ?_
  try simp only [pS]
  go_upto_region 17 with fail
  refine WL.start <| ?_
  cases q14 : (m.k == 22)
  ·skip
   refine bN (eI q14) <| tK (.bool false) <| WL.nil <| ?_
   try simp only [pS]
   go_upto_region 19 with fail
   refine WL.start <| tK (.bool false) <| WL.nil <| ?_
   try simp only [pS]
   go_wp2
   rw [HC.out]
   exact ⟨ret_bool (by simp only [endsP, bsq, q1, q2, q3, q4, q5, q6, q7, q8, q9, q10, q11, q12, q13, q14]), HF.out.kept⟩
  refine bN (eI q14) <| tK (.bool true) <| WL.nil <| ?_
  try simp only [pS]
  go_upto_region 18 with fail
  refine WL.start <| tK (pg g1 1) <| lP (Ad.cs m.fr) HF 0 1 U30 S30 (Mg.cs m) rfl <| lP (Cg.cs c) HF 1 0 U24 S24 (Cg.cs c) rfl <| ?_
  try simp only [pS]
  cases q15 : (srvB zs m.fr)
  ·skip
   refine cB (p_isServer m.fr c zs _ (HZ.out.no HF.out.kept) hnz) q15 HF fun w5 HF => tK (.bool false) <| sK <| sK <| sK <| sK <| tK (.bool false) <| tK (.bool false) <| sK <| sK <| sK <| sK <| sK <| tK (.bool false) <| tK (.bool false) <| sK <| ?_
   try simp only [pS]
   refine sK <| sK <| tK (.bool false) <| tK (.bool false) <| sK <| sK <| sK <| tK (.bool false) <| tK (.bool false) <| WL.nil <| ?_
   try simp only [pS]
   go_wp2
   rw [HC.out]
   exact ⟨ret_bool (by simp only [endsP, bsq, q1, q2, q3, q4, q5, q6, q7, q8, q9, q10, q11, q12, q13, q14, q15]), HF.out.kept⟩
  refine cB (p_isServer m.fr c zs _ (HZ.out.no HF.out.kept) hnz) q15 HF fun w6 HF => tK (.bool true) <| tK (pg g1 3) <| lP (Ad.cs m.too) HF 0 3 U30 S30 (Mg.cs m) rfl <| lP (Cg.cs c) HF 1 0 U24 S24 (Cg.cs c) rfl <| ?_
  try simp only [pS]
  cases q16 : (srvB zs m.too)
  ·skip
   refine cB (p_isServer m.too c zs _ (HZ.out.no HF.out.kept) hnz) q16 HF fun w7 HF => tK (.bool false) <| tK (.bool false) <| sK <| sK <| sK <| sK <| sK <| tK (.bool false) <| tK (.bool false) <| sK <| sK <| sK <| tK (.bool false) <| tK (.bool false) <| sK <| sK <| sK <| tK (.bool false) <| tK (.bool false) <| WL.nil <| ?_
   try simp only [pS]
   go_wp2
   rw [HC.out]
   exact ⟨ret_bool (by simp only [endsP, bsq, q1, q2, q3, q4, q5, q6, q7, q8, q9, q10, q11, q12, q13, q14, q15, q16]), HF.out.kept⟩
  refine cB (p_isServer m.too c zs _ (HZ.out.no HF.out.kept) hnz) q16 HF fun w8 HF => tK (.bool true) <| tK (.bool true) <| tK (pg g1 1) <| lP (Ad.cs m.fr) HF 0 1 U30 S30 (Mg.cs m) rfl <| tK (pg g1 3) <| lP (Ad.cs m.too) HF 0 3 U30 S30 (Mg.cs m) rfl <| ?_
  try simp only [pS]
  cases q17 : (eqA m.fr m.too)
  rotate_left
  ·skip
   refine bN (qn1A q17) <| tK (.bool false) <| tK (.bool false) <| sK <| sK <| sK <| tK (.bool false) <| tK (.bool false) <| sK <| sK <| sK <| tK (.bool false) <| tK (.bool false) <| WL.nil <| ?_
   try simp only [pS]
   go_wp2
   rw [HC.out]
   exact ⟨ret_bool (by simp only [endsP, bsq, q1, q2, q3, q4, q5, q6, q7, q8, q9, q10, q11, q12, q13, q14, q15, q16, q17]), HF.out.kept⟩
  refine bN (qn0A q17) <| tK (.bool true) <| tK (.bool true) <| tK (pg g1 5) <| lD (.int .i64 m.op) HF 0 5 U3 rfl <| ?_
  try simp only [pS]
  cases q18 : (m.op == 0)
  ·skip
   refine bN (eI q18) <| tK (.bool false) <| tK (.bool false) <| sK <| sK <| sK <| tK (.bool false) <| tK (.bool false) <| WL.nil <| ?_
   try simp only [pS]
   go_wp2
   rw [HC.out]
   exact ⟨ret_bool (by simp only [endsP, bsq, q1, q2, q3, q4, q5, q6, q7, q8, q9, q10, q11, q12, q13, q14, q15, q16, q17, q18]), HF.out.kept⟩
  refine bN (eI q18) <| tK (.bool true) <| tK (.bool true) <| tK (pg g1 6) <| lD (.int .i64 m.rd) HF 0 6 U3 rfl <| ?_
  try simp only [pS]
  cases q19 : (m.rd == 0)
  ·skip
   refine bN (eI q19) <| tK (.bool false) <| tK (.bool false) <| WL.nil <| ?_
   try simp only [pS]
   go_wp2
   rw [HC.out]
   exact ⟨ret_bool (by simp only [endsP, bsq, q1, q2, q3, q4, q5, q6, q7, q8, q9, q10, q11, q12, q13, q14, q15, q16, q17, q18, q19]), HF.out.kept⟩
  refine bN (eI q19) <| tK (.bool true) <| tK (.bool true) <| WL.nil <| ?_
  try simp only [pS]
  go_wp2
  rw [HC.out]
  exact ⟨ret_bool (by simp only [endsP, bsq, q1, q2, q3, q4, q5, q6, q7, q8, q9, q10, q11, q12, q13, q14, q15, q16, q17, q18, q19]), HF.out.kept⟩
theorem p_rightKey (m : Mg) (c : Cg) (w : World) (hu : 1 ≤ c.bu ∧ c.bu ≤ 256) : Calls Tryz.prog 87 #[.agg (Mg.cells m), .agg (Cg.cells c)] w (fun e w' => e = .returned (.bool (keyP c.bu m)) ∧ Kept No w w') := by
  refine hidC fun C HC => ?_
  have HU : Hid (1 ≤ c.bu ∧ c.bu ≤ 256) := hu
  clear hu
  have HF : Hid (Fq No w w []) := Fq.start _ _
  go_enter Tryz.func87, Tryz.ntmps87
  go_upto_region 0 with fail
  refine WL.start <| xB (Mg.cells m) HF fun g1 w2 HF => xB (Cg.cells c) HF fun g3 w4 HF => tK (.bool false) <| WL.nil <| ?_
  try simp only [pS]
  go_upto_region 1 with fail
  refine WL.start <| tK (pg g1 7) <| lP (Ky.cs m.ky) HF 0 7 U32 S32 (Mg.cs m) rfl <| lP (Cg.cs c) HF 1 0 U24 S24 (Cg.cs c) rfl <| ?_
  try simp only [pS]
  cases q1 : (keyR c.bu m.ky)
  ·skip
   refine cB (g_Right m.ky c _ HU) q1 HF fun w5 HF => tK (.bool true) <| WL.nil <| ?_
   try simp only [pS]
   go_upto_region 2 with fail
   refine WL.start <| tK (.bool false) <| WL.nil <| ?_
   try simp only [pS]
   go_wp2
   rw [HC.out]
   exact ⟨ret_bool (by simp only [keyP, bsq, q1]), HF.out.kept⟩
  refine cB (g_Right m.ky c _ HU) q1 HF fun w6 HF => tK (.bool false) <| WL.nil <| ?_
  try simp only [pS]
  go_upto_region 3 with fail
  refine WL.start <| tK (pg g1 0) <| lD (.int .i64 m.k) HF 0 0 U3 rfl <| WL.nil <| ?_
  try simp only [pS]
  go_upto_region 4 with fail
  refine WL.start <| ?_
  cases q2 : (m.k == 1)
  rotate_left
  ·skip
   refine bN (eI q2) <| tK (.bool true) <| WL.nil <| ?_
   try simp only [pS]
   go_upto_region 8 with fail
   refine WL.start <| tK (pg g1 7) <| tK (pg g1 7) <| lD (.int .i64 m.ky.k) HF 0 7 U3 rfl <| ?_
   try simp only [pS]
   cases q16 : (m.ky.k == 1)
   ·skip
    refine bN (eI q16) <| tK (.bool false) <| WL.nil <| ?_
    try simp only [pS]
    go_wp2
    rw [HC.out]
    exact ⟨ret_bool (by simp only [keyP, bsq, q1, q2, q16]), HF.out.kept⟩
   refine bN (eI q16) <| tK (.bool true) <| WL.nil <| ?_
   try simp only [pS]
   go_wp2
   rw [HC.out]
   exact ⟨ret_bool (by simp only [keyP, bsq, q1, q2, q16]), HF.out.kept⟩
  refine bN (eI q2) <| tK (.bool false) <| WL.nil <| ?_
  try simp only [pS]
  go_upto_region 5 with fail
  refine WL.start <| ?_
  cases q3 : (m.k == 2)
  rotate_left
  ·skip
   refine bN (eI q3) <| tK (.bool true) <| WL.nil <| ?_
   try simp only [pS]
   go_upto_region 8 with fail
   refine WL.start <| tK (pg g1 7) <| tK (pg g1 7) <| lD (.int .i64 m.ky.k) HF 0 7 U3 rfl <| ?_
   try simp only [pS]
   cases q15 : (m.ky.k == 1)
   ·skip
    refine bN (eI q15) <| tK (.bool false) <| WL.nil <| ?_
    try simp only [pS]
    go_wp2
    rw [HC.out]
    exact ⟨ret_bool (by simp only [keyP, bsq, q1, q2, q3, q15]), HF.out.kept⟩
   refine bN (eI q15) <| tK (.bool true) <| WL.nil <| ?_
   try simp only [pS]
   go_wp2
   rw [HC.out]
   exact ⟨ret_bool (by simp only [keyP, bsq, q1, q2, q3, q15]), HF.out.kept⟩
  refine bN (eI q3) <| tK (.bool false) <| WL.nil <| ?_
  try simp only [pS]
  go_upto_region 6 with fail
  refine WL.start <| ?_
  cases q4 : (m.k == 11)
  rotate_left
  ·skip
   refine bN (eI q4) <| tK (.bool true) <| WL.nil <| ?_
   try simp only [pS]
   go_upto_region 8 with fail
   refine WL.start <| tK (pg g1 7) <| tK (pg g1 7) <| lD (.int .i64 m.ky.k) HF 0 7 U3 rfl <| ?_
   try simp only [pS]
   cases q14 : (m.ky.k == 1)
   ·skip
    refine bN (eI q14) <| tK (.bool false) <| WL.nil <| ?_
    try simp only [pS]
    go_wp2
    rw [HC.out]
    exact ⟨ret_bool (by simp only [keyP, bsq, q1, q2, q3, q4, q14]), HF.out.kept⟩
   refine bN (eI q14) <| tK (.bool true) <| WL.nil <| ?_
   try simp only [pS]
   go_wp2
   rw [HC.out]
   exact ⟨ret_bool (by simp only [keyP, bsq, q1, q2, q3, q4, q14]), HF.out.kept⟩
  refine bN (eI q4) <| tK (.bool false) <| WL.nil <| ?_
  try simp only [pS]
  go_upto_region 7 with fail
  refine WL.start <| ?_
  cases q5 : (m.k == 12)
  rotate_left
  ·skip
   refine bN (eI q5) <| tK (.bool true) <| WL.nil <| ?_
   try simp only [pS]
   go_upto_region 8 with fail
   refine WL.start <| tK (pg g1 7) <| tK (pg g1 7) <| lD (.int .i64 m.ky.k) HF 0 7 U3 rfl <| ?_
   try simp only [pS]
   cases q13 : (m.ky.k == 1)
   ·skip
    refine bN (eI q13) <| tK (.bool false) <| WL.nil <| ?_
    try simp only [pS]
    go_wp2
    rw [HC.out]
    exact ⟨ret_bool (by simp only [keyP, bsq, q1, q2, q3, q4, q5, q13]), HF.out.kept⟩
   refine bN (eI q13) <| tK (.bool true) <| WL.nil <| ?_
   try simp only [pS]
   go_wp2
   rw [HC.out]
   exact ⟨ret_bool (by simp only [keyP, bsq, q1, q2, q3, q4, q5, q13]), HF.out.kept⟩
  refine bN (eI q5) <| tK (.bool false) <| WL.nil <| ?_
  try simp only [pS]
  go_upto_region 9 with fail
  refine WL.start <| ?_
  cases q6 : (m.k == 21)
  rotate_left
  ·skip
   refine bN (eI q6) <| tK (.bool true) <| WL.nil <| ?_
   try simp only [pS]
   go_upto_region 11 with fail
   refine WL.start <| tK (pg g1 7) <| tK (pg g1 7) <| lD (.int .i64 m.ky.k) HF 0 7 U3 rfl <| ?_
   try simp only [pS]
   cases q11 : (m.ky.k == 1)
   rotate_left
   ·skip
    refine bN (eI q11) <| tK (.bool true) <| sK <| sK <| sK <| sK <| tK (.bool true) <| tK (.bool true) <| WL.nil <| ?_
    try simp only [pS]
    go_wp2
    rw [HC.out]
    exact ⟨ret_bool (by simp only [keyP, bsq, q1, q2, q3, q4, q5, q6, q11]), HF.out.kept⟩
   refine bN (eI q11) <| tK (.bool false) <| tK (pg g1 7) <| tK (pg g1 7) <| lD (.int .i64 m.ky.k) HF 0 7 U3 rfl <| ?_
   try simp only [pS]
   cases q12 : (m.ky.k == 2)
   ·skip
    refine bN (eI q12) <| tK (.bool false) <| tK (.bool false) <| WL.nil <| ?_
    try simp only [pS]
    go_wp2
    rw [HC.out]
    exact ⟨ret_bool (by simp only [keyP, bsq, q1, q2, q3, q4, q5, q6, q11, q12]), HF.out.kept⟩
   refine bN (eI q12) <| tK (.bool true) <| tK (.bool true) <| WL.nil <| ?_
   try simp only [pS]
   go_wp2
   rw [HC.out]
   exact ⟨ret_bool (by simp only [keyP, bsq, q1, q2, q3, q4, q5, q6, q11, q12]), HF.out.kept⟩
  refine bN (eI q6) <| tK (.bool false) <| WL.nil <| ?_
  try simp only [pS]
  go_upto_region 10 with fail
  refine WL.start <| ?_
  cases q7 : (m.k == 22)
  ·skip
   refine bN (eI q7) <| tK (.bool false) <| WL.nil <| ?_
   try simp only [pS]
   go_upto_region 12 with fail
   refine WL.start <| tK (pg g1 7) <| tK (pg g1 7) <| lD (.int .i64 m.ky.k) HF 0 7 U3 rfl <| ?_
   try simp only [pS]
   cases q8 : (m.ky.k == 3)
   ·skip
    refine bN (eI q8) <| tK (.bool false) <| WL.nil <| ?_
    try simp only [pS]
    go_wp2
    rw [HC.out]
    exact ⟨ret_bool (by simp only [keyP, bsq, q1, q2, q3, q4, q5, q6, q7, q8]), HF.out.kept⟩
   refine bN (eI q8) <| tK (.bool true) <| WL.nil <| ?_
   try simp only [pS]
   go_wp2
   rw [HC.out]
   exact ⟨ret_bool (by simp only [keyP, bsq, q1, q2, q3, q4, q5, q6, q7, q8]), HF.out.kept⟩
  refine bN (eI q7) <| tK (.bool true) <| WL.nil <| ?_
  try simp only [pS]
  go_upto_region 11 with fail
  refine WL.start <| tK (pg g1 7) <| tK (pg g1 7) <| lD (.int .i64 m.ky.k) HF 0 7 U3 rfl <| ?_
  try simp only [pS]
  cases q9 : (m.ky.k == 1)
  rotate_left
  ·skip
   refine bN (eI q9) <| tK (.bool true) <| sK <| sK <| sK <| sK <| tK (.bool true) <| tK (.bool true) <| WL.nil <| ?_
   try simp only [pS]
   go_wp2
   rw [HC.out]
   exact ⟨ret_bool (by simp only [keyP, bsq, q1, q2, q3, q4, q5, q6, q7, q9]), HF.out.kept⟩
  refine bN (eI q9) <| tK (.bool false) <| tK (pg g1 7) <| tK (pg g1 7) <| lD (.int .i64 m.ky.k) HF 0 7 U3 rfl <| ?_
  try simp only [pS]
  cases q10 : (m.ky.k == 2)
  ·skip
   refine bN (eI q10) <| tK (.bool false) <| tK (.bool false) <| WL.nil <| ?_
   try simp only [pS]
   go_wp2
   rw [HC.out]
   exact ⟨ret_bool (by simp only [keyP, bsq, q1, q2, q3, q4, q5, q6, q7, q9, q10]), HF.out.kept⟩
  refine bN (eI q10) <| tK (.bool true) <| tK (.bool true) <| WL.nil <| ?_
  try simp only [pS]
  go_wp2
  rw [HC.out]
  exact ⟨ret_bool (by simp only [keyP, bsq, q1, q2, q3, q4, q5, q6, q7, q9, q10]), HF.out.kept⟩
theorem p_rightRow (f : Int) (x : Sl) (cs : List Cm) (c : Cg) (w : World) (hb : 0 ≤ c.bl ∧ c.bl ≤ 4096) (hf : 0 ≤ f ∧ f ≤ 2000000) (h4 : RdC w x cs) (hn : x.l ≤ 281474976710656) : Calls Tryz.prog 216 #[.int .i64 f, x.v, .agg (Cg.cells c)] w (fun e w' => e = .returned (.bool (rowsP c.bl f x cs)) ∧ Kept No w w') := by
  refine hidC fun C HC => ?_
  have HB : Hid (0 ≤ c.bl ∧ c.bl ≤ 4096) := hb
  clear hb
  have HFr : Hid (0 ≤ f ∧ f ≤ 2000000) := hf
  clear hf
  have HRC : Hid (RdC w x cs) := h4
  clear h4
  have HF : Hid (Fq No w w []) := Fq.start _ _
  go_enter Tryz.func216, Tryz.ntmps216
  go_upto_region 0 with fail
  refine WL.start <| xB (Cg.cells c) HF fun g1 w2 HF => tK (.bool false) <| WL.nil <| ?_
  try simp only [pS]
  go_upto_region 1 with fail
  refine WL.start <| tK (x.v) <| tK (.int .i64 ((x.l : Nat) : Int)) <| ?_
  try simp only [pS]
  cases q1 : (decide (64 < ((x.l : Nat) : Int)))
  rotate_left
  ·skip
   refine bN (gI q1) <| tK (.bool true) <| sK <| sK <| sK <| sK <| sK <| tK (.bool true) <| WL.nil <| ?_
   try simp only [pS]
   go_upto_region 2 with fail
   refine WL.start <| tK (.bool false) <| WL.nil <| ?_
   try simp only [pS]
   go_wp2
   rw [HC.out]
   exact ⟨ret_bool (by simp only [rowsP, bsq, q1]), HF.out.kept⟩
  refine bN (gI q1) <| tK (.bool false) <| tK (.int .i64 f) <| tK (x.v) <| tK (.int .i64 ((x.l : Nat) : Int)) <| bN (v := .int .i64 (f + ((x.l : Nat) : Int))) (b_addw f ((x.l : Nat) : Int) (f + ((x.l : Nat) : Int)) (by rw [IntKind.wrap_i64]; have h1 := HFr.out; have h2 := of_decide_eq_false q1; omega)) <| ?_
  try simp only [pS]
  cases q2 : (decide (1048577 < (f + ((x.l : Nat) : Int))))
  rotate_left
  ·skip
   refine bN (gI q2) <| tK (.bool true) <| WL.nil <| ?_
   try simp only [pS]
   go_upto_region 2 with fail
   refine WL.start <| tK (.bool false) <| WL.nil <| ?_
   try simp only [pS]
   go_wp2
   rw [HC.out]
   exact ⟨ret_bool (by simp only [rowsP, bsq, q1, q2]), HF.out.kept⟩
  refine bN (gI q2) <| tK (.bool false) <| WL.nil <| ?_
  try simp only [pS]
  go_upto_region 3 with fail
  refine WL.start <| tK (x.v) <| tK (.int .i64 ((x.l : Nat) : Int)) <| tK (.int .i64 0) <| WL.nil <| ?_
  try simp only [pS]
  go_wp2
  go_loopw [21] (fun v21 wr => ∃ i : Nat, v21 = .int .i64 ((i : Nat) : Int) ∧ i ≤ x.l ∧ Hid (∀ j, j < i → (eqC (cAt cs j) cZ || cmdP c.bl (cAt cs j)) = true) ∧ Hid (Fq No w wr [(g1, 24, Cg.cells c)])) (fun v21 _ => x.l - (intOf v21).toNat)
  case atStart => exact ⟨0, by go_num, by omega, fun j hj => absurd hj (Nat.not_lt_zero _), HF⟩
  case round =>
    clear HF
    obtain ⟨i, rfl, hi, HP, HF⟩ := hrel
    by_cases hlt : i < x.l
    ·skip
     obtain ⟨b, off, hsl, hc⟩ := RdC.at' HRC.out (i := i) (by omega)
     go_upto_region 4 with fail
     refine WL.start <| bN (lI (a := ((i : Nat) : Int)) (b := ((x.l : Nat) : Int)) (decide_eq_true (by omega))) <| WL.nil <| ?_
     try simp only [pS]
     go_upto_region 5 with fail
     refine WL.start <| iS (s := x) (i := i) hsl E26 F26 (by omega) <| lR (load_Ca (fun j v h => HF.out.kept.cell (hc j v h) (fun e => e))) <| xA (Cm.cells cZ) Z39 HF fun g3 w4 HF => sB (Cm.cs (cAt cs i)) (Cm.cs (cAt cs i)) HF 1 0 (v := .agg (Cm.cells (cAt cs i))) rfl S39 (Cm.oneL _) (Cm.cs cZ) rfl fun w5 HF => WL.nil <| ?_
     try simp only [pS]
     go_upto_region 6 with fail
     refine WL.start <| lP (Cm.cs (cAt cs i)) HF 1 0 U39 S39 (Cm.cs (cAt cs i)) rfl <| bD (Cm.cells cZ) <| ?_
     try simp only [pS]
     cases q3 : (eqC (cAt cs i) cZ)
     rotate_left
     ·skip
      refine bN (qn1C q3) <| tK (.bool false) <| sK <| sK <| sK <| sK <| tK (.bool false) <| WL.nil <| ?_
      try simp only [pS]
      go_upto_region 8 with fail
      refine WL.start <| bN (v := .int .i64 (((i + 1) : Nat) : Int)) (b_addw ((i : Nat) : Int) 1 (((i + 1) : Nat) : Int) (by rw [IntKind.wrap_i64]; omega)) <| tK (.int .i64 (((i + 1) : Nat) : Int)) <| WL.nil <| ?_
      try simp only [pS]
      go_wp2
      go_roundw
      case rel => exact ⟨i + 1, by go_num, by omega, up_j (P := fun j => (eqC (cAt cs j) cZ || cmdP c.bl (cAt cs j)) = true) HP.out (by simp only [bsq, q3]), Fq.front (l := [(g1, 24, Cg.cells c)]) (m := [(g3, 39, Cm.cells (cAt cs i))]) HF⟩
      case measure => simp [intOf]; omega
     refine bN (qn0C q3) <| tK (.bool true) <| lP (Cm.cs (cAt cs i)) HF 1 0 U39 S39 (Cm.cs (cAt cs i)) rfl <| lP (Cg.cs c) HF 0 0 U24 S24 (Cg.cs c) rfl <| ?_
     try simp only [pS]
     cases q4 : (cmdP c.bl (cAt cs i))
     ·skip
      refine cB (p_rightCommand (cAt cs i) c _ HB) q4 HF fun w6 HF => tK (.bool true) <| tK (.bool true) <| WL.nil <| ?_
      try simp only [pS]
      go_upto_region 7 with fail
      refine WL.start <| tK (.bool false) <| WL.nil <| ?_
      try simp only [pS]
      go_wp2
      rw [HC.out]
      exact ⟨ret_bool (by rw [show rowsP c.bl f x cs = false from by unfold rowsP; rw [show rowP c.bl cs = false from rng_f (i := i) (by rw [HRC.out.len]; exact hlt) (by simp only [bsq, q3, q4])]; simp only [bsq, q1, q2]]), HF.out.kept⟩
     refine cB (p_rightCommand (cAt cs i) c _ HB) q4 HF fun w7 HF => tK (.bool false) <| tK (.bool false) <| WL.nil <| ?_
     try simp only [pS]
     go_upto_region 8 with fail
     refine WL.start <| bN (v := .int .i64 (((i + 1) : Nat) : Int)) (b_addw ((i : Nat) : Int) 1 (((i + 1) : Nat) : Int) (by rw [IntKind.wrap_i64]; omega)) <| tK (.int .i64 (((i + 1) : Nat) : Int)) <| WL.nil <| ?_
     try simp only [pS]
     go_wp2
     go_roundw
     case rel => exact ⟨i + 1, by go_num, by omega, up_j (P := fun j => (eqC (cAt cs j) cZ || cmdP c.bl (cAt cs j)) = true) HP.out (by simp only [bsq, q3, q4]), Fq.front (l := [(g1, 24, Cg.cells c)]) (m := [(g3, 39, Cm.cells (cAt cs i))]) HF⟩
     case measure => simp [intOf]; omega
    ·skip
     go_upto_region 4 with fail
     refine WL.start <| bN (lI (a := ((i : Nat) : Int)) (b := ((x.l : Nat) : Int)) (decide_eq_false (by omega))) <| WL.nil <| ?_
     try simp only [pS]
     go_upto_region 9 with fail
     refine WL.start <| tK (.bool true) <| WL.nil <| ?_
     try simp only [pS]
     go_wp2
     rw [HC.out]
     exact ⟨ret_bool (by rw [show rowsP c.bl f x cs = true from by unfold rowsP; rw [show rowP c.bl cs = true from rng_t (fun j hj => HP.out j (by rw [HRC.out.len] at hj; omega))]; simp only [bsq, q1, q2]]), HF.out.kept⟩
theorem p_rightHave (m : Mg) (es : List En) (ls : List La) (cs : List Cm) (c : Cg) (w : World) (hb : 0 ≤ c.bl ∧ c.bl ≤ 4096) (h2 : RdE w m.bk.e es) (h3 : RdL w m.bk.l ls) (h4 : RdC w m.cm cs) (hne : m.bk.e.l ≤ 281474976710656) (hnl : m.bk.l.l ≤ 281474976710656) (hnc : m.cm.l ≤ 281474976710656) : Calls Tryz.prog 171 #[.agg (Mg.cells m), .agg (Cg.cells c)] w (fun e w' => e = .returned (.bool (haveP c.bl c.rm m es ls cs)) ∧ Kept No w w') := by
  refine hidC fun C HC => ?_
  have HB : Hid (0 ≤ c.bl ∧ c.bl ≤ 4096) := hb
  clear hb
  have HRE : Hid (RdE w m.bk.e es) := h2
  clear h2
  have HRL : Hid (RdL w m.bk.l ls) := h3
  clear h3
  have HRC : Hid (RdC w m.cm cs) := h4
  clear h4
  have HF : Hid (Fq No w w []) := Fq.start _ _
  go_enter Tryz.func171, Tryz.ntmps171
  go_upto_region 0 with fail
  refine WL.start <| xB (Mg.cells m) HF fun g1 w2 HF => xB (Cg.cells c) HF fun g3 w4 HF => tK (.bool false) <| WL.nil <| ?_
  try simp only [pS]
  go_upto_region 1 with fail
  refine WL.start <| tK (pg g1 7) <| tK (pg g1 7) <| lD (.int .i64 m.ky.k) HF 0 7 U3 rfl <| ?_
  try simp only [pS]
  cases q1 : (m.ky.k == 1)
  rotate_left
  ·skip
   refine bN (eI q1) <| tK (.bool true) <| tK (pg g1 11) <| lP (Sp.cs m.st) HF 0 11 U34 S34 (Mg.cs m) rfl <| ?_
   try simp only [pS]
   cases q9 : (eqS m.st spZ)
   rotate_left
   ·skip
    refine cB (p_isNone m.st _) q9 HF fun w28 HF => tK (.bool true) <| tK (.bool true) <| WL.nil <| ?_
    try simp only [pS]
    go_upto_region 2 with fail
    refine WL.start <| lP (Mg.cs m) HF 0 0 U45 S45 (Mg.cs m) rfl <| ?_
    try simp only [pS]
    cases q13 : (onlyP m [])
    ·skip
     refine cB (p_only m slZ [] _ (RdI.nil _) (by decide)) q13 HF fun w29 HF => tK (.bool false) <| WL.nil <| ?_
     try simp only [pS]
     go_wp2
     rw [HC.out]
     exact ⟨ret_bool (by simp only [haveP, bsq, q1, q9, q13]), HF.out.kept⟩
    refine cB (p_only m slZ [] _ (RdI.nil _) (by decide)) q13 HF fun w30 HF => tK (.bool true) <| WL.nil <| ?_
    try simp only [pS]
    go_wp2
    rw [HC.out]
    exact ⟨ret_bool (by simp only [haveP, bsq, q1, q9, q13]), HF.out.kept⟩
   refine cB (p_isNone m.st _) q9 HF fun w21 HF => tK (.bool false) <| tK (.bool false) <| WL.nil <| ?_
   try simp only [pS]
   go_upto_region 3 with fail
   refine WL.start <| tK (pg g1 7) <| tK (pg g1 7) <| lD (.int .i64 m.ky.k) HF 0 7 U3 rfl <| bN (eI q1) <| tK (.bool true) <| WL.nil <| ?_
   try simp only [pS]
   go_upto_region 4 with fail
   refine WL.start <| lP (Mg.cs m) HF 0 0 U45 S45 (Mg.cs m) rfl <| bS ([0, 2] : List Int) HF fun g22 w23 HF => ?_
   try simp only [pS]
   cases q10 : (onlyP m [0, 2])
   ·skip
    refine cB (p_only m ⟨some ⟨g22, 0, none⟩, 2, 2⟩ [0, 2] _ (RdI.box (HF.out.box 2 _ _ _ rfl)) (by show 2 ≤ 281474976710656; omega)) q10 HF fun w24 HF => tK (.bool false) <| sK <| sK <| sK <| tK (.bool false) <| tK (.bool false) <| sK <| sK <| sK <| sK <| sK <| sK <| tK (.bool false) <| tK (.bool false) <| WL.nil <| ?_
    try simp only [pS]
    go_wp2
    rw [HC.out]
    exact ⟨ret_bool (by simp only [haveP, bsq, q1, q9, q10]), HF.out.kept⟩
   refine cB (p_only m ⟨some ⟨g22, 0, none⟩, 2, 2⟩ [0, 2] _ (RdI.box (HF.out.box 2 _ _ _ rfl)) (by show 2 ≤ 281474976710656; omega)) q10 HF fun w25 HF => tK (.bool true) <| tK (pg g1 11) <| lP (Sp.cs m.st) HF 0 11 U34 S34 (Mg.cs m) rfl <| ?_
   try simp only [pS]
   cases q11 : (oneS m.st)
   ·skip
    refine cB (p_isOne m.st _) q11 HF fun w26 HF => tK (.bool false) <| tK (.bool false) <| sK <| sK <| sK <| sK <| sK <| sK <| tK (.bool false) <| tK (.bool false) <| WL.nil <| ?_
    try simp only [pS]
    go_wp2
    rw [HC.out]
    exact ⟨ret_bool (by simp only [haveP, bsq, q1, q9, q10, q11]), HF.out.kept⟩
   refine cB (p_isOne m.st _) q11 HF fun w27 HF => tK (.bool true) <| tK (.bool true) <| tK (pg g1 15) <| lD (m.bl.v) HF 0 15 U35 rfl <| tK (.int .i64 ((m.bl.l : Nat) : Int)) <| tK (pg g3 4) <| lD (.int .i64 c.bl) HF 1 4 U3 rfl <| ?_
   try simp only [pS]
   cases q12 : (((m.bl.l : Nat) : Int) == c.bl)
   ·skip
    refine bN (eI q12) <| tK (.bool false) <| tK (.bool false) <| WL.nil <| ?_
    try simp only [pS]
    go_wp2
    rw [HC.out]
    exact ⟨ret_bool (by simp only [haveP, bsq, q1, q9, q10, q11, q12]), HF.out.kept⟩
   refine bN (eI q12) <| tK (.bool true) <| tK (.bool true) <| WL.nil <| ?_
   try simp only [pS]
   go_wp2
   rw [HC.out]
   exact ⟨ret_bool (by simp only [haveP, bsq, q1, q9, q10, q11, q12]), HF.out.kept⟩
  refine bN (eI q1) <| tK (.bool false) <| sK <| sK <| sK <| tK (.bool false) <| tK (.bool false) <| WL.nil <| ?_
  try simp only [pS]
  go_upto_region 3 with fail
  refine WL.start <| tK (pg g1 7) <| tK (pg g1 7) <| lD (.int .i64 m.ky.k) HF 0 7 U3 rfl <| bN (eI q1) <| tK (.bool false) <| WL.nil <| ?_
  try simp only [pS]
  go_upto_region 5 with fail
  refine WL.start <| tK (pg g1 11) <| lP (Sp.cs m.st) HF 0 11 U34 S34 (Mg.cs m) rfl <| ?_
  try simp only [pS]
  cases q2 : (eqS m.st spZ)
  ·skip
   refine cB (p_isNone m.st _) q2 HF fun w5 HF => tK (.bool false) <| WL.nil <| ?_
   try simp only [pS]
   go_upto_region 7 with fail
   refine WL.start <| lP (Mg.cs m) HF 0 0 U45 S45 (Mg.cs m) rfl <| bS ([0, 5, 6] : List Int) HF fun g6 w7 HF => ?_
   try simp only [pS]
   cases q3 : (onlyP m [0, 5, 6])
   ·skip
    refine cB (p_only m ⟨some ⟨g6, 0, none⟩, 3, 3⟩ [0, 5, 6] _ (RdI.box (HF.out.box 2 _ _ _ rfl)) (by show 3 ≤ 281474976710656; omega)) q3 HF fun w8 HF => tK (.bool false) <| sK <| sK <| sK <| tK (.bool false) <| tK (.bool false) <| sK <| sK <| sK <| sK <| sK <| sK <| sK <| tK (.bool false) <| tK (.bool false) <| WL.nil <| ?_
    try simp only [pS]
    go_wp2
    rw [HC.out]
    exact ⟨ret_bool (by simp only [haveP, bsq, q1, q2, q3]), HF.out.kept⟩
   refine cB (p_only m ⟨some ⟨g6, 0, none⟩, 3, 3⟩ [0, 5, 6] _ (RdI.box (HF.out.box 2 _ _ _ rfl)) (by show 3 ≤ 281474976710656; omega)) q3 HF fun w9 HF => tK (.bool true) <| tK (pg g1 11) <| lP (Sp.cs m.st) HF 0 11 U34 S34 (Mg.cs m) rfl <| ?_
   try simp only [pS]
   cases q4 : (frmS m.st)
   ·skip
    refine cB (p_isFrom m.st _) q4 HF fun w10 HF => tK (.bool false) <| tK (.bool false) <| sK <| sK <| sK <| sK <| sK <| sK <| sK <| tK (.bool false) <| tK (.bool false) <| WL.nil <| ?_
    try simp only [pS]
    go_wp2
    rw [HC.out]
    exact ⟨ret_bool (by simp only [haveP, bsq, q1, q2, q3, q4]), HF.out.kept⟩
   refine cB (p_isFrom m.st _) q4 HF fun w11 HF => tK (.bool true) <| tK (.bool true) <| tK (pg g1 11) <| tK (pg g1 11) <| lD (.int .i64 m.st.n) HF 0 11 U3 rfl <| tK (pg g1 28) <| lD (m.cm.v) HF 0 28 U26 rfl <| lP (Cg.cs c) HF 1 0 U24 S24 (Cg.cs c) rfl <| ?_
   try simp only [pS]
   cases q5 : (rowsP c.bl m.st.n m.cm cs)
   ·skip
    refine cB (p_rightRow m.st.n m.cm cs c _ HB (frm_bd q4) (HRC.out.no HF.out.kept) hnc) q5 HF fun w12 HF => tK (.bool false) <| tK (.bool false) <| WL.nil <| ?_
    try simp only [pS]
    go_wp2
    rw [HC.out]
    exact ⟨ret_bool (by simp only [haveP, bsq, q1, q2, q3, q4, q5]), HF.out.kept⟩
   refine cB (p_rightRow m.st.n m.cm cs c _ HB (frm_bd q4) (HRC.out.no HF.out.kept) hnc) q5 HF fun w13 HF => tK (.bool true) <| tK (.bool true) <| WL.nil <| ?_
   try simp only [pS]
   go_wp2
   rw [HC.out]
   exact ⟨ret_bool (by simp only [haveP, bsq, q1, q2, q3, q4, q5]), HF.out.kept⟩
  refine cB (p_isNone m.st _) q2 HF fun w14 HF => tK (.bool true) <| WL.nil <| ?_
  try simp only [pS]
  go_upto_region 6 with fail
  refine WL.start <| lP (Mg.cs m) HF 0 0 U45 S45 (Mg.cs m) rfl <| bS ([4, 6] : List Int) HF fun g15 w16 HF => ?_
  try simp only [pS]
  cases q6 : (onlyP m [4, 6])
  ·skip
   refine cB (p_only m ⟨some ⟨g15, 0, none⟩, 2, 2⟩ [4, 6] _ (RdI.box (HF.out.box 2 _ _ _ rfl)) (by show 2 ≤ 281474976710656; omega)) q6 HF fun w17 HF => tK (.bool false) <| sK <| sK <| sK <| sK <| tK (.bool false) <| tK (.bool false) <| sK <| sK <| sK <| sK <| tK (.bool false) <| tK (.bool false) <| WL.nil <| ?_
   try simp only [pS]
   go_wp2
   rw [HC.out]
   exact ⟨ret_bool (by simp only [haveP, bsq, q1, q2, q6]), HF.out.kept⟩
  refine cB (p_only m ⟨some ⟨g15, 0, none⟩, 2, 2⟩ [4, 6] _ (RdI.box (HF.out.box 2 _ _ _ rfl)) (by show 2 ≤ 281474976710656; omega)) q6 HF fun w18 HF => tK (.bool true) <| tK (pg g1 25) <| tK (pg g1 25) <| lD (.int .i64 m.bk.up) HF 0 25 U3 rfl <| ?_
  try simp only [pS]
  cases q7 : (decide (0 < m.bk.up))
  ·skip
   refine bN (gI q7) <| tK (.bool false) <| tK (.bool false) <| sK <| sK <| sK <| sK <| tK (.bool false) <| tK (.bool false) <| WL.nil <| ?_
   try simp only [pS]
   go_wp2
   rw [HC.out]
   exact ⟨ret_bool (by simp only [haveP, bsq, q1, q2, q6, q7]), HF.out.kept⟩
  refine bN (gI q7) <| tK (.bool true) <| tK (.bool true) <| tK (pg g1 25) <| lP (Bv.cs m.bk) HF 0 25 U43 S43 (Mg.cs m) rfl <| lP (Cg.cs c) HF 1 0 U24 S24 (Cg.cs c) rfl <| ?_
  try simp only [pS]
  cases q8 : (bktP c.bl c.rm m.bk es ls)
  ·skip
   refine cB (p_rightBucket m.bk es ls c _ HB (HRE.out.no HF.out.kept) (HRL.out.no HF.out.kept) hne hnl) q8 HF fun w19 HF => tK (.bool false) <| tK (.bool false) <| WL.nil <| ?_
   try simp only [pS]
   go_wp2
   rw [HC.out]
   exact ⟨ret_bool (by simp only [haveP, bsq, q1, q2, q6, q7, q8]), HF.out.kept⟩
  refine cB (p_rightBucket m.bk es ls c _ HB (HRE.out.no HF.out.kept) (HRL.out.no HF.out.kept) hne hnl) q8 HF fun w20 HF => tK (.bool true) <| tK (.bool true) <| WL.nil <| ?_
  try simp only [pS]
  go_wp2
  rw [HC.out]
  exact ⟨ret_bool (by simp only [haveP, bsq, q1, q2, q6, q7, q8]), HF.out.kept⟩
theorem p_rightFields (m : Mg) (bs : List Int) (es : List En) (ls : List La) (cs : List Cm) (c : Cg) (w : World) (hb : 0 ≤ c.bl ∧ c.bl ≤ 4096) (h1 : RdB w m.bl bs) (h2 : RdE w m.bk.e es) (h3 : RdL w m.bk.l ls) (h4 : RdC w m.cm cs) (hnb : m.bl.l ≤ 281474976710656) (hne : m.bk.e.l ≤ 281474976710656) (hnl : m.bk.l.l ≤ 281474976710656) (hnc : m.cm.l ≤ 281474976710656) : Calls Tryz.prog 90 #[.agg (Mg.cells m), .agg (Cg.cells c)] w (fun e w' => e = .returned (.bool (fldsP c.bl c.rm m bs es ls cs)) ∧ Kept No w w') := by
  refine hidC fun C HC => ?_
  have HB : Hid (0 ≤ c.bl ∧ c.bl ≤ 4096) := hb
  clear hb
  have HRB : Hid (RdB w m.bl bs) := h1
  clear h1
  have HRE : Hid (RdE w m.bk.e es) := h2
  clear h2
  have HRL : Hid (RdL w m.bk.l ls) := h3
  clear h3
  have HRC : Hid (RdC w m.cm cs) := h4
  clear h4
  have HF : Hid (Fq No w w []) := Fq.start _ _
  go_enter Tryz.func90, Tryz.ntmps90
  go_upto_region 0 with fail
  refine WL.start <| xB (Mg.cells m) HF fun g1 w2 HF => xB (Cg.cells c) HF fun g3 w4 HF => tK (.bool false) <| WL.nil <| ?_
  try simp only [pS]
  go_upto_region 1 with fail
  refine WL.start <| tK (pg g1 0) <| lD (.int .i64 m.k) HF 0 0 U3 rfl <| WL.nil <| ?_
  try simp only [pS]
  go_upto_region 2 with fail
  refine WL.start <| ?_
  cases q1 : (m.k == 2)
  rotate_left
  ·skip
   refine bN (eI q1) <| tK (.bool true) <| WL.nil <| ?_
   try simp only [pS]
   go_upto_region 3 with fail
   refine WL.start <| tK (pg g1 11) <| lP (Sp.cs m.st) HF 0 11 U34 S34 (Mg.cs m) rfl <| ?_
   try simp only [pS]
   cases q31 : (oneS m.st)
   ·skip
    refine cB (p_isOne m.st _) q31 HF fun w33 HF => tK (.bool false) <| sK <| sK <| sK <| sK <| sK <| sK <| tK (.bool false) <| tK (.bool false) <| WL.nil <| ?_
    try simp only [pS]
    go_wp2
    rw [HC.out]
    exact ⟨ret_bool (by simp only [fldsP, bsq, q1, q31]), HF.out.kept⟩
   refine cB (p_isOne m.st _) q31 HF fun w34 HF => tK (.bool true) <| tK (pg g1 15) <| lD (m.bl.v) HF 0 15 U35 rfl <| tK (.int .i64 ((m.bl.l : Nat) : Int)) <| tK (pg g3 4) <| lD (.int .i64 c.bl) HF 1 4 U3 rfl <| ?_
   try simp only [pS]
   cases q32 : (((m.bl.l : Nat) : Int) == c.bl)
   ·skip
    refine bN (eI q32) <| tK (.bool false) <| tK (.bool false) <| WL.nil <| ?_
    try simp only [pS]
    go_wp2
    rw [HC.out]
    exact ⟨ret_bool (by simp only [fldsP, bsq, q1, q31, q32]), HF.out.kept⟩
   refine bN (eI q32) <| tK (.bool true) <| tK (.bool true) <| WL.nil <| ?_
   try simp only [pS]
   go_wp2
   rw [HC.out]
   exact ⟨ret_bool (by simp only [fldsP, bsq, q1, q31, q32]), HF.out.kept⟩
  refine bN (eI q1) <| tK (.bool false) <| WL.nil <| ?_
  try simp only [pS]
  go_upto_region 4 with fail
  refine WL.start <| ?_
  cases q2 : (m.k == 11)
  rotate_left
  ·skip
   refine bN (eI q2) <| tK (.bool true) <| WL.nil <| ?_
   try simp only [pS]
   go_upto_region 5 with fail
   refine WL.start <| tK (pg g1 11) <| lP (Sp.cs m.st) HF 0 11 U34 S34 (Mg.cs m) rfl <| tK (pg g1 15) <| lD (m.bl.v) HF 0 15 U35 rfl <| bD (Bl.cells ⟨m.st, m.bl⟩) <| lP (Cg.cs c) HF 1 0 U24 S24 (Cg.cs c) rfl <| ?_
   try simp only [pS]
   cases q30 : (blkB c.bl ⟨m.st, m.bl⟩ bs)
   ·skip
    refine cB (p_rightBlock ⟨m.st, m.bl⟩ c bs _ (HRB.out.no HF.out.kept) hnb) q30 HF fun w31 HF => tK (.bool false) <| WL.nil <| ?_
    try simp only [pS]
    go_wp2
    rw [HC.out]
    exact ⟨ret_bool (by simp only [fldsP, bsq, q1, q2, q30]), HF.out.kept⟩
   refine cB (p_rightBlock ⟨m.st, m.bl⟩ c bs _ (HRB.out.no HF.out.kept) hnb) q30 HF fun w32 HF => tK (.bool true) <| WL.nil <| ?_
   try simp only [pS]
   go_wp2
   rw [HC.out]
   exact ⟨ret_bool (by simp only [fldsP, bsq, q1, q2, q30]), HF.out.kept⟩
  refine bN (eI q2) <| tK (.bool false) <| WL.nil <| ?_
  try simp only [pS]
  go_upto_region 6 with fail
  refine WL.start <| ?_
  cases q3 : (m.k == 3)
  rotate_left
  ·skip
   refine bN (eI q3) <| tK (.bool true) <| WL.nil <| ?_
   try simp only [pS]
   go_upto_region 9 with fail
   refine WL.start <| tK (pg g1 11) <| lP (Sp.cs m.st) HF 0 11 U34 S34 (Mg.cs m) rfl <| ?_
   try simp only [pS]
   cases q29 : (oneS m.st)
   ·skip
    refine cB (p_isOne m.st _) q29 HF fun w29 HF => tK (.bool false) <| WL.nil <| ?_
    try simp only [pS]
    go_wp2
    rw [HC.out]
    exact ⟨ret_bool (by simp only [fldsP, bsq, q1, q2, q3, q29]), HF.out.kept⟩
   refine cB (p_isOne m.st _) q29 HF fun w30 HF => tK (.bool true) <| WL.nil <| ?_
   try simp only [pS]
   go_wp2
   rw [HC.out]
   exact ⟨ret_bool (by simp only [fldsP, bsq, q1, q2, q3, q29]), HF.out.kept⟩
  refine bN (eI q3) <| tK (.bool false) <| WL.nil <| ?_
  try simp only [pS]
  go_upto_region 7 with fail
  refine WL.start <| ?_
  cases q4 : (m.k == 14)
  rotate_left
  ·skip
   refine bN (eI q4) <| tK (.bool true) <| WL.nil <| ?_
   try simp only [pS]
   go_upto_region 9 with fail
   refine WL.start <| tK (pg g1 11) <| lP (Sp.cs m.st) HF 0 11 U34 S34 (Mg.cs m) rfl <| ?_
   try simp only [pS]
   cases q28 : (oneS m.st)
   ·skip
    refine cB (p_isOne m.st _) q28 HF fun w27 HF => tK (.bool false) <| WL.nil <| ?_
    try simp only [pS]
    go_wp2
    rw [HC.out]
    exact ⟨ret_bool (by simp only [fldsP, bsq, q1, q2, q3, q4, q28]), HF.out.kept⟩
   refine cB (p_isOne m.st _) q28 HF fun w28 HF => tK (.bool true) <| WL.nil <| ?_
   try simp only [pS]
   go_wp2
   rw [HC.out]
   exact ⟨ret_bool (by simp only [fldsP, bsq, q1, q2, q3, q4, q28]), HF.out.kept⟩
  refine bN (eI q4) <| tK (.bool false) <| WL.nil <| ?_
  try simp only [pS]
  go_upto_region 8 with fail
  refine WL.start <| ?_
  cases q5 : (m.k == 15)
  rotate_left
  ·skip
   refine bN (eI q5) <| tK (.bool true) <| WL.nil <| ?_
   try simp only [pS]
   go_upto_region 9 with fail
   refine WL.start <| tK (pg g1 11) <| lP (Sp.cs m.st) HF 0 11 U34 S34 (Mg.cs m) rfl <| ?_
   try simp only [pS]
   cases q27 : (oneS m.st)
   ·skip
    refine cB (p_isOne m.st _) q27 HF fun w25 HF => tK (.bool false) <| WL.nil <| ?_
    try simp only [pS]
    go_wp2
    rw [HC.out]
    exact ⟨ret_bool (by simp only [fldsP, bsq, q1, q2, q3, q4, q5, q27]), HF.out.kept⟩
   refine cB (p_isOne m.st _) q27 HF fun w26 HF => tK (.bool true) <| WL.nil <| ?_
   try simp only [pS]
   go_wp2
   rw [HC.out]
   exact ⟨ret_bool (by simp only [fldsP, bsq, q1, q2, q3, q4, q5, q27]), HF.out.kept⟩
  refine bN (eI q5) <| tK (.bool false) <| WL.nil <| ?_
  try simp only [pS]
  go_upto_region 10 with fail
  refine WL.start <| ?_
  cases q6 : (m.k == 4)
  rotate_left
  ·skip
   refine bN (eI q6) <| tK (.bool true) <| WL.nil <| ?_
   try simp only [pS]
   go_upto_region 11 with fail
   refine WL.start <| tK (pg g1 11) <| lP (Sp.cs m.st) HF 0 11 U34 S34 (Mg.cs m) rfl <| ?_
   try simp only [pS]
   cases q25 : (oneS m.st)
   ·skip
    refine cB (p_isOne m.st _) q25 HF fun w21 HF => tK (.bool false) <| sK <| sK <| sK <| sK <| tK (.bool false) <| tK (.bool false) <| WL.nil <| ?_
    try simp only [pS]
    go_wp2
    rw [HC.out]
    exact ⟨ret_bool (by simp only [fldsP, bsq, q1, q2, q3, q4, q5, q6, q25]), HF.out.kept⟩
   refine cB (p_isOne m.st _) q25 HF fun w22 HF => tK (.bool true) <| tK (pg g1 16) <| lP (Cm.cs m.c) HF 0 16 U39 S39 (Mg.cs m) rfl <| lP (Cg.cs c) HF 1 0 U24 S24 (Cg.cs c) rfl <| ?_
   try simp only [pS]
   cases q26 : (cmdP c.bl m.c)
   ·skip
    refine cB (p_rightCommand m.c c _ HB) q26 HF fun w23 HF => tK (.bool false) <| tK (.bool false) <| WL.nil <| ?_
    try simp only [pS]
    go_wp2
    rw [HC.out]
    exact ⟨ret_bool (by simp only [fldsP, bsq, q1, q2, q3, q4, q5, q6, q25, q26]), HF.out.kept⟩
   refine cB (p_rightCommand m.c c _ HB) q26 HF fun w24 HF => tK (.bool true) <| tK (.bool true) <| WL.nil <| ?_
   try simp only [pS]
   go_wp2
   rw [HC.out]
   exact ⟨ret_bool (by simp only [fldsP, bsq, q1, q2, q3, q4, q5, q6, q25, q26]), HF.out.kept⟩
  refine bN (eI q6) <| tK (.bool false) <| WL.nil <| ?_
  try simp only [pS]
  go_upto_region 12 with fail
  refine WL.start <| ?_
  cases q7 : (m.k == 5)
  rotate_left
  ·skip
   refine bN (eI q7) <| tK (.bool true) <| WL.nil <| ?_
   try simp only [pS]
   go_upto_region 14 with fail
   refine WL.start <| tK (pg g1 16) <| lP (Cm.cs m.c) HF 0 16 U39 S39 (Mg.cs m) rfl <| lP (Cg.cs c) HF 1 0 U24 S24 (Cg.cs c) rfl <| ?_
   try simp only [pS]
   cases q24 : (cmdP c.bl m.c)
   ·skip
    refine cB (p_rightCommand m.c c _ HB) q24 HF fun w19 HF => tK (.bool false) <| WL.nil <| ?_
    try simp only [pS]
    go_wp2
    rw [HC.out]
    exact ⟨ret_bool (by simp only [fldsP, bsq, q1, q2, q3, q4, q5, q6, q7, q24]), HF.out.kept⟩
   refine cB (p_rightCommand m.c c _ HB) q24 HF fun w20 HF => tK (.bool true) <| WL.nil <| ?_
   try simp only [pS]
   go_wp2
   rw [HC.out]
   exact ⟨ret_bool (by simp only [fldsP, bsq, q1, q2, q3, q4, q5, q6, q7, q24]), HF.out.kept⟩
  refine bN (eI q7) <| tK (.bool false) <| WL.nil <| ?_
  try simp only [pS]
  go_upto_region 13 with fail
  refine WL.start <| ?_
  cases q8 : (m.k == 16)
  rotate_left
  ·skip
   refine bN (eI q8) <| tK (.bool true) <| WL.nil <| ?_
   try simp only [pS]
   go_upto_region 14 with fail
   refine WL.start <| tK (pg g1 16) <| lP (Cm.cs m.c) HF 0 16 U39 S39 (Mg.cs m) rfl <| lP (Cg.cs c) HF 1 0 U24 S24 (Cg.cs c) rfl <| ?_
   try simp only [pS]
   cases q23 : (cmdP c.bl m.c)
   ·skip
    refine cB (p_rightCommand m.c c _ HB) q23 HF fun w17 HF => tK (.bool false) <| WL.nil <| ?_
    try simp only [pS]
    go_wp2
    rw [HC.out]
    exact ⟨ret_bool (by simp only [fldsP, bsq, q1, q2, q3, q4, q5, q6, q7, q8, q23]), HF.out.kept⟩
   refine cB (p_rightCommand m.c c _ HB) q23 HF fun w18 HF => tK (.bool true) <| WL.nil <| ?_
   try simp only [pS]
   go_wp2
   rw [HC.out]
   exact ⟨ret_bool (by simp only [fldsP, bsq, q1, q2, q3, q4, q5, q6, q7, q8, q23]), HF.out.kept⟩
  refine bN (eI q8) <| tK (.bool false) <| WL.nil <| ?_
  try simp only [pS]
  go_upto_region 15 with fail
  refine WL.start <| ?_
  cases q9 : (m.k == 13)
  rotate_left
  ·skip
   refine bN (eI q9) <| tK (.bool true) <| WL.nil <| ?_
   try simp only [pS]
   go_upto_region 16 with fail
   refine WL.start <| tK (pg g1 11) <| lP (Sp.cs m.st) HF 0 11 U34 S34 (Mg.cs m) rfl <| ?_
   try simp only [pS]
   cases q21 : (oneS m.st)
   ·skip
    refine cB (p_isOne m.st _) q21 HF fun w13 HF => tK (.bool false) <| sK <| sK <| sK <| sK <| sK <| sK <| sK <| sK <| tK (.bool false) <| tK (.bool false) <| WL.nil <| ?_
    try simp only [pS]
    go_wp2
    rw [HC.out]
    exact ⟨ret_bool (by simp only [fldsP, bsq, q1, q2, q3, q4, q5, q6, q7, q8, q9, q21]), HF.out.kept⟩
   refine cB (p_isOne m.st _) q21 HF fun w14 HF => tK (.bool true) <| tK (pg g1 11) <| lP (Sp.cs m.st) HF 0 11 U34 S34 (Mg.cs m) rfl <| tK (pg g1 13) <| lP (Sp.cs m.hd) HF 0 13 U34 S34 (Mg.cs m) rfl <| tK (pg g1 16) <| lP (Cm.cs m.c) HF 0 16 U39 S39 (Mg.cs m) rfl <| lP (Cg.cs c) HF 1 0 U24 S24 (Cg.cs c) rfl <| ?_
   try simp only [pS]
   cases q22 : (heldP c.bl m.st m.hd m.c)
   ·skip
    refine cB (p_rightHeld m.st m.hd m.c c _ HB) q22 HF fun w15 HF => tK (.bool false) <| tK (.bool false) <| WL.nil <| ?_
    try simp only [pS]
    go_wp2
    rw [HC.out]
    exact ⟨ret_bool (by simp only [fldsP, bsq, q1, q2, q3, q4, q5, q6, q7, q8, q9, q21, q22]), HF.out.kept⟩
   refine cB (p_rightHeld m.st m.hd m.c c _ HB) q22 HF fun w16 HF => tK (.bool true) <| tK (.bool true) <| WL.nil <| ?_
   try simp only [pS]
   go_wp2
   rw [HC.out]
   exact ⟨ret_bool (by simp only [fldsP, bsq, q1, q2, q3, q4, q5, q6, q7, q8, q9, q21, q22]), HF.out.kept⟩
  refine bN (eI q9) <| tK (.bool false) <| WL.nil <| ?_
  try simp only [pS]
  go_upto_region 17 with fail
  refine WL.start <| ?_
  cases q10 : (m.k == 17)
  rotate_left
  ·skip
   refine bN (eI q10) <| tK (.bool true) <| WL.nil <| ?_
   try simp only [pS]
   go_upto_region 18 with fail
   refine WL.start <| tK (pg g1 25) <| lP (Bv.cs m.bk) HF 0 25 U43 S43 (Mg.cs m) rfl <| lP (Cg.cs c) HF 1 0 U24 S24 (Cg.cs c) rfl <| ?_
   try simp only [pS]
   cases q19 : (bktP c.bl c.rm m.bk es ls)
   ·skip
    refine cB (p_rightBucket m.bk es ls c _ HB (HRE.out.no HF.out.kept) (HRL.out.no HF.out.kept) hne hnl) q19 HF fun w11 HF => tK (.bool false) <| sK <| sK <| sK <| sK <| sK <| sK <| sK <| tK (.bool false) <| tK (.bool false) <| WL.nil <| ?_
    try simp only [pS]
    go_wp2
    rw [HC.out]
    exact ⟨ret_bool (by simp only [fldsP, bsq, q1, q2, q3, q4, q5, q6, q7, q8, q9, q10, q19]), HF.out.kept⟩
   refine cB (p_rightBucket m.bk es ls c _ HB (HRE.out.no HF.out.kept) (HRL.out.no HF.out.kept) hne hnl) q19 HF fun w12 HF => tK (.bool true) <| tK (pg g1 25) <| tK (pg g1 25) <| lD (.int .i64 m.bk.up) HF 0 25 U3 rfl <| tK (pg g1 7) <| tK (pg g1 9) <| lD (.int .i64 m.ky.b) HF 0 9 U3 rfl <| ?_
   try simp only [pS]
   cases q20 : (decide (m.ky.b ≤ m.bk.up))
   ·skip
    refine bN (geI q20) <| tK (.bool false) <| tK (.bool false) <| WL.nil <| ?_
    try simp only [pS]
    go_wp2
    rw [HC.out]
    exact ⟨ret_bool (by simp only [fldsP, bsq, q1, q2, q3, q4, q5, q6, q7, q8, q9, q10, q19, q20]), HF.out.kept⟩
   refine bN (geI q20) <| tK (.bool true) <| tK (.bool true) <| WL.nil <| ?_
   try simp only [pS]
   go_wp2
   rw [HC.out]
   exact ⟨ret_bool (by simp only [fldsP, bsq, q1, q2, q3, q4, q5, q6, q7, q8, q9, q10, q19, q20]), HF.out.kept⟩
  refine bN (eI q10) <| tK (.bool false) <| WL.nil <| ?_
  try simp only [pS]
  go_upto_region 19 with fail
  refine WL.start <| ?_
  cases q11 : (m.k == 21)
  ·skip
   refine bN (eI q11) <| tK (.bool false) <| WL.nil <| ?_
   try simp only [pS]
   go_upto_region 21 with fail
   refine WL.start <| ?_
   cases q12 : (m.k == 22)
   ·skip
    refine bN (eI q12) <| tK (.bool false) <| WL.nil <| ?_
    try simp only [pS]
    go_upto_region 23 with fail
    refine WL.start <| tK (.bool true) <| WL.nil <| ?_
    try simp only [pS]
    go_wp2
    rw [HC.out]
    exact ⟨ret_bool (by simp only [fldsP, bsq, q1, q2, q3, q4, q5, q6, q7, q8, q9, q10, q11, q12]), HF.out.kept⟩
   refine bN (eI q12) <| tK (.bool true) <| WL.nil <| ?_
   try simp only [pS]
   go_upto_region 22 with fail
   refine WL.start <| lP (Mg.cs m) HF 0 0 U45 S45 (Mg.cs m) rfl <| lP (Cg.cs c) HF 1 0 U24 S24 (Cg.cs c) rfl <| ?_
   try simp only [pS]
   cases q13 : (haveP c.bl c.rm m es ls cs)
   ·skip
    refine cB (p_rightHave m es ls cs c _ HB (HRE.out.no HF.out.kept) (HRL.out.no HF.out.kept) (HRC.out.no HF.out.kept) hne hnl hnc) q13 HF fun w5 HF => tK (.bool false) <| WL.nil <| ?_
    try simp only [pS]
    go_wp2
    rw [HC.out]
    exact ⟨ret_bool (by simp only [fldsP, bsq, q1, q2, q3, q4, q5, q6, q7, q8, q9, q10, q11, q12, q13]), HF.out.kept⟩
   refine cB (p_rightHave m es ls cs c _ HB (HRE.out.no HF.out.kept) (HRL.out.no HF.out.kept) (HRC.out.no HF.out.kept) hne hnl hnc) q13 HF fun w6 HF => tK (.bool true) <| WL.nil <| ?_
   try simp only [pS]
   go_wp2
   rw [HC.out]
   exact ⟨ret_bool (by simp only [fldsP, bsq, q1, q2, q3, q4, q5, q6, q7, q8, q9, q10, q11, q12, q13]), HF.out.kept⟩
  refine bN (eI q11) <| tK (.bool true) <| WL.nil <| ?_
  try simp only [pS]
  go_upto_region 20 with fail
  refine WL.start <| tK (pg g1 7) <| tK (pg g1 7) <| lD (.int .i64 m.ky.k) HF 0 7 U3 rfl <| ?_
  try simp only [pS]
  cases q14 : (m.ky.k == 1)
  rotate_left
  ·skip
   refine bN (eI q14) <| tK (.bool true) <| tK (pg g1 11) <| lP (Sp.cs m.st) HF 0 11 U34 S34 (Mg.cs m) rfl <| ?_
   try simp only [pS]
   cases q17 : (eqS m.st spZ)
   rotate_left
   ·skip
    refine cB (p_isNone m.st _) q17 HF fun w10 HF => tK (.bool true) <| tK (.bool true) <| sK <| sK <| sK <| sK <| sK <| sK <| sK <| sK <| sK <| tK (.bool true) <| tK (.bool true) <| WL.nil <| ?_
    try simp only [pS]
    go_wp2
    rw [HC.out]
    exact ⟨ret_bool (by simp only [fldsP, bsq, q1, q2, q3, q4, q5, q6, q7, q8, q9, q10, q11, q14, q17]), HF.out.kept⟩
   refine cB (p_isNone m.st _) q17 HF fun w9 HF => tK (.bool false) <| tK (.bool false) <| tK (pg g1 7) <| tK (pg g1 7) <| lD (.int .i64 m.ky.k) HF 0 7 U3 rfl <| ?_
   try simp only [pS]
   have q18 : (m.ky.k == 2) = false := by rw [eq_of_beq q14]; rfl
   refine bN (eI q18) <| tK (.bool false) <| sK <| sK <| sK <| tK (.bool false) <| tK (.bool false) <| tK (.bool false) <| WL.nil <| ?_
   try simp only [pS]
   go_wp2
   rw [HC.out]
   exact ⟨ret_bool (by simp only [fldsP, bsq, q1, q2, q3, q4, q5, q6, q7, q8, q9, q10, q11, q14, q17, q18]), HF.out.kept⟩
  refine bN (eI q14) <| tK (.bool false) <| sK <| sK <| sK <| tK (.bool false) <| tK (.bool false) <| tK (pg g1 7) <| tK (pg g1 7) <| lD (.int .i64 m.ky.k) HF 0 7 U3 rfl <| ?_
  try simp only [pS]
  cases q15 : (m.ky.k == 2)
  ·skip
   refine bN (eI q15) <| tK (.bool false) <| sK <| sK <| sK <| tK (.bool false) <| tK (.bool false) <| tK (.bool false) <| WL.nil <| ?_
   try simp only [pS]
   go_wp2
   rw [HC.out]
   exact ⟨ret_bool (by simp only [fldsP, bsq, q1, q2, q3, q4, q5, q6, q7, q8, q9, q10, q11, q14, q15]), HF.out.kept⟩
  refine bN (eI q15) <| tK (.bool true) <| tK (pg g1 11) <| lP (Sp.cs m.st) HF 0 11 U34 S34 (Mg.cs m) rfl <| ?_
  try simp only [pS]
  cases q16 : (frmS m.st)
  ·skip
   refine cB (p_isFrom m.st _) q16 HF fun w7 HF => tK (.bool false) <| tK (.bool false) <| tK (.bool false) <| WL.nil <| ?_
   try simp only [pS]
   go_wp2
   rw [HC.out]
   exact ⟨ret_bool (by simp only [fldsP, bsq, q1, q2, q3, q4, q5, q6, q7, q8, q9, q10, q11, q14, q15, q16]), HF.out.kept⟩
  refine cB (p_isFrom m.st _) q16 HF fun w8 HF => tK (.bool true) <| tK (.bool true) <| tK (.bool true) <| WL.nil <| ?_
  try simp only [pS]
  go_wp2
  rw [HC.out]
  exact ⟨ret_bool (by simp only [fldsP, bsq, q1, q2, q3, q4, q5, q6, q7, q8, q9, q10, q11, q14, q15, q16]), HF.out.kept⟩
end Go.Proofs.YtgdnofacgfjaeaaGreat.Md
