import Derived.Test.YtgdnofacgfjaeaaGreatGa
namespace Go.Proofs.YtgdnofacgfjaeaaGreat.Md
open Go.RowKit
set_option linter.unusedVariables false
set_option linter.unusedSimpArgs false
set_option maxRecDepth 100000 in
set_option maxHeartbeats 4000000 in
theorem r_answers (m : Mg) (bs : List Int) (es : List En) (ls : List La) (c : Cg) (w : World) (hb : 0 ≤ c.bl ∧ c.bl ≤ 4096) (h1 : RdB w m.bl bs) (h2 : RdE w m.bk.e es) (h3 : RdL w m.bk.l ls) (hnb : m.bl.l ≤ 281474976710656) (hne : m.bk.e.l ≤ 281474976710656) (hnl : m.bk.l.l ≤ 281474976710656) : Calls Tryz.prog 97 #[.agg (Mg.cells m), .agg (Cg.cells c)] w (fun e w' => e = .returned (.bool (ansR c.bl c.rm m bs es ls)) ∧ Kept No w w') := by
  refine hidC fun C HC => ?_
  have HB : Hid (0 ≤ c.bl ∧ c.bl ≤ 4096) := hb
  clear hb
  have HRB : Hid (RdB w m.bl bs) := h1
  clear h1
  have HRE : Hid (RdE w m.bk.e es) := h2
  clear h2
  have HRL : Hid (RdL w m.bk.l ls) := h3
  clear h3
  have HF : Hid (Fq No w w []) := Fq.start _ _
  go_enter Tryz.func97, Tryz.ntmps97
  go_upto_region 0 with fail
  refine WL.start <| xB (Mg.cells m) HF fun g1 w2 HF => xB (Cg.cells c) HF fun g3 w4 HF => tK (.bool false) <| WL.nil <| ?_
  try simp only [pS]
  go_upto_region 1 with fail
  refine WL.start <| tK (pg g1 29) <| lD (.bool m.mo) HF 0 29 U4 rfl <| tK (.bool m.mo) <| ?_
  try simp only [pS]
  cases q1 : (m.mo)
  rotate_left
  ·skip
   refine sK <| sK <| sK <| sK <| tK (.bool true) <| tK (.bool true) <| sK <| sK <| sK <| sK <| sK <| sK <| sK <| sK <| sK <| tK (.bool true) <| ?_
   try simp only [pS]
   refine tK (.bool true) <| sK <| sK <| sK <| sK <| sK <| sK <| sK <| sK <| sK <| tK (.bool true) <| WL.nil <| ?_
   try simp only [pS]
   go_upto_region 2 with fail
   refine WL.start <| tK (.bool false) <| WL.nil <| ?_
   try simp only [pS]
   go_wp2
   rw [HC.out]
   exact ⟨ret_bool (by simp only [ansR, bsq, q1]), HF.out.kept⟩
  refine tK (pg g1 28) <| lD (m.cm.v) HF 0 28 U26 rfl <| tK (.int .i64 ((m.cm.l : Nat) : Int)) <| ?_
  try simp only [pS]
  cases q2 : (decide (0 < ((m.cm.l : Nat) : Int)))
  rotate_left
  ·skip
   refine bN (gI q2) <| tK (.bool true) <| tK (.bool true) <| sK <| sK <| sK <| sK <| sK <| sK <| sK <| sK <| sK <| tK (.bool true) <| tK (.bool true) <| sK <| sK <| ?_
   try simp only [pS]
   refine sK <| sK <| sK <| sK <| sK <| sK <| sK <| tK (.bool true) <| WL.nil <| ?_
   try simp only [pS]
   go_upto_region 2 with fail
   refine WL.start <| tK (.bool false) <| WL.nil <| ?_
   try simp only [pS]
   go_wp2
   rw [HC.out]
   exact ⟨ret_bool (by simp only [ansR, bsq, q1, q2]), HF.out.kept⟩
  refine bN (gI q2) <| tK (.bool false) <| tK (.bool false) <| tK (pg g1 0) <| lD (.int .i64 m.k) HF 0 0 U3 rfl <| ?_
  try simp only [pS]
  cases q3 : (m.k == 17)
  rotate_left
  ·skip
   refine bN (nI1 q3) <| tK (.bool false) <| sK <| sK <| sK <| sK <| tK (.bool false) <| tK (.bool false) <| tK (.bool false) <| tK (pg g1 0) <| lD (.int .i64 m.k) HF 0 0 U3 rfl <| ?_
   try simp only [pS]
   have q66 : (m.k == 13) = false := by rw [eq_of_beq q3]; rfl
   refine bN (nI0 q66) <| tK (.bool true) <| tK (pg g1 13) <| lP (Sp.cs m.hd) HF 0 13 U34 S34 (Mg.cs m) rfl <| ?_
   try simp only [pS]
   cases q67 : (eqS m.hd spZ)
   ·skip
    refine cB (r_None m.hd _) q67 HF fun w47 HF => tK (.bool true) <| tK (.bool true) <| tK (.bool true) <| WL.nil <| ?_
    try simp only [pS]
    go_upto_region 2 with fail
    refine WL.start <| tK (.bool false) <| WL.nil <| ?_
    try simp only [pS]
    go_wp2
    rw [HC.out]
    exact ⟨ret_bool (by simp only [ansR, bsq, q1, q2, q3, q66, q67]), HF.out.kept⟩
   refine cB (r_None m.hd _) q67 HF fun w48 HF => tK (.bool false) <| tK (.bool false) <| tK (.bool false) <| WL.nil <| ?_
   try simp only [pS]
   go_upto_region 3 with fail
   refine WL.start <| tK (pg g1 0) <| lD (.int .i64 m.k) HF 0 0 U3 rfl <| ?_
   try simp only [pS]
   have q68 : (m.k == 11) = false := by rw [eq_of_beq q3]; rfl
   refine bN (nI0 q68) <| tK (.bool true) <| tK (pg g1 15) <| lD (m.bl.v) HF 0 15 U35 rfl <| tK (.int .i64 ((m.bl.l : Nat) : Int)) <| ?_
   try simp only [pS]
   cases q69 : (decide (0 < ((m.bl.l : Nat) : Int)))
   rotate_left
   ·skip
    refine bN (gI q69) <| tK (.bool true) <| tK (.bool true) <| sK <| sK <| sK <| sK <| sK <| sK <| sK <| sK <| sK <| sK <| sK <| sK <| sK <| sK <| tK (.bool true) <| WL.nil <| ?_
    try simp only [pS]
    go_upto_region 4 with fail
    refine WL.start <| tK (.bool false) <| WL.nil <| ?_
    try simp only [pS]
    go_wp2
    rw [HC.out]
    exact ⟨ret_bool (by simp only [ansR, bsq, q1, q2, q3, q66, q67, q68, q69]), HF.out.kept⟩
   refine bN (gI q69) <| tK (.bool false) <| tK (.bool false) <| tK (pg g1 0) <| lD (.int .i64 m.k) HF 0 0 U3 rfl <| bN (nI0 q66) <| tK (.bool true) <| tK (pg g1 0) <| lD (.int .i64 m.k) HF 0 0 U3 rfl <| ?_
   try simp only [pS]
   have q70 : (m.k == 16) = false := by rw [eq_of_beq q3]; rfl
   refine bN (nI0 q70) <| tK (.bool true) <| tK (.bool true) <| tK (pg g1 16) <| lP (Cm.cs m.c) HF 0 16 U39 S39 (Mg.cs m) rfl <| ?_
   try simp only [pS]
   cases q71 : (eqC m.c cZ)
   ·skip
    refine cB (r_none m.c _) q71 HF fun w49 HF => tK (.bool true) <| tK (.bool true) <| tK (.bool true) <| WL.nil <| ?_
    try simp only [pS]
    go_upto_region 4 with fail
    refine WL.start <| tK (.bool false) <| WL.nil <| ?_
    try simp only [pS]
    go_wp2
    rw [HC.out]
    exact ⟨ret_bool (by simp only [ansR, bsq, q1, q2, q3, q66, q67, q68, q69, q70, q71]), HF.out.kept⟩
   refine cB (r_none m.c _) q71 HF fun w50 HF => tK (.bool false) <| tK (.bool false) <| tK (.bool false) <| WL.nil <| ?_
   try simp only [pS]
   go_upto_region 5 with fail
   refine WL.start <| tK (pg g1 7) <| tK (pg g1 7) <| lD (.int .i64 m.ky.k) HF 0 7 U3 rfl <| ?_
   try simp only [pS]
   cases q72 : (m.ky.k == 1)
   rotate_left
   ·skip
    refine bN (eI q72) <| tK (.bool true) <| WL.nil <| ?_
    try simp only [pS]
    go_upto_region 6 with fail
    refine WL.start <| tK (pg g1 7) <| tK (pg g1 7) <| lD (.int .i64 m.ky.k) HF 0 7 U3 rfl <| ?_
    try simp only [pS]
    have q83 : (m.ky.k == 3) = false := by rw [eq_of_beq q72]; rfl
    refine bN (eI q83) <| tK (.bool false) <| WL.nil <| ?_
    try simp only [pS]
    go_upto_region 7 with fail
    refine WL.start <| tK (pg g1 0) <| lD (.int .i64 m.k) HF 0 0 U3 rfl <| WL.nil <| ?_
    try simp only [pS]
    go_upto_region 8 with fail
    refine WL.start <| bN (eI q68) <| tK (.bool false) <| WL.nil <| ?_
    try simp only [pS]
    go_upto_region 10 with fail
    refine WL.start <| ?_
    have q84 : (m.k == 12) = false := by rw [eq_of_beq q3]; rfl
    refine bN (eI q84) <| tK (.bool false) <| WL.nil <| ?_
    try simp only [pS]
    go_upto_region 12 with fail
    refine WL.start <| bN (eI q66) <| tK (.bool false) <| WL.nil <| ?_
    try simp only [pS]
    go_upto_region 16 with fail
    refine WL.start <| ?_
    have q85 : (m.k == 14) = false := by rw [eq_of_beq q3]; rfl
    refine bN (eI q85) <| tK (.bool false) <| WL.nil <| ?_
    try simp only [pS]
    go_upto_region 17 with fail
    refine WL.start <| ?_
    have q86 : (m.k == 15) = false := by rw [eq_of_beq q3]; rfl
    refine bN (eI q86) <| tK (.bool false) <| WL.nil <| ?_
    try simp only [pS]
    go_upto_region 19 with fail
    refine WL.start <| bN (eI q70) <| tK (.bool false) <| WL.nil <| ?_
    try simp only [pS]
    go_upto_region 21 with fail
    refine WL.start <| tK (.bool false) <| tK (.bool false) <| sK <| sK <| sK <| tK (.bool false) <| tK (.bool false) <| sK <| sK <| sK <| sK <| tK (.bool false) <| tK (.bool false) <| sK <| sK <| ?_
    try simp only [pS]
    refine sK <| sK <| sK <| sK <| sK <| tK (.bool false) <| tK (.bool false) <| WL.nil <| ?_
    try simp only [pS]
    go_wp2
    rw [HC.out]
    exact ⟨ret_bool (by simp only [ansR, bsq, q1, q2, q3, q66, q67, q68, q69, q70, q71, q72, q83, q84, q85, q86]), HF.out.kept⟩
   refine bN (eI q72) <| tK (.bool false) <| WL.nil <| ?_
   try simp only [pS]
   go_upto_region 6 with fail
   refine WL.start <| tK (pg g1 7) <| tK (pg g1 7) <| lD (.int .i64 m.ky.k) HF 0 7 U3 rfl <| ?_
   try simp only [pS]
   cases q73 : (m.ky.k == 3)
   ·skip
    refine bN (eI q73) <| tK (.bool false) <| WL.nil <| ?_
    try simp only [pS]
    go_upto_region 7 with fail
    refine WL.start <| tK (pg g1 0) <| lD (.int .i64 m.k) HF 0 0 U3 rfl <| WL.nil <| ?_
    try simp only [pS]
    go_upto_region 8 with fail
    refine WL.start <| bN (eI q68) <| tK (.bool false) <| WL.nil <| ?_
    try simp only [pS]
    go_upto_region 10 with fail
    refine WL.start <| ?_
    have q74 : (m.k == 12) = false := by rw [eq_of_beq q3]; rfl
    refine bN (eI q74) <| tK (.bool false) <| WL.nil <| ?_
    try simp only [pS]
    go_upto_region 12 with fail
    refine WL.start <| bN (eI q66) <| tK (.bool false) <| WL.nil <| ?_
    try simp only [pS]
    go_upto_region 16 with fail
    refine WL.start <| ?_
    have q75 : (m.k == 14) = false := by rw [eq_of_beq q3]; rfl
    refine bN (eI q75) <| tK (.bool false) <| WL.nil <| ?_
    try simp only [pS]
    go_upto_region 17 with fail
    refine WL.start <| ?_
    have q76 : (m.k == 15) = false := by rw [eq_of_beq q3]; rfl
    refine bN (eI q76) <| tK (.bool false) <| WL.nil <| ?_
    try simp only [pS]
    go_upto_region 19 with fail
    refine WL.start <| bN (eI q70) <| tK (.bool false) <| WL.nil <| ?_
    try simp only [pS]
    go_upto_region 21 with fail
    refine WL.start <| tK (.bool false) <| tK (.bool false) <| sK <| sK <| sK <| tK (.bool false) <| tK (.bool false) <| sK <| sK <| sK <| sK <| tK (.bool false) <| tK (.bool false) <| sK <| sK <| ?_
    try simp only [pS]
    refine sK <| sK <| sK <| sK <| sK <| tK (.bool false) <| tK (.bool false) <| WL.nil <| ?_
    try simp only [pS]
    go_wp2
    rw [HC.out]
    exact ⟨ret_bool (by simp only [ansR, bsq, q1, q2, q3, q66, q67, q68, q69, q70, q71, q72, q73, q74, q75, q76]), HF.out.kept⟩
   refine bN (eI q73) <| tK (.bool true) <| WL.nil <| ?_
   try simp only [pS]
   go_upto_region 7 with fail
   refine WL.start <| tK (pg g1 0) <| lD (.int .i64 m.k) HF 0 0 U3 rfl <| WL.nil <| ?_
   try simp only [pS]
   go_upto_region 8 with fail
   refine WL.start <| bN (eI q68) <| tK (.bool false) <| WL.nil <| ?_
   try simp only [pS]
   go_upto_region 10 with fail
   refine WL.start <| ?_
   have q77 : (m.k == 12) = false := by rw [eq_of_beq q3]; rfl
   refine bN (eI q77) <| tK (.bool false) <| WL.nil <| ?_
   try simp only [pS]
   go_upto_region 12 with fail
   refine WL.start <| bN (eI q66) <| tK (.bool false) <| WL.nil <| ?_
   try simp only [pS]
   go_upto_region 16 with fail
   refine WL.start <| ?_
   have q78 : (m.k == 14) = false := by rw [eq_of_beq q3]; rfl
   refine bN (eI q78) <| tK (.bool false) <| WL.nil <| ?_
   try simp only [pS]
   go_upto_region 17 with fail
   refine WL.start <| ?_
   have q79 : (m.k == 15) = false := by rw [eq_of_beq q3]; rfl
   refine bN (eI q79) <| tK (.bool false) <| WL.nil <| ?_
   try simp only [pS]
   go_upto_region 19 with fail
   refine WL.start <| bN (eI q70) <| tK (.bool false) <| WL.nil <| ?_
   try simp only [pS]
   go_upto_region 21 with fail
   refine WL.start <| tK (.bool true) <| tK (.bool true) <| tK (pg g1 11) <| lP (Sp.cs m.st) HF 0 11 U34 S34 (Mg.cs m) rfl <| ?_
   try simp only [pS]
   cases q80 : (eqS m.st spZ)
   ·skip
    refine cB (r_None m.st _) q80 HF fun w51 HF => tK (.bool false) <| tK (.bool false) <| sK <| sK <| sK <| sK <| tK (.bool false) <| tK (.bool false) <| sK <| sK <| sK <| sK <| sK <| sK <| sK <| tK (.bool false) <| tK (.bool false) <| WL.nil <| ?_
    try simp only [pS]
    go_wp2
    rw [HC.out]
    exact ⟨ret_bool (by simp only [ansR, bsq, q1, q2, q3, q66, q67, q68, q69, q70, q71, q72, q73, q77, q78, q79, q80]), HF.out.kept⟩
   refine cB (r_None m.st _) q80 HF fun w52 HF => tK (.bool true) <| tK (.bool true) <| tK (pg g1 25) <| lP (Bv.cs m.bk) HF 0 25 U43 S43 (Mg.cs m) rfl <| lP (Cg.cs c) HF 1 0 U24 S24 (Cg.cs c) rfl <| ?_
   try simp only [pS]
   cases q81 : (bktR c.bl c.rm m.bk es ls)
   ·skip
    refine cB (r_IsBucket m.bk es ls c _ HB (HRE.out.no HF.out.kept) (HRL.out.no HF.out.kept) hne hnl) q81 HF fun w53 HF => tK (.bool false) <| tK (.bool false) <| sK <| sK <| sK <| sK <| sK <| sK <| sK <| tK (.bool false) <| tK (.bool false) <| WL.nil <| ?_
    try simp only [pS]
    go_wp2
    rw [HC.out]
    exact ⟨ret_bool (by simp only [ansR, bsq, q1, q2, q3, q66, q67, q68, q69, q70, q71, q72, q73, q77, q78, q79, q80, q81]), HF.out.kept⟩
   refine cB (r_IsBucket m.bk es ls c _ HB (HRE.out.no HF.out.kept) (HRL.out.no HF.out.kept) hne hnl) q81 HF fun w54 HF => tK (.bool true) <| tK (.bool true) <| tK (pg g1 25) <| tK (pg g1 25) <| lD (.int .i64 m.bk.up) HF 0 25 U3 rfl <| tK (pg g1 7) <| tK (pg g1 9) <| lD (.int .i64 m.ky.b) HF 0 9 U3 rfl <| ?_
   try simp only [pS]
   cases q82 : (decide (m.ky.b ≤ m.bk.up))
   ·skip
    refine bN (geI q82) <| tK (.bool false) <| tK (.bool false) <| WL.nil <| ?_
    try simp only [pS]
    go_wp2
    rw [HC.out]
    exact ⟨ret_bool (by simp only [ansR, bsq, q1, q2, q3, q66, q67, q68, q69, q70, q71, q72, q73, q77, q78, q79, q80, q81, q82]), HF.out.kept⟩
   refine bN (geI q82) <| tK (.bool true) <| tK (.bool true) <| WL.nil <| ?_
   try simp only [pS]
   go_wp2
   rw [HC.out]
   exact ⟨ret_bool (by simp only [ansR, bsq, q1, q2, q3, q66, q67, q68, q69, q70, q71, q72, q73, q77, q78, q79, q80, q81, q82]), HF.out.kept⟩
  refine bN (nI0 q3) <| tK (.bool true) <| tK (pg g1 25) <| lP (Bv.cs m.bk) HF 0 25 U43 S43 (Mg.cs m) rfl <| ?_
  try simp only [pS]
  cases q4 : (empK m.bk)
  ·skip
   refine cB (r_empty m.bk _) q4 HF fun w5 HF => tK (.bool true) <| tK (.bool true) <| tK (.bool true) <| tK (.bool true) <| sK <| sK <| sK <| sK <| sK <| sK <| sK <| sK <| sK <| tK (.bool true) <| WL.nil <| ?_
   try simp only [pS]
   go_upto_region 2 with fail
   refine WL.start <| tK (.bool false) <| WL.nil <| ?_
   try simp only [pS]
   go_wp2
   rw [HC.out]
   exact ⟨ret_bool (by simp only [ansR, bsq, q1, q2, q3, q4]), HF.out.kept⟩
  refine cB (r_empty m.bk _) q4 HF fun w6 HF => tK (.bool false) <| tK (.bool false) <| tK (.bool false) <| tK (.bool false) <| tK (pg g1 0) <| lD (.int .i64 m.k) HF 0 0 U3 rfl <| ?_
  try simp only [pS]
  cases q5 : (m.k == 13)
  rotate_left
  ·skip
   refine bN (nI1 q5) <| tK (.bool false) <| sK <| sK <| sK <| sK <| tK (.bool false) <| tK (.bool false) <| WL.nil <| ?_
   try simp only [pS]
   go_upto_region 3 with fail
   refine WL.start <| tK (pg g1 0) <| lD (.int .i64 m.k) HF 0 0 U3 rfl <| ?_
   try simp only [pS]
   have q49 : (m.k == 11) = false := by rw [eq_of_beq q5]; rfl
   refine bN (nI0 q49) <| tK (.bool true) <| tK (pg g1 15) <| lD (m.bl.v) HF 0 15 U35 rfl <| tK (.int .i64 ((m.bl.l : Nat) : Int)) <| ?_
   try simp only [pS]
   cases q50 : (decide (0 < ((m.bl.l : Nat) : Int)))
   rotate_left
   ·skip
    refine bN (gI q50) <| tK (.bool true) <| tK (.bool true) <| sK <| sK <| sK <| sK <| sK <| sK <| sK <| sK <| sK <| sK <| sK <| sK <| sK <| sK <| tK (.bool true) <| WL.nil <| ?_
    try simp only [pS]
    go_upto_region 4 with fail
    refine WL.start <| tK (.bool false) <| WL.nil <| ?_
    try simp only [pS]
    go_wp2
    rw [HC.out]
    exact ⟨ret_bool (by simp only [ansR, bsq, q1, q2, q3, q4, q5, q49, q50]), HF.out.kept⟩
   refine bN (gI q50) <| tK (.bool false) <| tK (.bool false) <| tK (pg g1 0) <| lD (.int .i64 m.k) HF 0 0 U3 rfl <| bN (nI1 q5) <| tK (.bool false) <| sK <| sK <| sK <| tK (.bool false) <| tK (.bool false) <| sK <| sK <| sK <| sK <| tK (.bool false) <| tK (.bool false) <| WL.nil <| ?_
   try simp only [pS]
   go_upto_region 5 with fail
   refine WL.start <| tK (pg g1 7) <| tK (pg g1 7) <| lD (.int .i64 m.ky.k) HF 0 7 U3 rfl <| ?_
   try simp only [pS]
   cases q51 : (m.ky.k == 1)
   rotate_left
   ·skip
    refine bN (eI q51) <| tK (.bool true) <| WL.nil <| ?_
    try simp only [pS]
    go_upto_region 6 with fail
    refine WL.start <| tK (pg g1 7) <| tK (pg g1 7) <| lD (.int .i64 m.ky.k) HF 0 7 U3 rfl <| ?_
    try simp only [pS]
    have q63 : (m.ky.k == 3) = false := by rw [eq_of_beq q51]; rfl
    refine bN (eI q63) <| tK (.bool false) <| WL.nil <| ?_
    try simp only [pS]
    go_upto_region 7 with fail
    refine WL.start <| tK (pg g1 0) <| lD (.int .i64 m.k) HF 0 0 U3 rfl <| WL.nil <| ?_
    try simp only [pS]
    go_upto_region 8 with fail
    refine WL.start <| bN (eI q49) <| tK (.bool false) <| WL.nil <| ?_
    try simp only [pS]
    go_upto_region 10 with fail
    refine WL.start <| ?_
    have q64 : (m.k == 12) = false := by rw [eq_of_beq q5]; rfl
    refine bN (eI q64) <| tK (.bool false) <| WL.nil <| ?_
    try simp only [pS]
    go_upto_region 12 with fail
    refine WL.start <| bN (eI q5) <| tK (.bool true) <| WL.nil <| ?_
    try simp only [pS]
    go_upto_region 13 with fail
    refine WL.start <| tK (pg g1 13) <| lP (Sp.cs m.hd) HF 0 13 U34 S34 (Mg.cs m) rfl <| ?_
    try simp only [pS]
    cases q65 : (eqS m.hd spZ)
    rotate_left
    ·skip
     refine cB (r_None m.hd _) q65 HF fun w46 HF => WL.nil <| ?_
     try simp only [pS]
     go_upto_region 14 with fail
     refine WL.start <| tK (.bool false) <| tK (.bool false) <| sK <| sK <| sK <| tK (.bool false) <| tK (.bool false) <| sK <| sK <| sK <| tK (.bool false) <| tK (.bool false) <| WL.nil <| ?_
     try simp only [pS]
     go_wp2
     rw [HC.out]
     exact ⟨ret_bool (by simp only [ansR, bsq, q1, q2, q3, q4, q5, q49, q50, q51, q63, q64, q65]), HF.out.kept⟩
    refine cB (r_None m.hd _) q65 HF fun w45 HF => WL.nil <| ?_
    try simp only [pS]
    go_upto_region 15 with fail
    refine WL.start <| tK (.bool false) <| tK (.bool false) <| sK <| sK <| sK <| tK (.bool false) <| tK (.bool false) <| sK <| sK <| sK <| tK (.bool false) <| tK (.bool false) <| sK <| sK <| sK <| ?_
    try simp only [pS]
    refine sK <| sK <| sK <| tK (.bool false) <| tK (.bool false) <| sK <| sK <| sK <| sK <| tK (.bool false) <| tK (.bool false) <| WL.nil <| ?_
    try simp only [pS]
    go_wp2
    rw [HC.out]
    exact ⟨ret_bool (by simp only [ansR, bsq, q1, q2, q3, q4, q5, q49, q50, q51, q63, q64, q65]), HF.out.kept⟩
   refine bN (eI q51) <| tK (.bool false) <| WL.nil <| ?_
   try simp only [pS]
   go_upto_region 6 with fail
   refine WL.start <| tK (pg g1 7) <| tK (pg g1 7) <| lD (.int .i64 m.ky.k) HF 0 7 U3 rfl <| ?_
   try simp only [pS]
   cases q52 : (m.ky.k == 3)
   ·skip
    refine bN (eI q52) <| tK (.bool false) <| WL.nil <| ?_
    try simp only [pS]
    go_upto_region 7 with fail
    refine WL.start <| tK (pg g1 0) <| lD (.int .i64 m.k) HF 0 0 U3 rfl <| WL.nil <| ?_
    try simp only [pS]
    go_upto_region 8 with fail
    refine WL.start <| bN (eI q49) <| tK (.bool false) <| WL.nil <| ?_
    try simp only [pS]
    go_upto_region 10 with fail
    refine WL.start <| ?_
    have q53 : (m.k == 12) = false := by rw [eq_of_beq q5]; rfl
    refine bN (eI q53) <| tK (.bool false) <| WL.nil <| ?_
    try simp only [pS]
    go_upto_region 12 with fail
    refine WL.start <| bN (eI q5) <| tK (.bool true) <| WL.nil <| ?_
    try simp only [pS]
    go_upto_region 13 with fail
    refine WL.start <| tK (pg g1 13) <| lP (Sp.cs m.hd) HF 0 13 U34 S34 (Mg.cs m) rfl <| ?_
    try simp only [pS]
    cases q54 : (eqS m.hd spZ)
    rotate_left
    ·skip
     refine cB (r_None m.hd _) q54 HF fun w30 HF => WL.nil <| ?_
     try simp only [pS]
     go_upto_region 14 with fail
     refine WL.start <| tK (.bool false) <| tK (.bool false) <| sK <| sK <| sK <| tK (.bool false) <| tK (.bool false) <| sK <| sK <| sK <| tK (.bool false) <| tK (.bool false) <| WL.nil <| ?_
     try simp only [pS]
     go_wp2
     rw [HC.out]
     exact ⟨ret_bool (by simp only [ansR, bsq, q1, q2, q3, q4, q5, q49, q50, q51, q52, q53, q54]), HF.out.kept⟩
    refine cB (r_None m.hd _) q54 HF fun w29 HF => WL.nil <| ?_
    try simp only [pS]
    go_upto_region 15 with fail
    refine WL.start <| tK (.bool false) <| tK (.bool false) <| sK <| sK <| sK <| tK (.bool false) <| tK (.bool false) <| sK <| sK <| sK <| tK (.bool false) <| tK (.bool false) <| sK <| sK <| sK <| ?_
    try simp only [pS]
    refine sK <| sK <| sK <| tK (.bool false) <| tK (.bool false) <| sK <| sK <| sK <| sK <| tK (.bool false) <| tK (.bool false) <| WL.nil <| ?_
    try simp only [pS]
    go_wp2
    rw [HC.out]
    exact ⟨ret_bool (by simp only [ansR, bsq, q1, q2, q3, q4, q5, q49, q50, q51, q52, q53, q54]), HF.out.kept⟩
   refine bN (eI q52) <| tK (.bool true) <| WL.nil <| ?_
   try simp only [pS]
   go_upto_region 7 with fail
   refine WL.start <| tK (pg g1 0) <| lD (.int .i64 m.k) HF 0 0 U3 rfl <| WL.nil <| ?_
   try simp only [pS]
   go_upto_region 8 with fail
   refine WL.start <| bN (eI q49) <| tK (.bool false) <| WL.nil <| ?_
   try simp only [pS]
   go_upto_region 10 with fail
   refine WL.start <| ?_
   have q55 : (m.k == 12) = false := by rw [eq_of_beq q5]; rfl
   refine bN (eI q55) <| tK (.bool false) <| WL.nil <| ?_
   try simp only [pS]
   go_upto_region 12 with fail
   refine WL.start <| bN (eI q5) <| tK (.bool true) <| WL.nil <| ?_
   try simp only [pS]
   go_upto_region 13 with fail
   refine WL.start <| tK (pg g1 13) <| lP (Sp.cs m.hd) HF 0 13 U34 S34 (Mg.cs m) rfl <| ?_
   try simp only [pS]
   cases q56 : (eqS m.hd spZ)
   rotate_left
   ·skip
    refine cB (r_None m.hd _) q56 HF fun w40 HF => WL.nil <| ?_
    try simp only [pS]
    go_upto_region 14 with fail
    refine WL.start <| tK (.bool true) <| tK (.bool true) <| tK (pg g1 11) <| lP (Sp.cs m.st) HF 0 11 U34 S34 (Mg.cs m) rfl <| ?_
    try simp only [pS]
    cases q61 : (oneS m.st)
    ·skip
     refine cB (r_One m.st _) q61 HF fun w41 HF => tK (.bool false) <| tK (.bool false) <| sK <| sK <| sK <| tK (.bool false) <| tK (.bool false) <| WL.nil <| ?_
     try simp only [pS]
     go_wp2
     rw [HC.out]
     exact ⟨ret_bool (by simp only [ansR, bsq, q1, q2, q3, q4, q5, q49, q50, q51, q52, q55, q56, q61]), HF.out.kept⟩
    refine cB (r_One m.st _) q61 HF fun w42 HF => tK (.bool true) <| tK (.bool true) <| tK (pg g1 16) <| lP (Cm.cs m.c) HF 0 16 U39 S39 (Mg.cs m) rfl <| ?_
    try simp only [pS]
    cases q62 : (eqC m.c cZ)
    ·skip
     refine cB (r_none m.c _) q62 HF fun w43 HF => tK (.bool false) <| tK (.bool false) <| WL.nil <| ?_
     try simp only [pS]
     go_wp2
     rw [HC.out]
     exact ⟨ret_bool (by simp only [ansR, bsq, q1, q2, q3, q4, q5, q49, q50, q51, q52, q55, q56, q61, q62]), HF.out.kept⟩
    refine cB (r_none m.c _) q62 HF fun w44 HF => tK (.bool true) <| tK (.bool true) <| WL.nil <| ?_
    try simp only [pS]
    go_wp2
    rw [HC.out]
    exact ⟨ret_bool (by simp only [ansR, bsq, q1, q2, q3, q4, q5, q49, q50, q51, q52, q55, q56, q61, q62]), HF.out.kept⟩
   refine cB (r_None m.hd _) q56 HF fun w31 HF => WL.nil <| ?_
   try simp only [pS]
   go_upto_region 15 with fail
   refine WL.start <| tK (.bool true) <| tK (.bool true) <| tK (pg g1 11) <| lP (Sp.cs m.st) HF 0 11 U34 S34 (Mg.cs m) rfl <| ?_
   try simp only [pS]
   cases q57 : (oneS m.st)
   ·skip
    refine cB (r_One m.st _) q57 HF fun w32 HF => tK (.bool false) <| tK (.bool false) <| sK <| sK <| sK <| tK (.bool false) <| tK (.bool false) <| sK <| sK <| sK <| sK <| sK <| sK <| tK (.bool false) <| tK (.bool false) <| sK <| sK <| sK <| sK <| tK (.bool false) <| tK (.bool false) <| WL.nil <| ?_
    try simp only [pS]
    go_wp2
    rw [HC.out]
    exact ⟨ret_bool (by simp only [ansR, bsq, q1, q2, q3, q4, q5, q49, q50, q51, q52, q55, q56, q57]), HF.out.kept⟩
   refine cB (r_One m.st _) q57 HF fun w33 HF => tK (.bool true) <| tK (.bool true) <| tK (pg g1 13) <| lP (Sp.cs m.hd) HF 0 13 U34 S34 (Mg.cs m) rfl <| ?_
   try simp only [pS]
   cases q58 : (oneS m.hd)
   ·skip
    refine cB (r_One m.hd _) q58 HF fun w34 HF => tK (.bool false) <| tK (.bool false) <| sK <| sK <| sK <| sK <| sK <| sK <| tK (.bool false) <| tK (.bool false) <| sK <| sK <| sK <| sK <| tK (.bool false) <| tK (.bool false) <| WL.nil <| ?_
    try simp only [pS]
    go_wp2
    rw [HC.out]
    exact ⟨ret_bool (by simp only [ansR, bsq, q1, q2, q3, q4, q5, q49, q50, q51, q52, q55, q56, q57, q58]), HF.out.kept⟩
   refine cB (r_One m.hd _) q58 HF fun w35 HF => tK (.bool true) <| tK (.bool true) <| tK (pg g1 13) <| lP (Sp.cs m.hd) HF 0 13 U34 S34 (Mg.cs m) rfl <| tK (pg g1 11) <| lP (Sp.cs m.st) HF 0 11 U34 S34 (Mg.cs m) rfl <| ?_
   try simp only [pS]
   cases q59 : (abvS m.hd m.st)
   rotate_left
   ·skip
    refine cB (r_Above m.hd m.st _) q59 HF fun w39 HF => tK (.bool false) <| tK (.bool false) <| tK (.bool false) <| sK <| sK <| sK <| sK <| tK (.bool false) <| tK (.bool false) <| WL.nil <| ?_
    try simp only [pS]
    go_wp2
    rw [HC.out]
    exact ⟨ret_bool (by simp only [ansR, bsq, q1, q2, q3, q4, q5, q49, q50, q51, q52, q55, q56, q57, q58, q59]), HF.out.kept⟩
   refine cB (r_Above m.hd m.st _) q59 HF fun w36 HF => tK (.bool true) <| tK (.bool true) <| tK (.bool true) <| tK (pg g1 16) <| lP (Cm.cs m.c) HF 0 16 U39 S39 (Mg.cs m) rfl <| lP (Cg.cs c) HF 1 0 U24 S24 (Cg.cs c) rfl <| ?_
   try simp only [pS]
   cases q60 : (cmdR c.bl m.c)
   ·skip
    refine cB (r_IsCommand m.c c _ HB) q60 HF fun w37 HF => tK (.bool false) <| tK (.bool false) <| WL.nil <| ?_
    try simp only [pS]
    go_wp2
    rw [HC.out]
    exact ⟨ret_bool (by simp only [ansR, bsq, q1, q2, q3, q4, q5, q49, q50, q51, q52, q55, q56, q57, q58, q59, q60]), HF.out.kept⟩
   refine cB (r_IsCommand m.c c _ HB) q60 HF fun w38 HF => tK (.bool true) <| tK (.bool true) <| WL.nil <| ?_
   try simp only [pS]
   go_wp2
   rw [HC.out]
   exact ⟨ret_bool (by simp only [ansR, bsq, q1, q2, q3, q4, q5, q49, q50, q51, q52, q55, q56, q57, q58, q59, q60]), HF.out.kept⟩
  refine bN (nI0 q5) <| tK (.bool true) <| tK (pg g1 13) <| lP (Sp.cs m.hd) HF 0 13 U34 S34 (Mg.cs m) rfl <| ?_
  try simp only [pS]
  cases q6 : (eqS m.hd spZ)
  ·skip
   refine cB (r_None m.hd _) q6 HF fun w7 HF => tK (.bool true) <| tK (.bool true) <| tK (.bool true) <| WL.nil <| ?_
   try simp only [pS]
   go_upto_region 2 with fail
   refine WL.start <| tK (.bool false) <| WL.nil <| ?_
   try simp only [pS]
   go_wp2
   rw [HC.out]
   exact ⟨ret_bool (by simp only [ansR, bsq, q1, q2, q3, q4, q5, q6]), HF.out.kept⟩
  refine cB (r_None m.hd _) q6 HF fun w8 HF => tK (.bool false) <| tK (.bool false) <| tK (.bool false) <| WL.nil <| ?_
  try simp only [pS]
  go_upto_region 3 with fail
  refine WL.start <| tK (pg g1 0) <| lD (.int .i64 m.k) HF 0 0 U3 rfl <| ?_
  try simp only [pS]
  cases q7 : (m.k == 11)
  rotate_left
  ·skip
   refine bN (nI1 q7) <| tK (.bool false) <| sK <| sK <| sK <| sK <| tK (.bool false) <| tK (.bool false) <| tK (pg g1 0) <| lD (.int .i64 m.k) HF 0 0 U3 rfl <| bN (nI0 q5) <| tK (.bool true) <| tK (pg g1 0) <| lD (.int .i64 m.k) HF 0 0 U3 rfl <| ?_
   try simp only [pS]
   have q43 : (m.k == 16) = false := by rw [eq_of_beq q7]; rfl
   refine bN (nI0 q43) <| tK (.bool true) <| tK (.bool true) <| tK (pg g1 16) <| lP (Cm.cs m.c) HF 0 16 U39 S39 (Mg.cs m) rfl <| ?_
   try simp only [pS]
   cases q44 : (eqC m.c cZ)
   ·skip
    refine cB (r_none m.c _) q44 HF fun w25 HF => tK (.bool true) <| tK (.bool true) <| tK (.bool true) <| WL.nil <| ?_
    try simp only [pS]
    go_upto_region 4 with fail
    refine WL.start <| tK (.bool false) <| WL.nil <| ?_
    try simp only [pS]
    go_wp2
    rw [HC.out]
    exact ⟨ret_bool (by simp only [ansR, bsq, q1, q2, q3, q4, q5, q6, q7, q43, q44]), HF.out.kept⟩
   refine cB (r_none m.c _) q44 HF fun w26 HF => tK (.bool false) <| tK (.bool false) <| tK (.bool false) <| WL.nil <| ?_
   try simp only [pS]
   go_upto_region 5 with fail
   refine WL.start <| tK (pg g1 7) <| tK (pg g1 7) <| lD (.int .i64 m.ky.k) HF 0 7 U3 rfl <| ?_
   try simp only [pS]
   cases q45 : (m.ky.k == 1)
   rotate_left
   ·skip
    refine bN (eI q45) <| tK (.bool true) <| WL.nil <| ?_
    try simp only [pS]
    go_upto_region 6 with fail
    refine WL.start <| tK (pg g1 7) <| tK (pg g1 7) <| lD (.int .i64 m.ky.k) HF 0 7 U3 rfl <| ?_
    try simp only [pS]
    have q47 : (m.ky.k == 3) = false := by rw [eq_of_beq q45]; rfl
    refine bN (eI q47) <| tK (.bool false) <| WL.nil <| ?_
    try simp only [pS]
    go_upto_region 7 with fail
    refine WL.start <| tK (pg g1 0) <| lD (.int .i64 m.k) HF 0 0 U3 rfl <| WL.nil <| ?_
    try simp only [pS]
    go_upto_region 8 with fail
    refine WL.start <| bN (eI q7) <| tK (.bool true) <| WL.nil <| ?_
    try simp only [pS]
    go_upto_region 9 with fail
    refine WL.start <| tK (.bool true) <| tK (.bool true) <| tK (pg g1 11) <| lP (Sp.cs m.st) HF 0 11 U34 S34 (Mg.cs m) rfl <| tK (pg g1 15) <| lD (m.bl.v) HF 0 15 U35 rfl <| bD (Bl.cells ⟨m.st, m.bl⟩) <| lP (Cg.cs c) HF 1 0 U24 S24 (Cg.cs c) rfl <| ?_
    try simp only [pS]
    cases q48 : (blkB c.bl ⟨m.st, m.bl⟩ bs)
    ·skip
     refine cB (r_IsBlock ⟨m.st, m.bl⟩ c bs _ (HRB.out.no HF.out.kept) hnb) q48 HF fun w27 HF => tK (.bool false) <| tK (.bool false) <| WL.nil <| ?_
     try simp only [pS]
     go_wp2
     rw [HC.out]
     exact ⟨ret_bool (by simp only [ansR, bsq, q1, q2, q3, q4, q5, q6, q7, q43, q44, q45, q47, q48]), HF.out.kept⟩
    refine cB (r_IsBlock ⟨m.st, m.bl⟩ c bs _ (HRB.out.no HF.out.kept) hnb) q48 HF fun w28 HF => tK (.bool true) <| tK (.bool true) <| WL.nil <| ?_
    try simp only [pS]
    go_wp2
    rw [HC.out]
    exact ⟨ret_bool (by simp only [ansR, bsq, q1, q2, q3, q4, q5, q6, q7, q43, q44, q45, q47, q48]), HF.out.kept⟩
   refine bN (eI q45) <| tK (.bool false) <| WL.nil <| ?_
   try simp only [pS]
   go_upto_region 6 with fail
   refine WL.start <| tK (pg g1 7) <| tK (pg g1 7) <| lD (.int .i64 m.ky.k) HF 0 7 U3 rfl <| ?_
   try simp only [pS]
   cases q46 : (m.ky.k == 3)
   ·skip
    refine bN (eI q46) <| tK (.bool false) <| WL.nil <| ?_
    try simp only [pS]
    go_upto_region 7 with fail
    refine WL.start <| tK (pg g1 0) <| lD (.int .i64 m.k) HF 0 0 U3 rfl <| WL.nil <| ?_
    try simp only [pS]
    go_upto_region 8 with fail
    refine WL.start <| bN (eI q7) <| tK (.bool true) <| WL.nil <| ?_
    try simp only [pS]
    go_upto_region 9 with fail
    refine WL.start <| tK (.bool false) <| tK (.bool false) <| sK <| sK <| sK <| sK <| sK <| sK <| sK <| tK (.bool false) <| tK (.bool false) <| WL.nil <| ?_
    try simp only [pS]
    go_wp2
    rw [HC.out]
    exact ⟨ret_bool (by simp only [ansR, bsq, q1, q2, q3, q4, q5, q6, q7, q43, q44, q45, q46]), HF.out.kept⟩
   refine bN (eI q46) <| tK (.bool true) <| WL.nil <| ?_
   try simp only [pS]
   go_upto_region 7 with fail
   refine WL.start <| tK (pg g1 0) <| lD (.int .i64 m.k) HF 0 0 U3 rfl <| WL.nil <| ?_
   try simp only [pS]
   go_upto_region 8 with fail
   refine WL.start <| bN (eI q7) <| tK (.bool true) <| WL.nil <| ?_
   try simp only [pS]
   go_upto_region 9 with fail
   refine WL.start <| tK (.bool false) <| tK (.bool false) <| sK <| sK <| sK <| sK <| sK <| sK <| sK <| tK (.bool false) <| tK (.bool false) <| WL.nil <| ?_
   try simp only [pS]
   go_wp2
   rw [HC.out]
   exact ⟨ret_bool (by simp only [ansR, bsq, q1, q2, q3, q4, q5, q6, q7, q43, q44, q45, q46]), HF.out.kept⟩
  refine bN (nI0 q7) <| tK (.bool true) <| tK (pg g1 15) <| lD (m.bl.v) HF 0 15 U35 rfl <| tK (.int .i64 ((m.bl.l : Nat) : Int)) <| ?_
  try simp only [pS]
  cases q8 : (decide (0 < ((m.bl.l : Nat) : Int)))
  rotate_left
  ·skip
   refine bN (gI q8) <| tK (.bool true) <| tK (.bool true) <| sK <| sK <| sK <| sK <| sK <| sK <| sK <| sK <| sK <| sK <| sK <| sK <| sK <| sK <| tK (.bool true) <| WL.nil <| ?_
   try simp only [pS]
   go_upto_region 4 with fail
   refine WL.start <| tK (.bool false) <| WL.nil <| ?_
   try simp only [pS]
   go_wp2
   rw [HC.out]
   exact ⟨ret_bool (by simp only [ansR, bsq, q1, q2, q3, q4, q5, q6, q7, q8]), HF.out.kept⟩
  refine bN (gI q8) <| tK (.bool false) <| tK (.bool false) <| tK (pg g1 0) <| lD (.int .i64 m.k) HF 0 0 U3 rfl <| bN (nI0 q5) <| tK (.bool true) <| tK (pg g1 0) <| lD (.int .i64 m.k) HF 0 0 U3 rfl <| ?_
  try simp only [pS]
  cases q9 : (m.k == 16)
  rotate_left
  ·skip
   refine bN (nI1 q9) <| tK (.bool false) <| tK (.bool false) <| sK <| sK <| sK <| sK <| tK (.bool false) <| tK (.bool false) <| WL.nil <| ?_
   try simp only [pS]
   go_upto_region 5 with fail
   refine WL.start <| tK (pg g1 7) <| tK (pg g1 7) <| lD (.int .i64 m.ky.k) HF 0 7 U3 rfl <| ?_
   try simp only [pS]
   cases q29 : (m.ky.k == 1)
   rotate_left
   ·skip
    refine bN (eI q29) <| tK (.bool true) <| WL.nil <| ?_
    try simp only [pS]
    go_upto_region 6 with fail
    refine WL.start <| tK (pg g1 7) <| tK (pg g1 7) <| lD (.int .i64 m.ky.k) HF 0 7 U3 rfl <| ?_
    try simp only [pS]
    have q39 : (m.ky.k == 3) = false := by rw [eq_of_beq q29]; rfl
    refine bN (eI q39) <| tK (.bool false) <| WL.nil <| ?_
    try simp only [pS]
    go_upto_region 7 with fail
    refine WL.start <| tK (pg g1 0) <| lD (.int .i64 m.k) HF 0 0 U3 rfl <| WL.nil <| ?_
    try simp only [pS]
    go_upto_region 8 with fail
    refine WL.start <| bN (eI q7) <| tK (.bool false) <| WL.nil <| ?_
    try simp only [pS]
    go_upto_region 10 with fail
    refine WL.start <| ?_
    have q40 : (m.k == 12) = false := by rw [eq_of_beq q9]; rfl
    refine bN (eI q40) <| tK (.bool false) <| WL.nil <| ?_
    try simp only [pS]
    go_upto_region 12 with fail
    refine WL.start <| bN (eI q5) <| tK (.bool false) <| WL.nil <| ?_
    try simp only [pS]
    go_upto_region 16 with fail
    refine WL.start <| ?_
    have q41 : (m.k == 14) = false := by rw [eq_of_beq q9]; rfl
    refine bN (eI q41) <| tK (.bool false) <| WL.nil <| ?_
    try simp only [pS]
    go_upto_region 17 with fail
    refine WL.start <| ?_
    have q42 : (m.k == 15) = false := by rw [eq_of_beq q9]; rfl
    refine bN (eI q42) <| tK (.bool false) <| WL.nil <| ?_
    try simp only [pS]
    go_upto_region 19 with fail
    refine WL.start <| bN (eI q9) <| tK (.bool true) <| WL.nil <| ?_
    try simp only [pS]
    go_upto_region 20 with fail
    refine WL.start <| tK (.bool false) <| tK (.bool false) <| sK <| sK <| sK <| tK (.bool false) <| tK (.bool false) <| sK <| sK <| sK <| sK <| tK (.bool false) <| tK (.bool false) <| WL.nil <| ?_
    try simp only [pS]
    go_wp2
    rw [HC.out]
    exact ⟨ret_bool (by simp only [ansR, bsq, q1, q2, q3, q4, q5, q6, q7, q8, q9, q29, q39, q40, q41, q42]), HF.out.kept⟩
   refine bN (eI q29) <| tK (.bool false) <| WL.nil <| ?_
   try simp only [pS]
   go_upto_region 6 with fail
   refine WL.start <| tK (pg g1 7) <| tK (pg g1 7) <| lD (.int .i64 m.ky.k) HF 0 7 U3 rfl <| ?_
   try simp only [pS]
   cases q30 : (m.ky.k == 3)
   ·skip
    refine bN (eI q30) <| tK (.bool false) <| WL.nil <| ?_
    try simp only [pS]
    go_upto_region 7 with fail
    refine WL.start <| tK (pg g1 0) <| lD (.int .i64 m.k) HF 0 0 U3 rfl <| WL.nil <| ?_
    try simp only [pS]
    go_upto_region 8 with fail
    refine WL.start <| bN (eI q7) <| tK (.bool false) <| WL.nil <| ?_
    try simp only [pS]
    go_upto_region 10 with fail
    refine WL.start <| ?_
    have q31 : (m.k == 12) = false := by rw [eq_of_beq q9]; rfl
    refine bN (eI q31) <| tK (.bool false) <| WL.nil <| ?_
    try simp only [pS]
    go_upto_region 12 with fail
    refine WL.start <| bN (eI q5) <| tK (.bool false) <| WL.nil <| ?_
    try simp only [pS]
    go_upto_region 16 with fail
    refine WL.start <| ?_
    have q32 : (m.k == 14) = false := by rw [eq_of_beq q9]; rfl
    refine bN (eI q32) <| tK (.bool false) <| WL.nil <| ?_
    try simp only [pS]
    go_upto_region 17 with fail
    refine WL.start <| ?_
    have q33 : (m.k == 15) = false := by rw [eq_of_beq q9]; rfl
    refine bN (eI q33) <| tK (.bool false) <| WL.nil <| ?_
    try simp only [pS]
    go_upto_region 19 with fail
    refine WL.start <| bN (eI q9) <| tK (.bool true) <| WL.nil <| ?_
    try simp only [pS]
    go_upto_region 20 with fail
    refine WL.start <| tK (.bool false) <| tK (.bool false) <| sK <| sK <| sK <| tK (.bool false) <| tK (.bool false) <| sK <| sK <| sK <| sK <| tK (.bool false) <| tK (.bool false) <| WL.nil <| ?_
    try simp only [pS]
    go_wp2
    rw [HC.out]
    exact ⟨ret_bool (by simp only [ansR, bsq, q1, q2, q3, q4, q5, q6, q7, q8, q9, q29, q30, q31, q32, q33]), HF.out.kept⟩
   refine bN (eI q30) <| tK (.bool true) <| WL.nil <| ?_
   try simp only [pS]
   go_upto_region 7 with fail
   refine WL.start <| tK (pg g1 0) <| lD (.int .i64 m.k) HF 0 0 U3 rfl <| WL.nil <| ?_
   try simp only [pS]
   go_upto_region 8 with fail
   refine WL.start <| bN (eI q7) <| tK (.bool false) <| WL.nil <| ?_
   try simp only [pS]
   go_upto_region 10 with fail
   refine WL.start <| ?_
   have q34 : (m.k == 12) = false := by rw [eq_of_beq q9]; rfl
   refine bN (eI q34) <| tK (.bool false) <| WL.nil <| ?_
   try simp only [pS]
   go_upto_region 12 with fail
   refine WL.start <| bN (eI q5) <| tK (.bool false) <| WL.nil <| ?_
   try simp only [pS]
   go_upto_region 16 with fail
   refine WL.start <| ?_
   have q35 : (m.k == 14) = false := by rw [eq_of_beq q9]; rfl
   refine bN (eI q35) <| tK (.bool false) <| WL.nil <| ?_
   try simp only [pS]
   go_upto_region 17 with fail
   refine WL.start <| ?_
   have q36 : (m.k == 15) = false := by rw [eq_of_beq q9]; rfl
   refine bN (eI q36) <| tK (.bool false) <| WL.nil <| ?_
   try simp only [pS]
   go_upto_region 19 with fail
   refine WL.start <| bN (eI q9) <| tK (.bool true) <| WL.nil <| ?_
   try simp only [pS]
   go_upto_region 20 with fail
   refine WL.start <| tK (.bool true) <| tK (.bool true) <| tK (pg g1 11) <| lP (Sp.cs m.st) HF 0 11 U34 S34 (Mg.cs m) rfl <| ?_
   try simp only [pS]
   cases q37 : (eqS m.st spZ)
   ·skip
    refine cB (r_None m.st _) q37 HF fun w21 HF => tK (.bool false) <| tK (.bool false) <| sK <| sK <| sK <| sK <| tK (.bool false) <| tK (.bool false) <| WL.nil <| ?_
    try simp only [pS]
    go_wp2
    rw [HC.out]
    exact ⟨ret_bool (by simp only [ansR, bsq, q1, q2, q3, q4, q5, q6, q7, q8, q9, q29, q30, q34, q35, q36, q37]), HF.out.kept⟩
   refine cB (r_None m.st _) q37 HF fun w22 HF => tK (.bool true) <| tK (.bool true) <| tK (pg g1 16) <| lP (Cm.cs m.c) HF 0 16 U39 S39 (Mg.cs m) rfl <| lP (Cg.cs c) HF 1 0 U24 S24 (Cg.cs c) rfl <| ?_
   try simp only [pS]
   cases q38 : (cmdR c.bl m.c)
   ·skip
    refine cB (r_IsCommand m.c c _ HB) q38 HF fun w23 HF => tK (.bool false) <| tK (.bool false) <| WL.nil <| ?_
    try simp only [pS]
    go_wp2
    rw [HC.out]
    exact ⟨ret_bool (by simp only [ansR, bsq, q1, q2, q3, q4, q5, q6, q7, q8, q9, q29, q30, q34, q35, q36, q37, q38]), HF.out.kept⟩
   refine cB (r_IsCommand m.c c _ HB) q38 HF fun w24 HF => tK (.bool true) <| tK (.bool true) <| WL.nil <| ?_
   try simp only [pS]
   go_wp2
   rw [HC.out]
   exact ⟨ret_bool (by simp only [ansR, bsq, q1, q2, q3, q4, q5, q6, q7, q8, q9, q29, q30, q34, q35, q36, q37, q38]), HF.out.kept⟩
  refine bN (nI0 q9) <| tK (.bool true) <| tK (.bool true) <| tK (pg g1 16) <| lP (Cm.cs m.c) HF 0 16 U39 S39 (Mg.cs m) rfl <| ?_
  try simp only [pS]
  cases q10 : (eqC m.c cZ)
  ·skip
   refine cB (r_none m.c _) q10 HF fun w9 HF => tK (.bool true) <| tK (.bool true) <| tK (.bool true) <| WL.nil <| ?_
   try simp only [pS]
   go_upto_region 4 with fail
   refine WL.start <| tK (.bool false) <| WL.nil <| ?_
   try simp only [pS]
   go_wp2
   rw [HC.out]
   exact ⟨ret_bool (by simp only [ansR, bsq, q1, q2, q3, q4, q5, q6, q7, q8, q9, q10]), HF.out.kept⟩
  refine cB (r_none m.c _) q10 HF fun w10 HF => tK (.bool false) <| tK (.bool false) <| tK (.bool false) <| WL.nil <| ?_
  try simp only [pS]
  go_upto_region 5 with fail
  refine WL.start <| tK (pg g1 7) <| tK (pg g1 7) <| lD (.int .i64 m.ky.k) HF 0 7 U3 rfl <| ?_
  try simp only [pS]
  cases q11 : (m.ky.k == 1)
  rotate_left
  ·skip
   refine bN (eI q11) <| tK (.bool true) <| WL.nil <| ?_
   try simp only [pS]
   go_upto_region 6 with fail
   refine WL.start <| tK (pg g1 7) <| tK (pg g1 7) <| lD (.int .i64 m.ky.k) HF 0 7 U3 rfl <| ?_
   try simp only [pS]
   have q24 : (m.ky.k == 3) = false := by rw [eq_of_beq q11]; rfl
   refine bN (eI q24) <| tK (.bool false) <| WL.nil <| ?_
   try simp only [pS]
   go_upto_region 7 with fail
   refine WL.start <| tK (pg g1 0) <| lD (.int .i64 m.k) HF 0 0 U3 rfl <| WL.nil <| ?_
   try simp only [pS]
   go_upto_region 8 with fail
   refine WL.start <| bN (eI q7) <| tK (.bool false) <| WL.nil <| ?_
   try simp only [pS]
   go_upto_region 10 with fail
   refine WL.start <| ?_
   cases q25 : (m.k == 12)
   rotate_left
   ·skip
    refine bN (eI q25) <| tK (.bool true) <| WL.nil <| ?_
    try simp only [pS]
    go_upto_region 11 with fail
    refine WL.start <| tK (.bool true) <| tK (.bool true) <| tK (pg g1 11) <| lP (Sp.cs m.st) HF 0 11 U34 S34 (Mg.cs m) rfl <| ?_
    try simp only [pS]
    cases q28 : (eqS m.st spZ)
    ·skip
     refine cB (r_None m.st _) q28 HF fun w19 HF => tK (.bool false) <| tK (.bool false) <| WL.nil <| ?_
     try simp only [pS]
     go_wp2
     rw [HC.out]
     exact ⟨ret_bool (by simp only [ansR, bsq, q1, q2, q3, q4, q5, q6, q7, q8, q9, q10, q11, q24, q25, q28]), HF.out.kept⟩
    refine cB (r_None m.st _) q28 HF fun w20 HF => tK (.bool true) <| tK (.bool true) <| WL.nil <| ?_
    try simp only [pS]
    go_wp2
    rw [HC.out]
    exact ⟨ret_bool (by simp only [ansR, bsq, q1, q2, q3, q4, q5, q6, q7, q8, q9, q10, q11, q24, q25, q28]), HF.out.kept⟩
   refine bN (eI q25) <| tK (.bool false) <| WL.nil <| ?_
   try simp only [pS]
   go_upto_region 12 with fail
   refine WL.start <| bN (eI q5) <| tK (.bool false) <| WL.nil <| ?_
   try simp only [pS]
   go_upto_region 16 with fail
   refine WL.start <| ?_
   cases q26 : (m.k == 14)
   rotate_left
   ·skip
    refine bN (eI q26) <| tK (.bool true) <| WL.nil <| ?_
    try simp only [pS]
    go_upto_region 18 with fail
    refine WL.start <| tK (.bool false) <| tK (.bool false) <| sK <| sK <| sK <| tK (.bool false) <| tK (.bool false) <| WL.nil <| ?_
    try simp only [pS]
    go_wp2
    rw [HC.out]
    exact ⟨ret_bool (by simp only [ansR, bsq, q1, q2, q3, q4, q5, q6, q7, q8, q9, q10, q11, q24, q25, q26]), HF.out.kept⟩
   refine bN (eI q26) <| tK (.bool false) <| WL.nil <| ?_
   try simp only [pS]
   go_upto_region 17 with fail
   refine WL.start <| ?_
   cases q27 : (m.k == 15)
   rotate_left
   ·skip
    refine bN (eI q27) <| tK (.bool true) <| WL.nil <| ?_
    try simp only [pS]
    go_upto_region 18 with fail
    refine WL.start <| tK (.bool false) <| tK (.bool false) <| sK <| sK <| sK <| tK (.bool false) <| tK (.bool false) <| WL.nil <| ?_
    try simp only [pS]
    go_wp2
    rw [HC.out]
    exact ⟨ret_bool (by simp only [ansR, bsq, q1, q2, q3, q4, q5, q6, q7, q8, q9, q10, q11, q24, q25, q26, q27]), HF.out.kept⟩
   refine bN (eI q27) <| tK (.bool false) <| WL.nil <| ?_
   try simp only [pS]
   go_upto_region 19 with fail
   refine WL.start <| bN (eI q9) <| tK (.bool false) <| WL.nil <| ?_
   try simp only [pS]
   go_upto_region 21 with fail
   refine WL.start <| tK (.bool false) <| tK (.bool false) <| sK <| sK <| sK <| tK (.bool false) <| tK (.bool false) <| sK <| sK <| sK <| sK <| tK (.bool false) <| tK (.bool false) <| sK <| sK <| ?_
   try simp only [pS]
   refine sK <| sK <| sK <| sK <| sK <| tK (.bool false) <| tK (.bool false) <| WL.nil <| ?_
   try simp only [pS]
   go_wp2
   rw [HC.out]
   exact ⟨ret_bool (by simp only [ansR, bsq, q1, q2, q3, q4, q5, q6, q7, q8, q9, q10, q11, q24, q25, q26, q27]), HF.out.kept⟩
  refine bN (eI q11) <| tK (.bool false) <| WL.nil <| ?_
  try simp only [pS]
  go_upto_region 6 with fail
  refine WL.start <| tK (pg g1 7) <| tK (pg g1 7) <| lD (.int .i64 m.ky.k) HF 0 7 U3 rfl <| ?_
  try simp only [pS]
  cases q12 : (m.ky.k == 3)
  ·skip
   refine bN (eI q12) <| tK (.bool false) <| WL.nil <| ?_
   try simp only [pS]
   go_upto_region 7 with fail
   refine WL.start <| tK (pg g1 0) <| lD (.int .i64 m.k) HF 0 0 U3 rfl <| WL.nil <| ?_
   try simp only [pS]
   go_upto_region 8 with fail
   refine WL.start <| bN (eI q7) <| tK (.bool false) <| WL.nil <| ?_
   try simp only [pS]
   go_upto_region 10 with fail
   refine WL.start <| ?_
   cases q13 : (m.k == 12)
   rotate_left
   ·skip
    refine bN (eI q13) <| tK (.bool true) <| WL.nil <| ?_
    try simp only [pS]
    go_upto_region 11 with fail
    refine WL.start <| tK (.bool false) <| tK (.bool false) <| sK <| sK <| sK <| tK (.bool false) <| tK (.bool false) <| WL.nil <| ?_
    try simp only [pS]
    go_wp2
    rw [HC.out]
    exact ⟨ret_bool (by simp only [ansR, bsq, q1, q2, q3, q4, q5, q6, q7, q8, q9, q10, q11, q12, q13]), HF.out.kept⟩
   refine bN (eI q13) <| tK (.bool false) <| WL.nil <| ?_
   try simp only [pS]
   go_upto_region 12 with fail
   refine WL.start <| bN (eI q5) <| tK (.bool false) <| WL.nil <| ?_
   try simp only [pS]
   go_upto_region 16 with fail
   refine WL.start <| ?_
   cases q14 : (m.k == 14)
   rotate_left
   ·skip
    refine bN (eI q14) <| tK (.bool true) <| WL.nil <| ?_
    try simp only [pS]
    go_upto_region 18 with fail
    refine WL.start <| tK (.bool false) <| tK (.bool false) <| sK <| sK <| sK <| tK (.bool false) <| tK (.bool false) <| WL.nil <| ?_
    try simp only [pS]
    go_wp2
    rw [HC.out]
    exact ⟨ret_bool (by simp only [ansR, bsq, q1, q2, q3, q4, q5, q6, q7, q8, q9, q10, q11, q12, q13, q14]), HF.out.kept⟩
   refine bN (eI q14) <| tK (.bool false) <| WL.nil <| ?_
   try simp only [pS]
   go_upto_region 17 with fail
   refine WL.start <| ?_
   cases q15 : (m.k == 15)
   rotate_left
   ·skip
    refine bN (eI q15) <| tK (.bool true) <| WL.nil <| ?_
    try simp only [pS]
    go_upto_region 18 with fail
    refine WL.start <| tK (.bool false) <| tK (.bool false) <| sK <| sK <| sK <| tK (.bool false) <| tK (.bool false) <| WL.nil <| ?_
    try simp only [pS]
    go_wp2
    rw [HC.out]
    exact ⟨ret_bool (by simp only [ansR, bsq, q1, q2, q3, q4, q5, q6, q7, q8, q9, q10, q11, q12, q13, q14, q15]), HF.out.kept⟩
   refine bN (eI q15) <| tK (.bool false) <| WL.nil <| ?_
   try simp only [pS]
   go_upto_region 19 with fail
   refine WL.start <| bN (eI q9) <| tK (.bool false) <| WL.nil <| ?_
   try simp only [pS]
   go_upto_region 21 with fail
   refine WL.start <| tK (.bool false) <| tK (.bool false) <| sK <| sK <| sK <| tK (.bool false) <| tK (.bool false) <| sK <| sK <| sK <| sK <| tK (.bool false) <| tK (.bool false) <| sK <| sK <| ?_
   try simp only [pS]
   refine sK <| sK <| sK <| sK <| sK <| tK (.bool false) <| tK (.bool false) <| WL.nil <| ?_
   try simp only [pS]
   go_wp2
   rw [HC.out]
   exact ⟨ret_bool (by simp only [ansR, bsq, q1, q2, q3, q4, q5, q6, q7, q8, q9, q10, q11, q12, q13, q14, q15]), HF.out.kept⟩
  refine bN (eI q12) <| tK (.bool true) <| WL.nil <| ?_
  try simp only [pS]
  go_upto_region 7 with fail
  refine WL.start <| tK (pg g1 0) <| lD (.int .i64 m.k) HF 0 0 U3 rfl <| WL.nil <| ?_
  try simp only [pS]
  go_upto_region 8 with fail
  refine WL.start <| bN (eI q7) <| tK (.bool false) <| WL.nil <| ?_
  try simp only [pS]
  go_upto_region 10 with fail
  refine WL.start <| ?_
  cases q16 : (m.k == 12)
  rotate_left
  ·skip
   refine bN (eI q16) <| tK (.bool true) <| WL.nil <| ?_
   try simp only [pS]
   go_upto_region 11 with fail
   refine WL.start <| tK (.bool false) <| tK (.bool false) <| sK <| sK <| sK <| tK (.bool false) <| tK (.bool false) <| WL.nil <| ?_
   try simp only [pS]
   go_wp2
   rw [HC.out]
   exact ⟨ret_bool (by simp only [ansR, bsq, q1, q2, q3, q4, q5, q6, q7, q8, q9, q10, q11, q12, q16]), HF.out.kept⟩
  refine bN (eI q16) <| tK (.bool false) <| WL.nil <| ?_
  try simp only [pS]
  go_upto_region 12 with fail
  refine WL.start <| bN (eI q5) <| tK (.bool false) <| WL.nil <| ?_
  try simp only [pS]
  go_upto_region 16 with fail
  refine WL.start <| ?_
  cases q17 : (m.k == 14)
  rotate_left
  ·skip
   refine bN (eI q17) <| tK (.bool true) <| WL.nil <| ?_
   try simp only [pS]
   go_upto_region 18 with fail
   refine WL.start <| tK (.bool true) <| tK (.bool true) <| tK (pg g1 11) <| lP (Sp.cs m.st) HF 0 11 U34 S34 (Mg.cs m) rfl <| ?_
   try simp only [pS]
   cases q23 : (oneS m.st)
   ·skip
    refine cB (r_One m.st _) q23 HF fun w17 HF => tK (.bool false) <| tK (.bool false) <| WL.nil <| ?_
    try simp only [pS]
    go_wp2
    rw [HC.out]
    exact ⟨ret_bool (by simp only [ansR, bsq, q1, q2, q3, q4, q5, q6, q7, q8, q9, q10, q11, q12, q16, q17, q23]), HF.out.kept⟩
   refine cB (r_One m.st _) q23 HF fun w18 HF => tK (.bool true) <| tK (.bool true) <| WL.nil <| ?_
   try simp only [pS]
   go_wp2
   rw [HC.out]
   exact ⟨ret_bool (by simp only [ansR, bsq, q1, q2, q3, q4, q5, q6, q7, q8, q9, q10, q11, q12, q16, q17, q23]), HF.out.kept⟩
  refine bN (eI q17) <| tK (.bool false) <| WL.nil <| ?_
  try simp only [pS]
  go_upto_region 17 with fail
  refine WL.start <| ?_
  cases q18 : (m.k == 15)
  rotate_left
  ·skip
   refine bN (eI q18) <| tK (.bool true) <| WL.nil <| ?_
   try simp only [pS]
   go_upto_region 18 with fail
   refine WL.start <| tK (.bool true) <| tK (.bool true) <| tK (pg g1 11) <| lP (Sp.cs m.st) HF 0 11 U34 S34 (Mg.cs m) rfl <| ?_
   try simp only [pS]
   cases q22 : (oneS m.st)
   ·skip
    refine cB (r_One m.st _) q22 HF fun w15 HF => tK (.bool false) <| tK (.bool false) <| WL.nil <| ?_
    try simp only [pS]
    go_wp2
    rw [HC.out]
    exact ⟨ret_bool (by simp only [ansR, bsq, q1, q2, q3, q4, q5, q6, q7, q8, q9, q10, q11, q12, q16, q17, q18, q22]), HF.out.kept⟩
   refine cB (r_One m.st _) q22 HF fun w16 HF => tK (.bool true) <| tK (.bool true) <| WL.nil <| ?_
   try simp only [pS]
   go_wp2
   rw [HC.out]
   exact ⟨ret_bool (by simp only [ansR, bsq, q1, q2, q3, q4, q5, q6, q7, q8, q9, q10, q11, q12, q16, q17, q18, q22]), HF.out.kept⟩
  refine bN (eI q18) <| tK (.bool false) <| WL.nil <| ?_
  try simp only [pS]
  go_upto_region 19 with fail
  refine WL.start <| bN (eI q9) <| tK (.bool false) <| WL.nil <| ?_
  try simp only [pS]
  go_upto_region 21 with fail
  refine WL.start <| tK (.bool true) <| tK (.bool true) <| tK (pg g1 11) <| lP (Sp.cs m.st) HF 0 11 U34 S34 (Mg.cs m) rfl <| ?_
  try simp only [pS]
  cases q19 : (eqS m.st spZ)
  ·skip
   refine cB (r_None m.st _) q19 HF fun w11 HF => tK (.bool false) <| tK (.bool false) <| sK <| sK <| sK <| sK <| tK (.bool false) <| tK (.bool false) <| sK <| sK <| sK <| sK <| sK <| sK <| sK <| tK (.bool false) <| tK (.bool false) <| WL.nil <| ?_
   try simp only [pS]
   go_wp2
   rw [HC.out]
   exact ⟨ret_bool (by simp only [ansR, bsq, q1, q2, q3, q4, q5, q6, q7, q8, q9, q10, q11, q12, q16, q17, q18, q19]), HF.out.kept⟩
  refine cB (r_None m.st _) q19 HF fun w12 HF => tK (.bool true) <| tK (.bool true) <| tK (pg g1 25) <| lP (Bv.cs m.bk) HF 0 25 U43 S43 (Mg.cs m) rfl <| lP (Cg.cs c) HF 1 0 U24 S24 (Cg.cs c) rfl <| ?_
  try simp only [pS]
  cases q20 : (bktR c.bl c.rm m.bk es ls)
  ·skip
   refine cB (r_IsBucket m.bk es ls c _ HB (HRE.out.no HF.out.kept) (HRL.out.no HF.out.kept) hne hnl) q20 HF fun w13 HF => tK (.bool false) <| tK (.bool false) <| sK <| sK <| sK <| sK <| sK <| sK <| sK <| tK (.bool false) <| tK (.bool false) <| WL.nil <| ?_
   try simp only [pS]
   go_wp2
   rw [HC.out]
   exact ⟨ret_bool (by simp only [ansR, bsq, q1, q2, q3, q4, q5, q6, q7, q8, q9, q10, q11, q12, q16, q17, q18, q19, q20]), HF.out.kept⟩
  refine cB (r_IsBucket m.bk es ls c _ HB (HRE.out.no HF.out.kept) (HRL.out.no HF.out.kept) hne hnl) q20 HF fun w14 HF => tK (.bool true) <| tK (.bool true) <| tK (pg g1 25) <| tK (pg g1 25) <| lD (.int .i64 m.bk.up) HF 0 25 U3 rfl <| tK (pg g1 7) <| tK (pg g1 9) <| lD (.int .i64 m.ky.b) HF 0 9 U3 rfl <| ?_
  try simp only [pS]
  cases q21 : (decide (m.ky.b ≤ m.bk.up))
  ·skip
   refine bN (geI q21) <| tK (.bool false) <| tK (.bool false) <| WL.nil <| ?_
   try simp only [pS]
   go_wp2
   rw [HC.out]
   exact ⟨ret_bool (by simp only [ansR, bsq, q1, q2, q3, q4, q5, q6, q7, q8, q9, q10, q11, q12, q16, q17, q18, q19, q20, q21]), HF.out.kept⟩
  refine bN (geI q21) <| tK (.bool true) <| tK (.bool true) <| WL.nil <| ?_
  try simp only [pS]
  go_wp2
  rw [HC.out]
  exact ⟨ret_bool (by simp only [ansR, bsq, q1, q2, q3, q4, q5, q6, q7, q8, q9, q10, q11, q12, q16, q17, q18, q19, q20, q21]), HF.out.kept⟩
end Go.Proofs.YtgdnofacgfjaeaaGreat.Md
