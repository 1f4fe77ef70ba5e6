import Derived.Test.YtgdnofacgfjaeaaGreatKe
import Derived.Lib.Bytealg
import Derived.Lib.Walk
namespace Go.Proofs.YtgdnofacgfjaeaaGreat.Md
set_option maxRecDepth 100000
set_option maxHeartbeats 4000000
open Go.RowKit
set_option linter.unusedVariables false
set_option linter.unusedSimpArgs false
theorem p_within (n lo hi : Int) (w : World) : Calls Tryz.prog 109 #[.int .i64 n, .int .i64 lo, .int .i64 hi] w (fun e w' => e = .returned (.bool (wn n lo hi)) ∧ Kept No w w') := by
  refine hidC fun C HC => ?_
  have HF : Hid (Fq No w w []) := Fq.start _ _
  go_enter Tryz.func109, Tryz.ntmps109
  go_upto_region 0 with fail
  refine WL.start <| tK (.bool false) <| WL.nil <| ?_
  try simp only [pS]
  go_upto_region 1 with fail
  refine WL.start <| tK (.int .i64 lo) <| tK (.int .i64 n) <| ?_
  try simp only [pS]
  cases q1 : (decide (lo ≤ n))
  ·skip
   refine bN (leI q1) <| tK (.bool false) <| sK <| sK <| sK <| tK (.bool false) <| tK (.bool false) <| WL.nil <| ?_
   try simp only [pS]
   go_wp2
   rw [HC.out]
   exact ⟨ret_bool (by simp only [wn, bsq, q1]), HF.out.kept⟩
  refine bN (leI q1) <| tK (.bool true) <| tK (.int .i64 n) <| tK (.int .i64 hi) <| ?_
  try simp only [pS]
  cases q2 : (decide (n ≤ hi))
  ·skip
   refine bN (leI q2) <| tK (.bool false) <| tK (.bool false) <| WL.nil <| ?_
   try simp only [pS]
   go_wp2
   rw [HC.out]
   exact ⟨ret_bool (by simp only [wn, bsq, q1, q2]), HF.out.kept⟩
  refine bN (leI q2) <| tK (.bool true) <| tK (.bool true) <| WL.nil <| ?_
  try simp only [pS]
  go_wp2
  rw [HC.out]
  exact ⟨ret_bool (by simp only [wn, bsq, q1, q2]), HF.out.kept⟩
theorem g_within (n lo hi : Int) (w : World) : Calls Tryz.prog 214 #[.int .i64 n, .int .i64 lo, .int .i64 hi] w (fun e w' => e = .returned (.bool (wn n lo hi)) ∧ Kept No w w') := by
  refine hidC fun C HC => ?_
  have HF : Hid (Fq No w w []) := Fq.start _ _
  go_enter Tryz.func214, Tryz.ntmps214
  go_upto_region 0 with fail
  refine WL.start <| tK (.bool false) <| WL.nil <| ?_
  try simp only [pS]
  go_upto_region 1 with fail
  refine WL.start <| tK (.int .i64 lo) <| tK (.int .i64 n) <| ?_
  try simp only [pS]
  cases q1 : (decide (lo ≤ n))
  ·skip
   refine bN (leI q1) <| tK (.bool false) <| sK <| sK <| sK <| tK (.bool false) <| tK (.bool false) <| WL.nil <| ?_
   try simp only [pS]
   go_wp2
   rw [HC.out]
   exact ⟨ret_bool (by simp only [wn, bsq, q1]), HF.out.kept⟩
  refine bN (leI q1) <| tK (.bool true) <| tK (.int .i64 n) <| tK (.int .i64 hi) <| ?_
  try simp only [pS]
  cases q2 : (decide (n ≤ hi))
  ·skip
   refine bN (leI q2) <| tK (.bool false) <| tK (.bool false) <| WL.nil <| ?_
   try simp only [pS]
   go_wp2
   rw [HC.out]
   exact ⟨ret_bool (by simp only [wn, bsq, q1, q2]), HF.out.kept⟩
  refine bN (leI q2) <| tK (.bool true) <| tK (.bool true) <| WL.nil <| ?_
  try simp only [pS]
  go_wp2
  rw [HC.out]
  exact ⟨ret_bool (by simp only [wn, bsq, q1, q2]), HF.out.kept⟩
theorem r_within (n lo hi : Int) (w : World) : Calls Tryz.prog 104 #[.int .i64 n, .int .i64 lo, .int .i64 hi] w (fun e w' => e = .returned (.bool (wn n lo hi)) ∧ Kept No w w') := by
  refine hidC fun C HC => ?_
  have HF : Hid (Fq No w w []) := Fq.start _ _
  go_enter Tryz.func104, Tryz.ntmps104
  go_upto_region 0 with fail
  refine WL.start <| tK (.bool false) <| WL.nil <| ?_
  try simp only [pS]
  go_upto_region 1 with fail
  refine WL.start <| tK (.int .i64 n) <| tK (.int .i64 lo) <| ?_
  try simp only [pS]
  cases q1 : (decide (lo ≤ n))
  ·skip
   refine bN (geI q1) <| tK (.bool false) <| sK <| sK <| sK <| tK (.bool false) <| tK (.bool false) <| WL.nil <| ?_
   try simp only [pS]
   go_wp2
   rw [HC.out]
   exact ⟨ret_bool (by simp only [wn, bsq, q1]), HF.out.kept⟩
  refine bN (geI q1) <| tK (.bool true) <| tK (.int .i64 n) <| tK (.int .i64 hi) <| ?_
  try simp only [pS]
  cases q2 : (decide (n ≤ hi))
  ·skip
   refine bN (leI q2) <| tK (.bool false) <| tK (.bool false) <| WL.nil <| ?_
   try simp only [pS]
   go_wp2
   rw [HC.out]
   exact ⟨ret_bool (by simp only [wn, bsq, q1, q2]), HF.out.kept⟩
  refine bN (leI q2) <| tK (.bool true) <| tK (.bool true) <| WL.nil <| ?_
  try simp only [pS]
  go_wp2
  rw [HC.out]
  exact ⟨ret_bool (by simp only [wn, bsq, q1, q2]), HF.out.kept⟩
theorem q_within (n lo hi : Int) (w : World) : Calls Tryz.prog 91 #[.int .i64 n, .int .i64 lo, .int .i64 hi] w (fun e w' => e = .returned (.bool (wn n lo hi)) ∧ Kept No w w') := by
  refine hidC fun C HC => ?_
  have HF : Hid (Fq No w w []) := Fq.start _ _
  go_enter Tryz.func91, Tryz.ntmps91
  go_upto_region 0 with fail
  refine WL.start <| tK (.bool false) <| WL.nil <| ?_
  try simp only [pS]
  go_upto_region 1 with fail
  refine WL.start <| tK (.int .i64 n) <| tK (.int .i64 lo) <| ?_
  try simp only [pS]
  cases q1 : (decide (lo ≤ n))
  ·skip
   refine bN (geI q1) <| tK (.bool false) <| sK <| sK <| sK <| tK (.bool false) <| tK (.bool false) <| WL.nil <| ?_
   try simp only [pS]
   go_wp2
   rw [HC.out]
   exact ⟨ret_bool (by simp only [wn, bsq, q1]), HF.out.kept⟩
  refine bN (geI q1) <| tK (.bool true) <| tK (.int .i64 n) <| tK (.int .i64 hi) <| ?_
  try simp only [pS]
  cases q2 : (decide (n ≤ hi))
  ·skip
   refine bN (leI q2) <| tK (.bool false) <| tK (.bool false) <| WL.nil <| ?_
   try simp only [pS]
   go_wp2
   rw [HC.out]
   exact ⟨ret_bool (by simp only [wn, bsq, q1, q2]), HF.out.kept⟩
  refine bN (leI q2) <| tK (.bool true) <| tK (.bool true) <| WL.nil <| ?_
  try simp only [pS]
  go_wp2
  rw [HC.out]
  exact ⟨ret_bool (by simp only [wn, bsq, q1, q2]), HF.out.kept⟩
theorem p_rightId (n : Int) (w : World) : Calls Tryz.prog 99 #[.int .i64 n] w (fun e w' => e = .returned (.bool (wn n 1 255)) ∧ Kept No w w') := by
  refine hidC fun C HC => ?_
  have HF : Hid (Fq No w w []) := Fq.start _ _
  go_enter Tryz.func99, Tryz.ntmps99
  go_upto_region 0 with fail
  refine WL.start <| tK (.bool false) <| WL.nil <| ?_
  try simp only [pS]
  go_upto_region 1 with fail
  refine WL.start <| tK (.int .i64 n) <| ?_
  try simp only [pS]
  cases q1 : (wn n 1 255)
  ·skip
   refine cB (p_within n 1 255 _) q1 HF fun w1 HF => tK (.bool false) <| WL.nil <| ?_
   try simp only [pS]
   go_wp2
   rw [HC.out]
   exact ⟨ret_bool (q1.symm), HF.out.kept⟩
  refine cB (p_within n 1 255 _) q1 HF fun w2 HF => tK (.bool true) <| WL.nil <| ?_
  try simp only [pS]
  go_wp2
  rw [HC.out]
  exact ⟨ret_bool (q1.symm), HF.out.kept⟩
theorem p_rightNum (n : Int) (w : World) : Calls Tryz.prog 100 #[.int .i64 n] w (fun e w' => e = .returned (.bool (wn n 1 1099511627776)) ∧ Kept No w w') := by
  refine hidC fun C HC => ?_
  have HF : Hid (Fq No w w []) := Fq.start _ _
  go_enter Tryz.func100, Tryz.ntmps100
  go_upto_region 0 with fail
  refine WL.start <| tK (.bool false) <| WL.nil <| ?_
  try simp only [pS]
  go_upto_region 1 with fail
  refine WL.start <| tK (.int .i64 n) <| ?_
  try simp only [pS]
  cases q1 : (wn n 1 1099511627776)
  ·skip
   refine cB (p_within n 1 1099511627776 _) q1 HF fun w1 HF => tK (.bool false) <| WL.nil <| ?_
   try simp only [pS]
   go_wp2
   rw [HC.out]
   exact ⟨ret_bool (q1.symm), HF.out.kept⟩
  refine cB (p_within n 1 1099511627776 _) q1 HF fun w2 HF => tK (.bool true) <| WL.nil <| ?_
  try simp only [pS]
  go_wp2
  rw [HC.out]
  exact ⟨ret_bool (q1.symm), HF.out.kept⟩
theorem p_isOne (x : Sp) (w : World) : Calls Tryz.prog 126 #[.agg (Sp.cells x)] w (fun e w' => e = .returned (.bool (oneS x)) ∧ Kept No w w') := by
  refine hidC fun C HC => ?_
  have HF : Hid (Fq No w w []) := Fq.start _ _
  go_enter Tryz.func126, Tryz.ntmps126
  go_upto_region 0 with fail
  refine WL.start <| xB (Sp.cells x) HF fun g1 w2 HF => tK (.bool false) <| WL.nil <| ?_
  try simp only [pS]
  go_upto_region 1 with fail
  refine WL.start <| tK (pg g1 0) <| lD (.int .i64 x.n) HF 0 0 U3 rfl <| ?_
  try simp only [pS]
  cases q1 : (wn x.n 1 1099511627776)
  ·skip
   refine cB (p_rightNum x.n _) q1 HF fun w3 HF => tK (.bool false) <| sK <| sK <| sK <| tK (.bool false) <| tK (.bool false) <| WL.nil <| ?_
   try simp only [pS]
   go_wp2
   rw [HC.out]
   exact ⟨ret_bool (by simp only [oneS, bsq, q1]), HF.out.kept⟩
  refine cB (p_rightNum x.n _) q1 HF fun w4 HF => tK (.bool true) <| tK (pg g1 1) <| lD (.int .i64 x.c) HF 0 1 U3 rfl <| ?_
  try simp only [pS]
  cases q2 : (wn x.c 1 255)
  ·skip
   refine cB (p_rightId x.c _) q2 HF fun w5 HF => tK (.bool false) <| tK (.bool false) <| WL.nil <| ?_
   try simp only [pS]
   go_wp2
   rw [HC.out]
   exact ⟨ret_bool (by simp only [oneS, bsq, q1, q2]), HF.out.kept⟩
  refine cB (p_rightId x.c _) q2 HF fun w6 HF => tK (.bool true) <| tK (.bool true) <| WL.nil <| ?_
  try simp only [pS]
  go_wp2
  rw [HC.out]
  exact ⟨ret_bool (by simp only [oneS, bsq, q1, q2]), HF.out.kept⟩
theorem r_One (x : Sp) (w : World) : Calls Tryz.prog 131 #[.agg (Sp.cells x)] w (fun e w' => e = .returned (.bool (oneS x)) ∧ Kept No w w') := by
  refine hidC fun C HC => ?_
  have HF : Hid (Fq No w w []) := Fq.start _ _
  go_enter Tryz.func131, Tryz.ntmps131
  go_upto_region 0 with fail
  refine WL.start <| xB (Sp.cells x) HF fun g1 w2 HF => tK (.bool false) <| WL.nil <| ?_
  try simp only [pS]
  go_upto_region 1 with fail
  refine WL.start <| tK (pg g1 0) <| lD (.int .i64 x.n) HF 0 0 U3 rfl <| ?_
  try simp only [pS]
  cases q1 : (wn x.n 1 1099511627776)
  ·skip
   refine cB (r_within x.n 1 1099511627776 _) q1 HF fun w3 HF => tK (.bool false) <| sK <| sK <| sK <| tK (.bool false) <| tK (.bool false) <| WL.nil <| ?_
   try simp only [pS]
   go_wp2
   rw [HC.out]
   exact ⟨ret_bool (by simp only [oneS, bsq, q1]), HF.out.kept⟩
  refine cB (r_within x.n 1 1099511627776 _) q1 HF fun w4 HF => tK (.bool true) <| tK (pg g1 1) <| lD (.int .i64 x.c) HF 0 1 U3 rfl <| ?_
  try simp only [pS]
  cases q2 : (wn x.c 1 255)
  ·skip
   refine cB (r_within x.c 1 255 _) q2 HF fun w5 HF => tK (.bool false) <| tK (.bool false) <| WL.nil <| ?_
   try simp only [pS]
   go_wp2
   rw [HC.out]
   exact ⟨ret_bool (by simp only [oneS, bsq, q1, q2]), HF.out.kept⟩
  refine cB (r_within x.c 1 255 _) q2 HF fun w6 HF => tK (.bool true) <| tK (.bool true) <| WL.nil <| ?_
  try simp only [pS]
  go_wp2
  rw [HC.out]
  exact ⟨ret_bool (by simp only [oneS, bsq, q1, q2]), HF.out.kept⟩
theorem p_isNone (x : Sp) (w : World) : Calls Tryz.prog 127 #[.agg (Sp.cells x)] w (fun e w' => e = .returned (.bool (eqS x spZ)) ∧ Kept No w w') := by
  refine hidC fun C HC => ?_
  have HF : Hid (Fq No w w []) := Fq.start _ _
  go_enter Tryz.func127, Tryz.ntmps127
  go_upto_region 0 with fail
  refine WL.start <| xB (Sp.cells x) HF fun g1 w2 HF => tK (.bool false) <| WL.nil <| ?_
  try simp only [pS]
  go_upto_region 1 with fail
  refine WL.start <| lP (Sp.cs x) HF 0 0 U34 S34 (Sp.cs x) rfl <| bD (Sp.cells spZ) <| ?_
  try simp only [pS]
  cases q1 : (eqS x spZ)
  ·skip
   refine bN (qeS q1) <| tK (.bool false) <| WL.nil <| ?_
   try simp only [pS]
   go_wp2
   rw [HC.out]
   exact ⟨ret_bool (q1.symm), HF.out.kept⟩
  refine bN (qeS q1) <| tK (.bool true) <| WL.nil <| ?_
  try simp only [pS]
  go_wp2
  rw [HC.out]
  exact ⟨ret_bool (q1.symm), HF.out.kept⟩
theorem r_None (x : Sp) (w : World) : Calls Tryz.prog 132 #[.agg (Sp.cells x)] w (fun e w' => e = .returned (.bool (eqS x spZ)) ∧ Kept No w w') := by
  refine hidC fun C HC => ?_
  have HF : Hid (Fq No w w []) := Fq.start _ _
  go_enter Tryz.func132, Tryz.ntmps132
  go_upto_region 0 with fail
  refine WL.start <| xB (Sp.cells x) HF fun g1 w2 HF => tK (.bool false) <| WL.nil <| ?_
  try simp only [pS]
  go_upto_region 1 with fail
  refine WL.start <| tK (pg g1 0) <| lD (.int .i64 x.n) HF 0 0 U3 rfl <| ?_
  try simp only [pS]
  cases q1 : (x.n == 0)
  ·skip
   refine bN (eI q1) <| tK (.bool false) <| sK <| sK <| sK <| tK (.bool false) <| tK (.bool false) <| WL.nil <| ?_
   try simp only [pS]
   go_wp2
   rw [HC.out]
   exact ⟨ret_bool (by simp only [eqS, spZ, bsq, q1]), HF.out.kept⟩
  refine bN (eI q1) <| tK (.bool true) <| tK (pg g1 1) <| lD (.int .i64 x.c) HF 0 1 U3 rfl <| ?_
  try simp only [pS]
  cases q2 : (x.c == 0)
  ·skip
   refine bN (eI q2) <| tK (.bool false) <| tK (.bool false) <| WL.nil <| ?_
   try simp only [pS]
   go_wp2
   rw [HC.out]
   exact ⟨ret_bool (by simp only [eqS, spZ, bsq, q1, q2]), HF.out.kept⟩
  refine bN (eI q2) <| tK (.bool true) <| tK (.bool true) <| WL.nil <| ?_
  try simp only [pS]
  go_wp2
  rw [HC.out]
  exact ⟨ret_bool (by simp only [eqS, spZ, bsq, q1, q2]), HF.out.kept⟩
theorem r_none (x : Cm) (w : World) : Calls Tryz.prog 140 #[.agg (Cm.cells x)] w (fun e w' => e = .returned (.bool (eqC x cZ)) ∧ Kept No w w') := by
  refine hidC fun C HC => ?_
  have HF : Hid (Fq No w w []) := Fq.start _ _
  go_enter Tryz.func140, Tryz.ntmps140
  go_upto_region 0 with fail
  refine WL.start <| xB (Cm.cells x) HF fun g1 w2 HF => tK (.bool false) <| WL.nil <| ?_
  try simp only [pS]
  go_upto_region 1 with fail
  refine WL.start <| lP (Cm.cs x) HF 0 0 U39 S39 (Cm.cs x) rfl <| bD (Cm.cells cZ) <| ?_
  try simp only [pS]
  cases q1 : (eqC x cZ)
  ·skip
   refine bN (qeC q1) <| tK (.bool false) <| WL.nil <| ?_
   try simp only [pS]
   go_wp2
   rw [HC.out]
   exact ⟨ret_bool (q1.symm), HF.out.kept⟩
  refine bN (qeC q1) <| tK (.bool true) <| WL.nil <| ?_
  try simp only [pS]
  go_wp2
  rw [HC.out]
  exact ⟨ret_bool (q1.symm), HF.out.kept⟩
theorem p_isFile (x : Fi) (w : World) : Calls Tryz.prog 103 #[.agg (Fi.cells x)] w (fun e w' => e = .returned (.bool (filB x)) ∧ Kept No w w') := by
  refine hidC fun C HC => ?_
  have HF : Hid (Fq No w w []) := Fq.start _ _
  go_enter Tryz.func103, Tryz.ntmps103
  go_upto_region 0 with fail
  refine WL.start <| xB (Fi.cells x) HF fun g1 w2 HF => tK (.bool false) <| WL.nil <| ?_
  try simp only [pS]
  go_upto_region 1 with fail
  refine WL.start <| tK (pg g1 0) <| lD (.int .i64 x.c) HF 0 0 U3 rfl <| ?_
  try simp only [pS]
  cases q1 : (wn x.c 1 255)
  ·skip
   refine cB (p_rightId x.c _) q1 HF fun w3 HF => tK (.bool false) <| sK <| sK <| sK <| tK (.bool false) <| tK (.bool false) <| WL.nil <| ?_
   try simp only [pS]
   go_wp2
   rw [HC.out]
   exact ⟨ret_bool (by simp only [filB, bsq, q1]), HF.out.kept⟩
  refine cB (p_rightId x.c _) q1 HF fun w4 HF => tK (.bool true) <| tK (pg g1 1) <| lD (.int .i64 x.o) HF 0 1 U3 rfl <| ?_
  try simp only [pS]
  cases q2 : (wn x.o 1 1099511627776)
  ·skip
   refine cB (p_rightNum x.o _) q2 HF fun w5 HF => tK (.bool false) <| tK (.bool false) <| WL.nil <| ?_
   try simp only [pS]
   go_wp2
   rw [HC.out]
   exact ⟨ret_bool (by simp only [filB, bsq, q1, q2]), HF.out.kept⟩
  refine cB (p_rightNum x.o _) q2 HF fun w6 HF => tK (.bool true) <| tK (.bool true) <| WL.nil <| ?_
  try simp only [pS]
  go_wp2
  rw [HC.out]
  exact ⟨ret_bool (by simp only [filB, bsq, q1, q2]), HF.out.kept⟩
theorem r_IsFile (x : Fi) (w : World) : Calls Tryz.prog 106 #[.agg (Fi.cells x)] w (fun e w' => e = .returned (.bool (filB x)) ∧ Kept No w w') := by
  refine hidC fun C HC => ?_
  have HF : Hid (Fq No w w []) := Fq.start _ _
  go_enter Tryz.func106, Tryz.ntmps106
  go_upto_region 0 with fail
  refine WL.start <| xB (Fi.cells x) HF fun g1 w2 HF => tK (.bool false) <| WL.nil <| ?_
  try simp only [pS]
  go_upto_region 1 with fail
  refine WL.start <| tK (pg g1 0) <| lD (.int .i64 x.c) HF 0 0 U3 rfl <| ?_
  try simp only [pS]
  cases q1 : (wn x.c 1 255)
  ·skip
   refine cB (r_within x.c 1 255 _) q1 HF fun w3 HF => tK (.bool false) <| sK <| sK <| sK <| tK (.bool false) <| tK (.bool false) <| WL.nil <| ?_
   try simp only [pS]
   go_wp2
   rw [HC.out]
   exact ⟨ret_bool (by simp only [filB, bsq, q1]), HF.out.kept⟩
  refine cB (r_within x.c 1 255 _) q1 HF fun w4 HF => tK (.bool true) <| tK (pg g1 1) <| lD (.int .i64 x.o) HF 0 1 U3 rfl <| ?_
  try simp only [pS]
  cases q2 : (wn x.o 1 1099511627776)
  ·skip
   refine cB (r_within x.o 1 1099511627776 _) q2 HF fun w5 HF => tK (.bool false) <| tK (.bool false) <| WL.nil <| ?_
   try simp only [pS]
   go_wp2
   rw [HC.out]
   exact ⟨ret_bool (by simp only [filB, bsq, q1, q2]), HF.out.kept⟩
  refine cB (r_within x.o 1 1099511627776 _) q2 HF fun w6 HF => tK (.bool true) <| tK (.bool true) <| WL.nil <| ?_
  try simp only [pS]
  go_wp2
  rw [HC.out]
  exact ⟨ret_bool (by simp only [filB, bsq, q1, q2]), HF.out.kept⟩
theorem p_emptyBucket (x : Bv) (w : World) : Calls Tryz.prog 108 #[.agg (Bv.cells x)] w (fun e w' => e = .returned (.bool (empK x)) ∧ Kept No w w') := by
  refine hidC fun C HC => ?_
  have HF : Hid (Fq No w w []) := Fq.start _ _
  go_enter Tryz.func108, Tryz.ntmps108
  go_upto_region 0 with fail
  refine WL.start <| xB (Bv.cells x) HF fun g1 w2 HF => tK (.bool false) <| WL.nil <| ?_
  try simp only [pS]
  go_upto_region 1 with fail
  refine WL.start <| tK (pg g1 0) <| lD (.int .i64 x.up) HF 0 0 U3 rfl <| ?_
  try simp only [pS]
  cases q1 : (x.up == 0)
  ·skip
   refine bN (eI q1) <| tK (.bool false) <| sK <| sK <| sK <| sK <| tK (.bool false) <| tK (.bool false) <| sK <| sK <| sK <| sK <| tK (.bool false) <| tK (.bool false) <| WL.nil <| ?_
   try simp only [pS]
   go_wp2
   rw [HC.out]
   exact ⟨ret_bool (by simp only [empK, bsq, q1]), HF.out.kept⟩
  refine bN (eI q1) <| tK (.bool true) <| tK (pg g1 1) <| lD (x.e.v) HF 0 1 U40 rfl <| tK (.int .i64 ((x.e.l : Nat) : Int)) <| ?_
  try simp only [pS]
  cases q2 : (((x.e.l : Nat) : Int) == 0)
  ·skip
   refine bN (eI q2) <| tK (.bool false) <| tK (.bool false) <| sK <| sK <| sK <| sK <| tK (.bool false) <| tK (.bool false) <| WL.nil <| ?_
   try simp only [pS]
   go_wp2
   rw [HC.out]
   exact ⟨ret_bool (by simp only [empK, bsq, q1, q2]), HF.out.kept⟩
  refine bN (eI q2) <| tK (.bool true) <| tK (.bool true) <| tK (pg g1 2) <| lD (x.l.v) HF 0 2 U41 rfl <| tK (.int .i64 ((x.l.l : Nat) : Int)) <| ?_
  try simp only [pS]
  cases q3 : (((x.l.l : Nat) : Int) == 0)
  ·skip
   refine bN (eI q3) <| tK (.bool false) <| tK (.bool false) <| WL.nil <| ?_
   try simp only [pS]
   go_wp2
   rw [HC.out]
   exact ⟨ret_bool (by simp only [empK, bsq, q1, q2, q3]), HF.out.kept⟩
  refine bN (eI q3) <| tK (.bool true) <| tK (.bool true) <| WL.nil <| ?_
  try simp only [pS]
  go_wp2
  rw [HC.out]
  exact ⟨ret_bool (by simp only [empK, bsq, q1, q2, q3]), HF.out.kept⟩
theorem r_empty (x : Bv) (w : World) : Calls Tryz.prog 174 #[.agg (Bv.cells x)] w (fun e w' => e = .returned (.bool (empK x)) ∧ Kept No w w') := by
  refine hidC fun C HC => ?_
  have HF : Hid (Fq No w w []) := Fq.start _ _
  go_enter Tryz.func174, Tryz.ntmps174
  go_upto_region 0 with fail
  refine WL.start <| xB (Bv.cells x) HF fun g1 w2 HF => tK (.bool false) <| WL.nil <| ?_
  try simp only [pS]
  go_upto_region 1 with fail
  refine WL.start <| tK (pg g1 0) <| lD (.int .i64 x.up) HF 0 0 U3 rfl <| ?_
  try simp only [pS]
  cases q1 : (x.up == 0)
  ·skip
   refine bN (eI q1) <| tK (.bool false) <| sK <| sK <| sK <| sK <| tK (.bool false) <| tK (.bool false) <| sK <| sK <| sK <| sK <| tK (.bool false) <| tK (.bool false) <| WL.nil <| ?_
   try simp only [pS]
   go_wp2
   rw [HC.out]
   exact ⟨ret_bool (by simp only [empK, bsq, q1]), HF.out.kept⟩
  refine bN (eI q1) <| tK (.bool true) <| tK (pg g1 1) <| lD (x.e.v) HF 0 1 U40 rfl <| tK (.int .i64 ((x.e.l : Nat) : Int)) <| ?_
  try simp only [pS]
  cases q2 : (((x.e.l : Nat) : Int) == 0)
  ·skip
   refine bN (eI q2) <| tK (.bool false) <| tK (.bool false) <| sK <| sK <| sK <| sK <| tK (.bool false) <| tK (.bool false) <| WL.nil <| ?_
   try simp only [pS]
   go_wp2
   rw [HC.out]
   exact ⟨ret_bool (by simp only [empK, bsq, q1, q2]), HF.out.kept⟩
  refine bN (eI q2) <| tK (.bool true) <| tK (.bool true) <| tK (pg g1 2) <| lD (x.l.v) HF 0 2 U41 rfl <| tK (.int .i64 ((x.l.l : Nat) : Int)) <| ?_
  try simp only [pS]
  cases q3 : (((x.l.l : Nat) : Int) == 0)
  ·skip
   refine bN (eI q3) <| tK (.bool false) <| tK (.bool false) <| WL.nil <| ?_
   try simp only [pS]
   go_wp2
   rw [HC.out]
   exact ⟨ret_bool (by simp only [empK, bsq, q1, q2, q3]), HF.out.kept⟩
  refine bN (eI q3) <| tK (.bool true) <| tK (.bool true) <| WL.nil <| ?_
  try simp only [pS]
  go_wp2
  rw [HC.out]
  exact ⟨ret_bool (by simp only [empK, bsq, q1, q2, q3]), HF.out.kept⟩
theorem p_isFrom (x : Sp) (w : World) : Calls Tryz.prog 170 #[.agg (Sp.cells x)] w (fun e w' => e = .returned (.bool (frmS x)) ∧ Kept No w w') := by
  refine hidC fun C HC => ?_
  have HF : Hid (Fq No w w []) := Fq.start _ _
  go_enter Tryz.func170, Tryz.ntmps170
  go_upto_region 0 with fail
  refine WL.start <| xB (Sp.cells x) HF fun g1 w2 HF => tK (.bool false) <| WL.nil <| ?_
  try simp only [pS]
  go_upto_region 1 with fail
  refine WL.start <| tK (pg g1 0) <| lD (.int .i64 x.n) HF 0 0 U3 rfl <| ?_
  try simp only [pS]
  cases q1 : (wn x.n 1 1048577)
  ·skip
   refine cB (p_within x.n 1 1048577 _) q1 HF fun w3 HF => tK (.bool false) <| sK <| sK <| sK <| tK (.bool false) <| tK (.bool false) <| WL.nil <| ?_
   try simp only [pS]
   go_wp2
   rw [HC.out]
   exact ⟨ret_bool (by simp only [frmS, bsq, q1]), HF.out.kept⟩
  refine cB (p_within x.n 1 1048577 _) q1 HF fun w4 HF => tK (.bool true) <| tK (pg g1 1) <| lD (.int .i64 x.c) HF 0 1 U3 rfl <| ?_
  try simp only [pS]
  cases q2 : (x.c == 0)
  ·skip
   refine bN (eI q2) <| tK (.bool false) <| tK (.bool false) <| WL.nil <| ?_
   try simp only [pS]
   go_wp2
   rw [HC.out]
   exact ⟨ret_bool (by simp only [frmS, bsq, q1, q2]), HF.out.kept⟩
  refine bN (eI q2) <| tK (.bool true) <| tK (.bool true) <| WL.nil <| ?_
  try simp only [pS]
  go_wp2
  rw [HC.out]
  exact ⟨ret_bool (by simp only [frmS, bsq, q1, q2]), HF.out.kept⟩
theorem r_from (x : Sp) (w : World) : Calls Tryz.prog 175 #[.agg (Sp.cells x)] w (fun e w' => e = .returned (.bool (frmS x)) ∧ Kept No w w') := by
  refine hidC fun C HC => ?_
  have HF : Hid (Fq No w w []) := Fq.start _ _
  go_enter Tryz.func175, Tryz.ntmps175
  go_upto_region 0 with fail
  refine WL.start <| xB (Sp.cells x) HF fun g1 w2 HF => tK (.bool false) <| WL.nil <| ?_
  try simp only [pS]
  go_upto_region 1 with fail
  refine WL.start <| tK (pg g1 0) <| lD (.int .i64 x.n) HF 0 0 U3 rfl <| ?_
  try simp only [pS]
  cases q1 : (wn x.n 1 1048577)
  ·skip
   refine cB (r_within x.n 1 1048577 _) q1 HF fun w3 HF => tK (.bool false) <| sK <| sK <| sK <| tK (.bool false) <| tK (.bool false) <| WL.nil <| ?_
   try simp only [pS]
   go_wp2
   rw [HC.out]
   exact ⟨ret_bool (by simp only [frmS, bsq, q1]), HF.out.kept⟩
  refine cB (r_within x.n 1 1048577 _) q1 HF fun w4 HF => tK (.bool true) <| tK (pg g1 1) <| lD (.int .i64 x.c) HF 0 1 U3 rfl <| ?_
  try simp only [pS]
  cases q2 : (x.c == 0)
  ·skip
   refine bN (eI q2) <| tK (.bool false) <| tK (.bool false) <| WL.nil <| ?_
   try simp only [pS]
   go_wp2
   rw [HC.out]
   exact ⟨ret_bool (by simp only [frmS, bsq, q1, q2]), HF.out.kept⟩
  refine bN (eI q2) <| tK (.bool true) <| tK (.bool true) <| WL.nil <| ?_
  try simp only [pS]
  go_wp2
  rw [HC.out]
  exact ⟨ret_bool (by simp only [frmS, bsq, q1, q2]), HF.out.kept⟩
theorem p_isClient (x : Ad) (w : World) : Calls Tryz.prog 165 #[.agg (Ad.cells x)] w (fun e w' => e = .returned (.bool (cliB x)) ∧ Kept No w w') := by
  refine hidC fun C HC => ?_
  have HF : Hid (Fq No w w []) := Fq.start _ _
  go_enter Tryz.func165, Tryz.ntmps165
  go_upto_region 0 with fail
  refine WL.start <| xB (Ad.cells x) HF fun g1 w2 HF => tK (.bool false) <| WL.nil <| ?_
  try simp only [pS]
  go_upto_region 1 with fail
  refine WL.start <| tK (pg g1 0) <| lD (.bool x.cl) HF 0 0 U4 rfl <| tK (.bool x.cl) <| ?_
  try simp only [pS]
  cases q1 : (x.cl)
  ·skip
   refine sK <| sK <| sK <| tK (.bool false) <| tK (.bool false) <| WL.nil <| ?_
   try simp only [pS]
   go_wp2
   rw [HC.out]
   exact ⟨ret_bool (by simp only [cliB, bsq, q1]), HF.out.kept⟩
  refine tK (pg g1 1) <| lD (.int .i64 x.id) HF 0 1 U3 rfl <| ?_
  try simp only [pS]
  cases q2 : (wn x.id 1 255)
  ·skip
   refine cB (p_rightId x.id _) q2 HF fun w3 HF => tK (.bool false) <| tK (.bool false) <| WL.nil <| ?_
   try simp only [pS]
   go_wp2
   rw [HC.out]
   exact ⟨ret_bool (by simp only [cliB, bsq, q1, q2]), HF.out.kept⟩
  refine cB (p_rightId x.id _) q2 HF fun w4 HF => tK (.bool true) <| tK (.bool true) <| WL.nil <| ?_
  try simp only [pS]
  go_wp2
  rw [HC.out]
  exact ⟨ret_bool (by simp only [cliB, bsq, q1, q2]), HF.out.kept⟩
theorem r_client (x : Ad) (w : World) : Calls Tryz.prog 93 #[.agg (Ad.cells x)] w (fun e w' => e = .returned (.bool (cliB x)) ∧ Kept No w w') := by
  refine hidC fun C HC => ?_
  have HF : Hid (Fq No w w []) := Fq.start _ _
  go_enter Tryz.func93, Tryz.ntmps93
  go_upto_region 0 with fail
  refine WL.start <| xB (Ad.cells x) HF fun g1 w2 HF => tK (.bool false) <| WL.nil <| ?_
  try simp only [pS]
  go_upto_region 1 with fail
  refine WL.start <| tK (pg g1 0) <| lD (.bool x.cl) HF 0 0 U4 rfl <| tK (.bool x.cl) <| ?_
  try simp only [pS]
  cases q1 : (x.cl)
  ·skip
   refine sK <| sK <| sK <| tK (.bool false) <| tK (.bool false) <| WL.nil <| ?_
   try simp only [pS]
   go_wp2
   rw [HC.out]
   exact ⟨ret_bool (by simp only [cliB, bsq, q1]), HF.out.kept⟩
  refine tK (pg g1 1) <| lD (.int .i64 x.id) HF 0 1 U3 rfl <| ?_
  try simp only [pS]
  cases q2 : (wn x.id 1 255)
  ·skip
   refine cB (r_within x.id 1 255 _) q2 HF fun w3 HF => tK (.bool false) <| tK (.bool false) <| WL.nil <| ?_
   try simp only [pS]
   go_wp2
   rw [HC.out]
   exact ⟨ret_bool (by simp only [cliB, bsq, q1, q2]), HF.out.kept⟩
  refine cB (r_within x.id 1 255 _) q2 HF fun w4 HF => tK (.bool true) <| tK (.bool true) <| WL.nil <| ?_
  try simp only [pS]
  go_wp2
  rw [HC.out]
  exact ⟨ret_bool (by simp only [cliB, bsq, q1, q2]), HF.out.kept⟩
theorem p_above (a b : Sp) (w : World) : Calls Tryz.prog 185 #[.agg (Sp.cells a), .agg (Sp.cells b)] w (fun e w' => e = .returned (.bool (abvS a b)) ∧ Kept No w w') := by
  refine hidC fun C HC => ?_
  have HF : Hid (Fq No w w []) := Fq.start _ _
  go_enter Tryz.func185, Tryz.ntmps185
  go_upto_region 0 with fail
  refine WL.start <| xB (Sp.cells a) HF fun g1 w2 HF => xB (Sp.cells b) HF fun g3 w4 HF => tK (.bool false) <| WL.nil <| ?_
  try simp only [pS]
  go_upto_region 1 with fail
  refine WL.start <| tK (pg g1 0) <| lD (.int .i64 a.n) HF 0 0 U3 rfl <| tK (pg g3 0) <| lD (.int .i64 b.n) HF 1 0 U3 rfl <| ?_
  try simp only [pS]
  cases q1 : (decide (b.n < a.n))
  rotate_left
  ·skip
   refine bN (gI q1) <| tK (.bool true) <| sK <| sK <| sK <| sK <| sK <| sK <| sK <| sK <| sK <| sK <| sK <| sK <| tK (.bool true) <| tK (.bool true) <| WL.nil <| ?_
   try simp only [pS]
   go_wp2
   rw [HC.out]
   exact ⟨ret_bool (by simp only [abvS, bsq, q1]), HF.out.kept⟩
  refine bN (gI q1) <| tK (.bool false) <| tK (pg g1 0) <| lD (.int .i64 a.n) HF 0 0 U3 rfl <| tK (pg g3 0) <| lD (.int .i64 b.n) HF 1 0 U3 rfl <| ?_
  try simp only [pS]
  cases q2 : (a.n == b.n)
  ·skip
   refine bN (eI q2) <| tK (.bool false) <| sK <| sK <| sK <| sK <| sK <| tK (.bool false) <| tK (.bool false) <| tK (.bool false) <| WL.nil <| ?_
   try simp only [pS]
   go_wp2
   rw [HC.out]
   exact ⟨ret_bool (by simp only [abvS, bsq, q1, q2]), HF.out.kept⟩
  refine bN (eI q2) <| tK (.bool true) <| tK (pg g1 1) <| lD (.int .i64 a.c) HF 0 1 U3 rfl <| tK (pg g3 1) <| lD (.int .i64 b.c) HF 1 1 U3 rfl <| ?_
  try simp only [pS]
  cases q3 : (decide (b.c < a.c))
  ·skip
   refine bN (gI q3) <| tK (.bool false) <| tK (.bool false) <| tK (.bool false) <| WL.nil <| ?_
   try simp only [pS]
   go_wp2
   rw [HC.out]
   exact ⟨ret_bool (by simp only [abvS, bsq, q1, q2, q3]), HF.out.kept⟩
  refine bN (gI q3) <| tK (.bool true) <| tK (.bool true) <| tK (.bool true) <| WL.nil <| ?_
  try simp only [pS]
  go_wp2
  rw [HC.out]
  exact ⟨ret_bool (by simp only [abvS, bsq, q1, q2, q3]), HF.out.kept⟩
theorem r_Above (a b : Sp) (w : World) : Calls Tryz.prog 139 #[.agg (Sp.cells a), .agg (Sp.cells b)] w (fun e w' => e = .returned (.bool (abvS a b)) ∧ Kept No w w') := by
  refine hidC fun C HC => ?_
  have HF : Hid (Fq No w w []) := Fq.start _ _
  go_enter Tryz.func139, Tryz.ntmps139
  go_upto_region 0 with fail
  refine WL.start <| xB (Sp.cells a) HF fun g1 w2 HF => xB (Sp.cells b) HF fun g3 w4 HF => tK (.bool false) <| WL.nil <| ?_
  try simp only [pS]
  go_upto_region 1 with fail
  refine WL.start <| tK (pg g1 0) <| lD (.int .i64 a.n) HF 0 0 U3 rfl <| tK (pg g3 0) <| lD (.int .i64 b.n) HF 1 0 U3 rfl <| ?_
  try simp only [pS]
  cases q1 : (decide (b.n < a.n))
  rotate_left
  ·skip
   refine bN (gI q1) <| tK (.bool true) <| sK <| sK <| sK <| sK <| sK <| sK <| sK <| sK <| sK <| sK <| sK <| sK <| tK (.bool true) <| tK (.bool true) <| WL.nil <| ?_
   try simp only [pS]
   go_wp2
   rw [HC.out]
   exact ⟨ret_bool (by simp only [abvS, bsq, q1]), HF.out.kept⟩
  refine bN (gI q1) <| tK (.bool false) <| tK (pg g1 0) <| lD (.int .i64 a.n) HF 0 0 U3 rfl <| tK (pg g3 0) <| lD (.int .i64 b.n) HF 1 0 U3 rfl <| ?_
  try simp only [pS]
  cases q2 : (a.n == b.n)
  ·skip
   refine bN (eI q2) <| tK (.bool false) <| sK <| sK <| sK <| sK <| sK <| tK (.bool false) <| tK (.bool false) <| tK (.bool false) <| WL.nil <| ?_
   try simp only [pS]
   go_wp2
   rw [HC.out]
   exact ⟨ret_bool (by simp only [abvS, bsq, q1, q2]), HF.out.kept⟩
  refine bN (eI q2) <| tK (.bool true) <| tK (pg g1 1) <| lD (.int .i64 a.c) HF 0 1 U3 rfl <| tK (pg g3 1) <| lD (.int .i64 b.c) HF 1 1 U3 rfl <| ?_
  try simp only [pS]
  cases q3 : (decide (b.c < a.c))
  ·skip
   refine bN (gI q3) <| tK (.bool false) <| tK (.bool false) <| tK (.bool false) <| WL.nil <| ?_
   try simp only [pS]
   go_wp2
   rw [HC.out]
   exact ⟨ret_bool (by simp only [abvS, bsq, q1, q2, q3]), HF.out.kept⟩
  refine bN (gI q3) <| tK (.bool true) <| tK (.bool true) <| tK (.bool true) <| WL.nil <| ?_
  try simp only [pS]
  go_wp2
  rw [HC.out]
  exact ⟨ret_bool (by simp only [abvS, bsq, q1, q2, q3]), HF.out.kept⟩
theorem p_rightSize (n : Int) (c : Cg) (w : World) (hb : 0 ≤ c.bl ∧ c.bl ≤ 4096) : Calls Tryz.prog 177 #[.int .i64 n, .agg (Cg.cells c)] w (fun e w' => e = .returned (.bool (szB c.bl n)) ∧ Kept No w w') := by
  refine hidC fun C HC => ?_
  have HB : Hid (0 ≤ c.bl ∧ c.bl ≤ 4096) := hb
  clear hb
  have HF : Hid (Fq No w w []) := Fq.start _ _
  go_enter Tryz.func177, Tryz.ntmps177
  go_upto_region 0 with fail
  refine WL.start <| xB (Cg.cells c) HF fun g1 w2 HF => tK (.bool false) <| WL.nil <| ?_
  try simp only [pS]
  go_upto_region 1 with fail
  refine WL.start <| tK (.int .i64 n) <| tK (pg g1 4) <| lD (.int .i64 c.bl) HF 0 4 U3 rfl <| bN (v := .int .i64 (1048576 * c.bl)) (b_mulw 1048576 c.bl (1048576 * c.bl) (by rw [IntKind.wrap_i64]; have := HB.out; omega)) <| ?_
  try simp only [pS]
  cases q1 : (wn n 0 (1048576 * c.bl))
  ·skip
   refine cB (p_within n 0 (1048576 * c.bl) _) q1 HF fun w3 HF => tK (.bool false) <| WL.nil <| ?_
   try simp only [pS]
   go_wp2
   rw [HC.out]
   exact ⟨ret_bool (by simp only [szB, bsq, q1]), HF.out.kept⟩
  refine cB (p_within n 0 (1048576 * c.bl) _) q1 HF fun w4 HF => tK (.bool true) <| WL.nil <| ?_
  try simp only [pS]
  go_wp2
  rw [HC.out]
  exact ⟨ret_bool (by simp only [szB, bsq, q1]), HF.out.kept⟩
theorem r_IsSize (n : Int) (c : Cg) (w : World) (hb : 0 ≤ c.bl ∧ c.bl ≤ 4096) : Calls Tryz.prog 107 #[.int .i64 n, .agg (Cg.cells c)] w (fun e w' => e = .returned (.bool (szB c.bl n)) ∧ Kept No w w') := by
  refine hidC fun C HC => ?_
  have HB : Hid (0 ≤ c.bl ∧ c.bl ≤ 4096) := hb
  clear hb
  have HF : Hid (Fq No w w []) := Fq.start _ _
  go_enter Tryz.func107, Tryz.ntmps107
  go_upto_region 0 with fail
  refine WL.start <| xB (Cg.cells c) HF fun g1 w2 HF => tK (.bool false) <| WL.nil <| ?_
  try simp only [pS]
  go_upto_region 1 with fail
  refine WL.start <| tK (.int .i64 n) <| tK (pg g1 4) <| lD (.int .i64 c.bl) HF 0 4 U3 rfl <| bN (v := .int .i64 (1048576 * c.bl)) (b_mulw 1048576 c.bl (1048576 * c.bl) (by rw [IntKind.wrap_i64]; have := HB.out; omega)) <| ?_
  try simp only [pS]
  cases q1 : (wn n 0 (1048576 * c.bl))
  ·skip
   refine cB (r_within n 0 (1048576 * c.bl) _) q1 HF fun w3 HF => tK (.bool false) <| WL.nil <| ?_
   try simp only [pS]
   go_wp2
   rw [HC.out]
   exact ⟨ret_bool (by simp only [szB, bsq, q1]), HF.out.kept⟩
  refine cB (r_within n 0 (1048576 * c.bl) _) q1 HF fun w4 HF => tK (.bool true) <| WL.nil <| ?_
  try simp only [pS]
  go_wp2
  rw [HC.out]
  exact ⟨ret_bool (by simp only [szB, bsq, q1]), HF.out.kept⟩
theorem p_indexS (s : ByteArray) (c : Nat) (hc : c < 256) (w : World) : Calls Tryz.prog 217 #[.string s, .int .u8 (c : Int)] w (fun e w' => e = .returned (.int .i64 (Lib.indexByte s.data.toList (c : Int).toNat.toUInt8)) ∧ Kept No w w') := by
  go_enter Tryz.func217, Tryz.ntmps217
  go_wp2
  rw [run_callFunc_extern (fn := Tryz.f229) (by kernel_rfl) (by kernel_rfl) (by kernel_rfl) (by kernel_rfl) (e := Extern.BytealgIndexByte.indexByte) (by kernel_rfl), Lib.run_indexByteString]
  simp only [Result.andThen]
  rw [Oper.upon_value]
  go_wp2
  go_ret
  exact ⟨rfl, Kept.refl No w⟩
theorem p_indexT (s : ByteArray) (c : Nat) (hc : c < 256) (w : World) : Calls Tryz.prog 176 #[.string s, .int .u8 (c : Int)] w (fun e w' => e = .returned (.int .i64 (Lib.indexByte s.data.toList (c : Int).toNat.toUInt8)) ∧ Kept No w w') := by
  have H := p_indexS s c hc
  go_enter Tryz.func176, Tryz.ntmps176
  go_wp2_with (go_at_call 217; refine (H _).mono ?_; rintro e w' ⟨rfl, hk⟩)
  go_ret
  exact ⟨rfl, hk⟩
theorem p_indexB (s : ByteArray) (c : Nat) (w : World) (hc : c < 256 := by decide) : Calls Tryz.prog 176 #[.string s, .int .u8 (c : Int)] w (fun e w' => e = .returned (.int .i64 (idxB s c.toUInt8)) ∧ Kept No w w') := p_indexT s c hc w
end Go.Proofs.YtgdnofacgfjaeaaGreat.Md
