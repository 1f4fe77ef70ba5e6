import Derived.Test.YtgdnofacgfjaeaaGreatKe
import Derived.Lib.Bytealg
import Derived.Lib.Walk
namespace Go.Proofs.YtgdnofacgfjaeaaGreat.Md
set_option maxRecDepth 100000
set_option maxHeartbeats 4000000
open Go.RowKit
set_option linter.unusedVariables false
set_option linter.unusedSimpArgs false
theorem p_within (n lo hi : Int) (w : World) : Calls Tryz.prog 109 #[.int .i64 n, .int .i64 lo, .int .i64 hi] w (fun e w' => e = .returned (.bool (wn n lo hi)) ∧ Kept No w w') := by
  refine hidC fun C HC => ?_
  have HF : Hid (Fq No w w []) := Fq.start _ _
  go_enter Tryz.func109, Tryz.ntmps109
  go_upto_region 0 with fail
  refine WL.start <| tK (.bool false) <| WL.nil <| ?_
  try simp only [pS]
  go_upto_region 1 with fail
  refine WL.start <| tK (.int .i64 lo) <| tK (.int .i64 n) <| ?_
  try simp only [pS]
  cases q1 : (decide (lo ≤ n))
  ·skip
   refine bN (leI q1) <| tK (.bool false) <| sK <| sK <| sK <| tK (.bool false) <| tK (.bool false) <| WL.nil <| ?_
   try simp only [pS]
   go_wp2
   rw [HC.out]
   exact ⟨ret_bool (by simp only [wn, bsq, q1]), HF.out.kept⟩
  refine bN (leI q1) <| tK (.bool true) <| tK (.int .i64 n) <| tK (.int .i64 hi) <| ?_
  try simp only [pS]
  cases q2 : (decide (n ≤ hi))
  ·skip
   refine bN (leI q2) <| tK (.bool false) <| tK (.bool false) <| WL.nil <| ?_
   try simp only [pS]
   go_wp2
   rw [HC.out]
   exact ⟨ret_bool (by simp only [wn, bsq, q1, q2]), HF.out.kept⟩
  refine bN (leI q2) <| tK (.bool true) <| tK (.bool true) <| WL.nil <| ?_
  try simp only [pS]
  go_wp2
  rw [HC.out]
  exact ⟨ret_bool (by simp only [wn, bsq, q1, q2]), HF.out.kept⟩
theorem r_within (n lo hi : Int) (w : World) : Calls Tryz.prog 104 #[.int .i64 n, .int .i64 lo, .int .i64 hi] w (fun e w' => e = .returned (.bool (wn n lo hi)) ∧ Kept No w w') := by
  refine hidC fun C HC => ?_
  have HF : Hid (Fq No w w []) := Fq.start _ _
  go_enter Tryz.func104, Tryz.ntmps104
  go_upto_region 0 with fail
  refine WL.start <| tK (.bool false) <| WL.nil <| ?_
  try simp only [pS]
  go_upto_region 1 with fail
  refine WL.start <| tK (.int .i64 n) <| tK (.int .i64 lo) <| ?_
  try simp only [pS]
  cases q1 : (decide (lo ≤ n))
  ·skip
   refine bN (geI q1) <| tK (.bool false) <| sK <| sK <| sK <| tK (.bool false) <| tK (.bool false) <| WL.nil <| ?_
   try simp only [pS]
   go_wp2
   rw [HC.out]
   exact ⟨ret_bool (by simp only [wn, bsq, q1]), HF.out.kept⟩
  refine bN (geI q1) <| tK (.bool true) <| tK (.int .i64 n) <| tK (.int .i64 hi) <| ?_
  try simp only [pS]
  cases q2 : (decide (n ≤ hi))
  ·skip
   refine bN (leI q2) <| tK (.bool false) <| tK (.bool false) <| WL.nil <| ?_
   try simp only [pS]
   go_wp2
   rw [HC.out]
   exact ⟨ret_bool (by simp only [wn, bsq, q1, q2]), HF.out.kept⟩
  refine bN (leI q2) <| tK (.bool true) <| tK (.bool true) <| WL.nil <| ?_
  try simp only [pS]
  go_wp2
  rw [HC.out]
  exact ⟨ret_bool (by simp only [wn, bsq, q1, q2]), HF.out.kept⟩
theorem p_rightId (n : Int) (w : World) : Calls Tryz.prog 99 #[.int .i64 n] w (fun e w' => e = .returned (.bool (wn n 1 255)) ∧ Kept No w w') := by
  refine hidC fun C HC => ?_
  have HF : Hid (Fq No w w []) := Fq.start _ _
  go_enter Tryz.func99, Tryz.ntmps99
  go_upto_region 0 with fail
  refine WL.start <| tK (.bool false) <| WL.nil <| ?_
  try simp only [pS]
  go_upto_region 1 with fail
  refine WL.start <| tK (.int .i64 n) <| ?_
  try simp only [pS]
  cases q1 : (wn n 1 255)
  ·skip
   refine cB (p_within n 1 255 _) q1 HF fun w1 HF => tK (.bool false) <| WL.nil <| ?_
   try simp only [pS]
   go_wp2
   rw [HC.out]
   exact ⟨ret_bool (q1.symm), HF.out.kept⟩
  refine cB (p_within n 1 255 _) q1 HF fun w2 HF => tK (.bool true) <| WL.nil <| ?_
  try simp only [pS]
  go_wp2
  rw [HC.out]
  exact ⟨ret_bool (q1.symm), HF.out.kept⟩
theorem p_rightNum (n : Int) (w : World) : Calls Tryz.prog 100 #[.int .i64 n] w (fun e w' => e = .returned (.bool (wn n 1 1099511627776)) ∧ Kept No w w') := by
  refine hidC fun C HC => ?_
  have HF : Hid (Fq No w w []) := Fq.start _ _
  go_enter Tryz.func100, Tryz.ntmps100
  go_upto_region 0 with fail
  refine WL.start <| tK (.bool false) <| WL.nil <| ?_
  try simp only [pS]
  go_upto_region 1 with fail
  refine WL.start <| tK (.int .i64 n) <| ?_
  try simp only [pS]
  cases q1 : (wn n 1 1099511627776)
  ·skip
   refine cB (p_within n 1 1099511627776 _) q1 HF fun w1 HF => tK (.bool false) <| WL.nil <| ?_
   try simp only [pS]
   go_wp2
   rw [HC.out]
   exact ⟨ret_bool (q1.symm), HF.out.kept⟩
  refine cB (p_within n 1 1099511627776 _) q1 HF fun w2 HF => tK (.bool true) <| WL.nil <| ?_
  try simp only [pS]
  go_wp2
  rw [HC.out]
  exact ⟨ret_bool (q1.symm), HF.out.kept⟩
theorem p_isOne (x : Sp) (w : World) : Calls Tryz.prog 126 #[.agg (Sp.cells x)] w (fun e w' => e = .returned (.bool (oneS x)) ∧ Kept No w w') := by
  refine hidC fun C HC => ?_
  have HF : Hid (Fq No w w []) := Fq.start _ _
  go_enter Tryz.func126, Tryz.ntmps126
  go_upto_region 0 with fail
  refine WL.start <| xB (Sp.cells x) HF fun g1 w2 HF => tK (.bool false) <| WL.nil <| ?_
  try simp only [pS]
  go_upto_region 1 with fail
  refine WL.start <| tK (pg g1 0) <| lD (.int .i64 x.n) HF 0 0 U3 rfl <| ?_
  try simp only [pS]
  cases q1 : (wn x.n 1 1099511627776)
  ·skip
   refine cB (p_rightNum x.n _) q1 HF fun w3 HF => tK (.bool false) <| sK <| sK <| sK <| tK (.bool false) <| tK (.bool false) <| WL.nil <| ?_
   try simp only [pS]
   go_wp2
   rw [HC.out]
   exact ⟨ret_bool (by simp only [oneS, bsq, q1]), HF.out.kept⟩
  refine cB (p_rightNum x.n _) q1 HF fun w4 HF => tK (.bool true) <| tK (pg g1 1) <| lD (.int .i64 x.c) HF 0 1 U3 rfl <| ?_
  try simp only [pS]
  cases q2 : (wn x.c 1 255)
  ·skip
   refine cB (p_rightId x.c _) q2 HF fun w5 HF => tK (.bool false) <| tK (.bool false) <| WL.nil <| ?_
   try simp only [pS]
   go_wp2
   rw [HC.out]
   exact ⟨ret_bool (by simp only [oneS, bsq, q1, q2]), HF.out.kept⟩
  refine cB (p_rightId x.c _) q2 HF fun w6 HF => tK (.bool true) <| tK (.bool true) <| WL.nil <| ?_
  try simp only [pS]
  go_wp2
  rw [HC.out]
  exact ⟨ret_bool (by simp only [oneS, bsq, q1, q2]), HF.out.kept⟩
theorem r_One (x : Sp) (w : World) : Calls Tryz.prog 131 #[.agg (Sp.cells x)] w (fun e w' => e = .returned (.bool (oneS x)) ∧ Kept No w w') := by
  refine hidC fun C HC => ?_
  have HF : Hid (Fq No w w []) := Fq.start _ _
  go_enter Tryz.func131, Tryz.ntmps131
  go_upto_region 0 with fail
  refine WL.start <| xB (Sp.cells x) HF fun g1 w2 HF => tK (.bool false) <| WL.nil <| ?_
  try simp only [pS]
  go_upto_region 1 with fail
  refine WL.start <| tK (pg g1 0) <| lD (.int .i64 x.n) HF 0 0 U3 rfl <| ?_
  try simp only [pS]
  cases q1 : (wn x.n 1 1099511627776)
  ·skip
   refine cB (r_within x.n 1 1099511627776 _) q1 HF fun w3 HF => tK (.bool false) <| sK <| sK <| sK <| tK (.bool false) <| tK (.bool false) <| WL.nil <| ?_
   try simp only [pS]
   go_wp2
   rw [HC.out]
   exact ⟨ret_bool (by simp only [oneS, bsq, q1]), HF.out.kept⟩
  refine cB (r_within x.n 1 1099511627776 _) q1 HF fun w4 HF => tK (.bool true) <| tK (pg g1 1) <| lD (.int .i64 x.c) HF 0 1 U3 rfl <| ?_
  try simp only [pS]
  cases q2 : (wn x.c 1 255)
  ·skip
   refine cB (r_within x.c 1 255 _) q2 HF fun w5 HF => tK (.bool false) <| tK (.bool false) <| WL.nil <| ?_
   try simp only [pS]
   go_wp2
   rw [HC.out]
   exact ⟨ret_bool (by simp only [oneS, bsq, q1, q2]), HF.out.kept⟩
  refine cB (r_within x.c 1 255 _) q2 HF fun w6 HF => tK (.bool true) <| tK (.bool true) <| WL.nil <| ?_
  try simp only [pS]
  go_wp2
  rw [HC.out]
  exact ⟨ret_bool (by simp only [oneS, bsq, q1, q2]), HF.out.kept⟩
theorem p_isNone (x : Sp) (w : World) : Calls Tryz.prog 127 #[.agg (Sp.cells x)] w (fun e w' => e = .returned (.bool (eqS x spZ)) ∧ Kept No w w') := by
  refine hidC fun C HC => ?_
  have HF : Hid (Fq No w w []) := Fq.start _ _
  go_enter Tryz.func127, Tryz.ntmps127
  go_upto_region 0 with fail
  refine WL.start <| xB (Sp.cells x) HF fun g1 w2 HF => tK (.bool false) <| WL.nil <| ?_
  try simp only [pS]
  go_upto_region 1 with fail
  refine WL.start <| lP (Sp.cs x) HF 0 0 U34 S34 (Sp.cs x) rfl <| bD (Sp.cells spZ) <| ?_
  try simp only [pS]
  cases q1 : (eqS x spZ)
  ·skip
   refine bN (qeS q1) <| tK (.bool false) <| WL.nil <| ?_
   try simp only [pS]
   go_wp2
   rw [HC.out]
   exact ⟨ret_bool (q1.symm), HF.out.kept⟩
  refine bN (qeS q1) <| tK (.bool true) <| WL.nil <| ?_
  try simp only [pS]
  go_wp2
  rw [HC.out]
  exact ⟨ret_bool (q1.symm), HF.out.kept⟩
theorem r_None (x : Sp) (w : World) : Calls Tryz.prog 132 #[.agg (Sp.cells x)] w (fun e w' => e = .returned (.bool (eqS x spZ)) ∧ Kept No w w') := by
  refine hidC fun C HC => ?_
  have HF : Hid (Fq No w w []) := Fq.start _ _
  go_enter Tryz.func132, Tryz.ntmps132
  go_upto_region 0 with fail
  refine WL.start <| xB (Sp.cells x) HF fun g1 w2 HF => tK (.bool false) <| WL.nil <| ?_
  try simp only [pS]
  go_upto_region 1 with fail
  refine WL.start <| tK (pg g1 0) <| lD (.int .i64 x.n) HF 0 0 U3 rfl <| ?_
  try simp only [pS]
  cases q1 : (x.n == 0)
  ·skip
   refine bN (eI q1) <| tK (.bool false) <| sK <| sK <| sK <| tK (.bool false) <| tK (.bool false) <| WL.nil <| ?_
   try simp only [pS]
   go_wp2
   rw [HC.out]
   exact ⟨ret_bool (by simp only [eqS, spZ, bsq, q1]), HF.out.kept⟩
  refine bN (eI q1) <| tK (.bool true) <| tK (pg g1 1) <| lD (.int .i64 x.c) HF 0 1 U3 rfl <| ?_
  try simp only [pS]
  cases q2 : (x.c == 0)
  ·skip
   refine bN (eI q2) <| tK (.bool false) <| tK (.bool false) <| WL.nil <| ?_
   try simp only [pS]
   go_wp2
   rw [HC.out]
   exact ⟨ret_bool (by simp only [eqS, spZ, bsq, q1, q2]), HF.out.kept⟩
  refine bN (eI q2) <| tK (.bool true) <| tK (.bool true) <| WL.nil <| ?_
  try simp only [pS]
  go_wp2
  rw [HC.out]
  exact ⟨ret_bool (by simp only [eqS, spZ, bsq, q1, q2]), HF.out.kept⟩
theorem r_none (x : Cm) (w : World) : Calls Tryz.prog 140 #[.agg (Cm.cells x)] w (fun e w' => e = .returned (.bool (eqC x cZ)) ∧ Kept No w w') := by
  refine hidC fun C HC => ?_
  have HF : Hid (Fq No w w []) := Fq.start _ _
  go_enter Tryz.func140, Tryz.ntmps140
  go_upto_region 0 with fail
  refine WL.start <| xB (Cm.cells x) HF fun g1 w2 HF => tK (.bool false) <| WL.nil <| ?_
  try simp only [pS]
  go_upto_region 1 with fail
  refine WL.start <| lP (Cm.cs x) HF 0 0 U39 S39 (Cm.cs x) rfl <| bD (Cm.cells cZ) <| ?_
  try simp only [pS]
  cases q1 : (eqC x cZ)
  ·skip
   refine bN (qeC q1) <| tK (.bool false) <| WL.nil <| ?_
   try simp only [pS]
   go_wp2
   rw [HC.out]
   exact ⟨ret_bool (q1.symm), HF.out.kept⟩
  refine bN (qeC q1) <| tK (.bool true) <| WL.nil <| ?_
  try simp only [pS]
  go_wp2
  rw [HC.out]
  exact ⟨ret_bool (q1.symm), HF.out.kept⟩
theorem p_isFile (x : Fi) (w : World) : Calls Tryz.prog 103 #[.agg (Fi.cells x)] w (fun e w' => e = .returned (.bool (filB x)) ∧ Kept No w w') := by
  refine hidC fun C HC => ?_
  have HF : Hid (Fq No w w []) := Fq.start _ _
  go_enter Tryz.func103, Tryz.ntmps103
  go_upto_region 0 with fail
  refine WL.start <| xB (Fi.cells x) HF fun g1 w2 HF => tK (.bool false) <| WL.nil <| ?_
  try simp only [pS]
  go_upto_region 1 with fail
  refine WL.start <| tK (pg g1 0) <| lD (.int .i64 x.c) HF 0 0 U3 rfl <| ?_
  try simp only [pS]
  cases q1 : (wn x.c 1 255)
  ·skip
   refine cB (p_rightId x.c _) q1 HF fun w3 HF => tK (.bool false) <| sK <| sK <| sK <| tK (.bool false) <| tK (.bool false) <| WL.nil <| ?_
   try simp only [pS]
   go_wp2
   rw [HC.out]
   exact ⟨ret_bool (by simp only [filB, bsq, q1]), HF.out.kept⟩
  refine cB (p_rightId x.c _) q1 HF fun w4 HF => tK (.bool true) <| tK (pg g1 1) <| lD (.int .i64 x.o) HF 0 1 U3 rfl <| ?_
  try simp only [pS]
  cases q2 : (wn x.o 1 1099511627776)
  ·skip
   refine cB (p_rightNum x.o _) q2 HF fun w5 HF => tK (.bool false) <| tK (.bool false) <| WL.nil <| ?_
   try simp only [pS]
   go_wp2
   rw [HC.out]
   exact ⟨ret_bool (by simp only [filB, bsq, q1, q2]), HF.out.kept⟩
  refine cB (p_rightNum x.o _) q2 HF fun w6 HF => tK (.bool true) <| tK (.bool true) <| WL.nil <| ?_
  try simp only [pS]
  go_wp2
  rw [HC.out]
  exact ⟨ret_bool (by simp only [filB, bsq, q1, q2]), HF.out.kept⟩
theorem r_IsFile (x : Fi) (w : World) : Calls Tryz.prog 106 #[.agg (Fi.cells x)] w (fun e w' => e = .returned (.bool (filB x)) ∧ Kept No w w') := by
  refine hidC fun C HC => ?_
  have HF : Hid (Fq No w w []) := Fq.start _ _
  go_enter Tryz.func106, Tryz.ntmps106
  go_upto_region 0 with fail
  refine WL.start <| xB (Fi.cells x) HF fun g1 w2 HF => tK (.bool false) <| WL.nil <| ?_
  try simp only [pS]
  go_upto_region 1 with fail
  refine WL.start <| tK (pg g1 0) <| lD (.int .i64 x.c) HF 0 0 U3 rfl <| ?_
  try simp only [pS]
  cases q1 : (wn x.c 1 255)
  ·skip
   refine cB (r_within x.c 1 255 _) q1 HF fun w3 HF => tK (.bool false) <| sK <| sK <| sK <| tK (.bool false) <| tK (.bool false) <| WL.nil <| ?_
   try simp only [pS]
   go_wp2
   rw [HC.out]
   exact ⟨ret_bool (by simp only [filB, bsq, q1]), HF.out.kept⟩
  refine cB (r_within x.c 1 255 _) q1 HF fun w4 HF => tK (.bool true) <| tK (pg g1 1) <| lD (.int .i64 x.o) HF 0 1 U3 rfl <| ?_
  try simp only [pS]
  cases q2 : (wn x.o 1 1099511627776)
  ·skip
   refine cB (r_within x.o 1 1099511627776 _) q2 HF fun w5 HF => tK (.bool false) <| tK (.bool false) <| WL.nil <| ?_
   try simp only [pS]
   go_wp2
   rw [HC.out]
   exact ⟨ret_bool (by simp only [filB, bsq, q1, q2]), HF.out.kept⟩
  refine cB (r_within x.o 1 1099511627776 _) q2 HF fun w6 HF => tK (.bool true) <| tK (.bool true) <| WL.nil <| ?_
  try simp only [pS]
  go_wp2
  rw [HC.out]
  exact ⟨ret_bool (by simp only [filB, bsq, q1, q2]), HF.out.kept⟩
theorem p_emptyBucket (x : Bv) (w : World) : Calls Tryz.prog 108 #[.agg (Bv.cells x)] w (fun e w' => e = .returned (.bool (empK x)) ∧ Kept No w w') := by
  refine hidC fun C HC => ?_
  have HF : Hid (Fq No w w []) := Fq.start _ _
  go_enter Tryz.func108, Tryz.ntmps108
  go_upto_region 0 with fail
  refine WL.start <| xB (Bv.cells x) HF fun g1 w2 HF => tK (.bool false) <| WL.nil <| ?_
  try simp only [pS]
  go_upto_region 1 with fail
  refine WL.start <| tK (pg g1 0) <| lD (.int .i64 x.up) HF 0 0 U3 rfl <| ?_
  try simp only [pS]
  cases q1 : (x.up == 0)
  ·skip
   refine bN (eI q1) <| tK (.bool false) <| sK <| sK <| sK <| sK <| tK (.bool false) <| tK (.bool false) <| sK <| sK <| sK <| sK <| tK (.bool false) <| tK (.bool false) <| WL.nil <| ?_
   try simp only [pS]
   go_wp2
   rw [HC.out]
   exact ⟨ret_bool (by simp only [empK, bsq, q1]), HF.out.kept⟩
  refine bN (eI q1) <| tK (.bool true) <| tK (pg g1 1) <| lD (x.e.v) HF 0 1 U40 rfl <| tK (.int .i64 ((x.e.l : Nat) : Int)) <| ?_
  try simp only [pS]
  cases q2 : (((x.e.l : Nat) : Int) == 0)
  ·skip
   refine bN (eI q2) <| tK (.bool false) <| tK (.bool false) <| sK <| sK <| sK <| sK <| tK (.bool false) <| tK (.bool false) <| WL.nil <| ?_
   try simp only [pS]
   go_wp2
   rw [HC.out]
   exact ⟨ret_bool (by simp only [empK, bsq, q1, q2]), HF.out.kept⟩
  refine bN (eI q2) <| tK (.bool true) <| tK (.bool true) <| tK (pg g1 2) <| lD (x.l.v) HF 0 2 U41 rfl <| tK (.int .i64 ((x.l.l : Nat) : Int)) <| ?_
  try simp only [pS]
  cases q3 : (((x.l.l : Nat) : Int) == 0)
  ·skip
   refine bN (eI q3) <| tK (.bool false) <| tK (.bool false) <| WL.nil <| ?_
   try simp only [pS]
   go_wp2
   rw [HC.out]
   exact ⟨ret_bool (by simp only [empK, bsq, q1, q2, q3]), HF.out.kept⟩
  refine bN (eI q3) <| tK (.bool true) <| tK (.bool true) <| WL.nil <| ?_
  try simp only [pS]
  go_wp2
  rw [HC.out]
  exact ⟨ret_bool (by simp only [empK, bsq, q1, q2, q3]), HF.out.kept⟩
theorem p_above (a b : Sp) (w : World) : Calls Tryz.prog 185 #[.agg (Sp.cells a), .agg (Sp.cells b)] w (fun e w' => e = .returned (.bool (abvS a b)) ∧ Kept No w w') := by
  refine hidC fun C HC => ?_
  have HF : Hid (Fq No w w []) := Fq.start _ _
  go_enter Tryz.func185, Tryz.ntmps185
  go_upto_region 0 with fail
  refine WL.start <| xB (Sp.cells a) HF fun g1 w2 HF => xB (Sp.cells b) HF fun g3 w4 HF => tK (.bool false) <| WL.nil <| ?_
  try simp only [pS]
  go_upto_region 1 with fail
  refine WL.start <| tK (pg g1 0) <| lD (.int .i64 a.n) HF 0 0 U3 rfl <| tK (pg g3 0) <| lD (.int .i64 b.n) HF 1 0 U3 rfl <| ?_
  try simp only [pS]
  cases q1 : (decide (b.n < a.n))
  rotate_left
  ·skip
   refine bN (gI q1) <| tK (.bool true) <| sK <| sK <| sK <| sK <| sK <| sK <| sK <| sK <| sK <| sK <| sK <| sK <| tK (.bool true) <| tK (.bool true) <| WL.nil <| ?_
   try simp only [pS]
   go_wp2
   rw [HC.out]
   exact ⟨ret_bool (by simp only [abvS, bsq, q1]), HF.out.kept⟩
  refine bN (gI q1) <| tK (.bool false) <| tK (pg g1 0) <| lD (.int .i64 a.n) HF 0 0 U3 rfl <| tK (pg g3 0) <| lD (.int .i64 b.n) HF 1 0 U3 rfl <| ?_
  try simp only [pS]
  cases q2 : (a.n == b.n)
  ·skip
   refine bN (eI q2) <| tK (.bool false) <| sK <| sK <| sK <| sK <| sK <| tK (.bool false) <| tK (.bool false) <| tK (.bool false) <| WL.nil <| ?_
   try simp only [pS]
   go_wp2
   rw [HC.out]
   exact ⟨ret_bool (by simp only [abvS, bsq, q1, q2]), HF.out.kept⟩
  refine bN (eI q2) <| tK (.bool true) <| tK (pg g1 1) <| lD (.int .i64 a.c) HF 0 1 U3 rfl <| tK (pg g3 1) <| lD (.int .i64 b.c) HF 1 1 U3 rfl <| ?_
  try simp only [pS]
  cases q3 : (decide (b.c < a.c))
  ·skip
   refine bN (gI q3) <| tK (.bool false) <| tK (.bool false) <| tK (.bool false) <| WL.nil <| ?_
   try simp only [pS]
   go_wp2
   rw [HC.out]
   exact ⟨ret_bool (by simp only [abvS, bsq, q1, q2, q3]), HF.out.kept⟩
  refine bN (gI q3) <| tK (.bool true) <| tK (.bool true) <| tK (.bool true) <| WL.nil <| ?_
  try simp only [pS]
  go_wp2
  rw [HC.out]
  exact ⟨ret_bool (by simp only [abvS, bsq, q1, q2, q3]), HF.out.kept⟩
theorem r_Above (a b : Sp) (w : World) : Calls Tryz.prog 139 #[.agg (Sp.cells a), .agg (Sp.cells b)] w (fun e w' => e = .returned (.bool (abvS a b)) ∧ Kept No w w') := by
  refine hidC fun C HC => ?_
  have HF : Hid (Fq No w w []) := Fq.start _ _
  go_enter Tryz.func139, Tryz.ntmps139
  go_upto_region 0 with fail
  refine WL.start <| xB (Sp.cells a) HF fun g1 w2 HF => xB (Sp.cells b) HF fun g3 w4 HF => tK (.bool false) <| WL.nil <| ?_
  try simp only [pS]
  go_upto_region 1 with fail
  refine WL.start <| tK (pg g1 0) <| lD (.int .i64 a.n) HF 0 0 U3 rfl <| tK (pg g3 0) <| lD (.int .i64 b.n) HF 1 0 U3 rfl <| ?_
  try simp only [pS]
  cases q1 : (decide (b.n < a.n))
  rotate_left
  ·skip
   refine bN (gI q1) <| tK (.bool true) <| sK <| sK <| sK <| sK <| sK <| sK <| sK <| sK <| sK <| sK <| sK <| sK <| tK (.bool true) <| tK (.bool true) <| WL.nil <| ?_
   try simp only [pS]
   go_wp2
   rw [HC.out]
   exact ⟨ret_bool (by simp only [abvS, bsq, q1]), HF.out.kept⟩
  refine bN (gI q1) <| tK (.bool false) <| tK (pg g1 0) <| lD (.int .i64 a.n) HF 0 0 U3 rfl <| tK (pg g3 0) <| lD (.int .i64 b.n) HF 1 0 U3 rfl <| ?_
  try simp only [pS]
  cases q2 : (a.n == b.n)
  ·skip
   refine bN (eI q2) <| tK (.bool false) <| sK <| sK <| sK <| sK <| sK <| tK (.bool false) <| tK (.bool false) <| tK (.bool false) <| WL.nil <| ?_
   try simp only [pS]
   go_wp2
   rw [HC.out]
   exact ⟨ret_bool (by simp only [abvS, bsq, q1, q2]), HF.out.kept⟩
  refine bN (eI q2) <| tK (.bool true) <| tK (pg g1 1) <| lD (.int .i64 a.c) HF 0 1 U3 rfl <| tK (pg g3 1) <| lD (.int .i64 b.c) HF 1 1 U3 rfl <| ?_
  try simp only [pS]
  cases q3 : (decide (b.c < a.c))
  ·skip
   refine bN (gI q3) <| tK (.bool false) <| tK (.bool false) <| tK (.bool false) <| WL.nil <| ?_
   try simp only [pS]
   go_wp2
   rw [HC.out]
   exact ⟨ret_bool (by simp only [abvS, bsq, q1, q2, q3]), HF.out.kept⟩
  refine bN (gI q3) <| tK (.bool true) <| tK (.bool true) <| tK (.bool true) <| WL.nil <| ?_
  try simp only [pS]
  go_wp2
  rw [HC.out]
  exact ⟨ret_bool (by simp only [abvS, bsq, q1, q2, q3]), HF.out.kept⟩
theorem p_rightSize (n : Int) (c : Cg) (w : World) (hb : 0 ≤ c.bl ∧ c.bl ≤ 4096) : Calls Tryz.prog 177 #[.int .i64 n, .agg (Cg.cells c)] w (fun e w' => e = .returned (.bool (szB c.bl n)) ∧ Kept No w w') := by
  refine hidC fun C HC => ?_
  have HB : Hid (0 ≤ c.bl ∧ c.bl ≤ 4096) := hb
  clear hb
  have HF : Hid (Fq No w w []) := Fq.start _ _
  go_enter Tryz.func177, Tryz.ntmps177
  go_upto_region 0 with fail
  refine WL.start <| xB (Cg.cells c) HF fun g1 w2 HF => tK (.bool false) <| WL.nil <| ?_
  try simp only [pS]
  go_upto_region 1 with fail
  refine WL.start <| tK (.int .i64 n) <| tK (pg g1 4) <| lD (.int .i64 c.bl) HF 0 4 U3 rfl <| bN (v := .int .i64 (1048576 * c.bl)) (b_mulw 1048576 c.bl (1048576 * c.bl) (by rw [IntKind.wrap_i64]; have := HB.out; omega)) <| ?_
  try simp only [pS]
  cases q1 : (wn n 0 (1048576 * c.bl))
  ·skip
   refine cB (p_within n 0 (1048576 * c.bl) _) q1 HF fun w3 HF => tK (.bool false) <| WL.nil <| ?_
   try simp only [pS]
   go_wp2
   rw [HC.out]
   exact ⟨ret_bool (by simp only [szB, bsq, q1]), HF.out.kept⟩
  refine cB (p_within n 0 (1048576 * c.bl) _) q1 HF fun w4 HF => tK (.bool true) <| WL.nil <| ?_
  try simp only [pS]
  go_wp2
  rw [HC.out]
  exact ⟨ret_bool (by simp only [szB, bsq, q1]), HF.out.kept⟩
theorem r_IsSize (n : Int) (c : Cg) (w : World) (hb : 0 ≤ c.bl ∧ c.bl ≤ 4096) : Calls Tryz.prog 107 #[.int .i64 n, .agg (Cg.cells c)] w (fun e w' => e = .returned (.bool (szB c.bl n)) ∧ Kept No w w') := by
  refine hidC fun C HC => ?_
  have HB : Hid (0 ≤ c.bl ∧ c.bl ≤ 4096) := hb
  clear hb
  have HF : Hid (Fq No w w []) := Fq.start _ _
  go_enter Tryz.func107, Tryz.ntmps107
  go_upto_region 0 with fail
  refine WL.start <| xB (Cg.cells c) HF fun g1 w2 HF => tK (.bool false) <| WL.nil <| ?_
  try simp only [pS]
  go_upto_region 1 with fail
  refine WL.start <| tK (.int .i64 n) <| tK (pg g1 4) <| lD (.int .i64 c.bl) HF 0 4 U3 rfl <| bN (v := .int .i64 (1048576 * c.bl)) (b_mulw 1048576 c.bl (1048576 * c.bl) (by rw [IntKind.wrap_i64]; have := HB.out; omega)) <| ?_
  try simp only [pS]
  cases q1 : (wn n 0 (1048576 * c.bl))
  ·skip
   refine cB (r_within n 0 (1048576 * c.bl) _) q1 HF fun w3 HF => tK (.bool false) <| WL.nil <| ?_
   try simp only [pS]
   go_wp2
   rw [HC.out]
   exact ⟨ret_bool (by simp only [szB, bsq, q1]), HF.out.kept⟩
  refine cB (r_within n 0 (1048576 * c.bl) _) q1 HF fun w4 HF => tK (.bool true) <| WL.nil <| ?_
  try simp only [pS]
  go_wp2
  rw [HC.out]
  exact ⟨ret_bool (by simp only [szB, bsq, q1]), HF.out.kept⟩
theorem p_indexS (s : ByteArray) (c : Nat) (hc : c < 256) (w : World) : Calls Tryz.prog 217 #[.string s, .int .u8 (c : Int)] w (fun e w' => e = .returned (.int .i64 (Lib.indexByte s.data.toList (c : Int).toNat.toUInt8)) ∧ Kept No w w') := by
  go_enter Tryz.func217, Tryz.ntmps217
  go_wp2
  rw [run_callFunc_extern (fn := Tryz.f229) (by kernel_rfl) (by kernel_rfl) (by kernel_rfl) (by kernel_rfl) (e := Extern.BytealgIndexByte.indexByte) (by kernel_rfl), Lib.run_indexByteString]
  simp only [Result.andThen]
  rw [Oper.upon_value]
  go_wp2
  go_ret
  exact ⟨rfl, Kept.refl No w⟩
theorem p_indexT (s : ByteArray) (c : Nat) (hc : c < 256) (w : World) : Calls Tryz.prog 176 #[.string s, .int .u8 (c : Int)] w (fun e w' => e = .returned (.int .i64 (Lib.indexByte s.data.toList (c : Int).toNat.toUInt8)) ∧ Kept No w w') := by
  have H := p_indexS s c hc
  go_enter Tryz.func176, Tryz.ntmps176
  go_wp2_with (go_at_call 217; refine (H _).mono ?_; rintro e w' ⟨rfl, hk⟩)
  go_ret
  exact ⟨rfl, hk⟩
theorem p_indexB (s : ByteArray) (c : Nat) (w : World) (hc : c < 256 := by decide) : Calls Tryz.prog 176 #[.string s, .int .u8 (c : Int)] w (fun e w' => e = .returned (.int .i64 (idxB s c.toUInt8)) ∧ Kept No w w') := p_indexT s c hc w
theorem p_rightName (x : ByteArray) (w : World) : Calls Tryz.prog 101 #[.string x] w (fun e w' => e = .returned (.bool (nameP x)) ∧ Kept No w w') := by
  refine hidC fun C HC => ?_
  have HF : Hid (Fq No w w []) := Fq.start _ _
  go_enter Tryz.func101, Tryz.ntmps101
  go_upto_region 0 with fail
  refine WL.start <| tK (.bool false) <| WL.nil <| ?_
  try simp only [pS]
  go_upto_region 1 with fail
  refine WL.start <| tK (.string x) <| tK (.int .i64 ((x.size : Nat) : Int)) <| ?_
  try simp only [pS]
  cases q1 : (wn ((x.size : Nat) : Int) 1 255)
  ·skip
   refine cB (p_within ((x.size : Nat) : Int) 1 255 _) q1 HF fun w1 HF => tK (.bool false) <| sK <| sK <| sK <| tK (.bool false) <| tK (.bool false) <| sK <| sK <| sK <| tK (.bool false) <| tK (.bool false) <| WL.nil <| ?_
   try simp only [pS]
   go_wp2
   rw [HC.out]
   exact ⟨ret_bool (by simp only [nameP, bsq, q1]), HF.out.kept⟩
  refine cB (p_within ((x.size : Nat) : Int) 1 255 _) q1 HF fun w2 HF => tK (.bool true) <| tK (.string x) <| cV (p_indexB x 0 _) HF fun w3 HF => ?_
  try simp only [pS]
  cases q2 : (decide ((idxB x 0) < 0))
  ·skip
   refine bN (lI q2) <| tK (.bool false) <| tK (.bool false) <| sK <| sK <| sK <| tK (.bool false) <| tK (.bool false) <| WL.nil <| ?_
   try simp only [pS]
   go_wp2
   rw [HC.out]
   exact ⟨ret_bool (by simp only [nameP, bsq, q1, q2]), HF.out.kept⟩
  refine bN (lI q2) <| tK (.bool true) <| tK (.bool true) <| tK (.string x) <| cV (p_indexB x 47 _) HF fun w4 HF => ?_
  try simp only [pS]
  cases q3 : (decide ((idxB x 47) < 0))
  ·skip
   refine bN (lI q3) <| tK (.bool false) <| tK (.bool false) <| WL.nil <| ?_
   try simp only [pS]
   go_wp2
   rw [HC.out]
   exact ⟨ret_bool (by simp only [nameP, bsq, q1, q2, q3]), HF.out.kept⟩
  refine bN (lI q3) <| tK (.bool true) <| tK (.bool true) <| WL.nil <| ?_
  try simp only [pS]
  go_wp2
  rw [HC.out]
  exact ⟨ret_bool (by simp only [nameP, bsq, q1, q2, q3]), HF.out.kept⟩
theorem p_rightChange (x : Cm) (c : Cg) (w : World) (hb : 0 ≤ c.bl ∧ c.bl ≤ 4096) : Calls Tryz.prog 102 #[.agg (Cm.cells x), .agg (Cg.cells c)] w (fun e w' => e = .returned (.bool (chgP c.bl x)) ∧ Kept No w w') := by
  refine hidC fun C HC => ?_
  have HB : Hid (0 ≤ c.bl ∧ c.bl ≤ 4096) := hb
  clear hb
  have HF : Hid (Fq No w w []) := Fq.start _ _
  go_enter Tryz.func102, Tryz.ntmps102
  go_upto_region 0 with fail
  refine WL.start <| xB (Cm.cells x) HF fun g1 w2 HF => xB (Cg.cells c) HF fun g3 w4 HF => tK (.bool false) <| WL.nil <| ?_
  try simp only [pS]
  go_upto_region 1 with fail
  refine WL.start <| tK (pg g1 3) <| lD (.string x.nm) HF 0 3 U9 rfl <| ?_
  try simp only [pS]
  cases q1 : (nameP x.nm)
  ·skip
   refine cB (p_rightName x.nm _) q1 HF fun w5 HF => tK (.bool false) <| sK <| sK <| sK <| tK (.bool false) <| tK (.bool false) <| sK <| sK <| sK <| sK <| tK (.bool false) <| tK (.bool false) <| WL.nil <| ?_
   try simp only [pS]
   go_wp2
   rw [HC.out]
   exact ⟨ret_bool (by simp only [chgP, bsq, q1]), HF.out.kept⟩
  refine cB (p_rightName x.nm _) q1 HF fun w6 HF => tK (.bool true) <| tK (pg g1 4) <| lP (Fi.cs ⟨x.f0, x.f1⟩) HF 0 4 U37 S37 (Cm.cs x) rfl <| ?_
  try simp only [pS]
  cases q2 : (filB ⟨x.f0, x.f1⟩)
  ·skip
   refine cB (p_isFile ⟨x.f0, x.f1⟩ _) q2 HF fun w7 HF => tK (.bool false) <| tK (.bool false) <| sK <| sK <| sK <| sK <| tK (.bool false) <| tK (.bool false) <| WL.nil <| ?_
   try simp only [pS]
   go_wp2
   rw [HC.out]
   exact ⟨ret_bool (by simp only [chgP, bsq, q1, q2]), HF.out.kept⟩
  refine cB (p_isFile ⟨x.f0, x.f1⟩ _) q2 HF fun w8 HF => tK (.bool true) <| tK (.bool true) <| tK (pg g1 8) <| lD (.int .i64 x.sz) HF 0 8 U3 rfl <| lP (Cg.cs c) HF 1 0 U24 S24 (Cg.cs c) rfl <| ?_
  try simp only [pS]
  cases q3 : (szB c.bl x.sz)
  ·skip
   refine cB (p_rightSize x.sz c _ HB) q3 HF fun w9 HF => tK (.bool false) <| tK (.bool false) <| WL.nil <| ?_
   try simp only [pS]
   go_wp2
   rw [HC.out]
   exact ⟨ret_bool (by simp only [chgP, bsq, q1, q2, q3]), HF.out.kept⟩
  refine cB (p_rightSize x.sz c _ HB) q3 HF fun w10 HF => tK (.bool true) <| tK (.bool true) <| WL.nil <| ?_
  try simp only [pS]
  go_wp2
  rw [HC.out]
  exact ⟨ret_bool (by simp only [chgP, bsq, q1, q2, q3]), HF.out.kept⟩
theorem p_rightCommand (x : Cm) (c : Cg) (w : World) (hb : 0 ≤ c.bl ∧ c.bl ≤ 4096) : Calls Tryz.prog 44 #[.agg (Cm.cells x), .agg (Cg.cells c)] w (fun e w' => e = .returned (.bool (cmdP c.bl x)) ∧ Kept No w w') := by
  refine hidC fun C HC => ?_
  have HB : Hid (0 ≤ c.bl ∧ c.bl ≤ 4096) := hb
  clear hb
  have HF : Hid (Fq No w w []) := Fq.start _ _
  go_enter Tryz.func44, Tryz.ntmps44
  go_upto_region 0 with fail
  refine WL.start <| xB (Cm.cells x) HF fun g1 w2 HF => xB (Cg.cells c) HF fun g3 w4 HF => tK (.bool false) <| WL.nil <| ?_
  try simp only [pS]
  go_upto_region 1 with fail
  refine WL.start <| tK (pg g1 1) <| lD (.int .i64 x.cl) HF 0 1 U3 rfl <| ?_
  try simp only [pS]
  cases q1 : (wn x.cl 1 255)
  ·skip
   refine cB (p_rightId x.cl _) q1 HF fun w5 HF => tK (.bool true) <| tK (.bool true) <| sK <| sK <| sK <| sK <| tK (.bool true) <| WL.nil <| ?_
   try simp only [pS]
   go_upto_region 2 with fail
   refine WL.start <| tK (.bool false) <| WL.nil <| ?_
   try simp only [pS]
   go_wp2
   rw [HC.out]
   exact ⟨ret_bool (by simp only [cmdP, bsq, q1]), HF.out.kept⟩
  refine cB (p_rightId x.cl _) q1 HF fun w6 HF => tK (.bool false) <| tK (.bool false) <| tK (pg g1 2) <| lD (.int .i64 x.op) HF 0 2 U3 rfl <| ?_
  try simp only [pS]
  cases q2 : (wn x.op 1 1099511627776)
  ·skip
   refine cB (p_rightNum x.op _) q2 HF fun w7 HF => tK (.bool true) <| tK (.bool true) <| WL.nil <| ?_
   try simp only [pS]
   go_upto_region 2 with fail
   refine WL.start <| tK (.bool false) <| WL.nil <| ?_
   try simp only [pS]
   go_wp2
   rw [HC.out]
   exact ⟨ret_bool (by simp only [cmdP, bsq, q1, q2]), HF.out.kept⟩
  refine cB (p_rightNum x.op _) q2 HF fun w8 HF => tK (.bool false) <| tK (.bool false) <| WL.nil <| ?_
  try simp only [pS]
  go_upto_region 3 with fail
  refine WL.start <| tK (pg g1 0) <| lD (.int .i64 x.k) HF 0 0 U3 rfl <| tK (pg g1 1) <| lD (.int .i64 x.cl) HF 0 1 U3 rfl <| tK (pg g1 2) <| lD (.int .i64 x.op) HF 0 2 U3 rfl <| bD (Cm.cells (⟨x.k, x.cl, x.op, ⟨#[]⟩, 0, 0, 0, 0, 0⟩)) <| xA (Cm.cells cZ) Z39 HF fun g9 w10 HF => sB (Cm.cs (⟨x.k, x.cl, x.op, ⟨#[]⟩, 0, 0, 0, 0, 0⟩)) (Cm.cs (⟨x.k, x.cl, x.op, ⟨#[]⟩, 0, 0, 0, 0, 0⟩)) HF 2 0 (v := .agg (Cm.cells (⟨x.k, x.cl, x.op, ⟨#[]⟩, 0, 0, 0, 0, 0⟩))) rfl S39 (Cm.oneL _) (Cm.cs cZ) rfl fun w11 HF => WL.nil <| ?_
  try simp only [pS]
  go_upto_region 4 with fail
  refine WL.start <| lP (Cm.cs (⟨x.k, x.cl, x.op, ⟨#[]⟩, 0, 0, 0, 0, 0⟩)) HF 2 0 U39 S39 (Cm.cs (⟨x.k, x.cl, x.op, ⟨#[]⟩, 0, 0, 0, 0, 0⟩)) rfl <| xA (Cm.cells cZ) Z39 HF fun g12 w13 HF => sB (Cm.cs (⟨x.k, x.cl, x.op, ⟨#[]⟩, 0, 0, 0, 0, 0⟩)) (Cm.cs (⟨x.k, x.cl, x.op, ⟨#[]⟩, 0, 0, 0, 0, 0⟩)) HF 3 0 (v := .agg (Cm.cells (⟨x.k, x.cl, x.op, ⟨#[]⟩, 0, 0, 0, 0, 0⟩))) rfl S39 (Cm.oneL _) (Cm.cs cZ) rfl fun w14 HF => WL.nil <| ?_
  try simp only [pS]
  go_upto_region 5 with fail
  refine WL.start <| tK (pg g1 3) <| lD (.string x.nm) HF 0 3 U9 rfl <| tK (pg g12 3) <| sB (Cm.cs ⟨x.k, x.cl, x.op, x.nm, 0, 0, 0, 0, 0⟩) ([.string x.nm]) HF 3 3 (v := .string x.nm) rfl S9 (by simp [Value.oneCell', Sl.v]) (Cm.cs (⟨x.k, x.cl, x.op, ⟨#[]⟩, 0, 0, 0, 0, 0⟩)) rfl fun w15 HF => WL.nil <| ?_
  try simp only [pS]
  go_upto_region 6 with fail
  refine WL.start <| tK (pg g1 0) <| lD (.int .i64 x.k) HF 0 0 U3 rfl <| WL.nil <| ?_
  try simp only [pS]
  go_upto_region 7 with fail
  refine WL.start <| ?_
  cases q3 : (x.k == 1)
  rotate_left
  ·skip
   refine bN (eI q3) <| tK (.bool true) <| WL.nil <| ?_
   try simp only [pS]
   go_upto_region 10 with fail
   refine WL.start <| lP (Cm.cs x) HF 0 0 U39 S39 (Cm.cs x) rfl <| lP (Cm.cs ⟨x.k, x.cl, x.op, x.nm, 0, 0, 0, 0, 0⟩) HF 3 0 U39 S39 (Cm.cs ⟨x.k, x.cl, x.op, x.nm, 0, 0, 0, 0, 0⟩) rfl <| ?_
   try simp only [pS]
   cases q21 : (eqC x ⟨x.k, x.cl, x.op, x.nm, 0, 0, 0, 0, 0⟩)
   ·skip
    refine bN (qeC q21) <| tK (.bool false) <| sK <| sK <| sK <| tK (.bool false) <| tK (.bool false) <| WL.nil <| ?_
    try simp only [pS]
    go_wp2
    rw [HC.out]
    exact ⟨ret_bool (by simp only [cmdP, bsq, q1, q2, q3, q21]), HF.out.kept⟩
   refine bN (qeC q21) <| tK (.bool true) <| tK (pg g1 3) <| lD (.string x.nm) HF 0 3 U9 rfl <| ?_
   try simp only [pS]
   cases q22 : (nameP x.nm)
   ·skip
    refine cB (p_rightName x.nm _) q22 HF fun w28 HF => tK (.bool false) <| tK (.bool false) <| WL.nil <| ?_
    try simp only [pS]
    go_wp2
    rw [HC.out]
    exact ⟨ret_bool (by simp only [cmdP, bsq, q1, q2, q3, q21, q22]), HF.out.kept⟩
   refine cB (p_rightName x.nm _) q22 HF fun w29 HF => tK (.bool true) <| tK (.bool true) <| WL.nil <| ?_
   try simp only [pS]
   go_wp2
   rw [HC.out]
   exact ⟨ret_bool (by simp only [cmdP, bsq, q1, q2, q3, q21, q22]), HF.out.kept⟩
  refine bN (eI q3) <| tK (.bool false) <| WL.nil <| ?_
  try simp only [pS]
  go_upto_region 8 with fail
  refine WL.start <| ?_
  cases q4 : (x.k == 2)
  rotate_left
  ·skip
   refine bN (eI q4) <| tK (.bool true) <| WL.nil <| ?_
   try simp only [pS]
   go_upto_region 10 with fail
   refine WL.start <| lP (Cm.cs x) HF 0 0 U39 S39 (Cm.cs x) rfl <| lP (Cm.cs ⟨x.k, x.cl, x.op, x.nm, 0, 0, 0, 0, 0⟩) HF 3 0 U39 S39 (Cm.cs ⟨x.k, x.cl, x.op, x.nm, 0, 0, 0, 0, 0⟩) rfl <| ?_
   try simp only [pS]
   cases q19 : (eqC x ⟨x.k, x.cl, x.op, x.nm, 0, 0, 0, 0, 0⟩)
   ·skip
    refine bN (qeC q19) <| tK (.bool false) <| sK <| sK <| sK <| tK (.bool false) <| tK (.bool false) <| WL.nil <| ?_
    try simp only [pS]
    go_wp2
    rw [HC.out]
    exact ⟨ret_bool (by simp only [cmdP, bsq, q1, q2, q3, q4, q19]), HF.out.kept⟩
   refine bN (qeC q19) <| tK (.bool true) <| tK (pg g1 3) <| lD (.string x.nm) HF 0 3 U9 rfl <| ?_
   try simp only [pS]
   cases q20 : (nameP x.nm)
   ·skip
    refine cB (p_rightName x.nm _) q20 HF fun w26 HF => tK (.bool false) <| tK (.bool false) <| WL.nil <| ?_
    try simp only [pS]
    go_wp2
    rw [HC.out]
    exact ⟨ret_bool (by simp only [cmdP, bsq, q1, q2, q3, q4, q19, q20]), HF.out.kept⟩
   refine cB (p_rightName x.nm _) q20 HF fun w27 HF => tK (.bool true) <| tK (.bool true) <| WL.nil <| ?_
   try simp only [pS]
   go_wp2
   rw [HC.out]
   exact ⟨ret_bool (by simp only [cmdP, bsq, q1, q2, q3, q4, q19, q20]), HF.out.kept⟩
  refine bN (eI q4) <| tK (.bool false) <| WL.nil <| ?_
  try simp only [pS]
  go_upto_region 9 with fail
  refine WL.start <| ?_
  cases q5 : (x.k == 3)
  rotate_left
  ·skip
   refine bN (eI q5) <| tK (.bool true) <| WL.nil <| ?_
   try simp only [pS]
   go_upto_region 10 with fail
   refine WL.start <| lP (Cm.cs x) HF 0 0 U39 S39 (Cm.cs x) rfl <| lP (Cm.cs ⟨x.k, x.cl, x.op, x.nm, 0, 0, 0, 0, 0⟩) HF 3 0 U39 S39 (Cm.cs ⟨x.k, x.cl, x.op, x.nm, 0, 0, 0, 0, 0⟩) rfl <| ?_
   try simp only [pS]
   cases q17 : (eqC x ⟨x.k, x.cl, x.op, x.nm, 0, 0, 0, 0, 0⟩)
   ·skip
    refine bN (qeC q17) <| tK (.bool false) <| sK <| sK <| sK <| tK (.bool false) <| tK (.bool false) <| WL.nil <| ?_
    try simp only [pS]
    go_wp2
    rw [HC.out]
    exact ⟨ret_bool (by simp only [cmdP, bsq, q1, q2, q3, q4, q5, q17]), HF.out.kept⟩
   refine bN (qeC q17) <| tK (.bool true) <| tK (pg g1 3) <| lD (.string x.nm) HF 0 3 U9 rfl <| ?_
   try simp only [pS]
   cases q18 : (nameP x.nm)
   ·skip
    refine cB (p_rightName x.nm _) q18 HF fun w24 HF => tK (.bool false) <| tK (.bool false) <| WL.nil <| ?_
    try simp only [pS]
    go_wp2
    rw [HC.out]
    exact ⟨ret_bool (by simp only [cmdP, bsq, q1, q2, q3, q4, q5, q17, q18]), HF.out.kept⟩
   refine cB (p_rightName x.nm _) q18 HF fun w25 HF => tK (.bool true) <| tK (.bool true) <| WL.nil <| ?_
   try simp only [pS]
   go_wp2
   rw [HC.out]
   exact ⟨ret_bool (by simp only [cmdP, bsq, q1, q2, q3, q4, q5, q17, q18]), HF.out.kept⟩
  refine bN (eI q5) <| tK (.bool false) <| WL.nil <| ?_
  try simp only [pS]
  go_upto_region 11 with fail
  refine WL.start <| ?_
  cases q6 : (x.k == 4)
  rotate_left
  ·skip
   refine bN (eI q6) <| tK (.bool true) <| WL.nil <| ?_
   try simp only [pS]
   go_upto_region 12 with fail
   refine WL.start <| lP (Cm.cs x) HF 0 0 U39 S39 (Cm.cs x) rfl <| lP (Cm.cs (⟨x.k, x.cl, x.op, ⟨#[]⟩, 0, 0, 0, 0, 0⟩)) HF 2 0 U39 S39 (Cm.cs (⟨x.k, x.cl, x.op, ⟨#[]⟩, 0, 0, 0, 0, 0⟩)) rfl <| ?_
   try simp only [pS]
   cases q16 : (eqC x (⟨x.k, x.cl, x.op, ⟨#[]⟩, 0, 0, 0, 0, 0⟩))
   ·skip
    refine bN (qeC q16) <| tK (.bool false) <| WL.nil <| ?_
    try simp only [pS]
    go_wp2
    rw [HC.out]
    exact ⟨ret_bool (by simp only [cmdP, bsq, q1, q2, q3, q4, q5, q6, q16]), HF.out.kept⟩
   refine bN (qeC q16) <| tK (.bool true) <| WL.nil <| ?_
   try simp only [pS]
   go_wp2
   rw [HC.out]
   exact ⟨ret_bool (by simp only [cmdP, bsq, q1, q2, q3, q4, q5, q6, q16]), HF.out.kept⟩
  refine bN (eI q6) <| tK (.bool false) <| WL.nil <| ?_
  try simp only [pS]
  go_upto_region 13 with fail
  refine WL.start <| ?_
  cases q7 : (x.k == 5)
  rotate_left
  ·skip
   refine bN (eI q7) <| tK (.bool true) <| WL.nil <| ?_
   try simp only [pS]
   go_upto_region 15 with fail
   refine WL.start <| tK (pg g1 6) <| lP (Fi.cs ⟨x.g0, x.g1⟩) HF 0 6 U37 S37 (Cm.cs x) rfl <| bD (Fi.cells fiZ) <| ?_
   try simp only [pS]
   cases q14 : (eqFi ⟨x.g0, x.g1⟩ fiZ)
   ·skip
    refine bN (qeFi q14) <| tK (.bool false) <| sK <| sK <| sK <| tK (.bool false) <| tK (.bool false) <| WL.nil <| ?_
    try simp only [pS]
    go_wp2
    rw [HC.out]
    exact ⟨ret_bool (by simp only [cmdP, bsq, q1, q2, q3, q4, q5, q6, q7, q14]), HF.out.kept⟩
   refine bN (qeFi q14) <| tK (.bool true) <| lP (Cm.cs x) HF 0 0 U39 S39 (Cm.cs x) rfl <| lP (Cg.cs c) HF 1 0 U24 S24 (Cg.cs c) rfl <| ?_
   try simp only [pS]
   cases q15 : (chgP c.bl x)
   ·skip
    refine cB (p_rightChange x c _ HB) q15 HF fun w22 HF => tK (.bool false) <| tK (.bool false) <| WL.nil <| ?_
    try simp only [pS]
    go_wp2
    rw [HC.out]
    exact ⟨ret_bool (by simp only [cmdP, bsq, q1, q2, q3, q4, q5, q6, q7, q14, q15]), HF.out.kept⟩
   refine cB (p_rightChange x c _ HB) q15 HF fun w23 HF => tK (.bool true) <| tK (.bool true) <| WL.nil <| ?_
   try simp only [pS]
   go_wp2
   rw [HC.out]
   exact ⟨ret_bool (by simp only [cmdP, bsq, q1, q2, q3, q4, q5, q6, q7, q14, q15]), HF.out.kept⟩
  refine bN (eI q7) <| tK (.bool false) <| WL.nil <| ?_
  try simp only [pS]
  go_upto_region 14 with fail
  refine WL.start <| ?_
  cases q8 : (x.k == 6)
  rotate_left
  ·skip
   refine bN (eI q8) <| tK (.bool true) <| WL.nil <| ?_
   try simp only [pS]
   go_upto_region 15 with fail
   refine WL.start <| tK (pg g1 6) <| lP (Fi.cs ⟨x.g0, x.g1⟩) HF 0 6 U37 S37 (Cm.cs x) rfl <| bD (Fi.cells fiZ) <| ?_
   try simp only [pS]
   cases q12 : (eqFi ⟨x.g0, x.g1⟩ fiZ)
   ·skip
    refine bN (qeFi q12) <| tK (.bool false) <| sK <| sK <| sK <| tK (.bool false) <| tK (.bool false) <| WL.nil <| ?_
    try simp only [pS]
    go_wp2
    rw [HC.out]
    exact ⟨ret_bool (by simp only [cmdP, bsq, q1, q2, q3, q4, q5, q6, q7, q8, q12]), HF.out.kept⟩
   refine bN (qeFi q12) <| tK (.bool true) <| lP (Cm.cs x) HF 0 0 U39 S39 (Cm.cs x) rfl <| lP (Cg.cs c) HF 1 0 U24 S24 (Cg.cs c) rfl <| ?_
   try simp only [pS]
   cases q13 : (chgP c.bl x)
   ·skip
    refine cB (p_rightChange x c _ HB) q13 HF fun w20 HF => tK (.bool false) <| tK (.bool false) <| WL.nil <| ?_
    try simp only [pS]
    go_wp2
    rw [HC.out]
    exact ⟨ret_bool (by simp only [cmdP, bsq, q1, q2, q3, q4, q5, q6, q7, q8, q12, q13]), HF.out.kept⟩
   refine cB (p_rightChange x c _ HB) q13 HF fun w21 HF => tK (.bool true) <| tK (.bool true) <| WL.nil <| ?_
   try simp only [pS]
   go_wp2
   rw [HC.out]
   exact ⟨ret_bool (by simp only [cmdP, bsq, q1, q2, q3, q4, q5, q6, q7, q8, q12, q13]), HF.out.kept⟩
  refine bN (eI q8) <| tK (.bool false) <| WL.nil <| ?_
  try simp only [pS]
  go_upto_region 16 with fail
  refine WL.start <| ?_
  cases q9 : (x.k == 7)
  ·skip
   refine bN (eI q9) <| tK (.bool false) <| WL.nil <| ?_
   try simp only [pS]
   go_upto_region 18 with fail
   refine WL.start <| tK (.bool false) <| WL.nil <| ?_
   try simp only [pS]
   go_wp2
   rw [HC.out]
   exact ⟨ret_bool (by simp only [cmdP, bsq, q1, q2, q3, q4, q5, q6, q7, q8, q9]), HF.out.kept⟩
  refine bN (eI q9) <| tK (.bool true) <| WL.nil <| ?_
  try simp only [pS]
  go_upto_region 17 with fail
  refine WL.start <| tK (pg g1 6) <| lP (Fi.cs ⟨x.g0, x.g1⟩) HF 0 6 U37 S37 (Cm.cs x) rfl <| ?_
  try simp only [pS]
  cases q10 : (filB ⟨x.g0, x.g1⟩)
  ·skip
   refine cB (p_isFile ⟨x.g0, x.g1⟩ _) q10 HF fun w16 HF => tK (.bool false) <| sK <| sK <| sK <| tK (.bool false) <| tK (.bool false) <| WL.nil <| ?_
   try simp only [pS]
   go_wp2
   rw [HC.out]
   exact ⟨ret_bool (by simp only [cmdP, bsq, q1, q2, q3, q4, q5, q6, q7, q8, q9, q10]), HF.out.kept⟩
  refine cB (p_isFile ⟨x.g0, x.g1⟩ _) q10 HF fun w17 HF => tK (.bool true) <| lP (Cm.cs x) HF 0 0 U39 S39 (Cm.cs x) rfl <| lP (Cg.cs c) HF 1 0 U24 S24 (Cg.cs c) rfl <| ?_
  try simp only [pS]
  cases q11 : (chgP c.bl x)
  ·skip
   refine cB (p_rightChange x c _ HB) q11 HF fun w18 HF => tK (.bool false) <| tK (.bool false) <| WL.nil <| ?_
   try simp only [pS]
   go_wp2
   rw [HC.out]
   exact ⟨ret_bool (by simp only [cmdP, bsq, q1, q2, q3, q4, q5, q6, q7, q8, q9, q10, q11]), HF.out.kept⟩
  refine cB (p_rightChange x c _ HB) q11 HF fun w19 HF => tK (.bool true) <| tK (.bool true) <| WL.nil <| ?_
  try simp only [pS]
  go_wp2
  rw [HC.out]
  exact ⟨ret_bool (by simp only [cmdP, bsq, q1, q2, q3, q4, q5, q6, q7, q8, q9, q10, q11]), HF.out.kept⟩
theorem p_rightAnswer (l : La) (c : Cg) (w : World) (hb : 0 ≤ c.bl ∧ c.bl ≤ 4096) : Calls Tryz.prog 178 #[.agg (La.cells l), .agg (Cg.cells c)] w (fun e w' => e = .returned (.bool (ansP c.bl l)) ∧ Kept No w w') := by
  refine hidC fun C HC => ?_
  have HB : Hid (0 ≤ c.bl ∧ c.bl ≤ 4096) := hb
  clear hb
  have HF : Hid (Fq No w w []) := Fq.start _ _
  go_enter Tryz.func178, Tryz.ntmps178
  go_upto_region 0 with fail
  refine WL.start <| xB (La.cells l) HF fun g1 w2 HF => xB (Cg.cells c) HF fun g3 w4 HF => tK (.bool false) <| WL.nil <| ?_
  try simp only [pS]
  go_upto_region 1 with fail
  refine WL.start <| tK (pg g1 3) <| lD (.int .i64 l.er) HF 0 3 U47 rfl <| WL.nil <| ?_
  try simp only [pS]
  go_upto_region 2 with fail
  refine WL.start <| ?_
  cases q1 : (l.er == 0)
  rotate_left
  ·skip
   refine bN (eIE q1) <| tK (.bool true) <| WL.nil <| ?_
   try simp only [pS]
   go_upto_region 5 with fail
   refine WL.start <| tK (pg g1 4) <| lP (Fi.cs ⟨l.f0, l.f1⟩) HF 0 4 U37 S37 (La.cs l) rfl <| ?_
   try simp only [pS]
   cases q14 : (filB ⟨l.f0, l.f1⟩)
   ·skip
    refine cB (p_isFile ⟨l.f0, l.f1⟩ _) q14 HF fun w13 HF => tK (.bool false) <| sK <| sK <| sK <| sK <| tK (.bool false) <| tK (.bool false) <| WL.nil <| ?_
    try simp only [pS]
    go_wp2
    rw [HC.out]
    exact ⟨ret_bool (by simp only [ansP, bsq, q1, q14]), HF.out.kept⟩
   refine cB (p_isFile ⟨l.f0, l.f1⟩ _) q14 HF fun w14 HF => tK (.bool true) <| tK (pg g1 6) <| lD (.int .i64 l.sz) HF 0 6 U3 rfl <| lP (Cg.cs c) HF 1 0 U24 S24 (Cg.cs c) rfl <| ?_
   try simp only [pS]
   cases q15 : (szB c.bl l.sz)
   ·skip
    refine cB (p_rightSize l.sz c _ HB) q15 HF fun w15 HF => tK (.bool false) <| tK (.bool false) <| WL.nil <| ?_
    try simp only [pS]
    go_wp2
    rw [HC.out]
    exact ⟨ret_bool (by simp only [ansP, bsq, q1, q14, q15]), HF.out.kept⟩
   refine cB (p_rightSize l.sz c _ HB) q15 HF fun w16 HF => tK (.bool true) <| tK (.bool true) <| WL.nil <| ?_
   try simp only [pS]
   go_wp2
   rw [HC.out]
   exact ⟨ret_bool (by simp only [ansP, bsq, q1, q14, q15]), HF.out.kept⟩
  refine bN (eIE q1) <| tK (.bool false) <| WL.nil <| ?_
  try simp only [pS]
  go_upto_region 3 with fail
  refine WL.start <| ?_
  cases q2 : (l.er == 101)
  rotate_left
  ·skip
   refine bN (eIE q2) <| tK (.bool true) <| WL.nil <| ?_
   try simp only [pS]
   go_upto_region 5 with fail
   refine WL.start <| tK (pg g1 4) <| lP (Fi.cs ⟨l.f0, l.f1⟩) HF 0 4 U37 S37 (La.cs l) rfl <| ?_
   try simp only [pS]
   cases q12 : (filB ⟨l.f0, l.f1⟩)
   ·skip
    refine cB (p_isFile ⟨l.f0, l.f1⟩ _) q12 HF fun w9 HF => tK (.bool false) <| sK <| sK <| sK <| sK <| tK (.bool false) <| tK (.bool false) <| WL.nil <| ?_
    try simp only [pS]
    go_wp2
    rw [HC.out]
    exact ⟨ret_bool (by simp only [ansP, bsq, q1, q2, q12]), HF.out.kept⟩
   refine cB (p_isFile ⟨l.f0, l.f1⟩ _) q12 HF fun w10 HF => tK (.bool true) <| tK (pg g1 6) <| lD (.int .i64 l.sz) HF 0 6 U3 rfl <| lP (Cg.cs c) HF 1 0 U24 S24 (Cg.cs c) rfl <| ?_
   try simp only [pS]
   cases q13 : (szB c.bl l.sz)
   ·skip
    refine cB (p_rightSize l.sz c _ HB) q13 HF fun w11 HF => tK (.bool false) <| tK (.bool false) <| WL.nil <| ?_
    try simp only [pS]
    go_wp2
    rw [HC.out]
    exact ⟨ret_bool (by simp only [ansP, bsq, q1, q2, q12, q13]), HF.out.kept⟩
   refine cB (p_rightSize l.sz c _ HB) q13 HF fun w12 HF => tK (.bool true) <| tK (.bool true) <| WL.nil <| ?_
   try simp only [pS]
   go_wp2
   rw [HC.out]
   exact ⟨ret_bool (by simp only [ansP, bsq, q1, q2, q12, q13]), HF.out.kept⟩
  refine bN (eIE q2) <| tK (.bool false) <| WL.nil <| ?_
  try simp only [pS]
  go_upto_region 4 with fail
  refine WL.start <| ?_
  cases q3 : (l.er == 104)
  rotate_left
  ·skip
   refine bN (eIE q3) <| tK (.bool true) <| WL.nil <| ?_
   try simp only [pS]
   go_upto_region 5 with fail
   refine WL.start <| tK (pg g1 4) <| lP (Fi.cs ⟨l.f0, l.f1⟩) HF 0 4 U37 S37 (La.cs l) rfl <| ?_
   try simp only [pS]
   cases q10 : (filB ⟨l.f0, l.f1⟩)
   ·skip
    refine cB (p_isFile ⟨l.f0, l.f1⟩ _) q10 HF fun w5 HF => tK (.bool false) <| sK <| sK <| sK <| sK <| tK (.bool false) <| tK (.bool false) <| WL.nil <| ?_
    try simp only [pS]
    go_wp2
    rw [HC.out]
    exact ⟨ret_bool (by simp only [ansP, bsq, q1, q2, q3, q10]), HF.out.kept⟩
   refine cB (p_isFile ⟨l.f0, l.f1⟩ _) q10 HF fun w6 HF => tK (.bool true) <| tK (pg g1 6) <| lD (.int .i64 l.sz) HF 0 6 U3 rfl <| lP (Cg.cs c) HF 1 0 U24 S24 (Cg.cs c) rfl <| ?_
   try simp only [pS]
   cases q11 : (szB c.bl l.sz)
   ·skip
    refine cB (p_rightSize l.sz c _ HB) q11 HF fun w7 HF => tK (.bool false) <| tK (.bool false) <| WL.nil <| ?_
    try simp only [pS]
    go_wp2
    rw [HC.out]
    exact ⟨ret_bool (by simp only [ansP, bsq, q1, q2, q3, q10, q11]), HF.out.kept⟩
   refine cB (p_rightSize l.sz c _ HB) q11 HF fun w8 HF => tK (.bool true) <| tK (.bool true) <| WL.nil <| ?_
   try simp only [pS]
   go_wp2
   rw [HC.out]
   exact ⟨ret_bool (by simp only [ansP, bsq, q1, q2, q3, q10, q11]), HF.out.kept⟩
  refine bN (eIE q3) <| tK (.bool false) <| WL.nil <| ?_
  try simp only [pS]
  go_upto_region 6 with fail
  refine WL.start <| ?_
  cases q4 : (l.er == 102)
  rotate_left
  ·skip
   refine bN (eIE q4) <| tK (.bool true) <| WL.nil <| ?_
   try simp only [pS]
   go_upto_region 8 with fail
   refine WL.start <| tK (pg g1 4) <| lP (Fi.cs ⟨l.f0, l.f1⟩) HF 0 4 U37 S37 (La.cs l) rfl <| bD (Fi.cells fiZ) <| ?_
   try simp only [pS]
   cases q8 : (eqFi ⟨l.f0, l.f1⟩ fiZ)
   ·skip
    refine bN (qeFi q8) <| tK (.bool false) <| sK <| sK <| sK <| tK (.bool false) <| tK (.bool false) <| WL.nil <| ?_
    try simp only [pS]
    go_wp2
    rw [HC.out]
    exact ⟨ret_bool (by simp only [ansP, bsq, q1, q2, q3, q4, q8]), HF.out.kept⟩
   refine bN (qeFi q8) <| tK (.bool true) <| tK (pg g1 6) <| lD (.int .i64 l.sz) HF 0 6 U3 rfl <| ?_
   try simp only [pS]
   cases q9 : (l.sz == 0)
   ·skip
    refine bN (eI q9) <| tK (.bool false) <| tK (.bool false) <| WL.nil <| ?_
    try simp only [pS]
    go_wp2
    rw [HC.out]
    exact ⟨ret_bool (by simp only [ansP, bsq, q1, q2, q3, q4, q8, q9]), HF.out.kept⟩
   refine bN (eI q9) <| tK (.bool true) <| tK (.bool true) <| WL.nil <| ?_
   try simp only [pS]
   go_wp2
   rw [HC.out]
   exact ⟨ret_bool (by simp only [ansP, bsq, q1, q2, q3, q4, q8, q9]), HF.out.kept⟩
  refine bN (eIE q4) <| tK (.bool false) <| WL.nil <| ?_
  try simp only [pS]
  go_upto_region 7 with fail
  refine WL.start <| ?_
  cases q5 : (l.er == 103)
  ·skip
   refine bN (eIE q5) <| tK (.bool false) <| WL.nil <| ?_
   try simp only [pS]
   go_upto_region 9 with fail
   refine WL.start <| tK (.bool false) <| WL.nil <| ?_
   try simp only [pS]
   go_wp2
   rw [HC.out]
   exact ⟨ret_bool (by simp only [ansP, bsq, q1, q2, q3, q4, q5]), HF.out.kept⟩
  refine bN (eIE q5) <| tK (.bool true) <| WL.nil <| ?_
  try simp only [pS]
  go_upto_region 8 with fail
  refine WL.start <| tK (pg g1 4) <| lP (Fi.cs ⟨l.f0, l.f1⟩) HF 0 4 U37 S37 (La.cs l) rfl <| bD (Fi.cells fiZ) <| ?_
  try simp only [pS]
  cases q6 : (eqFi ⟨l.f0, l.f1⟩ fiZ)
  ·skip
   refine bN (qeFi q6) <| tK (.bool false) <| sK <| sK <| sK <| tK (.bool false) <| tK (.bool false) <| WL.nil <| ?_
   try simp only [pS]
   go_wp2
   rw [HC.out]
   exact ⟨ret_bool (by simp only [ansP, bsq, q1, q2, q3, q4, q5, q6]), HF.out.kept⟩
  refine bN (qeFi q6) <| tK (.bool true) <| tK (pg g1 6) <| lD (.int .i64 l.sz) HF 0 6 U3 rfl <| ?_
  try simp only [pS]
  cases q7 : (l.sz == 0)
  ·skip
   refine bN (eI q7) <| tK (.bool false) <| tK (.bool false) <| WL.nil <| ?_
   try simp only [pS]
   go_wp2
   rw [HC.out]
   exact ⟨ret_bool (by simp only [ansP, bsq, q1, q2, q3, q4, q5, q6, q7]), HF.out.kept⟩
  refine bN (eI q7) <| tK (.bool true) <| tK (.bool true) <| WL.nil <| ?_
  try simp only [pS]
  go_wp2
  rw [HC.out]
  exact ⟨ret_bool (by simp only [ansP, bsq, q1, q2, q3, q4, q5, q6, q7]), HF.out.kept⟩
theorem p_rightHeld (p a : Sp) (x : Cm) (c : Cg) (w : World) (hb : 0 ≤ c.bl ∧ c.bl ≤ 4096) : Calls Tryz.prog 136 #[.agg (Sp.cells p), .agg (Sp.cells a), .agg (Cm.cells x), .agg (Cg.cells c)] w (fun e w' => e = .returned (.bool (heldP c.bl p a x)) ∧ Kept No w w') := by
  refine hidC fun C HC => ?_
  have HB : Hid (0 ≤ c.bl ∧ c.bl ≤ 4096) := hb
  clear hb
  have HF : Hid (Fq No w w []) := Fq.start _ _
  go_enter Tryz.func136, Tryz.ntmps136
  go_upto_region 0 with fail
  refine WL.start <| xB (Sp.cells p) HF fun g1 w2 HF => xB (Sp.cells a) HF fun g3 w4 HF => xB (Cm.cells x) HF fun g5 w6 HF => xB (Cg.cells c) HF fun g7 w8 HF => tK (.bool false) <| WL.nil <| ?_
  try simp only [pS]
  go_upto_region 1 with fail
  refine WL.start <| lP (Sp.cs a) HF 1 0 U34 S34 (Sp.cs a) rfl <| ?_
  try simp only [pS]
  cases q1 : (eqS a spZ)
  rotate_left
  ·skip
   refine cB (p_isNone a _) q1 HF fun w16 HF => WL.nil <| ?_
   try simp only [pS]
   go_upto_region 2 with fail
   refine WL.start <| lP (Cm.cs x) HF 2 0 U39 S39 (Cm.cs x) rfl <| bD (Cm.cells cZ) <| ?_
   try simp only [pS]
   cases q5 : (eqC x cZ)
   ·skip
    refine bN (qeC q5) <| tK (.bool false) <| WL.nil <| ?_
    try simp only [pS]
    go_wp2
    rw [HC.out]
    exact ⟨ret_bool (by simp only [heldP, bsq, q1, q5]), HF.out.kept⟩
   refine bN (qeC q5) <| tK (.bool true) <| WL.nil <| ?_
   try simp only [pS]
   go_wp2
   rw [HC.out]
   exact ⟨ret_bool (by simp only [heldP, bsq, q1, q5]), HF.out.kept⟩
  refine cB (p_isNone a _) q1 HF fun w9 HF => WL.nil <| ?_
  try simp only [pS]
  go_upto_region 3 with fail
  refine WL.start <| lP (Sp.cs a) HF 1 0 U34 S34 (Sp.cs a) rfl <| ?_
  try simp only [pS]
  cases q2 : (oneS a)
  ·skip
   refine cB (p_isOne a _) q2 HF fun w10 HF => tK (.bool false) <| sK <| sK <| sK <| sK <| tK (.bool false) <| tK (.bool false) <| sK <| sK <| sK <| tK (.bool false) <| tK (.bool false) <| WL.nil <| ?_
   try simp only [pS]
   go_wp2
   rw [HC.out]
   exact ⟨ret_bool (by simp only [heldP, bsq, q1, q2]), HF.out.kept⟩
  refine cB (p_isOne a _) q2 HF fun w11 HF => tK (.bool true) <| lP (Sp.cs a) HF 1 0 U34 S34 (Sp.cs a) rfl <| lP (Sp.cs p) HF 0 0 U34 S34 (Sp.cs p) rfl <| ?_
  try simp only [pS]
  cases q3 : (abvS a p)
  rotate_left
  ·skip
   refine cB (p_above a p _) q3 HF fun w15 HF => tK (.bool false) <| tK (.bool false) <| tK (.bool false) <| sK <| sK <| sK <| tK (.bool false) <| tK (.bool false) <| WL.nil <| ?_
   try simp only [pS]
   go_wp2
   rw [HC.out]
   exact ⟨ret_bool (by simp only [heldP, bsq, q1, q2, q3]), HF.out.kept⟩
  refine cB (p_above a p _) q3 HF fun w12 HF => tK (.bool true) <| tK (.bool true) <| tK (.bool true) <| lP (Cm.cs x) HF 2 0 U39 S39 (Cm.cs x) rfl <| lP (Cg.cs c) HF 3 0 U24 S24 (Cg.cs c) rfl <| ?_
  try simp only [pS]
  cases q4 : (cmdP c.bl x)
  ·skip
   refine cB (p_rightCommand x c _ HB) q4 HF fun w13 HF => tK (.bool false) <| tK (.bool false) <| WL.nil <| ?_
   try simp only [pS]
   go_wp2
   rw [HC.out]
   exact ⟨ret_bool (by simp only [heldP, bsq, q1, q2, q3, q4]), HF.out.kept⟩
  refine cB (p_rightCommand x c _ HB) q4 HF fun w14 HF => tK (.bool true) <| tK (.bool true) <| WL.nil <| ?_
  try simp only [pS]
  go_wp2
  rw [HC.out]
  exact ⟨ret_bool (by simp only [heldP, bsq, q1, q2, q3, q4]), HF.out.kept⟩
end Go.Proofs.YtgdnofacgfjaeaaGreat.Md
