import Derived.Test.YtgdnofacgfjaeaaGreatKg
namespace Go.Proofs.YtgdnofacgfjaeaaGreat.Md
set_option maxRecDepth 100000
set_option maxHeartbeats 4000000
open Go.RowKit
set_option linter.unusedVariables false
set_option linter.unusedSimpArgs false
theorem g_Right (k : Ky) (c : Cg) (w : World) (hu : 1 ≤ c.bu ∧ c.bu ≤ 256) : Calls Tryz.prog 167 #[.agg (Ky.cells k), .agg (Cg.cells c)] w (fun e w' => e = .returned (.bool (keyR c.bu k)) ∧ Kept No w w') := by
  refine hidC fun C HC => ?_
  have HU : Hid (1 ≤ c.bu ∧ c.bu ≤ 256) := hu
  clear hu
  have HF : Hid (Fq No w w []) := Fq.start _ _
  go_enter Tryz.func167, Tryz.ntmps167
  go_upto_region 0 with fail
  refine WL.start <| xB (Ky.cells k) HF fun g1 w2 HF => xB (Cg.cells c) HF fun g3 w4 HF => tK (.bool false) <| WL.nil <| ?_
  try simp only [pS]
  go_upto_region 1 with fail
  refine WL.start <| tK (pg g1 0) <| lD (.int .i64 k.k) HF 0 0 U3 rfl <| WL.nil <| ?_
  try simp only [pS]
  go_upto_region 2 with fail
  refine WL.start <| ?_
  cases q1 : (k.k == 1)
  rotate_left
  ·skip
   refine bN (eI q1) <| tK (.bool true) <| WL.nil <| ?_
   try simp only [pS]
   go_upto_region 3 with fail
   refine WL.start <| tK (pg g1 1) <| lD (.int .i64 k.a) HF 0 1 U3 rfl <| ?_
   try simp only [pS]
   cases q10 : (wn k.a 1 255)
   ·skip
    refine cB (g_within k.a 1 255 _) q10 HF fun w11 HF => tK (.bool false) <| sK <| sK <| sK <| tK (.bool false) <| tK (.bool false) <| sK <| sK <| sK <| tK (.bool false) <| tK (.bool false) <| WL.nil <| ?_
    try simp only [pS]
    go_wp2
    rw [HC.out]
    exact ⟨ret_bool (by simp only [keyR, bsq, q1, q10]), HF.out.kept⟩
   refine cB (g_within k.a 1 255 _) q10 HF fun w12 HF => tK (.bool true) <| tK (pg g1 2) <| lD (.int .i64 k.b) HF 0 2 U3 rfl <| ?_
   try simp only [pS]
   cases q11 : (wn k.b 1 1099511627776)
   ·skip
    refine cB (g_within k.b 1 1099511627776 _) q11 HF fun w13 HF => tK (.bool false) <| tK (.bool false) <| sK <| sK <| sK <| tK (.bool false) <| tK (.bool false) <| WL.nil <| ?_
    try simp only [pS]
    go_wp2
    rw [HC.out]
    exact ⟨ret_bool (by simp only [keyR, bsq, q1, q10, q11]), HF.out.kept⟩
   refine cB (g_within k.b 1 1099511627776 _) q11 HF fun w14 HF => tK (.bool true) <| tK (.bool true) <| tK (pg g1 3) <| lD (.int .i64 k.c) HF 0 3 U3 rfl <| ?_
   try simp only [pS]
   cases q12 : (wn k.c 0 1048575)
   ·skip
    refine cB (g_within k.c 0 1048575 _) q12 HF fun w15 HF => tK (.bool false) <| tK (.bool false) <| WL.nil <| ?_
    try simp only [pS]
    go_wp2
    rw [HC.out]
    exact ⟨ret_bool (by simp only [keyR, bsq, q1, q10, q11, q12]), HF.out.kept⟩
   refine cB (g_within k.c 0 1048575 _) q12 HF fun w16 HF => tK (.bool true) <| tK (.bool true) <| WL.nil <| ?_
   try simp only [pS]
   go_wp2
   rw [HC.out]
   exact ⟨ret_bool (by simp only [keyR, bsq, q1, q10, q11, q12]), HF.out.kept⟩
  refine bN (eI q1) <| tK (.bool false) <| WL.nil <| ?_
  try simp only [pS]
  go_upto_region 4 with fail
  refine WL.start <| ?_
  cases q2 : (k.k == 2)
  rotate_left
  ·skip
   refine bN (eI q2) <| tK (.bool true) <| WL.nil <| ?_
   try simp only [pS]
   go_upto_region 5 with fail
   refine WL.start <| tK (pg g1 1) <| lD (.int .i64 k.a) HF 0 1 U3 rfl <| tK (pg g3 3) <| lD (.int .i64 c.bu) HF 1 3 U3 rfl <| bN (v := .int .i64 (c.bu - 1)) (b_subw c.bu 1 (c.bu - 1) (by rw [IntKind.wrap_i64]; have := HU.out; omega)) <| ?_
   try simp only [pS]
   cases q7 : (wn k.a 0 (c.bu - 1))
   ·skip
    refine cB (g_within k.a 0 (c.bu - 1) _) q7 HF fun w9 HF => tK (.bool false) <| sK <| sK <| sK <| tK (.bool false) <| tK (.bool false) <| sK <| sK <| sK <| tK (.bool false) <| tK (.bool false) <| WL.nil <| ?_
    try simp only [pS]
    go_wp2
    rw [HC.out]
    exact ⟨ret_bool (by simp only [keyR, bsq, q1, q2, q7]), HF.out.kept⟩
   refine cB (g_within k.a 0 (c.bu - 1) _) q7 HF fun w10 HF => tK (.bool true) <| tK (pg g1 2) <| lD (.int .i64 k.b) HF 0 2 U3 rfl <| ?_
   try simp only [pS]
   cases q8 : (k.b == 0)
   ·skip
    refine bN (eI q8) <| tK (.bool false) <| tK (.bool false) <| sK <| sK <| sK <| tK (.bool false) <| tK (.bool false) <| WL.nil <| ?_
    try simp only [pS]
    go_wp2
    rw [HC.out]
    exact ⟨ret_bool (by simp only [keyR, bsq, q1, q2, q7, q8]), HF.out.kept⟩
   refine bN (eI q8) <| tK (.bool true) <| tK (.bool true) <| tK (pg g1 3) <| lD (.int .i64 k.c) HF 0 3 U3 rfl <| ?_
   try simp only [pS]
   cases q9 : (k.c == 0)
   ·skip
    refine bN (eI q9) <| tK (.bool false) <| tK (.bool false) <| WL.nil <| ?_
    try simp only [pS]
    go_wp2
    rw [HC.out]
    exact ⟨ret_bool (by simp only [keyR, bsq, q1, q2, q7, q8, q9]), HF.out.kept⟩
   refine bN (eI q9) <| tK (.bool true) <| tK (.bool true) <| WL.nil <| ?_
   try simp only [pS]
   go_wp2
   rw [HC.out]
   exact ⟨ret_bool (by simp only [keyR, bsq, q1, q2, q7, q8, q9]), HF.out.kept⟩
  refine bN (eI q2) <| tK (.bool false) <| WL.nil <| ?_
  try simp only [pS]
  go_upto_region 6 with fail
  refine WL.start <| ?_
  cases q3 : (k.k == 3)
  ·skip
   refine bN (eI q3) <| tK (.bool false) <| WL.nil <| ?_
   try simp only [pS]
   go_upto_region 8 with fail
   refine WL.start <| tK (.bool false) <| WL.nil <| ?_
   try simp only [pS]
   go_wp2
   rw [HC.out]
   exact ⟨ret_bool (by simp only [keyR, bsq, q1, q2, q3]), HF.out.kept⟩
  refine bN (eI q3) <| tK (.bool true) <| WL.nil <| ?_
  try simp only [pS]
  go_upto_region 7 with fail
  refine WL.start <| tK (pg g1 1) <| lD (.int .i64 k.a) HF 0 1 U3 rfl <| tK (pg g3 3) <| lD (.int .i64 c.bu) HF 1 3 U3 rfl <| bN (v := .int .i64 (c.bu - 1)) (b_subw c.bu 1 (c.bu - 1) (by rw [IntKind.wrap_i64]; have := HU.out; omega)) <| ?_
  try simp only [pS]
  cases q4 : (wn k.a 0 (c.bu - 1))
  ·skip
   refine cB (g_within k.a 0 (c.bu - 1) _) q4 HF fun w5 HF => tK (.bool false) <| sK <| sK <| sK <| tK (.bool false) <| tK (.bool false) <| sK <| sK <| sK <| tK (.bool false) <| tK (.bool false) <| WL.nil <| ?_
   try simp only [pS]
   go_wp2
   rw [HC.out]
   exact ⟨ret_bool (by simp only [keyR, bsq, q1, q2, q3, q4]), HF.out.kept⟩
  refine cB (g_within k.a 0 (c.bu - 1) _) q4 HF fun w6 HF => tK (.bool true) <| tK (pg g1 2) <| lD (.int .i64 k.b) HF 0 2 U3 rfl <| ?_
  try simp only [pS]
  cases q5 : (wn k.b 1 1048576)
  ·skip
   refine cB (g_within k.b 1 1048576 _) q5 HF fun w7 HF => tK (.bool false) <| tK (.bool false) <| sK <| sK <| sK <| tK (.bool false) <| tK (.bool false) <| WL.nil <| ?_
   try simp only [pS]
   go_wp2
   rw [HC.out]
   exact ⟨ret_bool (by simp only [keyR, bsq, q1, q2, q3, q4, q5]), HF.out.kept⟩
  refine cB (g_within k.b 1 1048576 _) q5 HF fun w8 HF => tK (.bool true) <| tK (.bool true) <| tK (pg g1 3) <| lD (.int .i64 k.c) HF 0 3 U3 rfl <| ?_
  try simp only [pS]
  cases q6 : (k.c == 0)
  ·skip
   refine bN (eI q6) <| tK (.bool false) <| tK (.bool false) <| WL.nil <| ?_
   try simp only [pS]
   go_wp2
   rw [HC.out]
   exact ⟨ret_bool (by simp only [keyR, bsq, q1, q2, q3, q4, q5, q6]), HF.out.kept⟩
  refine bN (eI q6) <| tK (.bool true) <| tK (.bool true) <| WL.nil <| ?_
  try simp only [pS]
  go_wp2
  rw [HC.out]
  exact ⟨ret_bool (by simp only [keyR, bsq, q1, q2, q3, q4, q5, q6]), HF.out.kept⟩
theorem q_Right (k : Ky) (c : Cg) (w : World) (hu : 1 ≤ c.bu ∧ c.bu ≤ 256) : Calls Tryz.prog 92 #[.agg (Ky.cells k), .agg (Cg.cells c)] w (fun e w' => e = .returned (.bool (keyR c.bu k)) ∧ Kept No w w') := by
  refine hidC fun C HC => ?_
  have HU : Hid (1 ≤ c.bu ∧ c.bu ≤ 256) := hu
  clear hu
  have HF : Hid (Fq No w w []) := Fq.start _ _
  go_enter Tryz.func92, Tryz.ntmps92
  go_upto_region 0 with fail
  refine WL.start <| xB (Ky.cells k) HF fun g1 w2 HF => xB (Cg.cells c) HF fun g3 w4 HF => tK (.bool false) <| WL.nil <| ?_
  try simp only [pS]
  go_upto_region 1 with fail
  refine WL.start <| tK (pg g1 0) <| lD (.int .i64 k.k) HF 0 0 U3 rfl <| WL.nil <| ?_
  try simp only [pS]
  go_upto_region 2 with fail
  refine WL.start <| ?_
  cases q1 : (k.k == 1)
  rotate_left
  ·skip
   refine bN (eI q1) <| tK (.bool true) <| WL.nil <| ?_
   try simp only [pS]
   go_upto_region 3 with fail
   refine WL.start <| tK (pg g1 1) <| lD (.int .i64 k.a) HF 0 1 U3 rfl <| ?_
   try simp only [pS]
   cases q10 : (wn k.a 1 255)
   ·skip
    refine cB (q_within k.a 1 255 _) q10 HF fun w11 HF => tK (.bool false) <| sK <| sK <| sK <| tK (.bool false) <| tK (.bool false) <| sK <| sK <| sK <| tK (.bool false) <| tK (.bool false) <| WL.nil <| ?_
    try simp only [pS]
    go_wp2
    rw [HC.out]
    exact ⟨ret_bool (by simp only [keyR, bsq, q1, q10]), HF.out.kept⟩
   refine cB (q_within k.a 1 255 _) q10 HF fun w12 HF => tK (.bool true) <| tK (pg g1 2) <| lD (.int .i64 k.b) HF 0 2 U3 rfl <| ?_
   try simp only [pS]
   cases q11 : (wn k.b 1 1099511627776)
   ·skip
    refine cB (q_within k.b 1 1099511627776 _) q11 HF fun w13 HF => tK (.bool false) <| tK (.bool false) <| sK <| sK <| sK <| tK (.bool false) <| tK (.bool false) <| WL.nil <| ?_
    try simp only [pS]
    go_wp2
    rw [HC.out]
    exact ⟨ret_bool (by simp only [keyR, bsq, q1, q10, q11]), HF.out.kept⟩
   refine cB (q_within k.b 1 1099511627776 _) q11 HF fun w14 HF => tK (.bool true) <| tK (.bool true) <| tK (pg g1 3) <| lD (.int .i64 k.c) HF 0 3 U3 rfl <| ?_
   try simp only [pS]
   cases q12 : (wn k.c 0 1048575)
   ·skip
    refine cB (q_within k.c 0 1048575 _) q12 HF fun w15 HF => tK (.bool false) <| tK (.bool false) <| WL.nil <| ?_
    try simp only [pS]
    go_wp2
    rw [HC.out]
    exact ⟨ret_bool (by simp only [keyR, bsq, q1, q10, q11, q12]), HF.out.kept⟩
   refine cB (q_within k.c 0 1048575 _) q12 HF fun w16 HF => tK (.bool true) <| tK (.bool true) <| WL.nil <| ?_
   try simp only [pS]
   go_wp2
   rw [HC.out]
   exact ⟨ret_bool (by simp only [keyR, bsq, q1, q10, q11, q12]), HF.out.kept⟩
  refine bN (eI q1) <| tK (.bool false) <| WL.nil <| ?_
  try simp only [pS]
  go_upto_region 4 with fail
  refine WL.start <| ?_
  cases q2 : (k.k == 2)
  rotate_left
  ·skip
   refine bN (eI q2) <| tK (.bool true) <| WL.nil <| ?_
   try simp only [pS]
   go_upto_region 5 with fail
   refine WL.start <| tK (pg g1 1) <| lD (.int .i64 k.a) HF 0 1 U3 rfl <| tK (pg g3 3) <| lD (.int .i64 c.bu) HF 1 3 U3 rfl <| bN (v := .int .i64 (c.bu - 1)) (b_subw c.bu 1 (c.bu - 1) (by rw [IntKind.wrap_i64]; have := HU.out; omega)) <| ?_
   try simp only [pS]
   cases q7 : (wn k.a 0 (c.bu - 1))
   ·skip
    refine cB (q_within k.a 0 (c.bu - 1) _) q7 HF fun w9 HF => tK (.bool false) <| sK <| sK <| sK <| tK (.bool false) <| tK (.bool false) <| sK <| sK <| sK <| tK (.bool false) <| tK (.bool false) <| WL.nil <| ?_
    try simp only [pS]
    go_wp2
    rw [HC.out]
    exact ⟨ret_bool (by simp only [keyR, bsq, q1, q2, q7]), HF.out.kept⟩
   refine cB (q_within k.a 0 (c.bu - 1) _) q7 HF fun w10 HF => tK (.bool true) <| tK (pg g1 2) <| lD (.int .i64 k.b) HF 0 2 U3 rfl <| ?_
   try simp only [pS]
   cases q8 : (k.b == 0)
   ·skip
    refine bN (eI q8) <| tK (.bool false) <| tK (.bool false) <| sK <| sK <| sK <| tK (.bool false) <| tK (.bool false) <| WL.nil <| ?_
    try simp only [pS]
    go_wp2
    rw [HC.out]
    exact ⟨ret_bool (by simp only [keyR, bsq, q1, q2, q7, q8]), HF.out.kept⟩
   refine bN (eI q8) <| tK (.bool true) <| tK (.bool true) <| tK (pg g1 3) <| lD (.int .i64 k.c) HF 0 3 U3 rfl <| ?_
   try simp only [pS]
   cases q9 : (k.c == 0)
   ·skip
    refine bN (eI q9) <| tK (.bool false) <| tK (.bool false) <| WL.nil <| ?_
    try simp only [pS]
    go_wp2
    rw [HC.out]
    exact ⟨ret_bool (by simp only [keyR, bsq, q1, q2, q7, q8, q9]), HF.out.kept⟩
   refine bN (eI q9) <| tK (.bool true) <| tK (.bool true) <| WL.nil <| ?_
   try simp only [pS]
   go_wp2
   rw [HC.out]
   exact ⟨ret_bool (by simp only [keyR, bsq, q1, q2, q7, q8, q9]), HF.out.kept⟩
  refine bN (eI q2) <| tK (.bool false) <| WL.nil <| ?_
  try simp only [pS]
  go_upto_region 6 with fail
  refine WL.start <| ?_
  cases q3 : (k.k == 3)
  ·skip
   refine bN (eI q3) <| tK (.bool false) <| WL.nil <| ?_
   try simp only [pS]
   go_upto_region 8 with fail
   refine WL.start <| tK (.bool false) <| WL.nil <| ?_
   try simp only [pS]
   go_wp2
   rw [HC.out]
   exact ⟨ret_bool (by simp only [keyR, bsq, q1, q2, q3]), HF.out.kept⟩
  refine bN (eI q3) <| tK (.bool true) <| WL.nil <| ?_
  try simp only [pS]
  go_upto_region 7 with fail
  refine WL.start <| tK (pg g1 1) <| lD (.int .i64 k.a) HF 0 1 U3 rfl <| tK (pg g3 3) <| lD (.int .i64 c.bu) HF 1 3 U3 rfl <| bN (v := .int .i64 (c.bu - 1)) (b_subw c.bu 1 (c.bu - 1) (by rw [IntKind.wrap_i64]; have := HU.out; omega)) <| ?_
  try simp only [pS]
  cases q4 : (wn k.a 0 (c.bu - 1))
  ·skip
   refine cB (q_within k.a 0 (c.bu - 1) _) q4 HF fun w5 HF => tK (.bool false) <| sK <| sK <| sK <| tK (.bool false) <| tK (.bool false) <| sK <| sK <| sK <| tK (.bool false) <| tK (.bool false) <| WL.nil <| ?_
   try simp only [pS]
   go_wp2
   rw [HC.out]
   exact ⟨ret_bool (by simp only [keyR, bsq, q1, q2, q3, q4]), HF.out.kept⟩
  refine cB (q_within k.a 0 (c.bu - 1) _) q4 HF fun w6 HF => tK (.bool true) <| tK (pg g1 2) <| lD (.int .i64 k.b) HF 0 2 U3 rfl <| ?_
  try simp only [pS]
  cases q5 : (wn k.b 1 1048576)
  ·skip
   refine cB (q_within k.b 1 1048576 _) q5 HF fun w7 HF => tK (.bool false) <| tK (.bool false) <| sK <| sK <| sK <| tK (.bool false) <| tK (.bool false) <| WL.nil <| ?_
   try simp only [pS]
   go_wp2
   rw [HC.out]
   exact ⟨ret_bool (by simp only [keyR, bsq, q1, q2, q3, q4, q5]), HF.out.kept⟩
  refine cB (q_within k.b 1 1048576 _) q5 HF fun w8 HF => tK (.bool true) <| tK (.bool true) <| tK (pg g1 3) <| lD (.int .i64 k.c) HF 0 3 U3 rfl <| ?_
  try simp only [pS]
  cases q6 : (k.c == 0)
  ·skip
   refine bN (eI q6) <| tK (.bool false) <| tK (.bool false) <| WL.nil <| ?_
   try simp only [pS]
   go_wp2
   rw [HC.out]
   exact ⟨ret_bool (by simp only [keyR, bsq, q1, q2, q3, q4, q5, q6]), HF.out.kept⟩
  refine bN (eI q6) <| tK (.bool true) <| tK (.bool true) <| WL.nil <| ?_
  try simp only [pS]
  go_wp2
  rw [HC.out]
  exact ⟨ret_bool (by simp only [keyR, bsq, q1, q2, q3, q4, q5, q6]), HF.out.kept⟩
theorem p_IndexF (x : Sl) (zs : List Int) (n : Int) (w : World) (hz : RdI w x zs) (hn : x.l ≤ 281474976710656) : Calls Tryz.prog 215 #[x.v, .int .i64 n] w (fun e w' => e = .returned (.int .i64 (ixI zs n)) ∧ Kept No w w') := by
  refine hidC fun C HC => ?_
  have HZ : Hid (RdI w x zs) := hz
  clear hz
  have HF : Hid (Fq No w w []) := Fq.start _ _
  go_enter Tryz.func215, Tryz.ntmps215
  go_upto_region 0 with fail
  refine WL.start <| tK (.int .i64 0) <| WL.nil <| ?_
  try simp only [pS]
  go_upto_region 1 with fail
  refine WL.start <| tK (x.v) <| tK (.int .i64 ((x.l : Nat) : Int)) <| tK (.int .i64 0) <| WL.nil <| ?_
  try simp only [pS]
  go_wp2
  go_loopw [8] (fun v8 wr => ∃ i : Nat, v8 = .int .i64 ((i : Nat) : Int) ∧ i ≤ x.l ∧ Hid (∀ j, j < i → (n == zs[j]?.getD 0) = false) ∧ Hid (Fq No w wr [])) (fun v8 _ => x.l - (intOf v8).toNat)
  case atStart => exact ⟨0, by go_num, by omega, fun j hj => absurd hj (Nat.not_lt_zero _), HF⟩
  case round =>
    clear HF
    obtain ⟨i, rfl, hi, HP, HF⟩ := hrel
    by_cases hlt : i < x.l
    ·skip
     obtain ⟨b, off, hsl, hc⟩ := RdI.at HZ.out (i := i) (by omega)
     go_upto_region 2 with fail
     refine WL.start <| bN (lI (a := ((i : Nat) : Int)) (b := ((x.l : Nat) : Int)) (decide_eq_true (by omega))) <| WL.nil <| ?_
     try simp only [pS]
     go_upto_region 3 with fail
     refine WL.start <| tK (.int .i64 ((i : Nat) : Int)) <| tK (.int .i64 ((i : Nat) : Int)) <| WL.nil <| ?_
     try simp only [pS]
     go_upto_region 4 with fail
     refine WL.start <| tK (.int .i64 n) <| tK (x.v) <| tK (.int .i64 ((i : Nat) : Int)) <| iS (s := x) (i := i) hsl E141 F141 (by omega) <| lR (load_one (HF.out.kept.cell hc (fun e => e)) U164 rfl) <| ?_
     try simp only [pS]
     cases q1 : (n == (zs[i]?.getD 0))
     rotate_left
     ·skip
      refine bN (eIF q1) <| WL.nil <| ?_
      try simp only [pS]
      go_upto_region 5 with fail
      refine WL.start <| tK (.int .i64 ((i : Nat) : Int)) <| tK (.int .i64 ((i : Nat) : Int)) <| WL.nil <| ?_
      try simp only [pS]
      go_wp2
      rw [HC.out]
      exact ⟨by rw [ixI_at (by rw [HZ.out.len]; exact hlt) q1 HP.out]; rfl, HF.out.kept⟩
     refine bN (eIF q1) <| WL.nil <| ?_
     try simp only [pS]
     go_upto_region 6 with fail
     refine WL.start <| bN (v := .int .i64 (((i + 1) : Nat) : Int)) (b_addw ((i : Nat) : Int) 1 (((i + 1) : Nat) : Int) (by rw [IntKind.wrap_i64]; omega)) <| tK (.int .i64 (((i + 1) : Nat) : Int)) <| WL.nil <| ?_
     try simp only [pS]
     go_wp2
     go_roundw
     case rel => exact ⟨i + 1, by go_num, by omega, up_j HP.out q1, HF⟩
     case measure => simp [intOf]; omega
    ·skip
     go_upto_region 2 with fail
     refine WL.start <| bN (lI (a := ((i : Nat) : Int)) (b := ((x.l : Nat) : Int)) (decide_eq_false (by omega))) <| WL.nil <| ?_
     try simp only [pS]
     go_upto_region 7 with fail
     refine WL.start <| tK (.int .i64 (-1)) <| WL.nil <| ?_
     try simp only [pS]
     go_wp2
     rw [HC.out]
     exact ⟨by rw [ixI_no (fun j hj => HP.out j (by rw [HZ.out.len] at hj; omega))]; rfl, HF.out.kept⟩
theorem p_ContainsF (x : Sl) (zs : List Int) (n : Int) (w : World) (hz : RdI w x zs) (hn : x.l ≤ 281474976710656) : Calls Tryz.prog 169 #[x.v, .int .i64 n] w (fun e w' => e = .returned (.bool (hasB zs n)) ∧ Kept No w w') := by
  refine hidC fun C HC => ?_
  have HZ : Hid (RdI w x zs) := hz
  clear hz
  have HF : Hid (Fq No w w []) := Fq.start _ _
  go_enter Tryz.func169, Tryz.ntmps169
  go_upto_region 0 with fail
  refine WL.start <| tK (.bool false) <| WL.nil <| ?_
  try simp only [pS]
  go_upto_region 1 with fail
  refine WL.start <| tK (x.v) <| tK (.int .i64 n) <| cV (p_IndexF x zs n _ (HZ.out.no HF.out.kept) hn) HF fun w1 HF => ?_
  try simp only [pS]
  cases q1 : (decide (0 ≤ (ixI zs n)))
  ·skip
   refine bN (geI q1) <| tK (.bool false) <| WL.nil <| ?_
   try simp only [pS]
   go_wp2
   rw [HC.out]
   exact ⟨ret_bool (by rw [← ix_has, q1]), HF.out.kept⟩
  refine bN (geI q1) <| tK (.bool true) <| WL.nil <| ?_
  try simp only [pS]
  go_wp2
  rw [HC.out]
  exact ⟨ret_bool (by rw [← ix_has, q1]), HF.out.kept⟩
theorem p_empty (m : Mg) (f : Int) (w : World) : Calls Tryz.prog 168 #[.agg (Mg.cells m), .int .i64 f] w (fun e w' => e = .returned (.bool (emptyF m f)) ∧ Kept No w w') := by
  refine hidC fun C HC => ?_
  have HF : Hid (Fq No w w []) := Fq.start _ _
  go_enter Tryz.func168, Tryz.ntmps168
  go_upto_region 0 with fail
  refine WL.start <| xB (Mg.cells m) HF fun g1 w2 HF => tK (.bool false) <| WL.nil <| ?_
  try simp only [pS]
  go_upto_region 1 with fail
  refine WL.start <| tK (.int .i64 f) <| WL.nil <| ?_
  try simp only [pS]
  go_upto_region 2 with fail
  refine WL.start <| ?_
  cases q1 : (f == 0)
  rotate_left
  ·skip
   refine bN (eIF q1) <| tK (.bool true) <| WL.nil <| ?_
   try simp only [pS]
   go_upto_region 3 with fail
   refine WL.start <| tK (pg g1 11) <| lP (Sp.cs m.st) HF 0 11 U34 S34 (Mg.cs m) rfl <| ?_
   try simp only [pS]
   cases q13 : (eqS m.st spZ)
   ·skip
    refine cB (p_isNone m.st _) q13 HF fun w7 HF => tK (.bool false) <| WL.nil <| ?_
    try simp only [pS]
    go_wp2
    rw [HC.out]
    exact ⟨ret_bool (by simp only [emptyF, bsq, q1, q13]), HF.out.kept⟩
   refine cB (p_isNone m.st _) q13 HF fun w8 HF => tK (.bool true) <| WL.nil <| ?_
   try simp only [pS]
   go_wp2
   rw [HC.out]
   exact ⟨ret_bool (by simp only [emptyF, bsq, q1, q13]), HF.out.kept⟩
  refine bN (eIF q1) <| tK (.bool false) <| WL.nil <| ?_
  try simp only [pS]
  go_upto_region 4 with fail
  refine WL.start <| ?_
  cases q2 : (f == 1)
  rotate_left
  ·skip
   refine bN (eIF q2) <| tK (.bool true) <| WL.nil <| ?_
   try simp only [pS]
   go_upto_region 5 with fail
   refine WL.start <| tK (pg g1 13) <| lP (Sp.cs m.hd) HF 0 13 U34 S34 (Mg.cs m) rfl <| ?_
   try simp only [pS]
   cases q12 : (eqS m.hd spZ)
   ·skip
    refine cB (p_isNone m.hd _) q12 HF fun w5 HF => tK (.bool false) <| WL.nil <| ?_
    try simp only [pS]
    go_wp2
    rw [HC.out]
    exact ⟨ret_bool (by simp only [emptyF, bsq, q1, q2, q12]), HF.out.kept⟩
   refine cB (p_isNone m.hd _) q12 HF fun w6 HF => tK (.bool true) <| WL.nil <| ?_
   try simp only [pS]
   go_wp2
   rw [HC.out]
   exact ⟨ret_bool (by simp only [emptyF, bsq, q1, q2, q12]), HF.out.kept⟩
  refine bN (eIF q2) <| tK (.bool false) <| WL.nil <| ?_
  try simp only [pS]
  go_upto_region 6 with fail
  refine WL.start <| ?_
  cases q3 : (f == 2)
  rotate_left
  ·skip
   refine bN (eIF q3) <| tK (.bool true) <| WL.nil <| ?_
   try simp only [pS]
   go_upto_region 7 with fail
   refine WL.start <| tK (pg g1 15) <| lD (m.bl.v) HF 0 15 U35 rfl <| tK (.int .i64 ((m.bl.l : Nat) : Int)) <| ?_
   try simp only [pS]
   cases q11 : (((m.bl.l : Nat) : Int) == 0)
   ·skip
    refine bN (eI q11) <| tK (.bool false) <| WL.nil <| ?_
    try simp only [pS]
    go_wp2
    rw [HC.out]
    exact ⟨ret_bool (by simp only [emptyF, bsq, q1, q2, q3, q11]), HF.out.kept⟩
   refine bN (eI q11) <| tK (.bool true) <| WL.nil <| ?_
   try simp only [pS]
   go_wp2
   rw [HC.out]
   exact ⟨ret_bool (by simp only [emptyF, bsq, q1, q2, q3, q11]), HF.out.kept⟩
  refine bN (eIF q3) <| tK (.bool false) <| WL.nil <| ?_
  try simp only [pS]
  go_upto_region 8 with fail
  refine WL.start <| ?_
  cases q4 : (f == 3)
  rotate_left
  ·skip
   refine bN (eIF q4) <| tK (.bool true) <| WL.nil <| ?_
   try simp only [pS]
   go_upto_region 9 with fail
   refine WL.start <| tK (pg g1 16) <| lP (Cm.cs m.c) HF 0 16 U39 S39 (Mg.cs m) rfl <| bD (Cm.cells cZ) <| ?_
   try simp only [pS]
   cases q10 : (eqC m.c cZ)
   ·skip
    refine bN (qeC q10) <| tK (.bool false) <| WL.nil <| ?_
    try simp only [pS]
    go_wp2
    rw [HC.out]
    exact ⟨ret_bool (by simp only [emptyF, bsq, q1, q2, q3, q4, q10]), HF.out.kept⟩
   refine bN (qeC q10) <| tK (.bool true) <| WL.nil <| ?_
   try simp only [pS]
   go_wp2
   rw [HC.out]
   exact ⟨ret_bool (by simp only [emptyF, bsq, q1, q2, q3, q4, q10]), HF.out.kept⟩
  refine bN (eIF q4) <| tK (.bool false) <| WL.nil <| ?_
  try simp only [pS]
  go_upto_region 10 with fail
  refine WL.start <| ?_
  cases q5 : (f == 4)
  rotate_left
  ·skip
   refine bN (eIF q5) <| tK (.bool true) <| WL.nil <| ?_
   try simp only [pS]
   go_upto_region 11 with fail
   refine WL.start <| tK (pg g1 25) <| lP (Bv.cs m.bk) HF 0 25 U43 S43 (Mg.cs m) rfl <| ?_
   try simp only [pS]
   cases q9 : (empK m.bk)
   ·skip
    refine cB (p_emptyBucket m.bk _) q9 HF fun w3 HF => tK (.bool false) <| WL.nil <| ?_
    try simp only [pS]
    go_wp2
    rw [HC.out]
    exact ⟨ret_bool (by simp only [emptyF, bsq, q1, q2, q3, q4, q5, q9]), HF.out.kept⟩
   refine cB (p_emptyBucket m.bk _) q9 HF fun w4 HF => tK (.bool true) <| WL.nil <| ?_
   try simp only [pS]
   go_wp2
   rw [HC.out]
   exact ⟨ret_bool (by simp only [emptyF, bsq, q1, q2, q3, q4, q5, q9]), HF.out.kept⟩
  refine bN (eIF q5) <| tK (.bool false) <| WL.nil <| ?_
  try simp only [pS]
  go_upto_region 12 with fail
  refine WL.start <| ?_
  cases q6 : (f == 5)
  ·skip
   refine bN (eIF q6) <| tK (.bool false) <| WL.nil <| ?_
   try simp only [pS]
   go_upto_region 14 with fail
   refine WL.start <| tK (pg g1 29) <| lD (.bool m.mo) HF 0 29 U4 rfl <| ?_
   try simp only [pS]
   cases q7 : (m.mo)
   ·skip
    refine tK (.bool true) <| tK (.bool true) <| WL.nil <| ?_
    try simp only [pS]
    go_wp2
    rw [HC.out]
    exact ⟨ret_bool (by simp only [emptyF, bsq, q1, q2, q3, q4, q5, q6, q7]), HF.out.kept⟩
   refine tK (.bool false) <| tK (.bool false) <| WL.nil <| ?_
   try simp only [pS]
   go_wp2
   rw [HC.out]
   exact ⟨ret_bool (by simp only [emptyF, bsq, q1, q2, q3, q4, q5, q6, q7]), HF.out.kept⟩
  refine bN (eIF q6) <| tK (.bool true) <| WL.nil <| ?_
  try simp only [pS]
  go_upto_region 13 with fail
  refine WL.start <| tK (pg g1 28) <| lD (m.cm.v) HF 0 28 U26 rfl <| tK (.int .i64 ((m.cm.l : Nat) : Int)) <| ?_
  try simp only [pS]
  cases q8 : (((m.cm.l : Nat) : Int) == 0)
  ·skip
   refine bN (eI q8) <| tK (.bool false) <| WL.nil <| ?_
   try simp only [pS]
   go_wp2
   rw [HC.out]
   exact ⟨ret_bool (by simp only [emptyF, bsq, q1, q2, q3, q4, q5, q6, q8]), HF.out.kept⟩
  refine bN (eI q8) <| tK (.bool true) <| WL.nil <| ?_
  try simp only [pS]
  go_wp2
  rw [HC.out]
  exact ⟨ret_bool (by simp only [emptyF, bsq, q1, q2, q3, q4, q5, q6, q8]), HF.out.kept⟩
theorem p_only (m : Mg) (x : Sl) (zs : List Int) (w : World) (hz : RdI w x zs) (hn : x.l ≤ 281474976710656) : Calls Tryz.prog 88 #[.agg (Mg.cells m), x.v] w (fun e w' => e = .returned (.bool (onlyP m zs)) ∧ Kept No w w') := by
  refine hidC fun C HC => ?_
  have HZ : Hid (RdI w x zs) := hz
  clear hz
  have HF : Hid (Fq No w w []) := Fq.start _ _
  go_enter Tryz.func88, Tryz.ntmps88
  go_upto_region 0 with fail
  refine WL.start <| xB (Mg.cells m) HF fun g1 w2 HF => tK (.bool false) <| WL.nil <| ?_
  try simp only [pS]
  go_upto_region 1 with fail
  refine WL.start <| tK (.int .i64 0) <| WL.nil <| ?_
  try simp only [pS]
  go_wp2
  go_loopw [6] (fun v6 wr => ∃ i : Nat, v6 = .int .i64 ((i : Nat) : Int) ∧ i ≤ 7 ∧ Hid (∀ j, j < i → (emptyF m ((j : Nat) : Int) || hasB zs ((j : Nat) : Int)) = true) ∧ Hid (Fq No w wr [(g1, 45, Mg.cells m)])) (fun v6 _ => 7 - (intOf v6).toNat)
  case atStart => exact ⟨0, by go_num, by omega, fun j hj => absurd hj (Nat.not_lt_zero _), HF⟩
  case round =>
    clear HF
    obtain ⟨i, rfl, hi, HP, HF⟩ := hrel
    by_cases hlt : i < 7
    ·skip
     go_upto_region 2 with fail
     refine WL.start <| bN (lIF (a := ((i : Nat) : Int)) (b := 7) (decide_eq_true (by omega))) <| WL.nil <| ?_
     try simp only [pS]
     go_upto_region 3 with fail
     refine WL.start <| tK (.int .i64 ((i : Nat) : Int)) <| tK (.int .i64 ((i : Nat) : Int)) <| WL.nil <| ?_
     try simp only [pS]
     go_upto_region 4 with fail
     refine WL.start <| lP (Mg.cs m) HF 0 0 U45 S45 (Mg.cs m) rfl <| tK (.int .i64 ((i : Nat) : Int)) <| ?_
     try simp only [pS]
     cases q1 : (emptyF m ((i : Nat) : Int))
     rotate_left
     ·skip
      refine cB (p_empty m ((i : Nat) : Int) _) q1 HF fun w6 HF => tK (.bool false) <| tK (.bool false) <| sK <| sK <| sK <| sK <| tK (.bool false) <| WL.nil <| ?_
      try simp only [pS]
      go_upto_region 6 with fail
      refine WL.start <| bN (v := .int .i64 (((i + 1) : Nat) : Int)) (b_addF ((i : Nat) : Int) 1 (((i + 1) : Nat) : Int) (by rw [IntKind.wrap_i64]; omega)) <| tK (.int .i64 (((i + 1) : Nat) : Int)) <| WL.nil <| ?_
      try simp only [pS]
      go_wp2
      go_roundw
      case rel => exact ⟨i + 1, by go_num, by omega, up_j (P := fun j => (emptyF m ((j : Nat) : Int) || hasB zs ((j : Nat) : Int)) = true) HP.out (by simp only [bsq, q1]), HF⟩
      case measure => simp [intOf]; omega
     refine cB (p_empty m ((i : Nat) : Int) _) q1 HF fun w3 HF => tK (.bool true) <| tK (.bool true) <| tK (x.v) <| tK (.int .i64 ((i : Nat) : Int)) <| ?_
     try simp only [pS]
     cases q2 : (hasB zs ((i : Nat) : Int))
     ·skip
      refine cB (p_ContainsF x zs ((i : Nat) : Int) _ (HZ.out.no HF.out.kept) hn) q2 HF fun w4 HF => tK (.bool true) <| tK (.bool true) <| WL.nil <| ?_
      try simp only [pS]
      go_upto_region 5 with fail
      refine WL.start <| tK (.bool false) <| WL.nil <| ?_
      try simp only [pS]
      go_wp2
      rw [HC.out]
      exact ⟨ret_bool (by rw [show onlyP m zs = false from rng_f (i := i) hlt (by simp only [bsq, q1, q2])]), HF.out.kept⟩
     refine cB (p_ContainsF x zs ((i : Nat) : Int) _ (HZ.out.no HF.out.kept) hn) q2 HF fun w5 HF => tK (.bool false) <| tK (.bool false) <| WL.nil <| ?_
     try simp only [pS]
     go_upto_region 6 with fail
     refine WL.start <| bN (v := .int .i64 (((i + 1) : Nat) : Int)) (b_addF ((i : Nat) : Int) 1 (((i + 1) : Nat) : Int) (by rw [IntKind.wrap_i64]; omega)) <| tK (.int .i64 (((i + 1) : Nat) : Int)) <| WL.nil <| ?_
     try simp only [pS]
     go_wp2
     go_roundw
     case rel => exact ⟨i + 1, by go_num, by omega, up_j (P := fun j => (emptyF m ((j : Nat) : Int) || hasB zs ((j : Nat) : Int)) = true) HP.out (by simp only [bsq, q1, q2]), HF⟩
     case measure => simp [intOf]; omega
    ·skip
     go_upto_region 2 with fail
     refine WL.start <| bN (lIF (a := ((i : Nat) : Int)) (b := 7) (decide_eq_false (by omega))) <| WL.nil <| ?_
     try simp only [pS]
     go_upto_region 7 with fail
     refine WL.start <| tK (.bool true) <| WL.nil <| ?_
     try simp only [pS]
     go_wp2
     rw [HC.out]
     exact ⟨ret_bool (by rw [show onlyP m zs = true from rng_t (fun j hj => HP.out j (by omega))]), HF.out.kept⟩
theorem p_fieldsOf (k : Int) (w : World) : Calls Tryz.prog 89 #[.int .i64 k] w (SlO w (fieldsK k)) := by
  refine hidC fun C HC => ?_
  have HF : Hid (Fq No w w []) := Fq.start _ _
  go_enter Tryz.func89, Tryz.ntmps89
  go_upto_region 0 with fail
  refine WL.start <| tK (.slice none 0 0) <| WL.nil <| ?_
  try simp only [pS]
  go_upto_region 1 with fail
  refine WL.start <| tK (.int .i64 k) <| WL.nil <| ?_
  try simp only [pS]
  go_upto_region 2 with fail
  refine WL.start <| ?_
  cases q1 : (k == 2)
  rotate_left
  ·skip
   refine bN (eI q1) <| tK (.bool true) <| WL.nil <| ?_
   try simp only [pS]
   go_upto_region 4 with fail
   refine WL.start <| bS ([0, 2] : List Int) HF fun g23 w24 HF => tK (.slice (some ⟨g23, 0, none⟩) 2 2) <| WL.nil <| ?_
   try simp only [pS]
   have hz : fieldsK k = [0, 2] := by
     unfold fieldsK
     have e0 := eq_of_beq q1
     simp [*]
   go_wp2
   rw [HC.out, hz]
   exact ⟨⟨⟨some ⟨g23, 0, none⟩, 2, 2⟩, rfl, HF.out.kept, RdI.box (zs := [0, 2]) (HF.out.box 0 _ _ _ rfl), by show 2 ≤ 8; omega⟩⟩
  refine bN (eI q1) <| tK (.bool false) <| WL.nil <| ?_
  try simp only [pS]
  go_upto_region 3 with fail
  refine WL.start <| ?_
  cases q2 : (k == 11)
  rotate_left
  ·skip
   refine bN (eI q2) <| tK (.bool true) <| WL.nil <| ?_
   try simp only [pS]
   go_upto_region 4 with fail
   refine WL.start <| bS ([0, 2] : List Int) HF fun g21 w22 HF => tK (.slice (some ⟨g21, 0, none⟩) 2 2) <| WL.nil <| ?_
   try simp only [pS]
   have hz : fieldsK k = [0, 2] := by
     unfold fieldsK
     have e0 := ne_of_beq_false q1
     have e1 := eq_of_beq q2
     simp [*]
   go_wp2
   rw [HC.out, hz]
   exact ⟨⟨⟨some ⟨g21, 0, none⟩, 2, 2⟩, rfl, HF.out.kept, RdI.box (zs := [0, 2]) (HF.out.box 0 _ _ _ rfl), by show 2 ≤ 8; omega⟩⟩
  refine bN (eI q2) <| tK (.bool false) <| WL.nil <| ?_
  try simp only [pS]
  go_upto_region 5 with fail
  refine WL.start <| ?_
  cases q3 : (k == 3)
  rotate_left
  ·skip
   refine bN (eI q3) <| tK (.bool true) <| WL.nil <| ?_
   try simp only [pS]
   go_upto_region 9 with fail
   refine WL.start <| bS ([0] : List Int) HF fun g19 w20 HF => tK (.slice (some ⟨g19, 0, none⟩) 1 1) <| WL.nil <| ?_
   try simp only [pS]
   have hz : fieldsK k = [0] := by
     unfold fieldsK
     have e0 := ne_of_beq_false q1
     have e1 := ne_of_beq_false q2
     have e2 := eq_of_beq q3
     simp [*]
   go_wp2
   rw [HC.out, hz]
   exact ⟨⟨⟨some ⟨g19, 0, none⟩, 1, 1⟩, rfl, HF.out.kept, RdI.box (zs := [0]) (HF.out.box 0 _ _ _ rfl), by show 1 ≤ 8; omega⟩⟩
  refine bN (eI q3) <| tK (.bool false) <| WL.nil <| ?_
  try simp only [pS]
  go_upto_region 6 with fail
  refine WL.start <| ?_
  cases q4 : (k == 14)
  rotate_left
  ·skip
   refine bN (eI q4) <| tK (.bool true) <| WL.nil <| ?_
   try simp only [pS]
   go_upto_region 9 with fail
   refine WL.start <| bS ([0] : List Int) HF fun g17 w18 HF => tK (.slice (some ⟨g17, 0, none⟩) 1 1) <| WL.nil <| ?_
   try simp only [pS]
   have hz : fieldsK k = [0] := by
     unfold fieldsK
     have e0 := ne_of_beq_false q1
     have e1 := ne_of_beq_false q2
     have e2 := ne_of_beq_false q3
     have e3 := eq_of_beq q4
     simp [*]
   go_wp2
   rw [HC.out, hz]
   exact ⟨⟨⟨some ⟨g17, 0, none⟩, 1, 1⟩, rfl, HF.out.kept, RdI.box (zs := [0]) (HF.out.box 0 _ _ _ rfl), by show 1 ≤ 8; omega⟩⟩
  refine bN (eI q4) <| tK (.bool false) <| WL.nil <| ?_
  try simp only [pS]
  go_upto_region 7 with fail
  refine WL.start <| ?_
  cases q5 : (k == 15)
  rotate_left
  ·skip
   refine bN (eI q5) <| tK (.bool true) <| WL.nil <| ?_
   try simp only [pS]
   go_upto_region 9 with fail
   refine WL.start <| bS ([0] : List Int) HF fun g15 w16 HF => tK (.slice (some ⟨g15, 0, none⟩) 1 1) <| WL.nil <| ?_
   try simp only [pS]
   have hz : fieldsK k = [0] := by
     unfold fieldsK
     have e0 := ne_of_beq_false q1
     have e1 := ne_of_beq_false q2
     have e2 := ne_of_beq_false q3
     have e3 := ne_of_beq_false q4
     have e4 := eq_of_beq q5
     simp [*]
   go_wp2
   rw [HC.out, hz]
   exact ⟨⟨⟨some ⟨g15, 0, none⟩, 1, 1⟩, rfl, HF.out.kept, RdI.box (zs := [0]) (HF.out.box 0 _ _ _ rfl), by show 1 ≤ 8; omega⟩⟩
  refine bN (eI q5) <| tK (.bool false) <| WL.nil <| ?_
  try simp only [pS]
  go_upto_region 8 with fail
  refine WL.start <| ?_
  cases q6 : (k == 21)
  rotate_left
  ·skip
   refine bN (eI q6) <| tK (.bool true) <| WL.nil <| ?_
   try simp only [pS]
   go_upto_region 9 with fail
   refine WL.start <| bS ([0] : List Int) HF fun g13 w14 HF => tK (.slice (some ⟨g13, 0, none⟩) 1 1) <| WL.nil <| ?_
   try simp only [pS]
   have hz : fieldsK k = [0] := by
     unfold fieldsK
     have e0 := ne_of_beq_false q1
     have e1 := ne_of_beq_false q2
     have e2 := ne_of_beq_false q3
     have e3 := ne_of_beq_false q4
     have e4 := ne_of_beq_false q5
     have e5 := eq_of_beq q6
     simp [*]
   go_wp2
   rw [HC.out, hz]
   exact ⟨⟨⟨some ⟨g13, 0, none⟩, 1, 1⟩, rfl, HF.out.kept, RdI.box (zs := [0]) (HF.out.box 0 _ _ _ rfl), by show 1 ≤ 8; omega⟩⟩
  refine bN (eI q6) <| tK (.bool false) <| WL.nil <| ?_
  try simp only [pS]
  go_upto_region 10 with fail
  refine WL.start <| ?_
  cases q7 : (k == 4)
  rotate_left
  ·skip
   refine bN (eI q7) <| tK (.bool true) <| WL.nil <| ?_
   try simp only [pS]
   go_upto_region 11 with fail
   refine WL.start <| bS ([0, 3] : List Int) HF fun g11 w12 HF => tK (.slice (some ⟨g11, 0, none⟩) 2 2) <| WL.nil <| ?_
   try simp only [pS]
   have hz : fieldsK k = [0, 3] := by
     unfold fieldsK
     have e0 := ne_of_beq_false q1
     have e1 := ne_of_beq_false q2
     have e2 := ne_of_beq_false q3
     have e3 := ne_of_beq_false q4
     have e4 := ne_of_beq_false q5
     have e5 := ne_of_beq_false q6
     have e6 := eq_of_beq q7
     simp [*]
   go_wp2
   rw [HC.out, hz]
   exact ⟨⟨⟨some ⟨g11, 0, none⟩, 2, 2⟩, rfl, HF.out.kept, RdI.box (zs := [0, 3]) (HF.out.box 0 _ _ _ rfl), by show 2 ≤ 8; omega⟩⟩
  refine bN (eI q7) <| tK (.bool false) <| WL.nil <| ?_
  try simp only [pS]
  go_upto_region 12 with fail
  refine WL.start <| ?_
  cases q8 : (k == 5)
  rotate_left
  ·skip
   refine bN (eI q8) <| tK (.bool true) <| WL.nil <| ?_
   try simp only [pS]
   go_upto_region 14 with fail
   refine WL.start <| bS ([3] : List Int) HF fun g9 w10 HF => tK (.slice (some ⟨g9, 0, none⟩) 1 1) <| WL.nil <| ?_
   try simp only [pS]
   have hz : fieldsK k = [3] := by
     unfold fieldsK
     have e0 := ne_of_beq_false q1
     have e1 := ne_of_beq_false q2
     have e2 := ne_of_beq_false q3
     have e3 := ne_of_beq_false q4
     have e4 := ne_of_beq_false q5
     have e5 := ne_of_beq_false q6
     have e6 := ne_of_beq_false q7
     have e7 := eq_of_beq q8
     simp [*]
   go_wp2
   rw [HC.out, hz]
   exact ⟨⟨⟨some ⟨g9, 0, none⟩, 1, 1⟩, rfl, HF.out.kept, RdI.box (zs := [3]) (HF.out.box 0 _ _ _ rfl), by show 1 ≤ 8; omega⟩⟩
  refine bN (eI q8) <| tK (.bool false) <| WL.nil <| ?_
  try simp only [pS]
  go_upto_region 13 with fail
  refine WL.start <| ?_
  cases q9 : (k == 16)
  rotate_left
  ·skip
   refine bN (eI q9) <| tK (.bool true) <| WL.nil <| ?_
   try simp only [pS]
   go_upto_region 14 with fail
   refine WL.start <| bS ([3] : List Int) HF fun g7 w8 HF => tK (.slice (some ⟨g7, 0, none⟩) 1 1) <| WL.nil <| ?_
   try simp only [pS]
   have hz : fieldsK k = [3] := by
     unfold fieldsK
     have e0 := ne_of_beq_false q1
     have e1 := ne_of_beq_false q2
     have e2 := ne_of_beq_false q3
     have e3 := ne_of_beq_false q4
     have e4 := ne_of_beq_false q5
     have e5 := ne_of_beq_false q6
     have e6 := ne_of_beq_false q7
     have e7 := ne_of_beq_false q8
     have e8 := eq_of_beq q9
     simp [*]
   go_wp2
   rw [HC.out, hz]
   exact ⟨⟨⟨some ⟨g7, 0, none⟩, 1, 1⟩, rfl, HF.out.kept, RdI.box (zs := [3]) (HF.out.box 0 _ _ _ rfl), by show 1 ≤ 8; omega⟩⟩
  refine bN (eI q9) <| tK (.bool false) <| WL.nil <| ?_
  try simp only [pS]
  go_upto_region 15 with fail
  refine WL.start <| ?_
  cases q10 : (k == 13)
  rotate_left
  ·skip
   refine bN (eI q10) <| tK (.bool true) <| WL.nil <| ?_
   try simp only [pS]
   go_upto_region 16 with fail
   refine WL.start <| bS ([0, 1, 3] : List Int) HF fun g5 w6 HF => tK (.slice (some ⟨g5, 0, none⟩) 3 3) <| WL.nil <| ?_
   try simp only [pS]
   have hz : fieldsK k = [0, 1, 3] := by
     unfold fieldsK
     have e0 := ne_of_beq_false q1
     have e1 := ne_of_beq_false q2
     have e2 := ne_of_beq_false q3
     have e3 := ne_of_beq_false q4
     have e4 := ne_of_beq_false q5
     have e5 := ne_of_beq_false q6
     have e6 := ne_of_beq_false q7
     have e7 := ne_of_beq_false q8
     have e8 := ne_of_beq_false q9
     have e9 := eq_of_beq q10
     simp [*]
   go_wp2
   rw [HC.out, hz]
   exact ⟨⟨⟨some ⟨g5, 0, none⟩, 3, 3⟩, rfl, HF.out.kept, RdI.box (zs := [0, 1, 3]) (HF.out.box 0 _ _ _ rfl), by show 3 ≤ 8; omega⟩⟩
  refine bN (eI q10) <| tK (.bool false) <| WL.nil <| ?_
  try simp only [pS]
  go_upto_region 17 with fail
  refine WL.start <| ?_
  cases q11 : (k == 17)
  rotate_left
  ·skip
   refine bN (eI q11) <| tK (.bool true) <| WL.nil <| ?_
   try simp only [pS]
   go_upto_region 18 with fail
   refine WL.start <| bS ([4] : List Int) HF fun g3 w4 HF => tK (.slice (some ⟨g3, 0, none⟩) 1 1) <| WL.nil <| ?_
   try simp only [pS]
   have hz : fieldsK k = [4] := by
     unfold fieldsK
     have e0 := ne_of_beq_false q1
     have e1 := ne_of_beq_false q2
     have e2 := ne_of_beq_false q3
     have e3 := ne_of_beq_false q4
     have e4 := ne_of_beq_false q5
     have e5 := ne_of_beq_false q6
     have e6 := ne_of_beq_false q7
     have e7 := ne_of_beq_false q8
     have e8 := ne_of_beq_false q9
     have e9 := ne_of_beq_false q10
     have e10 := eq_of_beq q11
     simp [*]
   go_wp2
   rw [HC.out, hz]
   exact ⟨⟨⟨some ⟨g3, 0, none⟩, 1, 1⟩, rfl, HF.out.kept, RdI.box (zs := [4]) (HF.out.box 0 _ _ _ rfl), by show 1 ≤ 8; omega⟩⟩
  refine bN (eI q11) <| tK (.bool false) <| WL.nil <| ?_
  try simp only [pS]
  go_upto_region 19 with fail
  refine WL.start <| ?_
  cases q12 : (k == 22)
  ·skip
   refine bN (eI q12) <| tK (.bool false) <| WL.nil <| ?_
   try simp only [pS]
   go_upto_region 21 with fail
   refine WL.start <| tK (.slice none 0 0) <| WL.nil <| ?_
   try simp only [pS]
   have hz : fieldsK k = [] := by
     unfold fieldsK
     have e0 := ne_of_beq_false q1
     have e1 := ne_of_beq_false q2
     have e2 := ne_of_beq_false q3
     have e3 := ne_of_beq_false q4
     have e4 := ne_of_beq_false q5
     have e5 := ne_of_beq_false q6
     have e6 := ne_of_beq_false q7
     have e7 := ne_of_beq_false q8
     have e8 := ne_of_beq_false q9
     have e9 := ne_of_beq_false q10
     have e10 := ne_of_beq_false q11
     have e11 := ne_of_beq_false q12
     simp [*]
   go_wp2
   rw [HC.out, hz]
   exact ⟨⟨slZ, rfl, HF.out.kept, RdI.nil _, by decide⟩⟩
  refine bN (eI q12) <| tK (.bool true) <| WL.nil <| ?_
  try simp only [pS]
  go_upto_region 20 with fail
  refine WL.start <| bS ([0, 2, 4, 5, 6] : List Int) HF fun g1 w2 HF => tK (.slice (some ⟨g1, 0, none⟩) 5 5) <| WL.nil <| ?_
  try simp only [pS]
  have hz : fieldsK k = [0, 2, 4, 5, 6] := by
    unfold fieldsK
    have e0 := ne_of_beq_false q1
    have e1 := ne_of_beq_false q2
    have e2 := ne_of_beq_false q3
    have e3 := ne_of_beq_false q4
    have e4 := ne_of_beq_false q5
    have e5 := ne_of_beq_false q6
    have e6 := ne_of_beq_false q7
    have e7 := ne_of_beq_false q8
    have e8 := ne_of_beq_false q9
    have e9 := ne_of_beq_false q10
    have e10 := ne_of_beq_false q11
    have e11 := eq_of_beq q12
    simp [*]
  go_wp2
  rw [HC.out, hz]
  exact ⟨⟨⟨some ⟨g1, 0, none⟩, 5, 5⟩, rfl, HF.out.kept, RdI.box (zs := [0, 2, 4, 5, 6]) (HF.out.box 0 _ _ _ rfl), by show 5 ≤ 8; omega⟩⟩
end Go.Proofs.YtgdnofacgfjaeaaGreat.Md
