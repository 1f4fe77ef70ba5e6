import Derived.Test.YtgdnofacgfjaeaaGreatLe
import Derived.Test.YtgdnofacgfjaeaaGreatWiIt
namespace Go.Proofs.YtgdnofacgfjaeaaGreat.Md
set_option maxRecDepth 100000
set_option maxHeartbeats 4000000
open Go.RowKit
set_option linter.unusedVariables false
set_option linter.unusedSimpArgs false
def stP (s : Sp) : Bool := eqS s spZ || oneS s
def insP (B : Int) (x : In) : Bool := bif x.d then eqS x.p spZ && (eqS x.a spZ && cmdP B x.c) else stP x.p && heldP B x.p x.a x.c
def insR (B : Int) (x : In) : Bool := bif x.d then eqS x.p spZ && (eqS x.a spZ && cmdR B x.c) else
  bif (!eqS x.p spZ && !oneS x.p) || abvS x.a x.p then false else bif eqS x.a spZ then eqC x.c cZ else oneS x.a && cmdR B x.c
theorem abv_z {a p : Sp} (h : stP p = true) (ha : eqS a spZ = true) : abvS a p = false := by
  have := eqS_iff.1 ha
  subst this
  unfold stP at h
  rw [Bool.or_eq_true] at h
  rcases h with h | h
  · have := eqS_iff.1 h
    subst this
    decide
  · have h1 := oneS_t h
    unfold abvS
    rw [Bool.or_eq_false_iff]
    refine ⟨decide_eq_false (by show ¬ p.n < 0; omega), ?_⟩
    have : ((spZ).n == p.n) = false := by rw [beq_eq_false_iff_ne]; show (0 : Int) ≠ p.n; omega
    rw [this]; rfl
theorem ins_eq (B : Int) (x : In) : insP B x = insR B x := by
  have hz := @abv_z x.a x.p
  unfold insP insR stP at *
  rw [held_eq, cmd_eq]
  revert hz
  generalize eqS x.p spZ = a1
  generalize eqS x.a spZ = a2
  generalize oneS x.p = a3
  generalize oneS x.a = a4
  generalize abvS x.a x.p = a5
  generalize cmdR B x.c = a6
  generalize eqC x.c cZ = a7
  generalize x.d = a8
  revert a1 a2 a3 a4 a5 a6 a7 a8
  decide
theorem stP_t {s : Sp} (h : stP s = true) : (0 ≤ s.n ∧ s.n ≤ 1099511627776) ∧ 0 ≤ s.c ∧ s.c ≤ 255 := by
  unfold stP at h
  rw [Bool.or_eq_true] at h
  rcases h with h | h
  · have := eqS_t h; omega
  · have := oneS_t h; omega
theorem ins_ok {B : Int} {x : In} (hB : 0 ≤ B ∧ B ≤ 4096) (h : insP B x = true) : okL (insIts x) ∧ itsLen (insIts x) ≤ 131072 := by
  have key : ((0 ≤ x.p.n ∧ x.p.n ≤ 1099511627776) ∧ 0 ≤ x.p.c ∧ x.p.c ≤ 255) ∧ ((0 ≤ x.a.n ∧ x.a.n ≤ 1099511627776) ∧ 0 ≤ x.a.c ∧ x.a.c ≤ 255) ∧ OkC x.c := by
    unfold insP at h
    cases hd : x.d
    · rw [hd] at h
      simp only [cond_false] at h
      rw [Bool.and_eq_true] at h
      refine ⟨stP_t h.1, ?_⟩
      have h2 := h.2
      unfold heldP at h2
      cases ha : eqS x.a spZ
      · rw [ha] at h2
        simp only [cond_false] at h2
        rw [Bool.and_eq_true, Bool.and_eq_true] at h2
        have := oneS_t h2.1
        exact ⟨by omega, cmdL_ok hB h2.2.2⟩
      · rw [ha] at h2
        have := eqS_t ha
        exact ⟨by omega, cmd_z h2⟩
    · rw [hd] at h
      simp only [cond_true] at h
      rw [Bool.and_eq_true, Bool.and_eq_true] at h
      have := eqS_t h.1
      have := eqS_t h.2.1
      exact ⟨by omega, by omega, cmdL_ok hB h.2.2⟩
  obtain ⟨h1, h2, h3⟩ := key
  obtain ⟨k1, k2⟩ := cmdIts_ok h3
  unfold insIts
  refine ⟨okL_app (okL_app (okL_app (okL_cons ⟨by omega, by omega⟩ (okL_cons ⟨by omega, by omega⟩ okL_nil)) (okL_cons ⟨by omega, by omega⟩ (okL_cons ⟨by omega, by omega⟩ okL_nil))) k1) (okL_cons ?_ okL_nil), ?_⟩
  · cases x.d <;> exact ⟨by decide, by decide⟩
  · rw [itsLen_app, itsLen_app, itsLen_app]
    simp only [len_cons, len_nil, len_n]
    omega
def blkIts (x : Bl) (bs : List Int) : List It := [It.n x.s.n, It.n x.s.c] ++ [It.b bs]
structure BlIn (w : World) (x : Bl) (bs : List Int) : Prop where
  b : RdB w x.d bs
  nb : x.d.l ≤ 140737488351232
  u : Wi.U8 bs
theorem BlIn.no {w w' : World} {x : Bl} {bs : List Int} (H : BlIn w x bs) (hk : Kept No w w') : BlIn w' x bs := ⟨H.b.no hk, H.nb, H.u⟩
structure InIn (w : World) (x : In) : Prop where
  d : x = x
theorem InIn.no {w w' : World} {x : In} (H : InIn w x) (hk : Kept No w w') : InIn w' x := ⟨rfl⟩
theorem blk_ok {B : Int} {x : Bl} {bs : List Int} {w : World} (hB : 0 ≤ B ∧ B ≤ 4096) (hm : BlIn w x bs) (h : blkB B x bs = true) : okL (blkIts x bs) ∧ itsLen (blkIts x bs) ≤ 131072 := by
  unfold blkB at h
  rw [Bool.and_eq_true] at h
  have h0 : ((x.d.l : Nat) : Int) = B := eq_of_beq h.1
  have hl := hm.b.len
  have h2 : stP x.s = true := by
    have h3 := h.2
    unfold stP
    rw [Bool.or_eq_true] at h3 ⊢
    rcases h3 with h3 | h3
    · exact .inr h3
    · rw [Bool.and_eq_true] at h3; exact .inl h3.1
  have h1 := stP_t h2
  unfold blkIts
  refine ⟨okL_app (okL_cons ⟨by omega, by omega⟩ (okL_cons ⟨by omega, by omega⟩ okL_nil)) (okL_cons ⟨by omega, hm.u⟩ okL_nil), ?_⟩
  rw [itsLen_app]
  simp only [len_cons, len_nil, len_n, len_b]
  omega
theorem bktK_ok {B rm : Int} {x : Bv} {es : List En} {ls : List La} {w : World} (hB : 0 ≤ B ∧ B ≤ 4096) (hr : rm ≤ 256) (hm : BkIn w x es ls) (h : bktP B rm x es ls = true) : okL (bktIts x es ls) ∧ itsLen (bktIts x es ls) ≤ 131072 := by
  obtain ⟨h1, h2⟩ := bktIts_ok hB hr hm.e.len hm.l.len h
  exact ⟨h1, by omega⟩
theorem p_rightStamp (x : Sp) (w : World) : Calls Tryz.prog 135 #[.agg (Sp.cells x)] w (fun e w' => e = .returned (.bool (stP x)) ∧ Kept No w w') := by
  refine hidC fun C HC => ?_
  have HF : Hid (Fq No w w []) := Fq.start _ _
  go_enter Tryz.func135, Tryz.ntmps135
  go_upto_region 0 with fail
  refine WL.start <| xB (Sp.cells x) HF fun g1 w2 HF => tK (.bool false) <| WL.nil <| ?_
  try simp only [pS]
  go_upto_region 1 with fail
  refine WL.start <| lP (Sp.cs x) HF 0 0 U34 S34 (Sp.cs x) rfl <| ?_
  try simp only [pS]
  cases q1 : (eqS x spZ)
  rotate_left
  ·skip
   refine cB (p_isNone x _) q1 HF fun w6 HF => tK (.bool true) <| sK <| sK <| tK (.bool true) <| tK (.bool true) <| WL.nil <| ?_
   try simp only [pS]
   go_wp2
   rw [HC.out]
   exact ⟨ret_bool (by simp only [stP, bsq, q1]), HF.out.kept⟩
  refine cB (p_isNone x _) q1 HF fun w3 HF => tK (.bool false) <| lP (Sp.cs x) HF 0 0 U34 S34 (Sp.cs x) rfl <| ?_
  try simp only [pS]
  cases q2 : (oneS x)
  ·skip
   refine cB (p_isOne x _) q2 HF fun w4 HF => tK (.bool false) <| tK (.bool false) <| WL.nil <| ?_
   try simp only [pS]
   go_wp2
   rw [HC.out]
   exact ⟨ret_bool (by simp only [stP, bsq, q1, q2]), HF.out.kept⟩
  refine cB (p_isOne x _) q2 HF fun w5 HF => tK (.bool true) <| tK (.bool true) <| WL.nil <| ?_
  try simp only [pS]
  go_wp2
  rw [HC.out]
  exact ⟨ret_bool (by simp only [stP, bsq, q1, q2]), HF.out.kept⟩
theorem p_rightInstance (x : In) (c : Cg) (w : World) (hb : 0 ≤ c.bl ∧ c.bl ≤ 4096) : Calls Tryz.prog 66 #[.agg (In.cells x), .agg (Cg.cells c)] w (fun e w' => e = .returned (.bool (insP c.bl x)) ∧ Kept No w w') := by
  refine hidC fun C HC => ?_
  have HB : Hid (0 ≤ c.bl ∧ c.bl ≤ 4096) := hb
  clear hb
  have HF : Hid (Fq No w w []) := Fq.start _ _
  go_enter Tryz.func66, Tryz.ntmps66
  go_upto_region 0 with fail
  refine WL.start <| xB (In.cells x) HF fun g1 w2 HF => xB (Cg.cells c) HF fun g3 w4 HF => tK (.bool false) <| WL.nil <| ?_
  try simp only [pS]
  go_upto_region 1 with fail
  refine WL.start <| tK (pg g1 13) <| lD (.bool x.d) HF 0 13 U4 rfl <| WL.nil <| ?_
  try simp only [pS]
  cases q1 : (x.d)
  ·skip
   go_upto_region 3 with fail
   refine WL.start <| tK (pg g1 0) <| lP (Sp.cs x.p) HF 0 0 U34 S34 (In.cs x) rfl <| ?_
   try simp only [pS]
   cases q2 : (stP x.p)
   ·skip
    refine cB (p_rightStamp x.p _) q2 HF fun w5 HF => tK (.bool false) <| sK <| sK <| sK <| sK <| sK <| sK <| sK <| sK <| tK (.bool false) <| tK (.bool false) <| WL.nil <| ?_
    try simp only [pS]
    go_wp2
    rw [HC.out]
    exact ⟨ret_bool (by simp only [insP, bsq, q1, q2]), HF.out.kept⟩
   refine cB (p_rightStamp x.p _) q2 HF fun w6 HF => tK (.bool true) <| tK (pg g1 0) <| lP (Sp.cs x.p) HF 0 0 U34 S34 (In.cs x) rfl <| tK (pg g1 2) <| lP (Sp.cs x.a) HF 0 2 U34 S34 (In.cs x) rfl <| tK (pg g1 4) <| lP (Cm.cs x.c) HF 0 4 U39 S39 (In.cs x) rfl <| lP (Cg.cs c) HF 1 0 U24 S24 (Cg.cs c) rfl <| ?_
   try simp only [pS]
   cases q3 : (heldP c.bl x.p x.a x.c)
   ·skip
    refine cB (p_rightHeld x.p x.a x.c c _ HB) q3 HF fun w7 HF => tK (.bool false) <| tK (.bool false) <| WL.nil <| ?_
    try simp only [pS]
    go_wp2
    rw [HC.out]
    exact ⟨ret_bool (by simp only [insP, bsq, q1, q2, q3]), HF.out.kept⟩
   refine cB (p_rightHeld x.p x.a x.c c _ HB) q3 HF fun w8 HF => tK (.bool true) <| tK (.bool true) <| WL.nil <| ?_
   try simp only [pS]
   go_wp2
   rw [HC.out]
   exact ⟨ret_bool (by simp only [insP, bsq, q1, q2, q3]), HF.out.kept⟩
  go_upto_region 2 with fail
  refine WL.start <| tK (pg g1 0) <| lP (Sp.cs x.p) HF 0 0 U34 S34 (In.cs x) rfl <| ?_
  try simp only [pS]
  cases q4 : (eqS x.p spZ)
  ·skip
   refine cB (p_isNone x.p _) q4 HF fun w9 HF => tK (.bool false) <| sK <| sK <| sK <| tK (.bool false) <| tK (.bool false) <| sK <| sK <| sK <| sK <| tK (.bool false) <| tK (.bool false) <| WL.nil <| ?_
   try simp only [pS]
   go_wp2
   rw [HC.out]
   exact ⟨ret_bool (by simp only [insP, bsq, q1, q4]), HF.out.kept⟩
  refine cB (p_isNone x.p _) q4 HF fun w10 HF => tK (.bool true) <| tK (pg g1 2) <| lP (Sp.cs x.a) HF 0 2 U34 S34 (In.cs x) rfl <| ?_
  try simp only [pS]
  cases q5 : (eqS x.a spZ)
  ·skip
   refine cB (p_isNone x.a _) q5 HF fun w11 HF => tK (.bool false) <| tK (.bool false) <| sK <| sK <| sK <| sK <| tK (.bool false) <| tK (.bool false) <| WL.nil <| ?_
   try simp only [pS]
   go_wp2
   rw [HC.out]
   exact ⟨ret_bool (by simp only [insP, bsq, q1, q4, q5]), HF.out.kept⟩
  refine cB (p_isNone x.a _) q5 HF fun w12 HF => tK (.bool true) <| tK (.bool true) <| tK (pg g1 4) <| lP (Cm.cs x.c) HF 0 4 U39 S39 (In.cs x) rfl <| lP (Cg.cs c) HF 1 0 U24 S24 (Cg.cs c) rfl <| ?_
  try simp only [pS]
  cases q6 : (cmdP c.bl x.c)
  ·skip
   refine cB (p_rightCommand x.c c _ HB) q6 HF fun w13 HF => tK (.bool false) <| tK (.bool false) <| WL.nil <| ?_
   try simp only [pS]
   go_wp2
   rw [HC.out]
   exact ⟨ret_bool (by simp only [insP, bsq, q1, q4, q5, q6]), HF.out.kept⟩
  refine cB (p_rightCommand x.c c _ HB) q6 HF fun w14 HF => tK (.bool true) <| tK (.bool true) <| WL.nil <| ?_
  try simp only [pS]
  go_wp2
  rw [HC.out]
  exact ⟨ret_bool (by simp only [insP, bsq, q1, q4, q5, q6]), HF.out.kept⟩
theorem r_IsInstance (x : In) (c : Cg) (w : World) (hb : 0 ≤ c.bl ∧ c.bl ≤ 4096) : Calls Tryz.prog 68 #[.agg (In.cells x), .agg (Cg.cells c)] w (fun e w' => e = .returned (.bool (insR c.bl x)) ∧ Kept No w w') := by
  refine hidC fun C HC => ?_
  have HB : Hid (0 ≤ c.bl ∧ c.bl ≤ 4096) := hb
  clear hb
  have HF : Hid (Fq No w w []) := Fq.start _ _
  go_enter Tryz.func68, Tryz.ntmps68
  go_upto_region 0 with fail
  refine WL.start <| xB (In.cells x) HF fun g1 w2 HF => xB (Cg.cells c) HF fun g3 w4 HF => tK (.bool false) <| WL.nil <| ?_
  try simp only [pS]
  go_upto_region 1 with fail
  refine WL.start <| tK (pg g1 13) <| lD (.bool x.d) HF 0 13 U4 rfl <| WL.nil <| ?_
  try simp only [pS]
  cases q1 : (x.d)
  rotate_left
  ·skip
   go_upto_region 2 with fail
   refine WL.start <| tK (pg g1 0) <| lP (Sp.cs x.p) HF 0 0 U34 S34 (In.cs x) rfl <| ?_
   try simp only [pS]
   cases q14 : (eqS x.p spZ)
   ·skip
    refine cB (r_None x.p _) q14 HF fun w29 HF => tK (.bool false) <| sK <| sK <| sK <| tK (.bool false) <| tK (.bool false) <| sK <| sK <| sK <| sK <| tK (.bool false) <| tK (.bool false) <| WL.nil <| ?_
    try simp only [pS]
    go_wp2
    rw [HC.out]
    exact ⟨ret_bool (by simp only [insR, bsq, q1, q14]), HF.out.kept⟩
   refine cB (r_None x.p _) q14 HF fun w30 HF => tK (.bool true) <| tK (pg g1 2) <| lP (Sp.cs x.a) HF 0 2 U34 S34 (In.cs x) rfl <| ?_
   try simp only [pS]
   cases q15 : (eqS x.a spZ)
   ·skip
    refine cB (r_None x.a _) q15 HF fun w31 HF => tK (.bool false) <| tK (.bool false) <| sK <| sK <| sK <| sK <| tK (.bool false) <| tK (.bool false) <| WL.nil <| ?_
    try simp only [pS]
    go_wp2
    rw [HC.out]
    exact ⟨ret_bool (by simp only [insR, bsq, q1, q14, q15]), HF.out.kept⟩
   refine cB (r_None x.a _) q15 HF fun w32 HF => tK (.bool true) <| tK (.bool true) <| tK (pg g1 4) <| lP (Cm.cs x.c) HF 0 4 U39 S39 (In.cs x) rfl <| lP (Cg.cs c) HF 1 0 U24 S24 (Cg.cs c) rfl <| ?_
   try simp only [pS]
   cases q16 : (cmdR c.bl x.c)
   ·skip
    refine cB (r_IsCommand x.c c _ HB) q16 HF fun w33 HF => tK (.bool false) <| tK (.bool false) <| WL.nil <| ?_
    try simp only [pS]
    go_wp2
    rw [HC.out]
    exact ⟨ret_bool (by simp only [insR, bsq, q1, q14, q15, q16]), HF.out.kept⟩
   refine cB (r_IsCommand x.c c _ HB) q16 HF fun w34 HF => tK (.bool true) <| tK (.bool true) <| WL.nil <| ?_
   try simp only [pS]
   go_wp2
   rw [HC.out]
   exact ⟨ret_bool (by simp only [insR, bsq, q1, q14, q15, q16]), HF.out.kept⟩
  go_upto_region 3 with fail
  refine WL.start <| tK (pg g1 0) <| lP (Sp.cs x.p) HF 0 0 U34 S34 (In.cs x) rfl <| ?_
  try simp only [pS]
  cases q2 : (eqS x.p spZ)
  rotate_left
  ·skip
   refine cB (r_None x.p _) q2 HF fun w18 HF => tK (.bool false) <| tK (.bool false) <| sK <| sK <| sK <| sK <| tK (.bool false) <| tK (.bool false) <| tK (pg g1 2) <| lP (Sp.cs x.a) HF 0 2 U34 S34 (In.cs x) rfl <| tK (pg g1 0) <| lP (Sp.cs x.p) HF 0 0 U34 S34 (In.cs x) rfl <| ?_
   try simp only [pS]
   cases q9 : (abvS x.a x.p)
   rotate_left
   ·skip
    refine cB (r_Above x.a x.p _) q9 HF fun w28 HF => tK (.bool true) <| WL.nil <| ?_
    try simp only [pS]
    go_upto_region 4 with fail
    refine WL.start <| tK (.bool false) <| WL.nil <| ?_
    try simp only [pS]
    go_wp2
    rw [HC.out]
    exact ⟨ret_bool (by simp only [insR, bsq, q1, q2, q9]), HF.out.kept⟩
   refine cB (r_Above x.a x.p _) q9 HF fun w19 HF => tK (.bool false) <| WL.nil <| ?_
   try simp only [pS]
   go_upto_region 5 with fail
   refine WL.start <| tK (pg g1 2) <| lP (Sp.cs x.a) HF 0 2 U34 S34 (In.cs x) rfl <| ?_
   try simp only [pS]
   cases q10 : (eqS x.a spZ)
   rotate_left
   ·skip
    refine cB (r_None x.a _) q10 HF fun w25 HF => WL.nil <| ?_
    try simp only [pS]
    go_upto_region 6 with fail
    refine WL.start <| tK (pg g1 4) <| lP (Cm.cs x.c) HF 0 4 U39 S39 (In.cs x) rfl <| ?_
    try simp only [pS]
    cases q13 : (eqC x.c cZ)
    ·skip
     refine cB (r_none x.c _) q13 HF fun w26 HF => tK (.bool false) <| WL.nil <| ?_
     try simp only [pS]
     go_wp2
     rw [HC.out]
     exact ⟨ret_bool (by simp only [insR, bsq, q1, q2, q9, q10, q13]), HF.out.kept⟩
    refine cB (r_none x.c _) q13 HF fun w27 HF => tK (.bool true) <| WL.nil <| ?_
    try simp only [pS]
    go_wp2
    rw [HC.out]
    exact ⟨ret_bool (by simp only [insR, bsq, q1, q2, q9, q10, q13]), HF.out.kept⟩
   refine cB (r_None x.a _) q10 HF fun w20 HF => WL.nil <| ?_
   try simp only [pS]
   go_upto_region 7 with fail
   refine WL.start <| tK (pg g1 2) <| lP (Sp.cs x.a) HF 0 2 U34 S34 (In.cs x) rfl <| ?_
   try simp only [pS]
   cases q11 : (oneS x.a)
   ·skip
    refine cB (r_One x.a _) q11 HF fun w21 HF => tK (.bool false) <| sK <| sK <| sK <| sK <| tK (.bool false) <| tK (.bool false) <| WL.nil <| ?_
    try simp only [pS]
    go_wp2
    rw [HC.out]
    exact ⟨ret_bool (by simp only [insR, bsq, q1, q2, q9, q10, q11]), HF.out.kept⟩
   refine cB (r_One x.a _) q11 HF fun w22 HF => tK (.bool true) <| tK (pg g1 4) <| lP (Cm.cs x.c) HF 0 4 U39 S39 (In.cs x) rfl <| lP (Cg.cs c) HF 1 0 U24 S24 (Cg.cs c) rfl <| ?_
   try simp only [pS]
   cases q12 : (cmdR c.bl x.c)
   ·skip
    refine cB (r_IsCommand x.c c _ HB) q12 HF fun w23 HF => tK (.bool false) <| tK (.bool false) <| WL.nil <| ?_
    try simp only [pS]
    go_wp2
    rw [HC.out]
    exact ⟨ret_bool (by simp only [insR, bsq, q1, q2, q9, q10, q11, q12]), HF.out.kept⟩
   refine cB (r_IsCommand x.c c _ HB) q12 HF fun w24 HF => tK (.bool true) <| tK (.bool true) <| WL.nil <| ?_
   try simp only [pS]
   go_wp2
   rw [HC.out]
   exact ⟨ret_bool (by simp only [insR, bsq, q1, q2, q9, q10, q11, q12]), HF.out.kept⟩
  refine cB (r_None x.p _) q2 HF fun w5 HF => tK (.bool true) <| tK (.bool true) <| tK (pg g1 0) <| lP (Sp.cs x.p) HF 0 0 U34 S34 (In.cs x) rfl <| ?_
  try simp only [pS]
  cases q3 : (oneS x.p)
  ·skip
   refine cB (r_One x.p _) q3 HF fun w6 HF => tK (.bool true) <| tK (.bool true) <| tK (.bool true) <| sK <| sK <| sK <| sK <| sK <| tK (.bool true) <| WL.nil <| ?_
   try simp only [pS]
   go_upto_region 4 with fail
   refine WL.start <| tK (.bool false) <| WL.nil <| ?_
   try simp only [pS]
   go_wp2
   rw [HC.out]
   exact ⟨ret_bool (by simp only [insR, bsq, q1, q2, q3]), HF.out.kept⟩
  refine cB (r_One x.p _) q3 HF fun w7 HF => tK (.bool false) <| tK (.bool false) <| tK (.bool false) <| tK (pg g1 2) <| lP (Sp.cs x.a) HF 0 2 U34 S34 (In.cs x) rfl <| tK (pg g1 0) <| lP (Sp.cs x.p) HF 0 0 U34 S34 (In.cs x) rfl <| ?_
  try simp only [pS]
  cases q4 : (abvS x.a x.p)
  rotate_left
  ·skip
   refine cB (r_Above x.a x.p _) q4 HF fun w17 HF => tK (.bool true) <| WL.nil <| ?_
   try simp only [pS]
   go_upto_region 4 with fail
   refine WL.start <| tK (.bool false) <| WL.nil <| ?_
   try simp only [pS]
   go_wp2
   rw [HC.out]
   exact ⟨ret_bool (by simp only [insR, bsq, q1, q2, q3, q4]), HF.out.kept⟩
  refine cB (r_Above x.a x.p _) q4 HF fun w8 HF => tK (.bool false) <| WL.nil <| ?_
  try simp only [pS]
  go_upto_region 5 with fail
  refine WL.start <| tK (pg g1 2) <| lP (Sp.cs x.a) HF 0 2 U34 S34 (In.cs x) rfl <| ?_
  try simp only [pS]
  cases q5 : (eqS x.a spZ)
  rotate_left
  ·skip
   refine cB (r_None x.a _) q5 HF fun w14 HF => WL.nil <| ?_
   try simp only [pS]
   go_upto_region 6 with fail
   refine WL.start <| tK (pg g1 4) <| lP (Cm.cs x.c) HF 0 4 U39 S39 (In.cs x) rfl <| ?_
   try simp only [pS]
   cases q8 : (eqC x.c cZ)
   ·skip
    refine cB (r_none x.c _) q8 HF fun w15 HF => tK (.bool false) <| WL.nil <| ?_
    try simp only [pS]
    go_wp2
    rw [HC.out]
    exact ⟨ret_bool (by simp only [insR, bsq, q1, q2, q3, q4, q5, q8]), HF.out.kept⟩
   refine cB (r_none x.c _) q8 HF fun w16 HF => tK (.bool true) <| WL.nil <| ?_
   try simp only [pS]
   go_wp2
   rw [HC.out]
   exact ⟨ret_bool (by simp only [insR, bsq, q1, q2, q3, q4, q5, q8]), HF.out.kept⟩
  refine cB (r_None x.a _) q5 HF fun w9 HF => WL.nil <| ?_
  try simp only [pS]
  go_upto_region 7 with fail
  refine WL.start <| tK (pg g1 2) <| lP (Sp.cs x.a) HF 0 2 U34 S34 (In.cs x) rfl <| ?_
  try simp only [pS]
  cases q6 : (oneS x.a)
  ·skip
   refine cB (r_One x.a _) q6 HF fun w10 HF => tK (.bool false) <| sK <| sK <| sK <| sK <| tK (.bool false) <| tK (.bool false) <| WL.nil <| ?_
   try simp only [pS]
   go_wp2
   rw [HC.out]
   exact ⟨ret_bool (by simp only [insR, bsq, q1, q2, q3, q4, q5, q6]), HF.out.kept⟩
  refine cB (r_One x.a _) q6 HF fun w11 HF => tK (.bool true) <| tK (pg g1 4) <| lP (Cm.cs x.c) HF 0 4 U39 S39 (In.cs x) rfl <| lP (Cg.cs c) HF 1 0 U24 S24 (Cg.cs c) rfl <| ?_
  try simp only [pS]
  cases q7 : (cmdR c.bl x.c)
  ·skip
   refine cB (r_IsCommand x.c c _ HB) q7 HF fun w12 HF => tK (.bool false) <| tK (.bool false) <| WL.nil <| ?_
   try simp only [pS]
   go_wp2
   rw [HC.out]
   exact ⟨ret_bool (by simp only [insR, bsq, q1, q2, q3, q4, q5, q6, q7]), HF.out.kept⟩
  refine cB (r_IsCommand x.c c _ HB) q7 HF fun w13 HF => tK (.bool true) <| tK (.bool true) <| WL.nil <| ?_
  try simp only [pS]
  go_wp2
  rw [HC.out]
  exact ⟨ret_bool (by simp only [insR, bsq, q1, q2, q3, q4, q5, q6, q7]), HF.out.kept⟩
theorem judgeB (x : Bl) (bs : List Int) (c : Cg) (zs : List Int) (r : Int) (w : World) (hc : CgIn w c zs) (hm : BlIn w x bs) :
    Calls Tryz.prog 125 #[.agg (Bl.cells x), .agg (Cg.cells c), .func (.func 60) #[] #[], .int .i64 r] w fun e w' => e = .returned (.int .i64 (jdg (cfgP c zs) (blkB c.bl x bs) r)) ∧ Kept No w w' := by
  cases hq : cfgP c zs with
  | false => exact callw (Wi.judgeBlock_no (Bl.cells x) _ r c.sv.a c.sv.l c.sv.k zs c.f c.po c.bu c.bl c.rm w hc.wi hq)
  | true =>
    rw [← jdg_if]
    exact callw (Wi.judgeBlock_all (Bl.cells x) rfl _ r c.sv.a c.sv.l c.sv.k zs c.f c.po c.bu c.bl c.rm w hc.wi hq (fun W hk => wcall (p_rightBlock x c bs W (hm.b.no (kw hk)) (by have := hm.nb; omega))))
theorem judgeI (x : In) (c : Cg) (zs : List Int) (r : Int) (w : World) (hc : CgIn w c zs) (hm : InIn w x) :
    Calls Tryz.prog 134 #[.agg (In.cells x), .agg (Cg.cells c), .func (.func 66) #[] #[], .int .i64 r] w fun e w' => e = .returned (.int .i64 (jdg (cfgP c zs) (insP c.bl x) r)) ∧ Kept No w w' := by
  cases hq : cfgP c zs with
  | false => exact callw (Wi.judgeInst_no (In.cells x) _ r c.sv.a c.sv.l c.sv.k zs c.f c.po c.bu c.bl c.rm w hc.wi hq)
  | true =>
    rw [← jdg_if]
    exact callw (Wi.judgeInst_all (In.cells x) rfl _ r c.sv.a c.sv.l c.sv.k zs c.f c.po c.bu c.bl c.rm w hc.wi hq (fun W hk => wcall (p_rightInstance x c W (cfg_bl hq))))
theorem p_packB (x : Bl) (bs : List Int) (c : Cg) (zs : List Int) (w : World) (hc : CgIn w c zs) (hm : BlIn w x bs) :
    Calls Tryz.prog 59 #[.agg (Bl.cells x), .agg (Cg.cells c), .func (.func 60) #[] #[], .func (.func 61) #[] #[], .int .i64 1] w (EncO w (jdg (cfgP c zs) (blkB c.bl x bs) 1) (encR (cfgP c zs && blkB c.bl x bs) (blkIts x bs))) := by
  cases hq : (cfgP c zs && blkB c.bl x bs) with
  | false =>
    refine (Wi.packBlock_no (Bl.cells x) rfl _ 1 _ (jdg_ne hq (by decide)) c.sv.a c.sv.l c.sv.k zs c.f c.po c.bu c.bl c.rm w (fun W hk => wcall (judgeB x bs c zs 1 W (hc.no (kw hk)) (hm.no (kw hk))))).mono ?_
    rintro e w' ⟨rfl, hk⟩
    exact ⟨slZ, rfl, RdB.nilS _, Nat.zero_le _, kw hk⟩
  | true =>
    rw [Bool.and_eq_true] at hq
    obtain ⟨h1, h2⟩ := hq
    have hB := cfgP_bd h1
    have hB0 := cfg_bl h1
    have hr0 : c.rm ≤ 256 := by omega
    obtain ⟨hok, hlen⟩ := blk_ok hB0 hm h2
    have hbl := encB_len hok
    refine (Wi.packBlock_all (Bl.cells x) rfl 1 c.sv.a c.sv.l c.sv.k zs c.f c.po c.bu c.bl c.rm (encB (blkIts x bs)) w (by omega) (encB_u8 hok) (fun W hk => ?_) (fun W g hk hW => ?_)).mono ?_
    · have := judgeB x bs c zs 1 W (hc.no (kw hk)) (hm.no (kw hk))
      rw [h1, h2] at this
      exact wcall this
    · have hm2 := hm.no (kw hk)
      exact pPut' (ok := hok) (len := hlen) (putTs_some hok) (p_block x bs W none [] ⟨0, hW⟩ List.prefix_rfl hm2.b (low_B hm.b))
    · rintro e w' ⟨a', c', rfl, hO, hk⟩
      have hz := own_rdB (n := (encB (blkIts x bs)).length + 12) hO (by rw [Wi.sealOf_len])
      refine ⟨⟨a', (encB (blkIts x bs)).length + 12, c'⟩, ?_, hz, by show _ + 12 ≤ _; omega, kw hk⟩
      rw [h1, h2]; rfl
theorem p_packI (x : In) (c : Cg) (zs : List Int) (w : World) (hc : CgIn w c zs) (hm : InIn w x) :
    Calls Tryz.prog 65 #[.agg (In.cells x), .agg (Cg.cells c), .func (.func 66) #[] #[], .func (.func 67) #[] #[], .int .i64 1] w (EncO w (jdg (cfgP c zs) (insP c.bl x) 1) (encR (cfgP c zs && insP c.bl x) (insIts x))) := by
  cases hq : (cfgP c zs && insP c.bl x) with
  | false =>
    refine (Wi.packInst_no (In.cells x) rfl _ 1 _ (jdg_ne hq (by decide)) c.sv.a c.sv.l c.sv.k zs c.f c.po c.bu c.bl c.rm w (fun W hk => wcall (judgeI x c zs 1 W (hc.no (kw hk)) (hm.no (kw hk))))).mono ?_
    rintro e w' ⟨rfl, hk⟩
    exact ⟨slZ, rfl, RdB.nilS _, Nat.zero_le _, kw hk⟩
  | true =>
    rw [Bool.and_eq_true] at hq
    obtain ⟨h1, h2⟩ := hq
    have hB := cfgP_bd h1
    have hB0 := cfg_bl h1
    have hr0 : c.rm ≤ 256 := by omega
    obtain ⟨hok, hlen⟩ := ins_ok hB0 h2
    have hbl := encB_len hok
    refine (Wi.packInst_all (In.cells x) rfl 1 c.sv.a c.sv.l c.sv.k zs c.f c.po c.bu c.bl c.rm (encB (insIts x)) w (by omega) (encB_u8 hok) (fun W hk => ?_) (fun W g hk hW => ?_)).mono ?_
    · have := judgeI x c zs 1 W (hc.no (kw hk)) (hm.no (kw hk))
      rw [h1, h2] at this
      exact wcall this
    · have hm2 := hm.no (kw hk)
      exact pPut' (ok := hok) (len := hlen) (putTs_some hok) (p_inst x W none [] ⟨0, hW⟩ List.prefix_rfl)
    · rintro e w' ⟨a', c', rfl, hO, hk⟩
      have hz := own_rdB (n := (encB (insIts x)).length + 12) hO (by rw [Wi.sealOf_len])
      refine ⟨⟨a', (encB (insIts x)).length + 12, c'⟩, ?_, hz, by show _ + 12 ≤ _; omega, kw hk⟩
      rw [h1, h2]; rfl
theorem p_packK (x : Bv) (es : List En) (ls : List La) (c : Cg) (zs : List Int) (w : World) (hc : CgIn w c zs) (hm : BkIn w x es ls) :
    Calls Tryz.prog 71 #[.agg (Bv.cells x), .agg (Cg.cells c), .func (.func 47) #[] #[], .func (.func 72) #[] #[], .int .i64 1] w (EncO w (jdg (cfgP c zs) (bktP c.bl c.rm x es ls) 1) (encR (cfgP c zs && bktP c.bl c.rm x es ls) (bktIts x es ls))) := by
  cases hq : (cfgP c zs && bktP c.bl c.rm x es ls) with
  | false =>
    refine (Wi.packBucket_no (Bv.cells x) rfl _ 1 _ (jdg_ne hq (by decide)) c.sv.a c.sv.l c.sv.k zs c.f c.po c.bu c.bl c.rm w (fun W hk => wcall (judgeK x c zs es ls 1 W (hc.no (kw hk)) (hm.no (kw hk))))).mono ?_
    rintro e w' ⟨rfl, hk⟩
    exact ⟨slZ, rfl, RdB.nilS _, Nat.zero_le _, kw hk⟩
  | true =>
    rw [Bool.and_eq_true] at hq
    obtain ⟨h1, h2⟩ := hq
    have hB := cfgP_bd h1
    have hB0 := cfg_bl h1
    have hr0 : c.rm ≤ 256 := by omega
    obtain ⟨hok, hlen⟩ := bktK_ok hB0 hr0 hm h2
    have hbl := encB_len hok
    refine (Wi.packBucket_all (Bv.cells x) rfl 1 c.sv.a c.sv.l c.sv.k zs c.f c.po c.bu c.bl c.rm (encB (bktIts x es ls)) w (by omega) (encB_u8 hok) (fun W hk => ?_) (fun W g hk hW => ?_)).mono ?_
    · have := judgeK x c zs es ls 1 W (hc.no (kw hk)) (hm.no (kw hk))
      rw [h1, h2] at this
      exact wcall this
    · have hm2 := hm.no (kw hk)
      exact pPut' (ok := hok) (len := hlen) (putTs_some hok) (p_bucket x es ls W none [] ⟨0, hW⟩ List.prefix_rfl hm2.e hm2.l (low_E hm.e) (low_L hm.l) (by have := hm.ne; omega) (by have := hm.nl; omega))
    · rintro e w' ⟨a', c', rfl, hO, hk⟩
      have hz := own_rdB (n := (encB (bktIts x es ls)).length + 12) hO (by rw [Wi.sealOf_len])
      refine ⟨⟨a', (encB (bktIts x es ls)).length + 12, c'⟩, ?_, hz, by show _ + 12 ≤ _; omega, kw hk⟩
      rw [h1, h2]; rfl
theorem p_PkB (x : Bl) (bs : List Int) (c : Cg) (zs : List Int) (w : World) (hc : CgIn w c zs) (hm : BlIn w x bs) : Calls Tryz.prog 28 #[.agg (Bl.cells x), .agg (Cg.cells c)] w (EncO w (jdg (cfgP c zs) (blkB c.bl x bs) 1) (encR (cfgP c zs && blkB c.bl x bs) (blkIts x bs))) := by
  refine hidC fun C HC => ?_
  have HCg : Hid (CgIn w c zs) := hc
  have HI : Hid (BlIn w x bs) := hm
  clear hc hm
  have HF : Hid (Fq No w w []) := Fq.start _ _
  go_enter Tryz.func28, Tryz.ntmps28
  go_upto_region 0 with fail
  refine WL.start <| xB (Bl.cells x) HF fun g1 w2 HF => xB (Cg.cells c) HF fun g3 w4 HF => tK (.slice none 0 0) <| tK (.int .i64 0) <| WL.nil <| ?_
  try simp only [pS]
  go_upto_region 1 with fail
  refine WL.start <| lP (Bl.cs x) HF 0 0 U73 S73 (Bl.cs x) rfl <| lP (Cg.cs c) HF 1 0 U24 S24 (Cg.cs c) rfl <| cEn (p_packB x bs c zs _ (HCg.out.no HF.out.kept) (HI.out.no HF.out.kept)) HF fun s5 w6 HF HR hs => tK (s5.v) <| tK (.int .i64 (jdg (cfgP c zs) (blkB c.bl x bs) 1)) <| tK (s5.v) <| tK (.int .i64 (jdg (cfgP c zs) (blkB c.bl x bs) 1)) <| WL.nil <| ?_
  try simp only [pS]
  go_wp2
  rw [HC.out]
  exact ⟨s5, rfl, HR.out, hs, HF.out.kept⟩
theorem r_PkB (x : Bl) (bs : List Int) (c : Cg) (zs : List Int) (w : World) (hc : CgIn w c zs) (hm : BlIn w x bs) : Calls Tryz.prog 29 #[.agg (Bl.cells x), .agg (Cg.cells c)] w (EncO w (jdg (cfgP c zs) (blkB c.bl x bs) 1) (encR (cfgP c zs && blkB c.bl x bs) (blkIts x bs))) := by
  refine hidC fun C HC => ?_
  have HCg : Hid (CgIn w c zs) := hc
  have HI : Hid (BlIn w x bs) := hm
  clear hc hm
  have HF : Hid (Fq No w w []) := Fq.start _ _
  go_enter Tryz.func29, Tryz.ntmps29
  go_upto_region 0 with fail
  refine WL.start <| xB (Bl.cells x) HF fun g1 w2 HF => xB (Cg.cells c) HF fun g3 w4 HF => tK (.slice none 0 0) <| tK (.int .i64 0) <| WL.nil <| ?_
  try simp only [pS]
  go_upto_region 1 with fail
  refine WL.start <| lP (Cg.cs c) HF 1 0 U24 S24 (Cg.cs c) rfl <| ?_
  try simp only [pS]
  cases q1 : (cfgP c zs)
  ·skip
   refine cB (cfg_is c zs _ (HCg.out.no HF.out.kept)) q1 HF fun w5 HF => tK (.bool true) <| WL.nil <| ?_
   try simp only [pS]
   go_upto_region 2 with fail
   refine WL.start <| tK (.slice none 0 0) <| tK (.int .i64 20) <| WL.nil <| ?_
   try simp only [pS]
   have hv : jdg (cfgP c zs) (blkB c.bl x bs) 1 = 20 := by simp only [jdg, cond_true, cond_false, q1]
   have he : encR (cfgP c zs && blkB c.bl x bs) (blkIts x bs) = [] := by simp only [encR, cond_true, cond_false, Bool.and_true, Bool.and_false, Bool.true_and, Bool.false_and, q1]
   go_wp2
   rw [HC.out, hv, he]
   exact ⟨slZ, rfl, RdB.nilS _, Nat.zero_le _, HF.out.kept⟩
  refine cB (cfg_is c zs _ (HCg.out.no HF.out.kept)) q1 HF fun w6 HF => tK (.bool false) <| WL.nil <| ?_
  try simp only [pS]
  go_upto_region 3 with fail
  refine WL.start <| lP (Bl.cs x) HF 0 0 U73 S73 (Bl.cs x) rfl <| lP (Cg.cs c) HF 1 0 U24 S24 (Cg.cs c) rfl <| ?_
  try simp only [pS]
  cases q2 : (blkB c.bl x bs)
  ·skip
   refine cB (r_IsBlock x c bs _ (HI.out.b.no HF.out.kept) (by have := HI.out.nb; omega)) q2 HF fun w7 HF => tK (.bool true) <| WL.nil <| ?_
   try simp only [pS]
   go_upto_region 4 with fail
   refine WL.start <| tK (.slice none 0 0) <| tK (.int .i64 1) <| WL.nil <| ?_
   try simp only [pS]
   have hv : jdg (cfgP c zs) (blkB c.bl x bs) 1 = 1 := by simp only [jdg, cond_true, cond_false, q1, q2]
   have he : encR (cfgP c zs && blkB c.bl x bs) (blkIts x bs) = [] := by simp only [encR, cond_true, cond_false, Bool.and_true, Bool.and_false, Bool.true_and, Bool.false_and, q1, q2]
   go_wp2
   rw [HC.out, hv, he]
   exact ⟨slZ, rfl, RdB.nilS _, Nat.zero_le _, HF.out.kept⟩
  refine cB (r_IsBlock x c bs _ (HI.out.b.no HF.out.kept) (by have := HI.out.nb; omega)) q2 HF fun w8 HF => tK (.bool false) <| WL.nil <| ?_
  try simp only [pS]
  go_upto_region 5 with fail
  refine WL.start <| bD (#[.slice none 0 0]) <| xB (#[.slice none 0 0]) HF fun g9 w10 HF => ?_
  try simp only [pS]
  have hB := cfgP_bd q1
  have hB0 := cfg_bl q1
  have hr0 : c.rm ≤ 256 := by omega
  have hmp : blkB c.bl x bs = true := q2
  obtain ⟨hok, hlen⟩ := blk_ok hB0 HI.out hmp
  have HI2 : Hid (BlIn w10 x bs) := HI.out.no HF.out.kept
  have hg : w.heap.size ≤ g9 := (HF.out.low 2 _ _ _ rfl).elim id False.elim
  have HF : Hid (Kf (rSink w.heap.size g9 (blkIts x bs) hok hlen) w w10 none ([] ++ []) [(g1, 73, Bl.cells x), (g3, 24, Cg.cells c)]) := Fq.sink HF.out (tys_ok rfl)
  refine tK (pg g9 0) <| WL.nil <| ?_
  try simp only [pS]
  go_upto_region 6 with fail
  refine WL.start <| tK (pg g9 0) <| tK (pg g1 0) <| kP (Sp.cs x.s) HF 0 0 U34 S34 (Bl.cs x) rfl <| kC ([It.n x.s.n, It.n x.s.c]) HF (fun a0 h0 => r_stamp x.s _ a0 _ h0 (by first | exact List.prefix_rfl | exact pl List.prefix_rfl | exact pl (pl List.prefix_rfl) | exact pl (pl (pl List.prefix_rfl)))) fun w11 HF => ?_
  try simp only [pS]
  have HF : Hid (Kf (rSink w.heap.size g9 (blkIts x bs) hok hlen) w w11 none ([] ++ [It.n x.s.n, It.n x.s.c]) [(g1, 73, Bl.cells x), (g3, 24, Cg.cells c)]) := HF
  refine WL.nil <| ?_
  try simp only [pS]
  go_upto_region 7 with fail
  refine WL.start <| tK (pg g9 0) <| tK (pg g1 2) <| kD (x.d.v) HF 0 2 U35 rfl <| kC ([It.b bs]) HF (fun a0 h0 => r_bytes x.d bs _ a0 _ h0 (by first | exact List.prefix_rfl | exact pl List.prefix_rfl | exact pl (pl List.prefix_rfl) | exact pl (pl (pl List.prefix_rfl))) (HI.out.b.no (Kf.keptNo HF.out hg)) (fun h0 k hk => .inl (low_B HI.out.b h0 k hk))) fun w12 HF => ?_
  try simp only [pS]
  have HF : Hid (Kf (rSink w.heap.size g9 (blkIts x bs) hok hlen) w w12 none ([] ++ ([It.n x.s.n, It.n x.s.c] ++ [It.b bs])) [(g1, 73, Bl.cells x), (g3, 24, Cg.cells c)]) := HF
  refine WL.nil <| ?_
  try simp only [pS]
  go_upto_region 8 with fail
  refine WL.start <| tK (pg g9 0) <| ?_
  try simp only [pS]
  have HF : Hid (Kf (rSink w.heap.size g9 (blkIts x bs) hok hlen) w w12 none (blkIts x bs) [(g1, 73, Bl.cells x), (g3, 24, Cg.cells c)]) := HF
  obtain ⟨a1, h1, _⟩ := HF.out.st
  have HK : Hid (Kept No w w12) := Kf.keptNo HF.out hg
  clear HF
  refine cD (r_done _ a1 h1) HK.out fun s13 w14 HK HR hs => tK (s13.v) <| tK (.int .i64 0) <| WL.nil <| ?_
  try simp only [pS]
  have hv : jdg (cfgP c zs) (blkB c.bl x bs) 1 = 0 := by simp only [jdg, cond_true, cond_false, q1, q2]
  have he : encR (cfgP c zs && blkB c.bl x bs) (blkIts x bs) = Wi.sealOf (encB (blkIts x bs)) := by simp only [encR, cond_true, cond_false, Bool.and_true, Bool.and_false, Bool.true_and, Bool.false_and, q1, q2]
  go_wp2
  rw [HC.out, hv, he]
  exact ⟨s13, rfl, HR.out, hs, HK.out⟩
theorem p_PkI (x : In) (c : Cg) (zs : List Int) (w : World) (hc : CgIn w c zs) (hm : InIn w x) : Calls Tryz.prog 31 #[.agg (In.cells x), .agg (Cg.cells c)] w (EncO w (jdg (cfgP c zs) (insP c.bl x) 1) (encR (cfgP c zs && insP c.bl x) (insIts x))) := by
  refine hidC fun C HC => ?_
  have HCg : Hid (CgIn w c zs) := hc
  have HI : Hid (InIn w x) := hm
  clear hc hm
  have HF : Hid (Fq No w w []) := Fq.start _ _
  go_enter Tryz.func31, Tryz.ntmps31
  go_upto_region 0 with fail
  refine WL.start <| xB (In.cells x) HF fun g1 w2 HF => xB (Cg.cells c) HF fun g3 w4 HF => tK (.slice none 0 0) <| tK (.int .i64 0) <| WL.nil <| ?_
  try simp only [pS]
  go_upto_region 1 with fail
  refine WL.start <| lP (In.cs x) HF 0 0 U78 S78 (In.cs x) rfl <| lP (Cg.cs c) HF 1 0 U24 S24 (Cg.cs c) rfl <| cEn (p_packI x c zs _ (HCg.out.no HF.out.kept) (HI.out.no HF.out.kept)) HF fun s5 w6 HF HR hs => tK (s5.v) <| tK (.int .i64 (jdg (cfgP c zs) (insP c.bl x) 1)) <| tK (s5.v) <| tK (.int .i64 (jdg (cfgP c zs) (insP c.bl x) 1)) <| WL.nil <| ?_
  try simp only [pS]
  go_wp2
  rw [HC.out]
  exact ⟨s5, rfl, HR.out, hs, HF.out.kept⟩
theorem r_PkI0 (x : In) (c : Cg) (zs : List Int) (w : World) (hc : CgIn w c zs) (hm : InIn w x) : Calls Tryz.prog 32 #[.agg (In.cells x), .agg (Cg.cells c)] w (EncO w (jdg (cfgP c zs) (insR c.bl x) 1) (encR (cfgP c zs && insR c.bl x) (insIts x))) := by
  refine hidC fun C HC => ?_
  have HCg : Hid (CgIn w c zs) := hc
  have HI : Hid (InIn w x) := hm
  clear hc hm
  have HF : Hid (Fq No w w []) := Fq.start _ _
  go_enter Tryz.func32, Tryz.ntmps32
  go_upto_region 0 with fail
  refine WL.start <| xB (In.cells x) HF fun g1 w2 HF => xB (Cg.cells c) HF fun g3 w4 HF => tK (.slice none 0 0) <| tK (.int .i64 0) <| WL.nil <| ?_
  try simp only [pS]
  go_upto_region 1 with fail
  refine WL.start <| lP (Cg.cs c) HF 1 0 U24 S24 (Cg.cs c) rfl <| ?_
  try simp only [pS]
  cases q1 : (cfgP c zs)
  ·skip
   refine cB (cfg_is c zs _ (HCg.out.no HF.out.kept)) q1 HF fun w5 HF => tK (.bool true) <| WL.nil <| ?_
   try simp only [pS]
   go_upto_region 2 with fail
   refine WL.start <| tK (.slice none 0 0) <| tK (.int .i64 20) <| WL.nil <| ?_
   try simp only [pS]
   have hv : jdg (cfgP c zs) (insR c.bl x) 1 = 20 := by simp only [jdg, cond_true, cond_false, q1]
   have he : encR (cfgP c zs && insR c.bl x) (insIts x) = [] := by simp only [encR, cond_true, cond_false, Bool.and_true, Bool.and_false, Bool.true_and, Bool.false_and, q1]
   go_wp2
   rw [HC.out, hv, he]
   exact ⟨slZ, rfl, RdB.nilS _, Nat.zero_le _, HF.out.kept⟩
  refine cB (cfg_is c zs _ (HCg.out.no HF.out.kept)) q1 HF fun w6 HF => tK (.bool false) <| WL.nil <| ?_
  try simp only [pS]
  go_upto_region 3 with fail
  refine WL.start <| lP (In.cs x) HF 0 0 U78 S78 (In.cs x) rfl <| lP (Cg.cs c) HF 1 0 U24 S24 (Cg.cs c) rfl <| ?_
  try simp only [pS]
  cases q2 : (insR c.bl x)
  ·skip
   refine cB (r_IsInstance x c _ (cfg_bl q1)) q2 HF fun w7 HF => tK (.bool true) <| WL.nil <| ?_
   try simp only [pS]
   go_upto_region 4 with fail
   refine WL.start <| tK (.slice none 0 0) <| tK (.int .i64 1) <| WL.nil <| ?_
   try simp only [pS]
   have hv : jdg (cfgP c zs) (insR c.bl x) 1 = 1 := by simp only [jdg, cond_true, cond_false, q1, q2]
   have he : encR (cfgP c zs && insR c.bl x) (insIts x) = [] := by simp only [encR, cond_true, cond_false, Bool.and_true, Bool.and_false, Bool.true_and, Bool.false_and, q1, q2]
   go_wp2
   rw [HC.out, hv, he]
   exact ⟨slZ, rfl, RdB.nilS _, Nat.zero_le _, HF.out.kept⟩
  refine cB (r_IsInstance x c _ (cfg_bl q1)) q2 HF fun w8 HF => tK (.bool false) <| WL.nil <| ?_
  try simp only [pS]
  go_upto_region 5 with fail
  refine WL.start <| bD (#[.slice none 0 0]) <| xB (#[.slice none 0 0]) HF fun g9 w10 HF => ?_
  try simp only [pS]
  have hB := cfgP_bd q1
  have hB0 := cfg_bl q1
  have hr0 : c.rm ≤ 256 := by omega
  have hmp : insP c.bl x = true := (by rw [ins_eq]; exact q2)
  obtain ⟨hok, hlen⟩ := ins_ok hB0 hmp
  have HI2 : Hid (InIn w10 x) := HI.out.no HF.out.kept
  have hg : w.heap.size ≤ g9 := (HF.out.low 2 _ _ _ rfl).elim id False.elim
  have HF : Hid (Kf (rSink w.heap.size g9 (insIts x) hok hlen) w w10 none ([] ++ []) [(g1, 78, In.cells x), (g3, 24, Cg.cells c)]) := Fq.sink HF.out (tys_ok rfl)
  refine tK (pg g9 0) <| WL.nil <| ?_
  try simp only [pS]
  go_upto_region 6 with fail
  refine WL.start <| tK (pg g9 0) <| tK (pg g1 0) <| kP (Sp.cs x.p) HF 0 0 U34 S34 (In.cs x) rfl <| kC ([It.n x.p.n, It.n x.p.c]) HF (fun a0 h0 => r_stamp x.p _ a0 _ h0 (by first | exact List.prefix_rfl | exact pl List.prefix_rfl | exact pl (pl List.prefix_rfl) | exact pl (pl (pl List.prefix_rfl)))) fun w11 HF => ?_
  try simp only [pS]
  have HF : Hid (Kf (rSink w.heap.size g9 (insIts x) hok hlen) w w11 none ([] ++ [It.n x.p.n, It.n x.p.c]) [(g1, 78, In.cells x), (g3, 24, Cg.cells c)]) := HF
  refine WL.nil <| ?_
  try simp only [pS]
  go_upto_region 7 with fail
  refine WL.start <| tK (pg g9 0) <| tK (pg g1 2) <| kP (Sp.cs x.a) HF 0 2 U34 S34 (In.cs x) rfl <| kC ([It.n x.a.n, It.n x.a.c]) HF (fun a0 h0 => r_stamp x.a _ a0 _ h0 (by first | exact List.prefix_rfl | exact pl List.prefix_rfl | exact pl (pl List.prefix_rfl) | exact pl (pl (pl List.prefix_rfl)))) fun w12 HF => ?_
  try simp only [pS]
  have HF : Hid (Kf (rSink w.heap.size g9 (insIts x) hok hlen) w w12 none ([] ++ ([It.n x.p.n, It.n x.p.c] ++ [It.n x.a.n, It.n x.a.c])) [(g1, 78, In.cells x), (g3, 24, Cg.cells c)]) := HF
  refine WL.nil <| ?_
  try simp only [pS]
  go_upto_region 8 with fail
  refine WL.start <| tK (pg g9 0) <| tK (pg g1 4) <| kP (Cm.cs x.c) HF 0 4 U39 S39 (In.cs x) rfl <| kC (cmdIts x.c) HF (fun a0 h0 => r_command x.c _ a0 _ h0 (by first | exact List.prefix_rfl | exact pl List.prefix_rfl | exact pl (pl List.prefix_rfl) | exact pl (pl (pl List.prefix_rfl)))) fun w13 HF => ?_
  try simp only [pS]
  have HF : Hid (Kf (rSink w.heap.size g9 (insIts x) hok hlen) w w13 none ([] ++ (([It.n x.p.n, It.n x.p.c] ++ [It.n x.a.n, It.n x.a.c]) ++ cmdIts x.c)) [(g1, 78, In.cells x), (g3, 24, Cg.cells c)]) := HF
  refine WL.nil <| ?_
  try simp only [pS]
  go_upto_region 9 with fail
  refine WL.start <| tK (pg g9 0) <| tK (pg g1 13) <| kD (.bool x.d) HF 0 13 U4 rfl <| kC ([It.n (bif x.d then 1 else 0)]) HF (fun a0 h0 => r_flag x.d _ a0 _ h0 (by first | exact List.prefix_rfl | exact pl List.prefix_rfl | exact pl (pl List.prefix_rfl) | exact pl (pl (pl List.prefix_rfl)))) fun w14 HF => ?_
  try simp only [pS]
  have HF : Hid (Kf (rSink w.heap.size g9 (insIts x) hok hlen) w w14 none ([] ++ ((([It.n x.p.n, It.n x.p.c] ++ [It.n x.a.n, It.n x.a.c]) ++ cmdIts x.c) ++ [It.n (bif x.d then 1 else 0)])) [(g1, 78, In.cells x), (g3, 24, Cg.cells c)]) := HF
  refine WL.nil <| ?_
  try simp only [pS]
  go_upto_region 10 with fail
  refine WL.start <| tK (pg g9 0) <| ?_
  try simp only [pS]
  have HF : Hid (Kf (rSink w.heap.size g9 (insIts x) hok hlen) w w14 none (insIts x) [(g1, 78, In.cells x), (g3, 24, Cg.cells c)]) := HF
  obtain ⟨a1, h1, _⟩ := HF.out.st
  have HK : Hid (Kept No w w14) := Kf.keptNo HF.out hg
  clear HF
  refine cD (r_done _ a1 h1) HK.out fun s15 w16 HK HR hs => tK (s15.v) <| tK (.int .i64 0) <| WL.nil <| ?_
  try simp only [pS]
  have hv : jdg (cfgP c zs) (insR c.bl x) 1 = 0 := by simp only [jdg, cond_true, cond_false, q1, q2]
  have he : encR (cfgP c zs && insR c.bl x) (insIts x) = Wi.sealOf (encB (insIts x)) := by simp only [encR, cond_true, cond_false, Bool.and_true, Bool.and_false, Bool.true_and, Bool.false_and, q1, q2]
  go_wp2
  rw [HC.out, hv, he]
  exact ⟨s15, rfl, HR.out, hs, HK.out⟩
theorem p_PkK (x : Bv) (es : List En) (ls : List La) (c : Cg) (zs : List Int) (w : World) (hc : CgIn w c zs) (hm : BkIn w x es ls) : Calls Tryz.prog 33 #[.agg (Bv.cells x), .agg (Cg.cells c)] w (EncO w (jdg (cfgP c zs) (bktP c.bl c.rm x es ls) 1) (encR (cfgP c zs && bktP c.bl c.rm x es ls) (bktIts x es ls))) := by
  refine hidC fun C HC => ?_
  have HCg : Hid (CgIn w c zs) := hc
  have HI : Hid (BkIn w x es ls) := hm
  clear hc hm
  have HF : Hid (Fq No w w []) := Fq.start _ _
  go_enter Tryz.func33, Tryz.ntmps33
  go_upto_region 0 with fail
  refine WL.start <| xB (Bv.cells x) HF fun g1 w2 HF => xB (Cg.cells c) HF fun g3 w4 HF => tK (.slice none 0 0) <| tK (.int .i64 0) <| WL.nil <| ?_
  try simp only [pS]
  go_upto_region 1 with fail
  refine WL.start <| lP (Bv.cs x) HF 0 0 U43 S43 (Bv.cs x) rfl <| lP (Cg.cs c) HF 1 0 U24 S24 (Cg.cs c) rfl <| cEn (p_packK x es ls c zs _ (HCg.out.no HF.out.kept) (HI.out.no HF.out.kept)) HF fun s5 w6 HF HR hs => tK (s5.v) <| tK (.int .i64 (jdg (cfgP c zs) (bktP c.bl c.rm x es ls) 1)) <| tK (s5.v) <| tK (.int .i64 (jdg (cfgP c zs) (bktP c.bl c.rm x es ls) 1)) <| WL.nil <| ?_
  try simp only [pS]
  go_wp2
  rw [HC.out]
  exact ⟨s5, rfl, HR.out, hs, HF.out.kept⟩
theorem r_PkK0 (x : Bv) (es : List En) (ls : List La) (c : Cg) (zs : List Int) (w : World) (hc : CgIn w c zs) (hm : BkIn w x es ls) : Calls Tryz.prog 34 #[.agg (Bv.cells x), .agg (Cg.cells c)] w (EncO w (jdg (cfgP c zs) (bktR c.bl c.rm x es ls) 1) (encR (cfgP c zs && bktR c.bl c.rm x es ls) (bktIts x es ls))) := by
  refine hidC fun C HC => ?_
  have HCg : Hid (CgIn w c zs) := hc
  have HI : Hid (BkIn w x es ls) := hm
  clear hc hm
  have HF : Hid (Fq No w w []) := Fq.start _ _
  go_enter Tryz.func34, Tryz.ntmps34
  go_upto_region 0 with fail
  refine WL.start <| xB (Bv.cells x) HF fun g1 w2 HF => xB (Cg.cells c) HF fun g3 w4 HF => tK (.slice none 0 0) <| tK (.int .i64 0) <| WL.nil <| ?_
  try simp only [pS]
  go_upto_region 1 with fail
  refine WL.start <| lP (Cg.cs c) HF 1 0 U24 S24 (Cg.cs c) rfl <| ?_
  try simp only [pS]
  cases q1 : (cfgP c zs)
  ·skip
   refine cB (cfg_is c zs _ (HCg.out.no HF.out.kept)) q1 HF fun w5 HF => tK (.bool true) <| WL.nil <| ?_
   try simp only [pS]
   go_upto_region 2 with fail
   refine WL.start <| tK (.slice none 0 0) <| tK (.int .i64 20) <| WL.nil <| ?_
   try simp only [pS]
   have hv : jdg (cfgP c zs) (bktR c.bl c.rm x es ls) 1 = 20 := by simp only [jdg, cond_true, cond_false, q1]
   have he : encR (cfgP c zs && bktR c.bl c.rm x es ls) (bktIts x es ls) = [] := by simp only [encR, cond_true, cond_false, Bool.and_true, Bool.and_false, Bool.true_and, Bool.false_and, q1]
   go_wp2
   rw [HC.out, hv, he]
   exact ⟨slZ, rfl, RdB.nilS _, Nat.zero_le _, HF.out.kept⟩
  refine cB (cfg_is c zs _ (HCg.out.no HF.out.kept)) q1 HF fun w6 HF => tK (.bool false) <| WL.nil <| ?_
  try simp only [pS]
  go_upto_region 3 with fail
  refine WL.start <| lP (Bv.cs x) HF 0 0 U43 S43 (Bv.cs x) rfl <| lP (Cg.cs c) HF 1 0 U24 S24 (Cg.cs c) rfl <| ?_
  try simp only [pS]
  cases q2 : (bktR c.bl c.rm x es ls)
  ·skip
   refine cB (r_IsBucket x es ls c _ (cfg_bl q1) (HI.out.e.no HF.out.kept) (HI.out.l.no HF.out.kept) (by have := HI.out.ne; omega) (by have := HI.out.nl; omega)) q2 HF fun w7 HF => tK (.bool true) <| WL.nil <| ?_
   try simp only [pS]
   go_upto_region 4 with fail
   refine WL.start <| tK (.slice none 0 0) <| tK (.int .i64 1) <| WL.nil <| ?_
   try simp only [pS]
   have hv : jdg (cfgP c zs) (bktR c.bl c.rm x es ls) 1 = 1 := by simp only [jdg, cond_true, cond_false, q1, q2]
   have he : encR (cfgP c zs && bktR c.bl c.rm x es ls) (bktIts x es ls) = [] := by simp only [encR, cond_true, cond_false, Bool.and_true, Bool.and_false, Bool.true_and, Bool.false_and, q1, q2]
   go_wp2
   rw [HC.out, hv, he]
   exact ⟨slZ, rfl, RdB.nilS _, Nat.zero_le _, HF.out.kept⟩
  refine cB (r_IsBucket x es ls c _ (cfg_bl q1) (HI.out.e.no HF.out.kept) (HI.out.l.no HF.out.kept) (by have := HI.out.ne; omega) (by have := HI.out.nl; omega)) q2 HF fun w8 HF => tK (.bool false) <| WL.nil <| ?_
  try simp only [pS]
  go_upto_region 5 with fail
  refine WL.start <| bD (#[.slice none 0 0]) <| xB (#[.slice none 0 0]) HF fun g9 w10 HF => ?_
  try simp only [pS]
  have hB := cfgP_bd q1
  have hB0 := cfg_bl q1
  have hr0 : c.rm ≤ 256 := by omega
  have hmp : bktP c.bl c.rm x es ls = true := (by rw [bkt_eq (by have := hB.2; omega) HI.out.e.len HI.out.l.len]; exact q2)
  obtain ⟨hok, hlen⟩ := bktK_ok hB0 hr0 HI.out hmp
  have HI2 : Hid (BkIn w10 x es ls) := HI.out.no HF.out.kept
  have hg : w.heap.size ≤ g9 := (HF.out.low 2 _ _ _ rfl).elim id False.elim
  have HF : Hid (Kf (rSink w.heap.size g9 (bktIts x es ls) hok hlen) w w10 none ([] ++ []) [(g1, 43, Bv.cells x), (g3, 24, Cg.cells c)]) := Fq.sink HF.out (tys_ok rfl)
  refine tK (pg g9 0) <| WL.nil <| ?_
  try simp only [pS]
  go_upto_region 6 with fail
  refine WL.start <| tK (pg g9 0) <| kP (Bv.cs x) HF 0 0 U43 S43 (Bv.cs x) rfl <| kC (bktIts x es ls) HF (fun a0 h0 => r_bucket x es ls _ a0 _ h0 (by first | exact List.prefix_rfl | exact pl List.prefix_rfl | exact pl (pl List.prefix_rfl) | exact pl (pl (pl List.prefix_rfl))) HI2.out.e HI2.out.l (low_E HI.out.e) (low_L HI.out.l) (by have := HI.out.ne; omega) (by have := HI.out.nl; omega)) fun w11 HF => ?_
  try simp only [pS]
  have HF : Hid (Kf (rSink w.heap.size g9 (bktIts x es ls) hok hlen) w w11 none ([] ++ bktIts x es ls) [(g1, 43, Bv.cells x), (g3, 24, Cg.cells c)]) := HF
  refine WL.nil <| ?_
  try simp only [pS]
  go_upto_region 7 with fail
  refine WL.start <| tK (pg g9 0) <| ?_
  try simp only [pS]
  have HF : Hid (Kf (rSink w.heap.size g9 (bktIts x es ls) hok hlen) w w11 none (bktIts x es ls) [(g1, 43, Bv.cells x), (g3, 24, Cg.cells c)]) := HF
  obtain ⟨a1, h1, _⟩ := HF.out.st
  have HK : Hid (Kept No w w11) := Kf.keptNo HF.out hg
  clear HF
  refine cD (r_done _ a1 h1) HK.out fun s12 w13 HK HR hs => tK (s12.v) <| tK (.int .i64 0) <| WL.nil <| ?_
  try simp only [pS]
  have hv : jdg (cfgP c zs) (bktR c.bl c.rm x es ls) 1 = 0 := by simp only [jdg, cond_true, cond_false, q1, q2]
  have he : encR (cfgP c zs && bktR c.bl c.rm x es ls) (bktIts x es ls) = Wi.sealOf (encB (bktIts x es ls)) := by simp only [encR, cond_true, cond_false, Bool.and_true, Bool.and_false, Bool.true_and, Bool.false_and, q1, q2]
  go_wp2
  rw [HC.out, hv, he]
  exact ⟨s12, rfl, HR.out, hs, HK.out⟩
theorem r_PkI (x : In) (c : Cg) (zs : List Int) (w : World) (hc : CgIn w c zs) (hm : InIn w x) : Calls Tryz.prog 32 #[.agg (In.cells x), .agg (Cg.cells c)] w (EncO w (jdg (cfgP c zs) (insP c.bl x) 1) (encR (cfgP c zs && insP c.bl x) (insIts x))) := by
  rw [ins_eq]; exact r_PkI0 x c zs w hc hm
theorem and_bkt (c : Cg) (zs : List Int) (x : Bv) (es : List En) (ls : List La) (he : es.length = x.e.l) (hl : ls.length = x.l.l) :
    (cfgP c zs && bktR c.bl c.rm x es ls) = (cfgP c zs && bktP c.bl c.rm x es ls) := by
  cases hq : cfgP c zs with
  | false => rfl
  | true => rw [bkt_eq (by have := (cfgP_bd hq).2; omega) he hl]
theorem r_PkK (x : Bv) (es : List En) (ls : List La) (c : Cg) (zs : List Int) (w : World) (hc : CgIn w c zs) (hm : BkIn w x es ls) : Calls Tryz.prog 34 #[.agg (Bv.cells x), .agg (Cg.cells c)] w (EncO w (jdg (cfgP c zs) (bktP c.bl c.rm x es ls) 1) (encR (cfgP c zs && bktP c.bl c.rm x es ls) (bktIts x es ls))) := by
  rw [← jdgK c zs x es ls 1 hm.e.len hm.l.len, ← and_bkt c zs x es ls hm.e.len hm.l.len]; exact r_PkK0 x es ls c zs w hc hm
def lnBl (x : Bl) (g : Nat) : Bl := ⟨x.s, ⟨some ⟨g, 0, none⟩, x.d.l, x.d.l + 3⟩⟩
theorem BlIn.lent {w w0 : World} {x : Bl} {bs : List Int} {g : Nat} (h : BlIn w0 x bs) (h1 : Box w g 5 (u8L (bs ++ mk3 3)).toArray) : BlIn w (lnBl x g) bs := ⟨RdB.lent h1 h.b.len, h.nb, h.u⟩
theorem p_PkBL (x : Bl) (bs : List Int) (c : Cg) (zs : List Int) (g k : Nat) (w : World) (hc : CgIn w (lnC c k) zs) (hm : BlIn w (lnBl x g) bs) : Calls Tryz.prog 28 #[.agg (Bl.cells (lnBl x g)), .agg (Cg.cells (lnC c k))] w (EncO w (jdg (cfgP c zs) (blkB c.bl x bs) 1) (encR (cfgP c zs && blkB c.bl x bs) (blkIts x bs))) := p_PkB (lnBl x g) bs (lnC c k) zs w hc hm
theorem p_PkIL (x : In) (c : Cg) (zs : List Int) (k : Nat) (w : World) (hc : CgIn w (lnC c k) zs) : Calls Tryz.prog 31 #[.agg (In.cells x), .agg (Cg.cells (lnC c k))] w (EncO w (jdg (cfgP c zs) (insP c.bl x) 1) (encR (cfgP c zs && insP c.bl x) (insIts x))) := p_PkI x (lnC c k) zs w hc ⟨rfl⟩
theorem p_PkKL (x : Bv) (es : List En) (ls : List La) (c : Cg) (zs : List Int) (g g2 k : Nat) (w : World) (hc : CgIn w (lnC c k) zs) (hm : BkIn w (lnB x g g2) es ls) : Calls Tryz.prog 33 #[.agg (Bv.cells (lnB x g g2)), .agg (Cg.cells (lnC c k))] w (EncO w (jdg (cfgP c zs) (bktP c.bl c.rm x es ls) 1) (encR (cfgP c zs && bktP c.bl c.rm x es ls) (bktIts x es ls))) := p_PkK (lnB x g g2) es ls (lnC c k) zs w hc hm
structure RdM (w : World) (s : Sl) (ms : List Mg) : Prop where
  row : RowsAt 30 w s.a (ms.map Mg.cs)
  len : ms.length = s.l
structure RdK (w : World) (s : Sl) (ks : List Bv) : Prop where
  row : RowsAt 3 w s.a (ks.map Bv.cs)
  len : ks.length = s.l
def gAt (ms : List Mg) (i : Nat) : Mg := ms[i]?.getD mgZ
def kAt (ks : List Bv) (i : Nat) : Bv := ks[i]?.getD bvZ
theorem RdM.at' {w : World} {s : Sl} {es : List Mg} (h : RdM w s es) {i : Nat} (hi : i < s.l) : ∃ b off, s.v = .slice (some ⟨b, off, none⟩) s.l s.k ∧ ∀ (j : Nat) v, (gAt es i).cs[j]? = some v → w.cell? ⟨b, off + i * 30 + j, none⟩ = some v := by
  obtain ⟨b, off, ha, hc⟩ := h.row i (gAt es i).cs (by rw [List.getElem?_map, show es[i]? = some (gAt es i) by simp [gAt, List.getElem?_eq_getElem (show i < es.length by rw [h.len]; exact hi)]]; rfl)
  exact ⟨b, off, by unfold Sl.v; rw [ha], hc⟩
theorem RdK.at' {w : World} {s : Sl} {es : List Bv} (h : RdK w s es) {i : Nat} (hi : i < s.l) : ∃ b off, s.v = .slice (some ⟨b, off, none⟩) s.l s.k ∧ ∀ (j : Nat) v, (kAt es i).cs[j]? = some v → w.cell? ⟨b, off + i * 3 + j, none⟩ = some v := by
  obtain ⟨b, off, ha, hc⟩ := h.row i (kAt es i).cs (by rw [List.getElem?_map, show es[i]? = some (kAt es i) by simp [kAt, List.getElem?_eq_getElem (show i < es.length by rw [h.len]; exact hi)]]; rfl)
  exact ⟨b, off, by unfold Sl.v; rw [ha], hc⟩
theorem load_K {w : World} {b off i : Nat} {e : Bv} (hc : ∀ (j : Nat) v, e.cs[j]? = some v → w.cell? ⟨b, off + i * 3 + j, none⟩ = some v) : (loadVar 43 ⟨b, off + i * 3, none⟩).run Tryz.prog w = .ok (.agg e.cells) w := load_at hc U43 rfl S43
theorem CgIn.lent {w : World} {c : Cg} {zs : List Int} {g : Nat} (hb : Box w g 3 (i64L (zs ++ [-77])).toArray) (hl : zs.length = c.sv.l) (hn : c.sv.l ≤ 17592186043904) : CgIn w (lnC c g) zs := ⟨RdI.lent hb hl, hn⟩
theorem MgIn.lent {w : World} {m : Mg} {bs : List Int} {es : List En} {ls : List La} {cs : List Cm} {gb g g2 gc : Nat} {w0 : World} (h : MgIn w0 m bs es ls cs)
    (h1 : Box w gb 5 (u8L (bs ++ mk3 3)).toArray) (h2 : Box w g 92 (enL (es ++ [enK])).toArray) (h3 : Box w g2 94 (laL (ls ++ [laK])).toArray) (h4 : Box w gc 39 (cmL (cs ++ [cmK])).toArray) : MgIn w (lnM m gb g g2 gc) bs es ls cs :=
  ⟨RdB.lent h1 h.b.len, RdE.lent h2 h.e.len, RdL.lent h3 h.l.len, RdC.lent h4 h.c.len, h.nb, h.ne, h.nl, h.nc, h.u⟩
theorem BkIn.lent {w : World} {x : Bv} {es : List En} {ls : List La} {g g2 : Nat} {w0 : World} (h : BkIn w0 x es ls)
    (h2 : Box w g 92 (enL (es ++ [enK])).toArray) (h3 : Box w g2 94 (laL (ls ++ [laK])).toArray) : BkIn w (lnB x g g2) es ls :=
  ⟨RdE.lent h2 h.e.len, RdL.lent h3 h.l.len, h.ne, h.nl⟩
structure RdO (w : World) (s : Sl) (xs : List Bl) : Prop where
  row : RowsAt 3 w s.a (xs.map Bl.cs)
  len : xs.length = s.l
structure RdN (w : World) (s : Sl) (xs : List In) : Prop where
  row : RowsAt 14 w s.a (xs.map In.cs)
  len : xs.length = s.l
def blZ' : Bl := ⟨spZ, slZ⟩
def inZ' : In := ⟨spZ, spZ, cZ, false⟩
def oAt (xs : List Bl) (i : Nat) : Bl := xs[i]?.getD blZ'
def nAt (xs : List In) (i : Nat) : In := xs[i]?.getD inZ'
theorem RdO.at' {w : World} {s : Sl} {es : List Bl} (h : RdO w s es) {i : Nat} (hi : i < s.l) : ∃ b off, s.v = .slice (some ⟨b, off, none⟩) s.l s.k ∧ ∀ (j : Nat) v, (oAt es i).cs[j]? = some v → w.cell? ⟨b, off + i * 3 + j, none⟩ = some v := by
  obtain ⟨b, off, ha, hc⟩ := h.row i (oAt es i).cs (by rw [List.getElem?_map, show es[i]? = some (oAt es i) by simp [oAt, List.getElem?_eq_getElem (show i < es.length by rw [h.len]; exact hi)]]; rfl)
  exact ⟨b, off, by unfold Sl.v; rw [ha], hc⟩
theorem RdN.at' {w : World} {s : Sl} {es : List In} (h : RdN w s es) {i : Nat} (hi : i < s.l) : ∃ b off, s.v = .slice (some ⟨b, off, none⟩) s.l s.k ∧ ∀ (j : Nat) v, (nAt es i).cs[j]? = some v → w.cell? ⟨b, off + i * 14 + j, none⟩ = some v := by
  obtain ⟨b, off, ha, hc⟩ := h.row i (nAt es i).cs (by rw [List.getElem?_map, show es[i]? = some (nAt es i) by simp [nAt, List.getElem?_eq_getElem (show i < es.length by rw [h.len]; exact hi)]]; rfl)
  exact ⟨b, off, by unfold Sl.v; rw [ha], hc⟩
theorem load_O {w : World} {b off i : Nat} {e : Bl} (hc : ∀ (j : Nat) v, e.cs[j]? = some v → w.cell? ⟨b, off + i * 3 + j, none⟩ = some v) : (loadVar 73 ⟨b, off + i * 3, none⟩).run Tryz.prog w = .ok (.agg e.cells) w := load_at hc U73 rfl S73
theorem load_N {w : World} {b off i : Nat} {e : In} (hc : ∀ (j : Nat) v, e.cs[j]? = some v → w.cell? ⟨b, off + i * 14 + j, none⟩ = some v) : (loadVar 78 ⟨b, off + i * 14, none⟩).run Tryz.prog w = .ok (.agg e.cells) w := load_at hc U78 rfl S78
theorem bl_sp {x : Bl} {j : Nat} {v : Value} (h : (Sp.cs x.s)[j]? = some v) : x.cs[j]? = some v := by
  have hj := (List.getElem?_eq_some_iff.1 h).1
  have : j = 0 ∨ j = 1 := by have : j < 2 := hj; omega
  rcases this with rfl | rfl <;> exact h
theorem E70 : Tryz.prog.underlying 70 = some (.slice (Tryz.prog.elem 70)) := by kernel_rfl
theorem F70 : (Tryz.prog.info? (Tryz.prog.elem 70)).map (·.size) = some 3 := by kernel_rfl
theorem E71 : Tryz.prog.underlying 71 = some (.slice (Tryz.prog.elem 71)) := by kernel_rfl
theorem F71 : (Tryz.prog.info? (Tryz.prog.elem 71)).map (·.size) = some 14 := by kernel_rfl
section
variable {ops : Array Oper} {a : Act} {w : World} {Q : Exit → Act → World → Prop} {md : Region.Mode} {SS : World → Prop} {S : Nat → Prop} {w0 : World} {lA lB : List (Nat × TypeId × Array Value)} {fuel : Nat} {listed : Array Bool}
def EntH (ops : Array Oper) (Q : Exit → Act → World → Prop) (md : Region.Mode) (SS : World → Prop) (fuel : Nat) (listed : Array Bool) (a : Act) (w : World) (i : Nat) : Prop :=
  wpOp Tryz.prog ops Q i (fun a' w' => SS w' ∧ wpAnyH Tryz.prog md ops Q SS fuel (listed.setIfInBounds i true) a' w') a w
theorem y1 (i : Nat) (h1 : EntH ops Q md SS fuel listed a w i) (hr : Region.ready md ops listed = [i] := by kernel_rfl) : wpAnyH Tryz.prog md ops Q SS (fuel + 1) listed a w :=
  wpAnyH_ready hr (by simp) (fun k hk => by
    rcases List.mem_cons.1 hk with rfl | hk
    · exact h1
    · cases hk)
theorem y2 (i j : Nat) (h1 : EntH ops Q md SS fuel listed a w i) (h2 : EntH ops Q md SS fuel listed a w j) (hr : Region.ready md ops listed = [i, j] := by kernel_rfl) : wpAnyH Tryz.prog md ops Q SS (fuel + 1) listed a w :=
  wpAnyH_ready hr (by simp) (fun k hk => by
    rcases List.mem_cons.1 hk with rfl | hk
    · exact h1
    · rcases List.mem_cons.1 hk with rfl | hk
      · exact h2
      · cases hk)
theorem eJ (i d : Nat) {f : FuncId} {args : Array Value} {V : Nat → Value} {L : Nat → List (Nat × TypeId × Array Value)} (hc : Calls Tryz.prog f args w (fun e w' => ∃ g, e = .returned (V g) ∧ Hid (Fq No w w' (L g)))) (HG : Hid (Fq S w0 w (lA ++ lB)))
    (h : ∀ g w', Hid (Fq S w0 w' (lA ++ (lB ++ L g))) → Hid (Fq S w0 w' lA) → wpAnyH Tryz.prog md ops Q (fun w' => Hid (Fq S w0 w' lA)) fuel (listed.setIfInBounds i true) (a.put (some d) (V g)) w')
    (hi : ops[i]? = some (opA ops i) := by kernel_rfl) (hd : (opA ops i).dst = some d := by kernel_rfl) (hrun : (execOp a.eval (opA ops i)).run Tryz.prog w = .ok (.enter f args) w := by kernel_rfl) (hw : Region.wanted (opA ops i) (yielded ops a.tmps) = true := by kernel_rfl) : EntH ops Q md (fun w' => Hid (Fq S w0 w' lA)) fuel listed a w i :=
  (AllReadyH.cons hi (fun K hK => by
    rw [if_pos hw]
    unfold Oper.wp
    rw [hrun, Oper.upon_enter]
    refine hc.mono fun e w' he => ?_
    obtain ⟨g, rfl, hk⟩ := he
    have HJ := HG.out.join hk.out
    rw [List.append_assoc] at HJ
    exact hK.out _ _ (show Hid _ from HJ.front) (fun HF => by rw [hd]; exact h g w' HJ HF)) AllReadyH.nil) i (List.mem_cons_self ..)
theorem eA (i d : Nat) {t : TypeId} (cs : Array Value) (hz : (Tryz.prog.info? t).bind (·.zero) = some (.agg cs)) (HG : Hid (Fq S w0 w (lA ++ lB)))
    (h : ∀ g w', Hid (Fq S w0 w' (lA ++ (lB ++ [(g, t, cs)]))) → Hid (Fq S w0 w' lA) → wpAnyH Tryz.prog md ops Q (fun w' => Hid (Fq S w0 w' lA)) fuel (listed.setIfInBounds i true) (a.put (some d) (.pointer (some ⟨g, 0, none⟩))) w')
    (ho : (opA ops i).op = .alloc t := by kernel_rfl) (hi : ops[i]? = some (opA ops i) := by kernel_rfl) (hd : (opA ops i).dst = some d := by kernel_rfl) (hw : Region.wanted (opA ops i) (yielded ops a.tmps) = true := by kernel_rfl) : EntH ops Q md (fun w' => Hid (Fq S w0 w' lA)) fuel listed a w i :=
  (AllReadyH.cons hi (fun K hK => by
    rw [if_pos hw]
    unfold Oper.wp
    rw [exec_alloc t ho cs hz, Oper.upon_value]
    have HJ := HG.out.alloc t cs
    rw [List.append_assoc] at HJ
    exact hK.out _ _ (show Hid _ from HJ.front) (fun HF => by rw [hd]; exact h _ _ HJ HF)) AllReadyH.nil) i (List.mem_cons_self ..)
end
end Go.Proofs.YtgdnofacgfjaeaaGreat.Md
