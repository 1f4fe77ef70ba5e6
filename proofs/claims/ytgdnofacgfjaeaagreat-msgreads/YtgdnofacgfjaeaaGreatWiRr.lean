import Derived.Test.YtgdnofacgfjaeaaGreatLe
import Derived.Test.YtgdnofacgfjaeaaGreatWiCa
import Derived.Test.YtgdnofacgfjaeaaGreatWiZq
import Derived.Laws.ResultCell
namespace Go.Proofs.YtgdnofacgfjaeaaGreat.Md
set_option maxRecDepth 100000
set_option maxHeartbeats 4000000
open Go.RowKit
set_option linter.unusedVariables false
set_option linter.unusedSimpArgs false
def stP (s : Sp) : Bool := eqS s spZ || oneS s
def insP (B : Int) (x : In) : Bool := bif x.d then eqS x.p spZ && (eqS x.a spZ && cmdP B x.c) else stP x.p && heldP B x.p x.a x.c
def insR (B : Int) (x : In) : Bool := bif x.d then eqS x.p spZ && (eqS x.a spZ && cmdR B x.c) else
  bif (!eqS x.p spZ && !oneS x.p) || abvS x.a x.p then false else bif eqS x.a spZ then eqC x.c cZ else oneS x.a && cmdR B x.c
theorem abv_z {a p : Sp} (h : stP p = true) (ha : eqS a spZ = true) : abvS a p = false := by
  have := eqS_iff.1 ha
  subst this
  unfold stP at h
  rw [Bool.or_eq_true] at h
  rcases h with h | h
  · have := eqS_iff.1 h
    subst this
    decide
  · have h1 := oneS_t h
    unfold abvS
    rw [Bool.or_eq_false_iff]
    refine ⟨decide_eq_false (by show ¬ p.n < 0; omega), ?_⟩
    have : ((spZ).n == p.n) = false := by rw [beq_eq_false_iff_ne]; show (0 : Int) ≠ p.n; omega
    rw [this]; rfl
theorem ins_eq (B : Int) (x : In) : insP B x = insR B x := by
  have hz := @abv_z x.a x.p
  unfold insP insR stP at *
  rw [held_eq, cmd_eq]
  revert hz
  generalize eqS x.p spZ = a1
  generalize eqS x.a spZ = a2
  generalize oneS x.p = a3
  generalize oneS x.a = a4
  generalize abvS x.a x.p = a5
  generalize cmdR B x.c = a6
  generalize eqC x.c cZ = a7
  generalize x.d = a8
  revert a1 a2 a3 a4 a5 a6 a7 a8
  decide
theorem stP_t {s : Sp} (h : stP s = true) : (0 ≤ s.n ∧ s.n ≤ 1099511627776) ∧ 0 ≤ s.c ∧ s.c ≤ 255 := by
  unfold stP at h
  rw [Bool.or_eq_true] at h
  rcases h with h | h
  · have := eqS_t h; omega
  · have := oneS_t h; omega
theorem ins_ok {B : Int} {x : In} (hB : 0 ≤ B ∧ B ≤ 4096) (h : insP B x = true) : okL (insIts x) ∧ itsLen (insIts x) ≤ 131072 := by
  have key : ((0 ≤ x.p.n ∧ x.p.n ≤ 1099511627776) ∧ 0 ≤ x.p.c ∧ x.p.c ≤ 255) ∧ ((0 ≤ x.a.n ∧ x.a.n ≤ 1099511627776) ∧ 0 ≤ x.a.c ∧ x.a.c ≤ 255) ∧ OkC x.c := by
    unfold insP at h
    cases hd : x.d
    · rw [hd] at h
      simp only [cond_false] at h
      rw [Bool.and_eq_true] at h
      refine ⟨stP_t h.1, ?_⟩
      have h2 := h.2
      unfold heldP at h2
      cases ha : eqS x.a spZ
      · rw [ha] at h2
        simp only [cond_false] at h2
        rw [Bool.and_eq_true, Bool.and_eq_true] at h2
        have := oneS_t h2.1
        exact ⟨by omega, cmdL_ok hB h2.2.2⟩
      · rw [ha] at h2
        have := eqS_t ha
        exact ⟨by omega, cmd_z h2⟩
    · rw [hd] at h
      simp only [cond_true] at h
      rw [Bool.and_eq_true, Bool.and_eq_true] at h
      have := eqS_t h.1
      have := eqS_t h.2.1
      exact ⟨by omega, by omega, cmdL_ok hB h.2.2⟩
  obtain ⟨h1, h2, h3⟩ := key
  obtain ⟨k1, k2⟩ := cmdIts_ok h3
  unfold insIts
  refine ⟨okL_app (okL_app (okL_app (okL_cons ⟨by omega, by omega⟩ (okL_cons ⟨by omega, by omega⟩ okL_nil)) (okL_cons ⟨by omega, by omega⟩ (okL_cons ⟨by omega, by omega⟩ okL_nil))) k1) (okL_cons ?_ okL_nil), ?_⟩
  · cases x.d <;> exact ⟨by decide, by decide⟩
  · rw [itsLen_app, itsLen_app, itsLen_app]
    simp only [len_cons, len_nil, len_n]
    omega
def blkIts (x : Bl) (bs : List Int) : List It := [It.n x.s.n, It.n x.s.c] ++ [It.b bs]
structure BlIn (w : World) (x : Bl) (bs : List Int) : Prop where
  b : RdB w x.d bs
  nb : x.d.l ≤ 140737488351232
  u : Wi.U8 bs
theorem BlIn.no {w w' : World} {x : Bl} {bs : List Int} (H : BlIn w x bs) (hk : Kept No w w') : BlIn w' x bs := ⟨H.b.no hk, H.nb, H.u⟩
structure InIn (w : World) (x : In) : Prop where
  d : x = x
theorem InIn.no {w w' : World} {x : In} (H : InIn w x) (hk : Kept No w w') : InIn w' x := ⟨rfl⟩
theorem blk_ok {B : Int} {x : Bl} {bs : List Int} {w : World} (hB : 0 ≤ B ∧ B ≤ 4096) (hm : BlIn w x bs) (h : blkB B x bs = true) : okL (blkIts x bs) ∧ itsLen (blkIts x bs) ≤ 131072 := by
  unfold blkB at h
  rw [Bool.and_eq_true] at h
  have h0 : ((x.d.l : Nat) : Int) = B := eq_of_beq h.1
  have hl := hm.b.len
  have h2 : stP x.s = true := by
    have h3 := h.2
    unfold stP
    rw [Bool.or_eq_true] at h3 ⊢
    rcases h3 with h3 | h3
    · exact .inr h3
    · rw [Bool.and_eq_true] at h3; exact .inl h3.1
  have h1 := stP_t h2
  unfold blkIts
  refine ⟨okL_app (okL_cons ⟨by omega, by omega⟩ (okL_cons ⟨by omega, by omega⟩ okL_nil)) (okL_cons ⟨by omega, hm.u⟩ okL_nil), ?_⟩
  rw [itsLen_app]
  simp only [len_cons, len_nil, len_n, len_b]
  omega
theorem bktK_ok {B rm : Int} {x : Bv} {es : List En} {ls : List La} {w : World} (hB : 0 ≤ B ∧ B ≤ 4096) (hr : rm ≤ 256) (hm : BkIn w x es ls) (h : bktP B rm x es ls = true) : okL (bktIts x es ls) ∧ itsLen (bktIts x es ls) ≤ 131072 := by
  obtain ⟨h1, h2⟩ := bktIts_ok hB hr hm.e.len hm.l.len h
  exact ⟨h1, by omega⟩
theorem p_rightStamp (x : Sp) (w : World) : Calls Tryz.prog 135 #[.agg (Sp.cells x)] w (fun e w' => e = .returned (.bool (stP x)) ∧ Kept No w w') := by
  refine hidC fun C HC => ?_
  have HF : Hid (Fq No w w []) := Fq.start _ _
  go_enter Tryz.func135, Tryz.ntmps135
  go_upto_region 0 with fail
  refine WL.start <| xB (Sp.cells x) HF fun g1 w2 HF => tK (.bool false) <| WL.nil <| ?_
  try simp only [pS]
  go_upto_region 1 with fail
  refine WL.start <| lP (Sp.cs x) HF 0 0 U34 S34 (Sp.cs x) rfl <| ?_
  try simp only [pS]
  cases q1 : (eqS x spZ)
  rotate_left
  ·skip
   refine cB (p_isNone x _) q1 HF fun w6 HF => tK (.bool true) <| sK <| sK <| tK (.bool true) <| tK (.bool true) <| WL.nil <| ?_
   try simp only [pS]
   go_wp2
   rw [HC.out]
   exact ⟨ret_bool (by simp only [stP, bsq, q1]), HF.out.kept⟩
  refine cB (p_isNone x _) q1 HF fun w3 HF => tK (.bool false) <| lP (Sp.cs x) HF 0 0 U34 S34 (Sp.cs x) rfl <| ?_
  try simp only [pS]
  cases q2 : (oneS x)
  ·skip
   refine cB (p_isOne x _) q2 HF fun w4 HF => tK (.bool false) <| tK (.bool false) <| WL.nil <| ?_
   try simp only [pS]
   go_wp2
   rw [HC.out]
   exact ⟨ret_bool (by simp only [stP, bsq, q1, q2]), HF.out.kept⟩
  refine cB (p_isOne x _) q2 HF fun w5 HF => tK (.bool true) <| tK (.bool true) <| WL.nil <| ?_
  try simp only [pS]
  go_wp2
  rw [HC.out]
  exact ⟨ret_bool (by simp only [stP, bsq, q1, q2]), HF.out.kept⟩
theorem p_rightInstance (x : In) (c : Cg) (w : World) (hb : 0 ≤ c.bl ∧ c.bl ≤ 4096) : Calls Tryz.prog 66 #[.agg (In.cells x), .agg (Cg.cells c)] w (fun e w' => e = .returned (.bool (insP c.bl x)) ∧ Kept No w w') := by
  refine hidC fun C HC => ?_
  have HB : Hid (0 ≤ c.bl ∧ c.bl ≤ 4096) := hb
  clear hb
  have HF : Hid (Fq No w w []) := Fq.start _ _
  go_enter Tryz.func66, Tryz.ntmps66
  go_upto_region 0 with fail
  refine WL.start <| xB (In.cells x) HF fun g1 w2 HF => xB (Cg.cells c) HF fun g3 w4 HF => tK (.bool false) <| WL.nil <| ?_
  try simp only [pS]
  go_upto_region 1 with fail
  refine WL.start <| tK (pg g1 13) <| lD (.bool x.d) HF 0 13 U4 rfl <| WL.nil <| ?_
  try simp only [pS]
  cases q1 : (x.d)
  ·skip
   go_upto_region 3 with fail
   refine WL.start <| tK (pg g1 0) <| lP (Sp.cs x.p) HF 0 0 U34 S34 (In.cs x) rfl <| ?_
   try simp only [pS]
   cases q2 : (stP x.p)
   ·skip
    refine cB (p_rightStamp x.p _) q2 HF fun w5 HF => tK (.bool false) <| sK <| sK <| sK <| sK <| sK <| sK <| sK <| sK <| tK (.bool false) <| tK (.bool false) <| WL.nil <| ?_
    try simp only [pS]
    go_wp2
    rw [HC.out]
    exact ⟨ret_bool (by simp only [insP, bsq, q1, q2]), HF.out.kept⟩
   refine cB (p_rightStamp x.p _) q2 HF fun w6 HF => tK (.bool true) <| tK (pg g1 0) <| lP (Sp.cs x.p) HF 0 0 U34 S34 (In.cs x) rfl <| tK (pg g1 2) <| lP (Sp.cs x.a) HF 0 2 U34 S34 (In.cs x) rfl <| tK (pg g1 4) <| lP (Cm.cs x.c) HF 0 4 U39 S39 (In.cs x) rfl <| lP (Cg.cs c) HF 1 0 U24 S24 (Cg.cs c) rfl <| ?_
   try simp only [pS]
   cases q3 : (heldP c.bl x.p x.a x.c)
   ·skip
    refine cB (p_rightHeld x.p x.a x.c c _ HB) q3 HF fun w7 HF => tK (.bool false) <| tK (.bool false) <| WL.nil <| ?_
    try simp only [pS]
    go_wp2
    rw [HC.out]
    exact ⟨ret_bool (by simp only [insP, bsq, q1, q2, q3]), HF.out.kept⟩
   refine cB (p_rightHeld x.p x.a x.c c _ HB) q3 HF fun w8 HF => tK (.bool true) <| tK (.bool true) <| WL.nil <| ?_
   try simp only [pS]
   go_wp2
   rw [HC.out]
   exact ⟨ret_bool (by simp only [insP, bsq, q1, q2, q3]), HF.out.kept⟩
  go_upto_region 2 with fail
  refine WL.start <| tK (pg g1 0) <| lP (Sp.cs x.p) HF 0 0 U34 S34 (In.cs x) rfl <| ?_
  try simp only [pS]
  cases q4 : (eqS x.p spZ)
  ·skip
   refine cB (p_isNone x.p _) q4 HF fun w9 HF => tK (.bool false) <| sK <| sK <| sK <| tK (.bool false) <| tK (.bool false) <| sK <| sK <| sK <| sK <| tK (.bool false) <| tK (.bool false) <| WL.nil <| ?_
   try simp only [pS]
   go_wp2
   rw [HC.out]
   exact ⟨ret_bool (by simp only [insP, bsq, q1, q4]), HF.out.kept⟩
  refine cB (p_isNone x.p _) q4 HF fun w10 HF => tK (.bool true) <| tK (pg g1 2) <| lP (Sp.cs x.a) HF 0 2 U34 S34 (In.cs x) rfl <| ?_
  try simp only [pS]
  cases q5 : (eqS x.a spZ)
  ·skip
   refine cB (p_isNone x.a _) q5 HF fun w11 HF => tK (.bool false) <| tK (.bool false) <| sK <| sK <| sK <| sK <| tK (.bool false) <| tK (.bool false) <| WL.nil <| ?_
   try simp only [pS]
   go_wp2
   rw [HC.out]
   exact ⟨ret_bool (by simp only [insP, bsq, q1, q4, q5]), HF.out.kept⟩
  refine cB (p_isNone x.a _) q5 HF fun w12 HF => tK (.bool true) <| tK (.bool true) <| tK (pg g1 4) <| lP (Cm.cs x.c) HF 0 4 U39 S39 (In.cs x) rfl <| lP (Cg.cs c) HF 1 0 U24 S24 (Cg.cs c) rfl <| ?_
  try simp only [pS]
  cases q6 : (cmdP c.bl x.c)
  ·skip
   refine cB (p_rightCommand x.c c _ HB) q6 HF fun w13 HF => tK (.bool false) <| tK (.bool false) <| WL.nil <| ?_
   try simp only [pS]
   go_wp2
   rw [HC.out]
   exact ⟨ret_bool (by simp only [insP, bsq, q1, q4, q5, q6]), HF.out.kept⟩
  refine cB (p_rightCommand x.c c _ HB) q6 HF fun w14 HF => tK (.bool true) <| tK (.bool true) <| WL.nil <| ?_
  try simp only [pS]
  go_wp2
  rw [HC.out]
  exact ⟨ret_bool (by simp only [insP, bsq, q1, q4, q5, q6]), HF.out.kept⟩
theorem r_IsInstance (x : In) (c : Cg) (w : World) (hb : 0 ≤ c.bl ∧ c.bl ≤ 4096) : Calls Tryz.prog 68 #[.agg (In.cells x), .agg (Cg.cells c)] w (fun e w' => e = .returned (.bool (insR c.bl x)) ∧ Kept No w w') := by
  refine hidC fun C HC => ?_
  have HB : Hid (0 ≤ c.bl ∧ c.bl ≤ 4096) := hb
  clear hb
  have HF : Hid (Fq No w w []) := Fq.start _ _
  go_enter Tryz.func68, Tryz.ntmps68
  go_upto_region 0 with fail
  refine WL.start <| xB (In.cells x) HF fun g1 w2 HF => xB (Cg.cells c) HF fun g3 w4 HF => tK (.bool false) <| WL.nil <| ?_
  try simp only [pS]
  go_upto_region 1 with fail
  refine WL.start <| tK (pg g1 13) <| lD (.bool x.d) HF 0 13 U4 rfl <| WL.nil <| ?_
  try simp only [pS]
  cases q1 : (x.d)
  rotate_left
  ·skip
   go_upto_region 2 with fail
   refine WL.start <| tK (pg g1 0) <| lP (Sp.cs x.p) HF 0 0 U34 S34 (In.cs x) rfl <| ?_
   try simp only [pS]
   cases q14 : (eqS x.p spZ)
   ·skip
    refine cB (r_None x.p _) q14 HF fun w29 HF => tK (.bool false) <| sK <| sK <| sK <| tK (.bool false) <| tK (.bool false) <| sK <| sK <| sK <| sK <| tK (.bool false) <| tK (.bool false) <| WL.nil <| ?_
    try simp only [pS]
    go_wp2
    rw [HC.out]
    exact ⟨ret_bool (by simp only [insR, bsq, q1, q14]), HF.out.kept⟩
   refine cB (r_None x.p _) q14 HF fun w30 HF => tK (.bool true) <| tK (pg g1 2) <| lP (Sp.cs x.a) HF 0 2 U34 S34 (In.cs x) rfl <| ?_
   try simp only [pS]
   cases q15 : (eqS x.a spZ)
   ·skip
    refine cB (r_None x.a _) q15 HF fun w31 HF => tK (.bool false) <| tK (.bool false) <| sK <| sK <| sK <| sK <| tK (.bool false) <| tK (.bool false) <| WL.nil <| ?_
    try simp only [pS]
    go_wp2
    rw [HC.out]
    exact ⟨ret_bool (by simp only [insR, bsq, q1, q14, q15]), HF.out.kept⟩
   refine cB (r_None x.a _) q15 HF fun w32 HF => tK (.bool true) <| tK (.bool true) <| tK (pg g1 4) <| lP (Cm.cs x.c) HF 0 4 U39 S39 (In.cs x) rfl <| lP (Cg.cs c) HF 1 0 U24 S24 (Cg.cs c) rfl <| ?_
   try simp only [pS]
   cases q16 : (cmdR c.bl x.c)
   ·skip
    refine cB (r_IsCommand x.c c _ HB) q16 HF fun w33 HF => tK (.bool false) <| tK (.bool false) <| WL.nil <| ?_
    try simp only [pS]
    go_wp2
    rw [HC.out]
    exact ⟨ret_bool (by simp only [insR, bsq, q1, q14, q15, q16]), HF.out.kept⟩
   refine cB (r_IsCommand x.c c _ HB) q16 HF fun w34 HF => tK (.bool true) <| tK (.bool true) <| WL.nil <| ?_
   try simp only [pS]
   go_wp2
   rw [HC.out]
   exact ⟨ret_bool (by simp only [insR, bsq, q1, q14, q15, q16]), HF.out.kept⟩
  go_upto_region 3 with fail
  refine WL.start <| tK (pg g1 0) <| lP (Sp.cs x.p) HF 0 0 U34 S34 (In.cs x) rfl <| ?_
  try simp only [pS]
  cases q2 : (eqS x.p spZ)
  rotate_left
  ·skip
   refine cB (r_None x.p _) q2 HF fun w18 HF => tK (.bool false) <| tK (.bool false) <| sK <| sK <| sK <| sK <| tK (.bool false) <| tK (.bool false) <| tK (pg g1 2) <| lP (Sp.cs x.a) HF 0 2 U34 S34 (In.cs x) rfl <| tK (pg g1 0) <| lP (Sp.cs x.p) HF 0 0 U34 S34 (In.cs x) rfl <| ?_
   try simp only [pS]
   cases q9 : (abvS x.a x.p)
   rotate_left
   ·skip
    refine cB (r_Above x.a x.p _) q9 HF fun w28 HF => tK (.bool true) <| WL.nil <| ?_
    try simp only [pS]
    go_upto_region 4 with fail
    refine WL.start <| tK (.bool false) <| WL.nil <| ?_
    try simp only [pS]
    go_wp2
    rw [HC.out]
    exact ⟨ret_bool (by simp only [insR, bsq, q1, q2, q9]), HF.out.kept⟩
   refine cB (r_Above x.a x.p _) q9 HF fun w19 HF => tK (.bool false) <| WL.nil <| ?_
   try simp only [pS]
   go_upto_region 5 with fail
   refine WL.start <| tK (pg g1 2) <| lP (Sp.cs x.a) HF 0 2 U34 S34 (In.cs x) rfl <| ?_
   try simp only [pS]
   cases q10 : (eqS x.a spZ)
   rotate_left
   ·skip
    refine cB (r_None x.a _) q10 HF fun w25 HF => WL.nil <| ?_
    try simp only [pS]
    go_upto_region 6 with fail
    refine WL.start <| tK (pg g1 4) <| lP (Cm.cs x.c) HF 0 4 U39 S39 (In.cs x) rfl <| ?_
    try simp only [pS]
    cases q13 : (eqC x.c cZ)
    ·skip
     refine cB (r_none x.c _) q13 HF fun w26 HF => tK (.bool false) <| WL.nil <| ?_
     try simp only [pS]
     go_wp2
     rw [HC.out]
     exact ⟨ret_bool (by simp only [insR, bsq, q1, q2, q9, q10, q13]), HF.out.kept⟩
    refine cB (r_none x.c _) q13 HF fun w27 HF => tK (.bool true) <| WL.nil <| ?_
    try simp only [pS]
    go_wp2
    rw [HC.out]
    exact ⟨ret_bool (by simp only [insR, bsq, q1, q2, q9, q10, q13]), HF.out.kept⟩
   refine cB (r_None x.a _) q10 HF fun w20 HF => WL.nil <| ?_
   try simp only [pS]
   go_upto_region 7 with fail
   refine WL.start <| tK (pg g1 2) <| lP (Sp.cs x.a) HF 0 2 U34 S34 (In.cs x) rfl <| ?_
   try simp only [pS]
   cases q11 : (oneS x.a)
   ·skip
    refine cB (r_One x.a _) q11 HF fun w21 HF => tK (.bool false) <| sK <| sK <| sK <| sK <| tK (.bool false) <| tK (.bool false) <| WL.nil <| ?_
    try simp only [pS]
    go_wp2
    rw [HC.out]
    exact ⟨ret_bool (by simp only [insR, bsq, q1, q2, q9, q10, q11]), HF.out.kept⟩
   refine cB (r_One x.a _) q11 HF fun w22 HF => tK (.bool true) <| tK (pg g1 4) <| lP (Cm.cs x.c) HF 0 4 U39 S39 (In.cs x) rfl <| lP (Cg.cs c) HF 1 0 U24 S24 (Cg.cs c) rfl <| ?_
   try simp only [pS]
   cases q12 : (cmdR c.bl x.c)
   ·skip
    refine cB (r_IsCommand x.c c _ HB) q12 HF fun w23 HF => tK (.bool false) <| tK (.bool false) <| WL.nil <| ?_
    try simp only [pS]
    go_wp2
    rw [HC.out]
    exact ⟨ret_bool (by simp only [insR, bsq, q1, q2, q9, q10, q11, q12]), HF.out.kept⟩
   refine cB (r_IsCommand x.c c _ HB) q12 HF fun w24 HF => tK (.bool true) <| tK (.bool true) <| WL.nil <| ?_
   try simp only [pS]
   go_wp2
   rw [HC.out]
   exact ⟨ret_bool (by simp only [insR, bsq, q1, q2, q9, q10, q11, q12]), HF.out.kept⟩
  refine cB (r_None x.p _) q2 HF fun w5 HF => tK (.bool true) <| tK (.bool true) <| tK (pg g1 0) <| lP (Sp.cs x.p) HF 0 0 U34 S34 (In.cs x) rfl <| ?_
  try simp only [pS]
  cases q3 : (oneS x.p)
  ·skip
   refine cB (r_One x.p _) q3 HF fun w6 HF => tK (.bool true) <| tK (.bool true) <| tK (.bool true) <| sK <| sK <| sK <| sK <| sK <| tK (.bool true) <| WL.nil <| ?_
   try simp only [pS]
   go_upto_region 4 with fail
   refine WL.start <| tK (.bool false) <| WL.nil <| ?_
   try simp only [pS]
   go_wp2
   rw [HC.out]
   exact ⟨ret_bool (by simp only [insR, bsq, q1, q2, q3]), HF.out.kept⟩
  refine cB (r_One x.p _) q3 HF fun w7 HF => tK (.bool false) <| tK (.bool false) <| tK (.bool false) <| tK (pg g1 2) <| lP (Sp.cs x.a) HF 0 2 U34 S34 (In.cs x) rfl <| tK (pg g1 0) <| lP (Sp.cs x.p) HF 0 0 U34 S34 (In.cs x) rfl <| ?_
  try simp only [pS]
  cases q4 : (abvS x.a x.p)
  rotate_left
  ·skip
   refine cB (r_Above x.a x.p _) q4 HF fun w17 HF => tK (.bool true) <| WL.nil <| ?_
   try simp only [pS]
   go_upto_region 4 with fail
   refine WL.start <| tK (.bool false) <| WL.nil <| ?_
   try simp only [pS]
   go_wp2
   rw [HC.out]
   exact ⟨ret_bool (by simp only [insR, bsq, q1, q2, q3, q4]), HF.out.kept⟩
  refine cB (r_Above x.a x.p _) q4 HF fun w8 HF => tK (.bool false) <| WL.nil <| ?_
  try simp only [pS]
  go_upto_region 5 with fail
  refine WL.start <| tK (pg g1 2) <| lP (Sp.cs x.a) HF 0 2 U34 S34 (In.cs x) rfl <| ?_
  try simp only [pS]
  cases q5 : (eqS x.a spZ)
  rotate_left
  ·skip
   refine cB (r_None x.a _) q5 HF fun w14 HF => WL.nil <| ?_
   try simp only [pS]
   go_upto_region 6 with fail
   refine WL.start <| tK (pg g1 4) <| lP (Cm.cs x.c) HF 0 4 U39 S39 (In.cs x) rfl <| ?_
   try simp only [pS]
   cases q8 : (eqC x.c cZ)
   ·skip
    refine cB (r_none x.c _) q8 HF fun w15 HF => tK (.bool false) <| WL.nil <| ?_
    try simp only [pS]
    go_wp2
    rw [HC.out]
    exact ⟨ret_bool (by simp only [insR, bsq, q1, q2, q3, q4, q5, q8]), HF.out.kept⟩
   refine cB (r_none x.c _) q8 HF fun w16 HF => tK (.bool true) <| WL.nil <| ?_
   try simp only [pS]
   go_wp2
   rw [HC.out]
   exact ⟨ret_bool (by simp only [insR, bsq, q1, q2, q3, q4, q5, q8]), HF.out.kept⟩
  refine cB (r_None x.a _) q5 HF fun w9 HF => WL.nil <| ?_
  try simp only [pS]
  go_upto_region 7 with fail
  refine WL.start <| tK (pg g1 2) <| lP (Sp.cs x.a) HF 0 2 U34 S34 (In.cs x) rfl <| ?_
  try simp only [pS]
  cases q6 : (oneS x.a)
  ·skip
   refine cB (r_One x.a _) q6 HF fun w10 HF => tK (.bool false) <| sK <| sK <| sK <| sK <| tK (.bool false) <| tK (.bool false) <| WL.nil <| ?_
   try simp only [pS]
   go_wp2
   rw [HC.out]
   exact ⟨ret_bool (by simp only [insR, bsq, q1, q2, q3, q4, q5, q6]), HF.out.kept⟩
  refine cB (r_One x.a _) q6 HF fun w11 HF => tK (.bool true) <| tK (pg g1 4) <| lP (Cm.cs x.c) HF 0 4 U39 S39 (In.cs x) rfl <| lP (Cg.cs c) HF 1 0 U24 S24 (Cg.cs c) rfl <| ?_
  try simp only [pS]
  cases q7 : (cmdR c.bl x.c)
  ·skip
   refine cB (r_IsCommand x.c c _ HB) q7 HF fun w12 HF => tK (.bool false) <| tK (.bool false) <| WL.nil <| ?_
   try simp only [pS]
   go_wp2
   rw [HC.out]
   exact ⟨ret_bool (by simp only [insR, bsq, q1, q2, q3, q4, q5, q6, q7]), HF.out.kept⟩
  refine cB (r_IsCommand x.c c _ HB) q7 HF fun w13 HF => tK (.bool true) <| tK (.bool true) <| WL.nil <| ?_
  try simp only [pS]
  go_wp2
  rw [HC.out]
  exact ⟨ret_bool (by simp only [insR, bsq, q1, q2, q3, q4, q5, q6, q7]), HF.out.kept⟩
theorem r_PkB (x : Bl) (bs : List Int) (c : Cg) (zs : List Int) (w : World) (hc : CgIn w c zs) (hm : BlIn w x bs) : Calls Tryz.prog 29 #[.agg (Bl.cells x), .agg (Cg.cells c)] w (EncO w (jdg (cfgP c zs) (blkB c.bl x bs) 1) (encR (cfgP c zs && blkB c.bl x bs) (blkIts x bs))) := by
  refine hidC fun C HC => ?_
  have HCg : Hid (CgIn w c zs) := hc
  have HI : Hid (BlIn w x bs) := hm
  clear hc hm
  have HF : Hid (Fq No w w []) := Fq.start _ _
  go_enter Tryz.func29, Tryz.ntmps29
  go_upto_region 0 with fail
  refine WL.start <| xB (Bl.cells x) HF fun g1 w2 HF => xB (Cg.cells c) HF fun g3 w4 HF => tK (.slice none 0 0) <| tK (.int .i64 0) <| WL.nil <| ?_
  try simp only [pS]
  go_upto_region 1 with fail
  refine WL.start <| lP (Cg.cs c) HF 1 0 U24 S24 (Cg.cs c) rfl <| ?_
  try simp only [pS]
  cases q1 : (cfgP c zs)
  ·skip
   refine cB (cfg_is c zs _ (HCg.out.no HF.out.kept)) q1 HF fun w5 HF => tK (.bool true) <| WL.nil <| ?_
   try simp only [pS]
   go_upto_region 2 with fail
   refine WL.start <| tK (.slice none 0 0) <| tK (.int .i64 20) <| WL.nil <| ?_
   try simp only [pS]
   have hv : jdg (cfgP c zs) (blkB c.bl x bs) 1 = 20 := by simp only [jdg, cond_true, cond_false, q1]
   have he : encR (cfgP c zs && blkB c.bl x bs) (blkIts x bs) = [] := by simp only [encR, cond_true, cond_false, Bool.and_true, Bool.and_false, Bool.true_and, Bool.false_and, q1]
   go_wp2
   rw [HC.out, hv, he]
   exact ⟨slZ, rfl, RdB.nilS _, Nat.zero_le _, HF.out.kept⟩
  refine cB (cfg_is c zs _ (HCg.out.no HF.out.kept)) q1 HF fun w6 HF => tK (.bool false) <| WL.nil <| ?_
  try simp only [pS]
  go_upto_region 3 with fail
  refine WL.start <| lP (Bl.cs x) HF 0 0 U73 S73 (Bl.cs x) rfl <| lP (Cg.cs c) HF 1 0 U24 S24 (Cg.cs c) rfl <| ?_
  try simp only [pS]
  cases q2 : (blkB c.bl x bs)
  ·skip
   refine cB (r_IsBlock x c bs _ (HI.out.b.no HF.out.kept) (by have := HI.out.nb; omega)) q2 HF fun w7 HF => tK (.bool true) <| WL.nil <| ?_
   try simp only [pS]
   go_upto_region 4 with fail
   refine WL.start <| tK (.slice none 0 0) <| tK (.int .i64 1) <| WL.nil <| ?_
   try simp only [pS]
   have hv : jdg (cfgP c zs) (blkB c.bl x bs) 1 = 1 := by simp only [jdg, cond_true, cond_false, q1, q2]
   have he : encR (cfgP c zs && blkB c.bl x bs) (blkIts x bs) = [] := by simp only [encR, cond_true, cond_false, Bool.and_true, Bool.and_false, Bool.true_and, Bool.false_and, q1, q2]
   go_wp2
   rw [HC.out, hv, he]
   exact ⟨slZ, rfl, RdB.nilS _, Nat.zero_le _, HF.out.kept⟩
  refine cB (r_IsBlock x c bs _ (HI.out.b.no HF.out.kept) (by have := HI.out.nb; omega)) q2 HF fun w8 HF => tK (.bool false) <| WL.nil <| ?_
  try simp only [pS]
  go_upto_region 5 with fail
  refine WL.start <| bD (#[.slice none 0 0]) <| xB (#[.slice none 0 0]) HF fun g9 w10 HF => ?_
  try simp only [pS]
  have hB := cfgP_bd q1
  have hB0 := cfg_bl q1
  have hr0 : c.rm ≤ 256 := by omega
  have hmp : blkB c.bl x bs = true := q2
  obtain ⟨hok, hlen⟩ := blk_ok hB0 HI.out hmp
  have HI2 : Hid (BlIn w10 x bs) := HI.out.no HF.out.kept
  have hg : w.heap.size ≤ g9 := (HF.out.low 2 _ _ _ rfl).elim id False.elim
  have HF : Hid (Kf (rSink w.heap.size g9 (blkIts x bs) hok hlen) w w10 none ([] ++ []) [(g1, 73, Bl.cells x), (g3, 24, Cg.cells c)]) := Fq.sink HF.out (tys_ok rfl)
  refine tK (pg g9 0) <| WL.nil <| ?_
  try simp only [pS]
  go_upto_region 6 with fail
  refine WL.start <| tK (pg g9 0) <| tK (pg g1 0) <| kP (Sp.cs x.s) HF 0 0 U34 S34 (Bl.cs x) rfl <| kC ([It.n x.s.n, It.n x.s.c]) HF (fun a0 h0 => r_stamp x.s _ a0 _ h0 (by first | exact List.prefix_rfl | exact pl List.prefix_rfl | exact pl (pl List.prefix_rfl) | exact pl (pl (pl List.prefix_rfl)))) fun w11 HF => ?_
  try simp only [pS]
  have HF : Hid (Kf (rSink w.heap.size g9 (blkIts x bs) hok hlen) w w11 none ([] ++ [It.n x.s.n, It.n x.s.c]) [(g1, 73, Bl.cells x), (g3, 24, Cg.cells c)]) := HF
  refine WL.nil <| ?_
  try simp only [pS]
  go_upto_region 7 with fail
  refine WL.start <| tK (pg g9 0) <| tK (pg g1 2) <| kD (x.d.v) HF 0 2 U35 rfl <| kC ([It.b bs]) HF (fun a0 h0 => r_bytes x.d bs _ a0 _ h0 (by first | exact List.prefix_rfl | exact pl List.prefix_rfl | exact pl (pl List.prefix_rfl) | exact pl (pl (pl List.prefix_rfl))) (HI.out.b.no (Kf.keptNo HF.out hg)) (fun h0 k hk => .inl (low_B HI.out.b h0 k hk))) fun w12 HF => ?_
  try simp only [pS]
  have HF : Hid (Kf (rSink w.heap.size g9 (blkIts x bs) hok hlen) w w12 none ([] ++ ([It.n x.s.n, It.n x.s.c] ++ [It.b bs])) [(g1, 73, Bl.cells x), (g3, 24, Cg.cells c)]) := HF
  refine WL.nil <| ?_
  try simp only [pS]
  go_upto_region 8 with fail
  refine WL.start <| tK (pg g9 0) <| ?_
  try simp only [pS]
  have HF : Hid (Kf (rSink w.heap.size g9 (blkIts x bs) hok hlen) w w12 none (blkIts x bs) [(g1, 73, Bl.cells x), (g3, 24, Cg.cells c)]) := HF
  obtain ⟨a1, h1, _⟩ := HF.out.st
  have HK : Hid (Kept No w w12) := Kf.keptNo HF.out hg
  clear HF
  refine cD (r_done _ a1 h1) HK.out fun s13 w14 HK HR hs => tK (s13.v) <| tK (.int .i64 0) <| WL.nil <| ?_
  try simp only [pS]
  have hv : jdg (cfgP c zs) (blkB c.bl x bs) 1 = 0 := by simp only [jdg, cond_true, cond_false, q1, q2]
  have he : encR (cfgP c zs && blkB c.bl x bs) (blkIts x bs) = Wi.sealOf (encB (blkIts x bs)) := by simp only [encR, cond_true, cond_false, Bool.and_true, Bool.and_false, Bool.true_and, Bool.false_and, q1, q2]
  go_wp2
  rw [HC.out, hv, he]
  exact ⟨s13, rfl, HR.out, hs, HK.out⟩
theorem r_PkI0 (x : In) (c : Cg) (zs : List Int) (w : World) (hc : CgIn w c zs) (hm : InIn w x) : Calls Tryz.prog 32 #[.agg (In.cells x), .agg (Cg.cells c)] w (EncO w (jdg (cfgP c zs) (insR c.bl x) 1) (encR (cfgP c zs && insR c.bl x) (insIts x))) := by
  refine hidC fun C HC => ?_
  have HCg : Hid (CgIn w c zs) := hc
  have HI : Hid (InIn w x) := hm
  clear hc hm
  have HF : Hid (Fq No w w []) := Fq.start _ _
  go_enter Tryz.func32, Tryz.ntmps32
  go_upto_region 0 with fail
  refine WL.start <| xB (In.cells x) HF fun g1 w2 HF => xB (Cg.cells c) HF fun g3 w4 HF => tK (.slice none 0 0) <| tK (.int .i64 0) <| WL.nil <| ?_
  try simp only [pS]
  go_upto_region 1 with fail
  refine WL.start <| lP (Cg.cs c) HF 1 0 U24 S24 (Cg.cs c) rfl <| ?_
  try simp only [pS]
  cases q1 : (cfgP c zs)
  ·skip
   refine cB (cfg_is c zs _ (HCg.out.no HF.out.kept)) q1 HF fun w5 HF => tK (.bool true) <| WL.nil <| ?_
   try simp only [pS]
   go_upto_region 2 with fail
   refine WL.start <| tK (.slice none 0 0) <| tK (.int .i64 20) <| WL.nil <| ?_
   try simp only [pS]
   have hv : jdg (cfgP c zs) (insR c.bl x) 1 = 20 := by simp only [jdg, cond_true, cond_false, q1]
   have he : encR (cfgP c zs && insR c.bl x) (insIts x) = [] := by simp only [encR, cond_true, cond_false, Bool.and_true, Bool.and_false, Bool.true_and, Bool.false_and, q1]
   go_wp2
   rw [HC.out, hv, he]
   exact ⟨slZ, rfl, RdB.nilS _, Nat.zero_le _, HF.out.kept⟩
  refine cB (cfg_is c zs _ (HCg.out.no HF.out.kept)) q1 HF fun w6 HF => tK (.bool false) <| WL.nil <| ?_
  try simp only [pS]
  go_upto_region 3 with fail
  refine WL.start <| lP (In.cs x) HF 0 0 U78 S78 (In.cs x) rfl <| lP (Cg.cs c) HF 1 0 U24 S24 (Cg.cs c) rfl <| ?_
  try simp only [pS]
  cases q2 : (insR c.bl x)
  ·skip
   refine cB (r_IsInstance x c _ (cfg_bl q1)) q2 HF fun w7 HF => tK (.bool true) <| WL.nil <| ?_
   try simp only [pS]
   go_upto_region 4 with fail
   refine WL.start <| tK (.slice none 0 0) <| tK (.int .i64 1) <| WL.nil <| ?_
   try simp only [pS]
   have hv : jdg (cfgP c zs) (insR c.bl x) 1 = 1 := by simp only [jdg, cond_true, cond_false, q1, q2]
   have he : encR (cfgP c zs && insR c.bl x) (insIts x) = [] := by simp only [encR, cond_true, cond_false, Bool.and_true, Bool.and_false, Bool.true_and, Bool.false_and, q1, q2]
   go_wp2
   rw [HC.out, hv, he]
   exact ⟨slZ, rfl, RdB.nilS _, Nat.zero_le _, HF.out.kept⟩
  refine cB (r_IsInstance x c _ (cfg_bl q1)) q2 HF fun w8 HF => tK (.bool false) <| WL.nil <| ?_
  try simp only [pS]
  go_upto_region 5 with fail
  refine WL.start <| bD (#[.slice none 0 0]) <| xB (#[.slice none 0 0]) HF fun g9 w10 HF => ?_
  try simp only [pS]
  have hB := cfgP_bd q1
  have hB0 := cfg_bl q1
  have hr0 : c.rm ≤ 256 := by omega
  have hmp : insP c.bl x = true := (by rw [ins_eq]; exact q2)
  obtain ⟨hok, hlen⟩ := ins_ok hB0 hmp
  have HI2 : Hid (InIn w10 x) := HI.out.no HF.out.kept
  have hg : w.heap.size ≤ g9 := (HF.out.low 2 _ _ _ rfl).elim id False.elim
  have HF : Hid (Kf (rSink w.heap.size g9 (insIts x) hok hlen) w w10 none ([] ++ []) [(g1, 78, In.cells x), (g3, 24, Cg.cells c)]) := Fq.sink HF.out (tys_ok rfl)
  refine tK (pg g9 0) <| WL.nil <| ?_
  try simp only [pS]
  go_upto_region 6 with fail
  refine WL.start <| tK (pg g9 0) <| tK (pg g1 0) <| kP (Sp.cs x.p) HF 0 0 U34 S34 (In.cs x) rfl <| kC ([It.n x.p.n, It.n x.p.c]) HF (fun a0 h0 => r_stamp x.p _ a0 _ h0 (by first | exact List.prefix_rfl | exact pl List.prefix_rfl | exact pl (pl List.prefix_rfl) | exact pl (pl (pl List.prefix_rfl)))) fun w11 HF => ?_
  try simp only [pS]
  have HF : Hid (Kf (rSink w.heap.size g9 (insIts x) hok hlen) w w11 none ([] ++ [It.n x.p.n, It.n x.p.c]) [(g1, 78, In.cells x), (g3, 24, Cg.cells c)]) := HF
  refine WL.nil <| ?_
  try simp only [pS]
  go_upto_region 7 with fail
  refine WL.start <| tK (pg g9 0) <| tK (pg g1 2) <| kP (Sp.cs x.a) HF 0 2 U34 S34 (In.cs x) rfl <| kC ([It.n x.a.n, It.n x.a.c]) HF (fun a0 h0 => r_stamp x.a _ a0 _ h0 (by first | exact List.prefix_rfl | exact pl List.prefix_rfl | exact pl (pl List.prefix_rfl) | exact pl (pl (pl List.prefix_rfl)))) fun w12 HF => ?_
  try simp only [pS]
  have HF : Hid (Kf (rSink w.heap.size g9 (insIts x) hok hlen) w w12 none ([] ++ ([It.n x.p.n, It.n x.p.c] ++ [It.n x.a.n, It.n x.a.c])) [(g1, 78, In.cells x), (g3, 24, Cg.cells c)]) := HF
  refine WL.nil <| ?_
  try simp only [pS]
  go_upto_region 8 with fail
  refine WL.start <| tK (pg g9 0) <| tK (pg g1 4) <| kP (Cm.cs x.c) HF 0 4 U39 S39 (In.cs x) rfl <| kC (cmdIts x.c) HF (fun a0 h0 => r_command x.c _ a0 _ h0 (by first | exact List.prefix_rfl | exact pl List.prefix_rfl | exact pl (pl List.prefix_rfl) | exact pl (pl (pl List.prefix_rfl)))) fun w13 HF => ?_
  try simp only [pS]
  have HF : Hid (Kf (rSink w.heap.size g9 (insIts x) hok hlen) w w13 none ([] ++ (([It.n x.p.n, It.n x.p.c] ++ [It.n x.a.n, It.n x.a.c]) ++ cmdIts x.c)) [(g1, 78, In.cells x), (g3, 24, Cg.cells c)]) := HF
  refine WL.nil <| ?_
  try simp only [pS]
  go_upto_region 9 with fail
  refine WL.start <| tK (pg g9 0) <| tK (pg g1 13) <| kD (.bool x.d) HF 0 13 U4 rfl <| kC ([It.n (bif x.d then 1 else 0)]) HF (fun a0 h0 => r_flag x.d _ a0 _ h0 (by first | exact List.prefix_rfl | exact pl List.prefix_rfl | exact pl (pl List.prefix_rfl) | exact pl (pl (pl List.prefix_rfl)))) fun w14 HF => ?_
  try simp only [pS]
  have HF : Hid (Kf (rSink w.heap.size g9 (insIts x) hok hlen) w w14 none ([] ++ ((([It.n x.p.n, It.n x.p.c] ++ [It.n x.a.n, It.n x.a.c]) ++ cmdIts x.c) ++ [It.n (bif x.d then 1 else 0)])) [(g1, 78, In.cells x), (g3, 24, Cg.cells c)]) := HF
  refine WL.nil <| ?_
  try simp only [pS]
  go_upto_region 10 with fail
  refine WL.start <| tK (pg g9 0) <| ?_
  try simp only [pS]
  have HF : Hid (Kf (rSink w.heap.size g9 (insIts x) hok hlen) w w14 none (insIts x) [(g1, 78, In.cells x), (g3, 24, Cg.cells c)]) := HF
  obtain ⟨a1, h1, _⟩ := HF.out.st
  have HK : Hid (Kept No w w14) := Kf.keptNo HF.out hg
  clear HF
  refine cD (r_done _ a1 h1) HK.out fun s15 w16 HK HR hs => tK (s15.v) <| tK (.int .i64 0) <| WL.nil <| ?_
  try simp only [pS]
  have hv : jdg (cfgP c zs) (insR c.bl x) 1 = 0 := by simp only [jdg, cond_true, cond_false, q1, q2]
  have he : encR (cfgP c zs && insR c.bl x) (insIts x) = Wi.sealOf (encB (insIts x)) := by simp only [encR, cond_true, cond_false, Bool.and_true, Bool.and_false, Bool.true_and, Bool.false_and, q1, q2]
  go_wp2
  rw [HC.out, hv, he]
  exact ⟨s15, rfl, HR.out, hs, HK.out⟩
theorem r_PkK0 (x : Bv) (es : List En) (ls : List La) (c : Cg) (zs : List Int) (w : World) (hc : CgIn w c zs) (hm : BkIn w x es ls) : Calls Tryz.prog 34 #[.agg (Bv.cells x), .agg (Cg.cells c)] w (EncO w (jdg (cfgP c zs) (bktR c.bl c.rm x es ls) 1) (encR (cfgP c zs && bktR c.bl c.rm x es ls) (bktIts x es ls))) := by
  refine hidC fun C HC => ?_
  have HCg : Hid (CgIn w c zs) := hc
  have HI : Hid (BkIn w x es ls) := hm
  clear hc hm
  have HF : Hid (Fq No w w []) := Fq.start _ _
  go_enter Tryz.func34, Tryz.ntmps34
  go_upto_region 0 with fail
  refine WL.start <| xB (Bv.cells x) HF fun g1 w2 HF => xB (Cg.cells c) HF fun g3 w4 HF => tK (.slice none 0 0) <| tK (.int .i64 0) <| WL.nil <| ?_
  try simp only [pS]
  go_upto_region 1 with fail
  refine WL.start <| lP (Cg.cs c) HF 1 0 U24 S24 (Cg.cs c) rfl <| ?_
  try simp only [pS]
  cases q1 : (cfgP c zs)
  ·skip
   refine cB (cfg_is c zs _ (HCg.out.no HF.out.kept)) q1 HF fun w5 HF => tK (.bool true) <| WL.nil <| ?_
   try simp only [pS]
   go_upto_region 2 with fail
   refine WL.start <| tK (.slice none 0 0) <| tK (.int .i64 20) <| WL.nil <| ?_
   try simp only [pS]
   have hv : jdg (cfgP c zs) (bktR c.bl c.rm x es ls) 1 = 20 := by simp only [jdg, cond_true, cond_false, q1]
   have he : encR (cfgP c zs && bktR c.bl c.rm x es ls) (bktIts x es ls) = [] := by simp only [encR, cond_true, cond_false, Bool.and_true, Bool.and_false, Bool.true_and, Bool.false_and, q1]
   go_wp2
   rw [HC.out, hv, he]
   exact ⟨slZ, rfl, RdB.nilS _, Nat.zero_le _, HF.out.kept⟩
  refine cB (cfg_is c zs _ (HCg.out.no HF.out.kept)) q1 HF fun w6 HF => tK (.bool false) <| WL.nil <| ?_
  try simp only [pS]
  go_upto_region 3 with fail
  refine WL.start <| lP (Bv.cs x) HF 0 0 U43 S43 (Bv.cs x) rfl <| lP (Cg.cs c) HF 1 0 U24 S24 (Cg.cs c) rfl <| ?_
  try simp only [pS]
  cases q2 : (bktR c.bl c.rm x es ls)
  ·skip
   refine cB (r_IsBucket x es ls c _ (cfg_bl q1) (HI.out.e.no HF.out.kept) (HI.out.l.no HF.out.kept) (by have := HI.out.ne; omega) (by have := HI.out.nl; omega)) q2 HF fun w7 HF => tK (.bool true) <| WL.nil <| ?_
   try simp only [pS]
   go_upto_region 4 with fail
   refine WL.start <| tK (.slice none 0 0) <| tK (.int .i64 1) <| WL.nil <| ?_
   try simp only [pS]
   have hv : jdg (cfgP c zs) (bktR c.bl c.rm x es ls) 1 = 1 := by simp only [jdg, cond_true, cond_false, q1, q2]
   have he : encR (cfgP c zs && bktR c.bl c.rm x es ls) (bktIts x es ls) = [] := by simp only [encR, cond_true, cond_false, Bool.and_true, Bool.and_false, Bool.true_and, Bool.false_and, q1, q2]
   go_wp2
   rw [HC.out, hv, he]
   exact ⟨slZ, rfl, RdB.nilS _, Nat.zero_le _, HF.out.kept⟩
  refine cB (r_IsBucket x es ls c _ (cfg_bl q1) (HI.out.e.no HF.out.kept) (HI.out.l.no HF.out.kept) (by have := HI.out.ne; omega) (by have := HI.out.nl; omega)) q2 HF fun w8 HF => tK (.bool false) <| WL.nil <| ?_
  try simp only [pS]
  go_upto_region 5 with fail
  refine WL.start <| bD (#[.slice none 0 0]) <| xB (#[.slice none 0 0]) HF fun g9 w10 HF => ?_
  try simp only [pS]
  have hB := cfgP_bd q1
  have hB0 := cfg_bl q1
  have hr0 : c.rm ≤ 256 := by omega
  have hmp : bktP c.bl c.rm x es ls = true := (by rw [bkt_eq (by have := hB.2; omega) HI.out.e.len HI.out.l.len]; exact q2)
  obtain ⟨hok, hlen⟩ := bktK_ok hB0 hr0 HI.out hmp
  have HI2 : Hid (BkIn w10 x es ls) := HI.out.no HF.out.kept
  have hg : w.heap.size ≤ g9 := (HF.out.low 2 _ _ _ rfl).elim id False.elim
  have HF : Hid (Kf (rSink w.heap.size g9 (bktIts x es ls) hok hlen) w w10 none ([] ++ []) [(g1, 43, Bv.cells x), (g3, 24, Cg.cells c)]) := Fq.sink HF.out (tys_ok rfl)
  refine tK (pg g9 0) <| WL.nil <| ?_
  try simp only [pS]
  go_upto_region 6 with fail
  refine WL.start <| tK (pg g9 0) <| kP (Bv.cs x) HF 0 0 U43 S43 (Bv.cs x) rfl <| kC (bktIts x es ls) HF (fun a0 h0 => r_bucket x es ls _ a0 _ h0 (by first | exact List.prefix_rfl | exact pl List.prefix_rfl | exact pl (pl List.prefix_rfl) | exact pl (pl (pl List.prefix_rfl))) HI2.out.e HI2.out.l (low_E HI.out.e) (low_L HI.out.l) (by have := HI.out.ne; omega) (by have := HI.out.nl; omega)) fun w11 HF => ?_
  try simp only [pS]
  have HF : Hid (Kf (rSink w.heap.size g9 (bktIts x es ls) hok hlen) w w11 none ([] ++ bktIts x es ls) [(g1, 43, Bv.cells x), (g3, 24, Cg.cells c)]) := HF
  refine WL.nil <| ?_
  try simp only [pS]
  go_upto_region 7 with fail
  refine WL.start <| tK (pg g9 0) <| ?_
  try simp only [pS]
  have HF : Hid (Kf (rSink w.heap.size g9 (bktIts x es ls) hok hlen) w w11 none (bktIts x es ls) [(g1, 43, Bv.cells x), (g3, 24, Cg.cells c)]) := HF
  obtain ⟨a1, h1, _⟩ := HF.out.st
  have HK : Hid (Kept No w w11) := Kf.keptNo HF.out hg
  clear HF
  refine cD (r_done _ a1 h1) HK.out fun s12 w13 HK HR hs => tK (s12.v) <| tK (.int .i64 0) <| WL.nil <| ?_
  try simp only [pS]
  have hv : jdg (cfgP c zs) (bktR c.bl c.rm x es ls) 1 = 0 := by simp only [jdg, cond_true, cond_false, q1, q2]
  have he : encR (cfgP c zs && bktR c.bl c.rm x es ls) (bktIts x es ls) = Wi.sealOf (encB (bktIts x es ls)) := by simp only [encR, cond_true, cond_false, Bool.and_true, Bool.and_false, Bool.true_and, Bool.false_and, q1, q2]
  go_wp2
  rw [HC.out, hv, he]
  exact ⟨s12, rfl, HR.out, hs, HK.out⟩
theorem r_PkI (x : In) (c : Cg) (zs : List Int) (w : World) (hc : CgIn w c zs) (hm : InIn w x) : Calls Tryz.prog 32 #[.agg (In.cells x), .agg (Cg.cells c)] w (EncO w (jdg (cfgP c zs) (insP c.bl x) 1) (encR (cfgP c zs && insP c.bl x) (insIts x))) := by
  rw [ins_eq]; exact r_PkI0 x c zs w hc hm
theorem and_bkt (c : Cg) (zs : List Int) (x : Bv) (es : List En) (ls : List La) (he : es.length = x.e.l) (hl : ls.length = x.l.l) :
    (cfgP c zs && bktR c.bl c.rm x es ls) = (cfgP c zs && bktP c.bl c.rm x es ls) := by
  cases hq : cfgP c zs with
  | false => rfl
  | true => rw [bkt_eq (by have := (cfgP_bd hq).2; omega) he hl]
theorem r_PkK (x : Bv) (es : List En) (ls : List La) (c : Cg) (zs : List Int) (w : World) (hc : CgIn w c zs) (hm : BkIn w x es ls) : Calls Tryz.prog 34 #[.agg (Bv.cells x), .agg (Cg.cells c)] w (EncO w (jdg (cfgP c zs) (bktP c.bl c.rm x es ls) 1) (encR (cfgP c zs && bktP c.bl c.rm x es ls) (bktIts x es ls))) := by
  rw [← jdgK c zs x es ls 1 hm.e.len hm.l.len, ← and_bkt c zs x es ls hm.e.len hm.l.len]; exact r_PkK0 x es ls c zs w hc hm
def lnBl (x : Bl) (g : Nat) : Bl := ⟨x.s, ⟨some ⟨g, 0, none⟩, x.d.l, x.d.l + 3⟩⟩
theorem BlIn.lent {w w0 : World} {x : Bl} {bs : List Int} {g : Nat} (h : BlIn w0 x bs) (h1 : Box w g 5 (u8L (bs ++ mk3 3)).toArray) : BlIn w (lnBl x g) bs := ⟨RdB.lent h1 h.b.len, h.nb, h.u⟩
structure RdO (w : World) (s : Sl) (xs : List Bl) : Prop where
  row : RowsAt 3 w s.a (xs.map Bl.cs)
  len : xs.length = s.l
structure RdN (w : World) (s : Sl) (xs : List In) : Prop where
  row : RowsAt 14 w s.a (xs.map In.cs)
  len : xs.length = s.l
def blZ' : Bl := ⟨spZ, slZ⟩
def inZ' : In := ⟨spZ, spZ, cZ, false⟩
def oAt (xs : List Bl) (i : Nat) : Bl := xs[i]?.getD blZ'
def nAt (xs : List In) (i : Nat) : In := xs[i]?.getD inZ'
theorem RdO.at' {w : World} {s : Sl} {es : List Bl} (h : RdO w s es) {i : Nat} (hi : i < s.l) : ∃ b off, s.v = .slice (some ⟨b, off, none⟩) s.l s.k ∧ ∀ (j : Nat) v, (oAt es i).cs[j]? = some v → w.cell? ⟨b, off + i * 3 + j, none⟩ = some v := by
  obtain ⟨b, off, ha, hc⟩ := h.row i (oAt es i).cs (by rw [List.getElem?_map, show es[i]? = some (oAt es i) by simp [oAt, List.getElem?_eq_getElem (show i < es.length by rw [h.len]; exact hi)]]; rfl)
  exact ⟨b, off, by unfold Sl.v; rw [ha], hc⟩
theorem RdN.at' {w : World} {s : Sl} {es : List In} (h : RdN w s es) {i : Nat} (hi : i < s.l) : ∃ b off, s.v = .slice (some ⟨b, off, none⟩) s.l s.k ∧ ∀ (j : Nat) v, (nAt es i).cs[j]? = some v → w.cell? ⟨b, off + i * 14 + j, none⟩ = some v := by
  obtain ⟨b, off, ha, hc⟩ := h.row i (nAt es i).cs (by rw [List.getElem?_map, show es[i]? = some (nAt es i) by simp [nAt, List.getElem?_eq_getElem (show i < es.length by rw [h.len]; exact hi)]]; rfl)
  exact ⟨b, off, by unfold Sl.v; rw [ha], hc⟩
section
variable {ops : Array Oper} {a : Act} {w : World} {Q : Exit → Act → World → Prop} {md : Region.Mode} {SS : World → Prop} {S : Nat → Prop} {w0 : World} {lA lB : List (Nat × TypeId × Array Value)} {fuel : Nat} {listed : Array Bool}
def EntH (ops : Array Oper) (Q : Exit → Act → World → Prop) (md : Region.Mode) (SS : World → Prop) (fuel : Nat) (listed : Array Bool) (a : Act) (w : World) (i : Nat) : Prop :=
  wpOp Tryz.prog ops Q i (fun a' w' => SS w' ∧ wpAnyH Tryz.prog md ops Q SS fuel (listed.setIfInBounds i true) a' w') a w
theorem y1 (i : Nat) (h1 : EntH ops Q md SS fuel listed a w i) (hr : Region.ready md ops listed = [i] := by kernel_rfl) : wpAnyH Tryz.prog md ops Q SS (fuel + 1) listed a w :=
  wpAnyH_ready hr (by simp) (fun k hk => by
    rcases List.mem_cons.1 hk with rfl | hk
    · exact h1
    · cases hk)
theorem y2 (i j : Nat) (h1 : EntH ops Q md SS fuel listed a w i) (h2 : EntH ops Q md SS fuel listed a w j) (hr : Region.ready md ops listed = [i, j] := by kernel_rfl) : wpAnyH Tryz.prog md ops Q SS (fuel + 1) listed a w :=
  wpAnyH_ready hr (by simp) (fun k hk => by
    rcases List.mem_cons.1 hk with rfl | hk
    · exact h1
    · rcases List.mem_cons.1 hk with rfl | hk
      · exact h2
      · cases hk)
end
end Go.Proofs.YtgdnofacgfjaeaaGreat.Md
namespace Go.Proofs.YtgdnofacgfjaeaaGreat.Wi
open Go.RowKit
set_option linter.unusedVariables false
theorem byt_at {zs : List Int} (h8 : U8 zs) (i : Nat) : zs[i]?.getD 0 = (byt zs i : Int) := by have := h8 i; unfold byt; omega
theorem vrGo_form {zs : List Int} (h8 : U8 zs) {u k : Nat} : ∀ f i, i + f = 10 → vrGo zs i f = .ok (u, k) → ∃ v, u = acc zs i + v * 128 ^ i ∧ i < k ∧ (zs.drop i).take (k - i) = vint v ∧ (0 < i → 0 < v) := by
  intro f
  induction f with
  | zero => intro i _ h; simp [vrGo] at h
  | succ f ih =>
    intro i hi h
    rw [vrGo] at h
    split at h
    · cases h
    · rename_i hlen
      have hcons : zs.drop i = (byt zs i : Int) :: zs.drop (i + 1) := by
        rw [List.drop_eq_getElem_cons (by omega)]
        congr 1
        have := byt_at h8 i
        rw [List.getElem?_eq_getElem (by omega)] at this
        exact this
      split at h
      · rename_i hb
        split at h
        · cases h
        · rename_i hg
          simp only [Except.ok.injEq, Prod.mk.injEq] at h
          obtain ⟨rfl, rfl⟩ := h
          refine ⟨byt zs i, by rw [acc, Nat.mod_eq_of_lt hb], by omega, ?_, fun h0 => by omega⟩
          rw [hcons, show i + 1 - i = 1 from by omega, vint_lo hb]; rfl
      · rename_i hb
        obtain ⟨v, h1, h2, h3, h4⟩ := ih (i + 1) (by omega) h
        have hv := h4 (by omega)
        have hb255 : byt zs i ≤ 255 := by have := h8 i; unfold byt; omega
        refine ⟨byt zs i % 128 + 128 * v, ?_, by omega, ?_, fun _ => by omega⟩
        · rw [h1, acc, Nat.pow_succ, Nat.add_mul, Nat.add_assoc]
          congr 2
          rw [Nat.mul_comm (128 ^ i) 128, ← Nat.mul_assoc, Nat.mul_comm v 128]
        · rw [hcons, show k - i = (k - (i + 1)) + 1 from by omega, List.take_succ_cons, h3, vint_hi (u := byt zs i % 128 + 128 * v) (by omega)]
          have e1 : (byt zs i % 128 + 128 * v) / 128 = v := by omega
          have e2 : (byt zs i % 128 + 128 * v) % 128 + 128 = byt zs i := by omega
          rw [e1, e2]
theorem vr_form {zs : List Int} (h8 : U8 zs) {u k : Nat} (h : vr zs = .ok (u, k)) : zs.take k = vint u := by
  obtain ⟨v, h1, h2, h3, _⟩ := vrGo_form h8 10 0 rfl h
  have : u = v := by simpa [acc] using h1
  rw [this]
  simpa using h3
def readS (st : RS) (k : Int) : RS × Int × List Int :=
  if k = 1 then ((numS st).1, (numS st).2, []) else if k = 2 then ((intS st).1, (intS st).2, []) else ((bytesS st).1, 0, (bytesS st).2)
theorem read_blocks {w w1 : World} {g : Nat} {k : Int} (hg : g < w.heap.size) (hk : Kept (Only g) ((w.alloc (Obj.cells #[.int .i64 0, .int .i64 0, .slice none 0 0] 182)).alloc (Obj.cells #[.int .i64 k, .int .i64 0, .slice none 0 0] 182)) w1) :
    w1.heap[w.heap.size]? = some (.cells #[.int .i64 0, .int .i64 0, .slice none 0 0] 182 (0, 0)) ∧ w1.heap[w.heap.size + 1]? = some (.cells #[.int .i64 k, .int .i64 0, .slice none 0 0] 182 (0, 0)) := by
  constructor
  · rw [hk.block _ (by rw [World.heap_size_alloc1, World.heap_size_alloc1]; omega) (fun e => by have e' : w.heap.size = g := e; omega)]
    rw [Below.heap_alloc _ _ _ (by rw [World.heap_size_alloc1]; omega)]
    exact heap_new _ _
  · rw [hk.block _ (by rw [World.heap_size_alloc1, World.heap_size_alloc1]; omega) (fun e => by have e' : w.heap.size + 1 = g := e; omega)]
    exact heap_new1 _ _ _
def Fresh2 (B : Nat) : Nat → Prop := fun i => i = B ∨ i = B + 1
structure Rr (w : World) (g : Nat) (ba : Option Addr) (bc : Nat) (bs : List Int) (at_ : Nat) (e p : Int) : Prop where
  cell : w.heap[g]? = some (.cells #[.slice ba bs.length bc, .int .i64 (at_ : Int), .int .i64 e, .int .i64 p] 172 (0, 0))
  sl : Sl w ba bs.length bc bs
  le : at_ ≤ bs.length
theorem Rr.lt {w : World} {g : Nat} {ba : Option Addr} {bc : Nat} {bs : List Int} {at_ : Nat} {e p : Int} (h : Rr w g ba bc bs at_ e p) : g < w.heap.size := (Array.getElem?_eq_some_iff.1 h.cell).1
theorem Rr.kept {S : Nat → Prop} {w w' : World} {g : Nat} {ba : Option Addr} {bc : Nat} {bs : List Int} {at_ : Nat} {e p : Int} (h : Rr w g ba bc bs at_ e p) (hk : Kept S w w') (hg : ¬ S g) (hS : 0 < bs.length → ∀ k, At ba k → ¬ S k) : Rr w' g ba bc bs at_ e p :=
  ⟨(hk.block g h.lt hg).trans h.cell, h.sl.kept2 hk hS, h.le⟩
theorem Rr.no {w w' : World} {g : Nat} {ba : Option Addr} {bc : Nat} {bs : List Int} {at_ : Nat} {e p : Int} (h : Rr w g ba bc bs at_ e p) (hk : Kept No w w') : Rr w' g ba bc bs at_ e p := h.kept hk (fun e => e) (fun _ _ _ e => e)
theorem Rr.ne {w : World} {g : Nat} {ba : Option Addr} {bc : Nat} {bs : List Int} {at_ : Nat} {e p : Int} (h : Rr w g ba bc bs at_ e p) (h0 : 0 < bs.length) {k : Nat} (hk : At ba k) : k ≠ g := by
  rintro rfl
  obtain ⟨b, off, rfl, hc⟩ := h.sl.bytes 0 h0
  obtain ⟨ad, e', e2⟩ := hk
  cases e'
  simp only at e2
  subst e2
  rw [cell_of_row w b (off + 0) _ 172 (0, 0) h.cell] at hc
  match off, hc with
  | 0, hc => simp at hc
  | 1, hc => simp at hc
  | 2, hc => simp at hc
  | 3, hc => simp at hc
  | n + 4, hc => simp at hc
set_option maxRecDepth 1000000 in
set_option maxHeartbeats 400000 in
theorem fail_any (g : Nat) (ba : Option Addr) (bc : Nat) (bs : List Int) (at_ : Nat) (e p c q : Int) (w : World) (h : Rr w g ba bc bs at_ e p) :
    Calls Tryz.prog 222 #[.pointer (some ⟨g, 0, none⟩), .int .i64 c, .int .i64 q] w fun e' w' => e' = .returned (.tuple #[]) ∧ Rr w' g ba bc bs at_ c q ∧ Kept (Only g) w w' := by
  have HR : Hid (Rr w g ba bc bs at_ e p) := h
  have c2 : w.cell? ⟨g, 2, none⟩ = some (.int .i64 e) := by rw [cell_of_row w g 2 _ 172 (0, 0) h.cell]; rfl
  have c3 : w.cell? ⟨g, 3, none⟩ = some (.int .i64 p) := by rw [cell_of_row w g 3 _ 172 (0, 0) h.cell]; rfl
  have f2 := frozen_of_row w g 2 _ 172 h.cell
  have f3 := frozen_of_row w g 3 _ 172 h.cell
  clear h
  go_enter Tryz.func222, Tryz.ntmps222
  go_wp2
  go_end0
  have hK : Kept (Only g) w ((w.setCell ⟨g, 2, none⟩ (.int .i64 c)).setCell ⟨g, 3, none⟩ (.int .i64 q)) :=
    ((Kept.refl (Only g) w).setCell (p := ⟨g, 2, none⟩) (fun _ => (rfl : g = g)) _).setCell (p := ⟨g, 3, none⟩) (fun _ => (rfl : g = g)) _
  refine ⟨rfl, ⟨?_, HR.out.sl.kept2 hK (fun h0 k hk e => HR.out.ne h0 hk e), HR.out.le⟩, hK⟩
  have h1 := heap_setCell_same w g 2 _ 172 (.int .i64 c) HR.out.cell
  have h2 := heap_setCell_same _ g 3 _ 172 (.int .i64 q) h1
  rw [h2]; rfl
def rvGo (zs : List Int) (s : Bool) : Nat → Nat → Except Int (Nat × Nat)
  | i, 0 => .error 11
  | i, f + 1 => if zs.length ≤ i then .error 10 else
      if (i = 9 ∧ (1 < byt zs i ∨ s = false)) ∨ (byt zs i = 0 ∧ 0 < i) then .error 11 else
      if byt zs i < 128 then .ok (acc zs (i + 1), i + 1) else rvGo zs s (i + 1) f
def rv (zs : List Int) (s : Bool) : Except Int (Nat × Nat) := rvGo zs s 0 10
theorem rv_step (zs : List Int) (s : Bool) (k : Nat) (h : k < 10) : rvGo zs s k (10 - k) = if zs.length ≤ k then .error 10 else
      if (k = 9 ∧ (1 < byt zs k ∨ s = false)) ∨ (byt zs k = 0 ∧ 0 < k) then .error 11 else
      if byt zs k < 128 then .ok (acc zs (k + 1), k + 1) else rvGo zs s (k + 1) (10 - (k + 1)) := by
  rw [show 10 - k = (10 - (k + 1)) + 1 from by omega, rvGo]
theorem rv_true (zs : List Int) : rv zs true = vr zs := by
  suffices H : ∀ f i, i + f = 10 → rvGo zs true i f = vrGo zs i f from H 10 0 rfl
  intro f
  induction f with
  | zero => intro i _; rfl
  | succ f ih =>
    intro i hi
    rw [rvGo, vrGo, ih (i + 1) (by omega)]
    by_cases h1 : zs.length ≤ i
    · rw [if_pos h1, if_pos h1]
    · rw [if_neg h1, if_neg h1]
      by_cases h2 : byt zs i < 128
      · rw [if_pos h2, if_pos h2]
        by_cases h3 : (0 < i ∧ byt zs i = 0) ∨ (i = 9 ∧ 1 < byt zs i)
        · rw [if_pos h3, if_pos (by simp; omega)]
        · rw [if_neg h3, if_neg (by simp; omega)]
      · rw [if_neg h2, if_neg h2]
        by_cases h9 : i = 9
        · subst h9
          have : f = 0 := by omega
          subst this
          rw [if_pos (by simp; omega)]
          rfl
        · rw [if_neg (by simp; omega)]
theorem rv_false (zs : List Int) : rv zs false = nr zs := by
  suffices H : ∀ f i, i + f = 10 → rvGo zs false i f = (match vrGo zs i f with
      | .error c => .error c
      | .ok (u, k) => if 9223372036854775807 < u then .error 11 else .ok (u, k)) from H 10 0 rfl
  intro f
  induction f with
  | zero => intro i _; rfl
  | succ f ih =>
    intro i hi
    rw [rvGo, vrGo, ih (i + 1) (by omega)]
    by_cases h1 : zs.length ≤ i
    · rw [if_pos h1, if_pos h1]
    · rw [if_neg h1, if_neg h1]
      have ha := acc_lt zs i
      by_cases h9 : i = 9
      · subst h9
        have : f = 0 := by omega
        subst this
        rw [if_pos (by simp)]
        by_cases h2 : byt zs 9 < 128
        · rw [if_pos h2]
          by_cases h3 : (0 < 9 ∧ byt zs 9 = 0) ∨ (9 = 9 ∧ 1 < byt zs 9)
          · rw [if_pos h3]
          · rw [if_neg h3]
            have hb : byt zs 9 = 1 := by omega
            simp only
            rw [acc, hb, if_pos (by omega)]
        · rw [if_neg h2]; rfl
      · by_cases h2 : byt zs i < 128
        · rw [if_pos h2, if_pos h2]
          by_cases h3 : (0 < i ∧ byt zs i = 0) ∨ (i = 9 ∧ 1 < byt zs i)
          · rw [if_pos h3, if_pos (by omega)]
          · rw [if_neg h3, if_neg (by omega)]
            simp only
            have h8 : 128 ^ (i + 1) ≤ 128 ^ 9 := Nat.pow_le_pow_right (by decide) (by omega)
            have := acc_lt zs (i + 1)
            rw [if_neg (by omega)]
        · rw [if_neg h2, if_neg h2, if_neg (by omega)]
end Go.Proofs.YtgdnofacgfjaeaaGreat.Wi
