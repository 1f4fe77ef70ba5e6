import Derived.Test.YtgdnofacgfjaeaaGreatKf
namespace Go.Proofs.YtgdnofacgfjaeaaGreat.Md
set_option maxRecDepth 100000
set_option maxHeartbeats 4000000
open Go.RowKit
set_option linter.unusedVariables false
set_option linter.unusedSimpArgs false
theorem RdE.pre {w : World} {s : Sl} {es : List En} (h : RdE w s es) {b off : Nat} (hsl : s.v = .slice (some ⟨b, off, none⟩) s.l s.k) {i : Nat} (hi : i < s.l) (j : Nat) (v : Value) (hv : (eAt es i).cs[j]? = some v) : w.cell? ⟨b, off + i * 4 + j, none⟩ = some v := by
  obtain ⟨b', off', h1, h2⟩ := h.at' hi
  rw [hsl] at h1
  simp only [Value.slice.injEq, Option.some.injEq, Addr.mk.injEq] at h1
  obtain ⟨⟨rfl, rfl, _⟩, _⟩ := h1
  exact h2 j v hv
theorem RdL.pre {w : World} {s : Sl} {es : List La} (h : RdL w s es) {b off : Nat} (hsl : s.v = .slice (some ⟨b, off, none⟩) s.l s.k) {i : Nat} (hi : i < s.l) (j : Nat) (v : Value) (hv : (lAt es i).cs[j]? = some v) : w.cell? ⟨b, off + i * 7 + j, none⟩ = some v := by
  obtain ⟨b', off', h1, h2⟩ := h.at' hi
  rw [hsl] at h1
  simp only [Value.slice.injEq, Option.some.injEq, Addr.mk.injEq] at h1
  obtain ⟨⟨rfl, rfl, _⟩, _⟩ := h1
  exact h2 j v hv
theorem p_rightEntries (x : Sl) (es : List En) (c : Cg) (w : World) (hb : 0 ≤ c.bl ∧ c.bl ≤ 4096) (he : RdE w x es) (hn : x.l ≤ 281474976710656) : Calls Tryz.prog 110 #[x.v, .agg (Cg.cells c)] w (fun e w' => e = .returned (.bool (entsP c.bl c.rm es)) ∧ Kept No w w') := by
  refine hidC fun C HC => ?_
  have HB : Hid (0 ≤ c.bl ∧ c.bl ≤ 4096) := hb
  clear hb
  have HRE : Hid (RdE w x es) := he
  clear he
  have HF : Hid (Fq No w w []) := Fq.start _ _
  go_enter Tryz.func110, Tryz.ntmps110
  go_upto_region 0 with fail
  refine WL.start <| xB (Cg.cells c) HF fun g1 w2 HF => tK (.bool false) <| WL.nil <| ?_
  try simp only [pS]
  go_upto_region 1 with fail
  refine WL.start <| tK (x.v) <| tK (.int .i64 ((x.l : Nat) : Int)) <| tK (pg g1 5) <| lD (.int .i64 c.rm) HF 0 5 U3 rfl <| ?_
  try simp only [pS]
  cases q1 : (decide (c.rm < ((x.l : Nat) : Int)))
  rotate_left
  ·skip
   refine bN (gI q1) <| WL.nil <| ?_
   try simp only [pS]
   go_upto_region 2 with fail
   refine WL.start <| tK (.bool false) <| WL.nil <| ?_
   try simp only [pS]
   go_wp2
   rw [HC.out]
   exact ⟨ret_bool (by rw [show entsP c.bl c.rm es = false from by simp only [entsP, HRE.out.len, bsq, q1]]), HF.out.kept⟩
  refine bN (gI q1) <| WL.nil <| ?_
  try simp only [pS]
  go_upto_region 3 with fail
  refine WL.start <| tK (.string ⟨#[]⟩) <| WL.nil <| ?_
  try simp only [pS]
  go_upto_region 4 with fail
  refine WL.start <| tK (x.v) <| tK (.int .i64 ((x.l : Nat) : Int)) <| tK (.int .i64 0) <| WL.nil <| ?_
  try simp only [pS]
  go_wp2
  go_loopw [5, 15] (fun v5 v15 wr => ∃ i : Nat, v5 = .string (lastN es i) ∧ v15 = .int .i64 ((i : Nat) : Int) ∧ i ≤ x.l ∧ Hid (∀ j, j < i → entP c.bl es j = true) ∧ Hid (Fq No w wr [(g1, 24, Cg.cells c)])) (fun v5 v15 _ => x.l - (intOf v15).toNat)
  case atStart => exact ⟨0, rfl, by go_num, by omega, fun j hj => absurd hj (Nat.not_lt_zero _), HF⟩
  case round =>
    clear HF
    obtain ⟨i, rfl, rfl, hi, HP, HF⟩ := hrel
    by_cases hlt : i < x.l
    ·skip
     obtain ⟨b, off, hsl, hc⟩ := RdE.at' HRE.out (i := i) (by omega)
     go_upto_region 5 with fail
     refine WL.start <| bN (lI (a := ((i : Nat) : Int)) (b := ((x.l : Nat) : Int)) (decide_eq_true (by omega))) <| WL.nil <| ?_
     try simp only [pS]
     go_upto_region 6 with fail
     refine WL.start <| iS (s := x) (i := i) hsl E40 F40 (by omega) <| lR (load_E (fun j v h => HF.out.kept.cell (hc j v h) (fun e => e))) <| xA (En.cells enZ) Z92 HF fun g3 w4 HF => sB (En.cs (eAt es i)) (En.cs (eAt es i)) HF 1 0 (v := .agg (En.cells (eAt es i))) rfl S92 (En.oneL _) (En.cs enZ) rfl fun w5 HF => WL.nil <| ?_
     try simp only [pS]
     go_upto_region 7 with fail
     refine WL.start <| tK (pg g3 0) <| lD (.string (eAt es i).nm) HF 1 0 U9 rfl <| tK (.string (lastN es i)) <| ?_
     try simp only [pS]
     cases q2 : (ltS (lastN es i) ((eAt es i).nm))
     ·skip
      refine bN (leN0 q2) <| tK (.bool true) <| sK <| sK <| sK <| sK <| tK (.bool true) <| tK (.bool true) <| sK <| sK <| sK <| sK <| tK (.bool true) <| tK (.bool true) <| sK <| sK <| sK <| sK <| sK <| tK (.bool true) <| WL.nil <| ?_
      try simp only [pS]
      go_upto_region 8 with fail
      refine WL.start <| tK (.bool false) <| WL.nil <| ?_
      try simp only [pS]
      go_wp2
      rw [HC.out]
      exact ⟨ret_bool (by rw [show entsP c.bl c.rm es = false from by unfold entsP; rw [rng_f (i := i) (by rw [HRE.out.len]; exact hlt) (by simp only [entP, bsq, q2])]; simp only [bsq]]), HF.out.kept⟩
     refine bN (leN1 q2) <| tK (.bool false) <| tK (pg g3 0) <| lD (.string (eAt es i).nm) HF 1 0 U9 rfl <| ?_
     try simp only [pS]
     cases q3 : (nameP ((eAt es i).nm))
     ·skip
      refine cB (p_rightName ((eAt es i).nm) _) q3 HF fun w6 HF => tK (.bool true) <| tK (.bool true) <| tK (.bool true) <| sK <| sK <| sK <| sK <| tK (.bool true) <| tK (.bool true) <| sK <| sK <| sK <| sK <| sK <| tK (.bool true) <| WL.nil <| ?_
      try simp only [pS]
      go_upto_region 8 with fail
      refine WL.start <| tK (.bool false) <| WL.nil <| ?_
      try simp only [pS]
      go_wp2
      rw [HC.out]
      exact ⟨ret_bool (by rw [show entsP c.bl c.rm es = false from by unfold entsP; rw [rng_f (i := i) (by rw [HRE.out.len]; exact hlt) (by simp only [entP, bsq, q2, q3])]; simp only [bsq]]), HF.out.kept⟩
     refine cB (p_rightName ((eAt es i).nm) _) q3 HF fun w7 HF => tK (.bool false) <| tK (.bool false) <| tK (.bool false) <| tK (pg g3 1) <| lP (Fi.cs ⟨(eAt es i).f0, (eAt es i).f1⟩) HF 1 1 U37 S37 (En.cs (eAt es i)) rfl <| ?_
     try simp only [pS]
     cases q4 : (filB ⟨(eAt es i).f0, (eAt es i).f1⟩)
     ·skip
      refine cB (p_isFile ⟨(eAt es i).f0, (eAt es i).f1⟩ _) q4 HF fun w8 HF => tK (.bool true) <| tK (.bool true) <| tK (.bool true) <| sK <| sK <| sK <| sK <| sK <| tK (.bool true) <| WL.nil <| ?_
      try simp only [pS]
      go_upto_region 8 with fail
      refine WL.start <| tK (.bool false) <| WL.nil <| ?_
      try simp only [pS]
      go_wp2
      rw [HC.out]
      exact ⟨ret_bool (by rw [show entsP c.bl c.rm es = false from by unfold entsP; rw [rng_f (i := i) (by rw [HRE.out.len]; exact hlt) (by simp only [entP, bsq, q2, q3, q4])]; simp only [bsq]]), HF.out.kept⟩
     refine cB (p_isFile ⟨(eAt es i).f0, (eAt es i).f1⟩ _) q4 HF fun w9 HF => tK (.bool false) <| tK (.bool false) <| tK (.bool false) <| tK (pg g3 3) <| lD (.int .i64 (eAt es i).sz) HF 1 3 U3 rfl <| lP (Cg.cs c) HF 0 0 U24 S24 (Cg.cs c) rfl <| ?_
     try simp only [pS]
     cases q5 : (szB c.bl ((eAt es i).sz))
     ·skip
      refine cB (p_rightSize ((eAt es i).sz) c _ HB) q5 HF fun w10 HF => tK (.bool true) <| tK (.bool true) <| WL.nil <| ?_
      try simp only [pS]
      go_upto_region 8 with fail
      refine WL.start <| tK (.bool false) <| WL.nil <| ?_
      try simp only [pS]
      go_wp2
      rw [HC.out]
      exact ⟨ret_bool (by rw [show entsP c.bl c.rm es = false from by unfold entsP; rw [rng_f (i := i) (by rw [HRE.out.len]; exact hlt) (by simp only [entP, bsq, q2, q3, q4, q5])]; simp only [bsq]]), HF.out.kept⟩
     refine cB (p_rightSize ((eAt es i).sz) c _ HB) q5 HF fun w11 HF => tK (.bool false) <| tK (.bool false) <| WL.nil <| ?_
     try simp only [pS]
     go_upto_region 9 with fail
     refine WL.start <| tK (pg g3 0) <| lD (.string (eAt es i).nm) HF 1 0 U9 rfl <| tK (.string (eAt es i).nm) <| WL.nil <| ?_
     try simp only [pS]
     go_upto_region 10 with fail
     refine WL.start <| bN (v := .int .i64 (((i + 1) : Nat) : Int)) (b_addw ((i : Nat) : Int) 1 (((i + 1) : Nat) : Int) (by rw [IntKind.wrap_i64]; omega)) <| tK (.int .i64 (((i + 1) : Nat) : Int)) <| WL.nil <| ?_
     try simp only [pS]
     go_wp2
     go_roundw
     case rel => exact ⟨i + 1, rfl, by go_num, by omega, up_j HP.out (by simp only [entP, bsq, q2, q3, q4, q5]), Fq.front (l := [(g1, 24, Cg.cells c)]) (m := [(g3, 92, En.cells (eAt es i))]) HF⟩
     case measure => simp [intOf]; omega
    ·skip
     go_upto_region 5 with fail
     refine WL.start <| bN (lI (a := ((i : Nat) : Int)) (b := ((x.l : Nat) : Int)) (decide_eq_false (by omega))) <| WL.nil <| ?_
     try simp only [pS]
     go_upto_region 11 with fail
     refine WL.start <| tK (.bool true) <| WL.nil <| ?_
     try simp only [pS]
     go_wp2
     rw [HC.out]
     exact ⟨ret_bool (by rw [show entsP c.bl c.rm es = true from by unfold entsP; rw [rng_t (fun j hj => HP.out j (by rw [HRE.out.len] at hj; omega)), HRE.out.len]; simp only [bsq, q1]]), HF.out.kept⟩
theorem p_rightLasts (x : Sl) (ls : List La) (up : Int) (c : Cg) (w : World) (hb : 0 ≤ c.bl ∧ c.bl ≤ 4096) (he : RdL w x ls) (hn : x.l ≤ 281474976710656) : Calls Tryz.prog 111 #[x.v, .int .i64 up, .agg (Cg.cells c)] w (fun e w' => e = .returned (.bool (lassP c.bl up ls)) ∧ Kept No w w') := by
  refine hidC fun C HC => ?_
  have HB : Hid (0 ≤ c.bl ∧ c.bl ≤ 4096) := hb
  clear hb
  have HRL : Hid (RdL w x ls) := he
  clear he
  have HF : Hid (Fq No w w []) := Fq.start _ _
  go_enter Tryz.func111, Tryz.ntmps111
  go_upto_region 0 with fail
  refine WL.start <| xB (Cg.cells c) HF fun g1 w2 HF => tK (.bool false) <| WL.nil <| ?_
  try simp only [pS]
  go_upto_region 1 with fail
  refine WL.start <| tK (.int .i64 0) <| WL.nil <| ?_
  try simp only [pS]
  go_upto_region 2 with fail
  refine WL.start <| tK (x.v) <| tK (.int .i64 ((x.l : Nat) : Int)) <| tK (.int .i64 0) <| WL.nil <| ?_
  try simp only [pS]
  go_wp2
  go_loopw [7, 12] (fun v7 v12 wr => ∃ i : Nat, v7 = .int .i64 (lastC ls i) ∧ v12 = .int .i64 ((i : Nat) : Int) ∧ i ≤ x.l ∧ Hid (∀ j, j < i → lasP c.bl up ls j = true) ∧ Hid (Fq No w wr [(g1, 24, Cg.cells c)])) (fun v7 v12 _ => x.l - (intOf v12).toNat)
  case atStart => exact ⟨0, rfl, by go_num, by omega, fun j hj => absurd hj (Nat.not_lt_zero _), HF⟩
  case round =>
    clear HF
    obtain ⟨i, rfl, rfl, hi, HP, HF⟩ := hrel
    by_cases hlt : i < x.l
    ·skip
     obtain ⟨b, off, hsl, hc⟩ := RdL.at' HRL.out (i := i) (by omega)
     go_upto_region 3 with fail
     refine WL.start <| bN (lI (a := ((i : Nat) : Int)) (b := ((x.l : Nat) : Int)) (decide_eq_true (by omega))) <| WL.nil <| ?_
     try simp only [pS]
     go_upto_region 4 with fail
     refine WL.start <| iS (s := x) (i := i) hsl E41 F41 (by omega) <| lR (load_L (fun j v h => HF.out.kept.cell (hc j v h) (fun e => e))) <| xA (La.cells laZ) Z94 HF fun g3 w4 HF => sB (La.cs (lAt ls i)) (La.cs (lAt ls i)) HF 1 0 (v := .agg (La.cells (lAt ls i))) rfl S94 (La.oneL _) (La.cs laZ) rfl fun w5 HF => WL.nil <| ?_
     try simp only [pS]
     go_upto_region 5 with fail
     refine WL.start <| tK (pg g3 0) <| lD (.int .i64 (lAt ls i).cl) HF 1 0 U3 rfl <| tK (.int .i64 (lastC ls i)) <| ?_
     try simp only [pS]
     cases q1 : (decide (((lAt ls i).cl) ≤ (lastC ls i)))
     rotate_left
     ·skip
      refine bN (leI q1) <| tK (.bool true) <| sK <| sK <| sK <| sK <| tK (.bool true) <| tK (.bool true) <| sK <| sK <| sK <| sK <| tK (.bool true) <| tK (.bool true) <| sK <| sK <| ?_
      try simp only [pS]
      refine sK <| sK <| sK <| tK (.bool true) <| tK (.bool true) <| sK <| sK <| sK <| sK <| tK (.bool true) <| WL.nil <| ?_
      try simp only [pS]
      go_upto_region 6 with fail
      refine WL.start <| tK (.bool false) <| WL.nil <| ?_
      try simp only [pS]
      go_wp2
      rw [HC.out]
      exact ⟨ret_bool (by rw [show lassP c.bl up ls = false from rng_f (i := i) (by rw [HRL.out.len]; exact hlt) (by simp only [lasP, bsq, q1])]), HF.out.kept⟩
     refine bN (leI q1) <| tK (.bool false) <| tK (pg g3 0) <| lD (.int .i64 (lAt ls i).cl) HF 1 0 U3 rfl <| ?_
     try simp only [pS]
     cases q2 : (wn ((lAt ls i).cl) 1 255)
     ·skip
      refine cB (p_rightId ((lAt ls i).cl) _) q2 HF fun w6 HF => tK (.bool true) <| tK (.bool true) <| tK (.bool true) <| sK <| sK <| sK <| sK <| tK (.bool true) <| tK (.bool true) <| sK <| sK <| sK <| sK <| sK <| tK (.bool true) <| tK (.bool true) <| sK <| sK <| sK <| sK <| tK (.bool true) <| WL.nil <| ?_
      try simp only [pS]
      go_upto_region 6 with fail
      refine WL.start <| tK (.bool false) <| WL.nil <| ?_
      try simp only [pS]
      go_wp2
      rw [HC.out]
      exact ⟨ret_bool (by rw [show lassP c.bl up ls = false from rng_f (i := i) (by rw [HRL.out.len]; exact hlt) (by simp only [lasP, bsq, q1, q2])]), HF.out.kept⟩
     refine cB (p_rightId ((lAt ls i).cl) _) q2 HF fun w7 HF => tK (.bool false) <| tK (.bool false) <| tK (.bool false) <| tK (pg g3 1) <| lD (.int .i64 (lAt ls i).op) HF 1 1 U3 rfl <| ?_
     try simp only [pS]
     cases q3 : (wn ((lAt ls i).op) 1 1099511627776)
     ·skip
      refine cB (p_rightNum ((lAt ls i).op) _) q3 HF fun w8 HF => tK (.bool true) <| tK (.bool true) <| tK (.bool true) <| sK <| sK <| sK <| sK <| sK <| tK (.bool true) <| tK (.bool true) <| sK <| sK <| sK <| sK <| tK (.bool true) <| WL.nil <| ?_
      try simp only [pS]
      go_upto_region 6 with fail
      refine WL.start <| tK (.bool false) <| WL.nil <| ?_
      try simp only [pS]
      go_wp2
      rw [HC.out]
      exact ⟨ret_bool (by rw [show lassP c.bl up ls = false from rng_f (i := i) (by rw [HRL.out.len]; exact hlt) (by simp only [lasP, bsq, q1, q2, q3])]), HF.out.kept⟩
     refine cB (p_rightNum ((lAt ls i).op) _) q3 HF fun w9 HF => tK (.bool false) <| tK (.bool false) <| tK (.bool false) <| tK (pg g3 2) <| lD (.int .i64 (lAt ls i).ins) HF 1 2 U3 rfl <| tK (.int .i64 up) <| ?_
     try simp only [pS]
     cases q4 : (wn ((lAt ls i).ins) 1 up)
     ·skip
      refine cB (p_within ((lAt ls i).ins) 1 up _) q4 HF fun w10 HF => tK (.bool true) <| tK (.bool true) <| tK (.bool true) <| sK <| sK <| sK <| sK <| tK (.bool true) <| WL.nil <| ?_
      try simp only [pS]
      go_upto_region 6 with fail
      refine WL.start <| tK (.bool false) <| WL.nil <| ?_
      try simp only [pS]
      go_wp2
      rw [HC.out]
      exact ⟨ret_bool (by rw [show lassP c.bl up ls = false from rng_f (i := i) (by rw [HRL.out.len]; exact hlt) (by simp only [lasP, bsq, q1, q2, q3, q4])]), HF.out.kept⟩
     refine cB (p_within ((lAt ls i).ins) 1 up _) q4 HF fun w11 HF => tK (.bool false) <| tK (.bool false) <| tK (.bool false) <| lP (La.cs (lAt ls i)) HF 1 0 U94 S94 (La.cs (lAt ls i)) rfl <| lP (Cg.cs c) HF 0 0 U24 S24 (Cg.cs c) rfl <| ?_
     try simp only [pS]
     cases q5 : (ansP c.bl (lAt ls i))
     ·skip
      refine cB (p_rightAnswer (lAt ls i) c _ HB) q5 HF fun w12 HF => tK (.bool true) <| tK (.bool true) <| WL.nil <| ?_
      try simp only [pS]
      go_upto_region 6 with fail
      refine WL.start <| tK (.bool false) <| WL.nil <| ?_
      try simp only [pS]
      go_wp2
      rw [HC.out]
      exact ⟨ret_bool (by rw [show lassP c.bl up ls = false from rng_f (i := i) (by rw [HRL.out.len]; exact hlt) (by simp only [lasP, bsq, q1, q2, q3, q4, q5])]), HF.out.kept⟩
     refine cB (p_rightAnswer (lAt ls i) c _ HB) q5 HF fun w13 HF => tK (.bool false) <| tK (.bool false) <| WL.nil <| ?_
     try simp only [pS]
     go_upto_region 7 with fail
     refine WL.start <| tK (pg g3 0) <| lD (.int .i64 (lAt ls i).cl) HF 1 0 U3 rfl <| tK (.int .i64 (lAt ls i).cl) <| WL.nil <| ?_
     try simp only [pS]
     go_upto_region 8 with fail
     refine WL.start <| bN (v := .int .i64 (((i + 1) : Nat) : Int)) (b_addw ((i : Nat) : Int) 1 (((i + 1) : Nat) : Int) (by rw [IntKind.wrap_i64]; omega)) <| tK (.int .i64 (((i + 1) : Nat) : Int)) <| WL.nil <| ?_
     try simp only [pS]
     go_wp2
     go_roundw
     case rel => exact ⟨i + 1, rfl, by go_num, by omega, up_j HP.out (by simp only [lasP, bsq, q1, q2, q3, q4, q5]), Fq.front (l := [(g1, 24, Cg.cells c)]) (m := [(g3, 94, La.cells (lAt ls i))]) HF⟩
     case measure => simp [intOf]; omega
    ·skip
     go_upto_region 3 with fail
     refine WL.start <| bN (lI (a := ((i : Nat) : Int)) (b := ((x.l : Nat) : Int)) (decide_eq_false (by omega))) <| WL.nil <| ?_
     try simp only [pS]
     go_upto_region 9 with fail
     refine WL.start <| tK (.bool true) <| WL.nil <| ?_
     try simp only [pS]
     go_wp2
     rw [HC.out]
     exact ⟨ret_bool (by rw [show lassP c.bl up ls = true from rng_t (fun j hj => HP.out j (by rw [HRL.out.len] at hj; omega))]), HF.out.kept⟩
theorem p_rightBucket (x : Bv) (es : List En) (ls : List La) (c : Cg) (w : World) (hb : 0 ≤ c.bl ∧ c.bl ≤ 4096) (he : RdE w x.e es) (hl : RdL w x.l ls) (hne : x.e.l ≤ 281474976710656) (hnl : x.l.l ≤ 281474976710656) : Calls Tryz.prog 47 #[.agg (Bv.cells x), .agg (Cg.cells c)] w (fun e w' => e = .returned (.bool (bktP c.bl c.rm x es ls)) ∧ Kept No w w') := by
  refine hidC fun C HC => ?_
  have HB : Hid (0 ≤ c.bl ∧ c.bl ≤ 4096) := hb
  clear hb
  have HRE : Hid (RdE w x.e es) := he
  have HRL : Hid (RdL w x.l ls) := hl
  clear he hl
  have HF : Hid (Fq No w w []) := Fq.start _ _
  go_enter Tryz.func47, Tryz.ntmps47
  go_upto_region 0 with fail
  refine WL.start <| xB (Bv.cells x) HF fun g1 w2 HF => xB (Cg.cells c) HF fun g3 w4 HF => tK (.bool false) <| WL.nil <| ?_
  try simp only [pS]
  go_upto_region 1 with fail
  refine WL.start <| tK (pg g1 0) <| lD (.int .i64 x.up) HF 0 0 U3 rfl <| ?_
  try simp only [pS]
  cases q1 : (x.up == 0)
  rotate_left
  ·skip
   refine bN (eI q1) <| WL.nil <| ?_
   try simp only [pS]
   go_upto_region 2 with fail
   refine WL.start <| lP (Bv.cs x) HF 0 0 U43 S43 (Bv.cs x) rfl <| ?_
   try simp only [pS]
   cases q5 : (empK x)
   ·skip
    refine cB (p_emptyBucket x _) q5 HF fun w11 HF => tK (.bool false) <| WL.nil <| ?_
    try simp only [pS]
    go_wp2
    rw [HC.out]
    exact ⟨ret_bool (by simp only [bktP, bsq, q1, q5]), HF.out.kept⟩
   refine cB (p_emptyBucket x _) q5 HF fun w12 HF => tK (.bool true) <| WL.nil <| ?_
   try simp only [pS]
   go_wp2
   rw [HC.out]
   exact ⟨ret_bool (by simp only [bktP, bsq, q1, q5]), HF.out.kept⟩
  refine bN (eI q1) <| WL.nil <| ?_
  try simp only [pS]
  go_upto_region 3 with fail
  refine WL.start <| tK (pg g1 0) <| lD (.int .i64 x.up) HF 0 0 U3 rfl <| ?_
  try simp only [pS]
  cases q2 : (wn x.up 1 1048576)
  ·skip
   refine cB (p_within x.up 1 1048576 _) q2 HF fun w5 HF => tK (.bool false) <| sK <| sK <| sK <| sK <| tK (.bool false) <| tK (.bool false) <| sK <| sK <| sK <| sK <| sK <| sK <| tK (.bool false) <| tK (.bool false) <| WL.nil <| ?_
   try simp only [pS]
   go_wp2
   rw [HC.out]
   exact ⟨ret_bool (by simp only [bktP, bsq, q1, q2]), HF.out.kept⟩
  refine cB (p_within x.up 1 1048576 _) q2 HF fun w6 HF => tK (.bool true) <| tK (pg g1 1) <| lD (x.e.v) HF 0 1 U40 rfl <| lP (Cg.cs c) HF 1 0 U24 S24 (Cg.cs c) rfl <| ?_
  try simp only [pS]
  cases q3 : (entsP c.bl c.rm es)
  ·skip
   refine cB (p_rightEntries x.e es c _ HB (HRE.out.no HF.out.kept) hne) q3 HF fun w7 HF => tK (.bool false) <| tK (.bool false) <| sK <| sK <| sK <| sK <| sK <| sK <| tK (.bool false) <| tK (.bool false) <| WL.nil <| ?_
   try simp only [pS]
   go_wp2
   rw [HC.out]
   exact ⟨ret_bool (by simp only [bktP, bsq, q1, q2, q3]), HF.out.kept⟩
  refine cB (p_rightEntries x.e es c _ HB (HRE.out.no HF.out.kept) hne) q3 HF fun w8 HF => tK (.bool true) <| tK (.bool true) <| tK (pg g1 2) <| lD (x.l.v) HF 0 2 U41 rfl <| tK (pg g1 0) <| lD (.int .i64 x.up) HF 0 0 U3 rfl <| lP (Cg.cs c) HF 1 0 U24 S24 (Cg.cs c) rfl <| ?_
  try simp only [pS]
  cases q4 : (lassP c.bl x.up ls)
  ·skip
   refine cB (p_rightLasts x.l ls x.up c _ HB (HRL.out.no HF.out.kept) hnl) q4 HF fun w9 HF => tK (.bool false) <| tK (.bool false) <| WL.nil <| ?_
   try simp only [pS]
   go_wp2
   rw [HC.out]
   exact ⟨ret_bool (by simp only [bktP, bsq, q1, q2, q3, q4]), HF.out.kept⟩
  refine cB (p_rightLasts x.l ls x.up c _ HB (HRL.out.no HF.out.kept) hnl) q4 HF fun w10 HF => tK (.bool true) <| tK (.bool true) <| WL.nil <| ?_
  try simp only [pS]
  go_wp2
  rw [HC.out]
  exact ⟨ret_bool (by simp only [bktP, bsq, q1, q2, q3, q4]), HF.out.kept⟩
set_option maxRecDepth 100000 in
set_option maxHeartbeats 4000000 in
theorem r_IsBucket (x : Bv) (es : List En) (ls : List La) (c : Cg) (w : World) (hb : 0 ≤ c.bl ∧ c.bl ≤ 4096) (he : RdE w x.e es) (hl : RdL w x.l ls) (hne : x.e.l ≤ 281474976710656) (hnl : x.l.l ≤ 281474976710656) : Calls Tryz.prog 48 #[.agg (Bv.cells x), .agg (Cg.cells c)] w (fun e w' => e = .returned (.bool (bktR c.bl c.rm x es ls)) ∧ Kept No w w') := by
  refine hidC fun C HC => ?_
  have HB : Hid (0 ≤ c.bl ∧ c.bl ≤ 4096) := hb
  clear hb
  have HRE : Hid (RdE w x.e es) := he
  have HRL : Hid (RdL w x.l ls) := hl
  clear he hl
  have HF : Hid (Fq No w w []) := Fq.start _ _
  go_enter Tryz.func48, Tryz.ntmps48
  go_upto_region 0 with fail
  refine WL.start <| xB (Bv.cells x) HF fun g1 w2 HF => xB (Cg.cells c) HF fun g3 w4 HF => tK (.bool false) <| WL.nil <| ?_
  try simp only [pS]
  go_upto_region 1 with fail
  refine WL.start <| tK (pg g1 0) <| lD (.int .i64 x.up) HF 0 0 U3 rfl <| ?_
  try simp only [pS]
  cases q1 : (wn x.up 0 1048576)
  ·skip
   refine cB (r_within x.up 0 1048576 _) q1 HF fun w5 HF => tK (.bool true) <| tK (.bool true) <| sK <| sK <| sK <| sK <| sK <| sK <| tK (.bool true) <| tK (.bool true) <| sK <| sK <| sK <| sK <| sK <| sK <| sK <| sK <| sK <| tK (.bool true) <| WL.nil <| ?_
   try simp only [pS]
   go_upto_region 2 with fail
   refine WL.start <| tK (.bool false) <| WL.nil <| ?_
   try simp only [pS]
   go_wp2
   rw [HC.out]
   exact ⟨ret_bool (by simp only [bktR, bsq, q1]), HF.out.kept⟩
  refine cB (r_within x.up 0 1048576 _) q1 HF fun w6 HF => tK (.bool false) <| tK (.bool false) <| tK (pg g1 1) <| lD (x.e.v) HF 0 1 U40 rfl <| tK (.int .i64 ((x.e.l : Nat) : Int)) <| tK (pg g3 5) <| lD (.int .i64 c.rm) HF 1 5 U3 rfl <| ?_
  try simp only [pS]
  cases q2 : (decide (c.rm < ((x.e.l : Nat) : Int)))
  rotate_left
  ·skip
   refine bN (gI q2) <| tK (.bool true) <| tK (.bool true) <| sK <| sK <| sK <| sK <| sK <| sK <| sK <| sK <| sK <| tK (.bool true) <| WL.nil <| ?_
   try simp only [pS]
   go_upto_region 2 with fail
   refine WL.start <| tK (.bool false) <| WL.nil <| ?_
   try simp only [pS]
   go_wp2
   rw [HC.out]
   exact ⟨ret_bool (by simp only [bktR, bsq, q1, q2]), HF.out.kept⟩
  refine bN (gI q2) <| tK (.bool false) <| tK (.bool false) <| tK (pg g1 0) <| lD (.int .i64 x.up) HF 0 0 U3 rfl <| ?_
  try simp only [pS]
  cases q3 : (x.up == 0)
  ·skip
   refine bN (eI q3) <| tK (.bool false) <| sK <| sK <| sK <| sK <| tK (.bool false) <| tK (.bool false) <| WL.nil <| ?_
   try simp only [pS]
   go_upto_region 3 with fail
   refine WL.start <| tK (.int .i64 0) <| WL.nil <| ?_
   try simp only [pS]
   have hx0 := hne
   go_wp2
   go_loopw [5] (fun v5 wr => ∃ i : Nat, v5 = .int .i64 ((i : Nat) : Int) ∧ i ≤ x.e.l ∧ Hid (∀ j, j < i → entR c.bl es j = true) ∧ Hid (Fq No w wr [(g1, 43, Bv.cells x), (g3, 24, Cg.cells c)])) (fun v5 _ => x.e.l - (intOf v5).toNat)
   case atStart => exact ⟨0, by go_num, by omega, fun j hj => absurd hj (Nat.not_lt_zero _), HF⟩
   case round =>
     clear HF
     obtain ⟨i, rfl, hi, HP, HF⟩ := hrel
     by_cases hlt : i < x.e.l
     ·skip
      obtain ⟨b, off, hsl, hc⟩ := RdE.at' HRE.out (i := i) (by omega)
      go_upto_region 4 with fail
      refine WL.start <| tK (.int .i64 ((i : Nat) : Int)) <| tK (pg g1 1) <| lD (x.e.v) HF 0 1 U40 rfl <| tK (.int .i64 ((x.e.l : Nat) : Int)) <| bN (lI (a := ((i : Nat) : Int)) (b := ((x.e.l : Nat) : Int)) (decide_eq_true (by omega))) <| WL.nil <| ?_
      try simp only [pS]
      go_upto_region 6 with fail
      refine WL.start <| tK (pg g1 1) <| lD (x.e.v) HF 0 1 U40 rfl <| tK (.int .i64 ((i : Nat) : Int)) <| iS (s := x.e) (i := i) hsl E40 F40 (by omega) <| lR (load_E (fun j v h => HF.out.kept.cell (hc j v h) (fun e => e))) <| xA (En.cells enZ) Z92 HF fun g7 w8 HF => sB (En.cs (eAt es i)) (En.cs (eAt es i)) HF 2 0 (v := .agg (En.cells (eAt es i))) rfl S92 (En.oneL _) (En.cs enZ) rfl fun w9 HF => WL.nil <| ?_
      try simp only [pS]
      go_upto_region 7 with fail
      refine wp_region_held_drew (S := fun w' => Hid (Fq No w w' [(g1, 43, Bv.cells x), (g3, 24, Cg.cells c), (g7, 92, En.cells (eAt es i))])) rfl (show Hid _ from HF.out.drew) (fun hH => ?_)
      replace HF : Hid (Fq No w w9.drew [(g1, 43, Bv.cells x), (g3, 24, Cg.cells c), (g7, 92, En.cells (eAt es i))]) := hH
      clear hH
      generalize w9.drew = w10 at HF ⊢
      refine yK 0 43 HF (pg g7 0) <| yT 1 44 HF (v := .string (eAt es i).nm) (zD 2 0 U9 rfl) <| ?_
      try simp only [pS]
      cases q4 : (nameR ((eAt es i).nm))
      ·skip
       refine yC 2 45 (r_IsName ((eAt es i).nm) _) q4 HF fun w11 HF => yK 3 46 HF (.bool true) <| yK 4 47 HF (.bool true) <| yS 5 48 HF <| yS 6 49 HF <| yS 7 50 HF <| yS 8 51 HF <| yK 9 52 HF (.bool true) <| ?_
       try simp only [pS]
       refine yK 10 53 HF (.bool true) <| yS 11 54 HF <| yS 12 55 HF <| yS 13 56 HF <| yS 14 57 HF <| yS 15 58 HF <| yK 16 59 HF (.bool true) <| yK 17 60 HF (.bool true) <| ?_
       try simp only [pS]
       refine yS 18 61 HF <| yS 19 62 HF <| yS 20 63 HF <| yS 21 64 HF <| yS 22 65 HF <| yS 23 66 HF <| yS 24 67 HF <| yS 25 68 HF <| ?_
       try simp only [pS]
       refine yS 26 69 HF <| yS 27 70 HF <| yS 28 71 HF <| yS 29 72 HF <| yS 30 73 HF <| yS 31 74 HF <| yK 32 75 HF (.bool true) <| ?_
       try simp only [pS]
       refine wpAnyH_done (by kernel_rfl) ?_ _
       try simp only [pS]
       go_upto_region 8 with fail
       refine WL.start <| tK (.bool false) <| WL.nil <| ?_
       try simp only [pS]
       go_wp2
       rw [HC.out]
       exact ⟨ret_bool (by rw [show bktR c.bl c.rm x es ls = false from by unfold bktR; rw [rng_f (n := es.length) (i := i) (by rw [HRE.out.len]; exact hlt) (by simp only [entR, bsq, q4])]; simp only [bsq, q1, q3, q2]]), HF.out.kept⟩
      refine yC 2 45 (r_IsName ((eAt es i).nm) _) q4 HF fun w12 HF => yK 3 46 HF (.bool false) <| yK 4 47 HF (.bool false) <| yK 5 48 HF (pg g7 1) <| yT 6 49 HF (zP (Fi.cs ⟨(eAt es i).f0, (eAt es i).f1⟩) 2 1 U37 S37 (En.cs (eAt es i)) rfl) <| ?_
      try simp only [pS]
      cases q5 : (filB ⟨(eAt es i).f0, (eAt es i).f1⟩)
      ·skip
       refine yC 7 50 (r_IsFile ⟨(eAt es i).f0, (eAt es i).f1⟩ _) q5 HF fun w13 HF => yK 8 51 HF (.bool true) <| yK 9 52 HF (.bool true) <| yK 10 53 HF (.bool true) <| yS 11 54 HF <| yS 12 55 HF <| yS 13 56 HF <| yS 14 57 HF <| ?_
       try simp only [pS]
       refine yS 15 58 HF <| yK 16 59 HF (.bool true) <| yK 17 60 HF (.bool true) <| yS 18 61 HF <| yS 19 62 HF <| yS 20 63 HF <| yS 21 64 HF <| yS 22 65 HF <| ?_
       try simp only [pS]
       refine yS 23 66 HF <| yS 24 67 HF <| yS 25 68 HF <| yS 26 69 HF <| yS 27 70 HF <| yS 28 71 HF <| yS 29 72 HF <| yS 30 73 HF <| ?_
       try simp only [pS]
       refine yS 31 74 HF <| yK 32 75 HF (.bool true) <| ?_
       try simp only [pS]
       refine wpAnyH_done (by kernel_rfl) ?_ _
       try simp only [pS]
       go_upto_region 8 with fail
       refine WL.start <| tK (.bool false) <| WL.nil <| ?_
       try simp only [pS]
       go_wp2
       rw [HC.out]
       exact ⟨ret_bool (by rw [show bktR c.bl c.rm x es ls = false from by unfold bktR; rw [rng_f (n := es.length) (i := i) (by rw [HRE.out.len]; exact hlt) (by simp only [entR, bsq, q4, q5])]; simp only [bsq, q1, q3, q2]]), HF.out.kept⟩
      refine yC 7 50 (r_IsFile ⟨(eAt es i).f0, (eAt es i).f1⟩ _) q5 HF fun w14 HF => yK 8 51 HF (.bool false) <| yK 9 52 HF (.bool false) <| yK 10 53 HF (.bool false) <| yK 11 54 HF (pg g7 3) <| yT 12 55 HF (v := .int .i64 (eAt es i).sz) (zD 2 3 U3 rfl) <| yT 13 56 HF (zP (Cg.cs c) 1 0 U24 S24 (Cg.cs c) rfl) <| ?_
      try simp only [pS]
      cases q6 : (szB c.bl ((eAt es i).sz))
      ·skip
       refine yC 14 57 (r_IsSize ((eAt es i).sz) c _ HB) q6 HF fun w15 HF => yK 15 58 HF (.bool true) <| yK 16 59 HF (.bool true) <| yK 17 60 HF (.bool true) <| yS 18 61 HF <| yS 19 62 HF <| yS 20 63 HF <| yS 21 64 HF <| ?_
       try simp only [pS]
       refine yS 22 65 HF <| yS 23 66 HF <| yS 24 67 HF <| yS 25 68 HF <| yS 26 69 HF <| yS 27 70 HF <| yS 28 71 HF <| yS 29 72 HF <| ?_
       try simp only [pS]
       refine yS 30 73 HF <| yS 31 74 HF <| yK 32 75 HF (.bool true) <| ?_
       try simp only [pS]
       refine wpAnyH_done (by kernel_rfl) ?_ _
       try simp only [pS]
       go_upto_region 8 with fail
       refine WL.start <| tK (.bool false) <| WL.nil <| ?_
       try simp only [pS]
       go_wp2
       rw [HC.out]
       exact ⟨ret_bool (by rw [show bktR c.bl c.rm x es ls = false from by unfold bktR; rw [rng_f (n := es.length) (i := i) (by rw [HRE.out.len]; exact hlt) (by simp only [entR, bsq, q4, q5, q6])]; simp only [bsq, q1, q3, q2]]), HF.out.kept⟩
      refine yC 14 57 (r_IsSize ((eAt es i).sz) c _ HB) q6 HF fun w16 HF => yK 15 58 HF (.bool false) <| yK 16 59 HF (.bool false) <| yK 17 60 HF (.bool false) <| yK 18 61 HF (.int .i64 ((i : Nat) : Int)) <| ?_
      try simp only [pS]
      cases q7 : (decide (i = 0))
      rotate_left
      ·skip
       refine yT 19 62 HF (zN (gI (a := ((i : Nat) : Int)) (b := 0) (decide_eq_false (by have := of_decide_eq_true q7; omega)))) <| yK 20 63 HF (.bool false) <| yS 21 64 HF <| yS 22 65 HF <| yS 23 66 HF <| yS 24 67 HF <| yS 25 68 HF <| yS 26 69 HF <| ?_
       try simp only [pS]
       refine yS 27 70 HF <| yS 28 71 HF <| yS 29 72 HF <| yS 30 73 HF <| yK 31 74 HF (.bool false) <| yK 32 75 HF (.bool false) <| ?_
       try simp only [pS]
       refine wpAnyH_done (by kernel_rfl) ?_ _
       try simp only [pS]
       go_upto_region 5 with fail
       refine WL.start <| tK (.int .i64 ((i : Nat) : Int)) <| bN (v := .int .i64 (((i + 1) : Nat) : Int)) (b_addw ((i : Nat) : Int) 1 (((i + 1) : Nat) : Int) (by rw [IntKind.wrap_i64]; omega)) <| tK (.int .i64 (((i + 1) : Nat) : Int)) <| WL.nil <| ?_
       try simp only [pS]
       go_wp2
       go_roundw
       case rel => exact ⟨i + 1, by go_num, by omega, up_j HP.out (by simp only [entR, bsq, q4, q5, q6, q7]), Fq.front (l := [(g1, 43, Bv.cells x), (g3, 24, Cg.cells c)]) (m := [(g7, 92, En.cells (eAt es i))]) HF⟩
       case measure => simp [intOf]; omega
      refine yT 19 62 HF (zN (gI (a := ((i : Nat) : Int)) (b := 0) (decide_eq_true (by have := of_decide_eq_false q7; omega)))) <| yK 20 63 HF (.bool true) <| yK 21 64 HF (pg g1 1) <| yT 22 65 HF (v := x.e.v) (zD 0 1 U40 rfl) <| yK 23 66 HF (.int .i64 ((i : Nat) : Int)) <| yT 24 67 HF (v := .int .i64 (((i - 1) : Nat) : Int)) (zN (b_subw ((i : Nat) : Int) 1 (((i - 1) : Nat) : Int) (by rw [IntKind.wrap_i64]; have := of_decide_eq_false q7; omega))) <| yT 25 68 HF (zI (i := i - 1) hsl E40 F40 (by omega)) <| yK 26 69 HF (.pointer (some ⟨b, off + (i - 1) * 4, none⟩)) <| ?_
      try simp only [pS]
      refine yT 27 70 HF (zL fun w HF => (load_one (HF.out.kept.cell (HRE.out.pre (i := i - 1) hsl (by omega) 0 _ rfl) (fun e => e)) U9 rfl)) <| yK 28 71 HF (pg g7 0) <| yT 29 72 HF (v := .string (eAt es i).nm) (zD 2 0 U9 rfl) <| ?_
      try simp only [pS]
      cases q8 : (ltS ((eAt es (i - 1)).nm) ((eAt es i).nm))
      ·skip
       refine yT 30 73 HF (zN (geN0 q8)) <| yK 31 74 HF (.bool true) <| yK 32 75 HF (.bool true) <| ?_
       try simp only [pS]
       refine wpAnyH_done (by kernel_rfl) ?_ _
       try simp only [pS]
       go_upto_region 8 with fail
       refine WL.start <| tK (.bool false) <| WL.nil <| ?_
       try simp only [pS]
       go_wp2
       rw [HC.out]
       exact ⟨ret_bool (by rw [show bktR c.bl c.rm x es ls = false from by unfold bktR; rw [rng_f (n := es.length) (i := i) (by rw [HRE.out.len]; exact hlt) (by simp only [entR, bsq, q4, q5, q6, q7, q8])]; simp only [bsq, q1, q3, q2]]), HF.out.kept⟩
      refine yT 30 73 HF (zN (geN1 q8)) <| yK 31 74 HF (.bool false) <| yK 32 75 HF (.bool false) <| ?_
      try simp only [pS]
      refine wpAnyH_done (by kernel_rfl) ?_ _
      try simp only [pS]
      go_upto_region 5 with fail
      refine WL.start <| tK (.int .i64 ((i : Nat) : Int)) <| bN (v := .int .i64 (((i + 1) : Nat) : Int)) (b_addw ((i : Nat) : Int) 1 (((i + 1) : Nat) : Int) (by rw [IntKind.wrap_i64]; omega)) <| tK (.int .i64 (((i + 1) : Nat) : Int)) <| WL.nil <| ?_
      try simp only [pS]
      go_wp2
      go_roundw
      case rel => exact ⟨i + 1, by go_num, by omega, up_j HP.out (by simp only [entR, bsq, q4, q5, q6, q7, q8]), Fq.front (l := [(g1, 43, Bv.cells x), (g3, 24, Cg.cells c)]) (m := [(g7, 92, En.cells (eAt es i))]) HF⟩
      case measure => simp [intOf]; omega
     ·skip
      have HA : Hid (∀ j, j < es.length → entR c.bl es j = true) := fun j hj => HP.out j (by rw [HRE.out.len] at hj; omega)
      clear HP
      go_upto_region 4 with fail
      refine WL.start <| tK (.int .i64 ((i : Nat) : Int)) <| tK (pg g1 1) <| lD (x.e.v) HF 0 1 U40 rfl <| tK (.int .i64 ((x.e.l : Nat) : Int)) <| bN (lI (a := ((i : Nat) : Int)) (b := ((x.e.l : Nat) : Int)) (decide_eq_false (by omega))) <| WL.nil <| ?_
      try simp only [pS]
      go_upto_region 9 with fail
      refine WL.start <| tK (.int .i64 0) <| WL.nil <| ?_
      try simp only [pS]
      have hx1 := hnl
      go_wp2
      go_loopw [7] (fun v7 wr => ∃ i : Nat, v7 = .int .i64 ((i : Nat) : Int) ∧ i ≤ x.l.l ∧ Hid (∀ j, j < i → lasR c.bl x.up ls j = true) ∧ Hid (Fq No w wr [(g1, 43, Bv.cells x), (g3, 24, Cg.cells c)])) (fun v7 _ => x.l.l - (intOf v7).toNat)
      case atStart => exact ⟨0, by go_num, by omega, fun j hj => absurd hj (Nat.not_lt_zero _), HF⟩
      case round =>
        clear HF
        obtain ⟨i, rfl, hi, HP2, HF⟩ := hrel
        by_cases hlt : i < x.l.l
        ·skip
         obtain ⟨b, off, hsl, hc⟩ := RdL.at' HRL.out (i := i) (by omega)
         go_upto_region 10 with fail
         refine WL.start <| tK (.int .i64 ((i : Nat) : Int)) <| tK (pg g1 2) <| lD (x.l.v) HF 0 2 U41 rfl <| tK (.int .i64 ((x.l.l : Nat) : Int)) <| bN (lI (a := ((i : Nat) : Int)) (b := ((x.l.l : Nat) : Int)) (decide_eq_true (by omega))) <| WL.nil <| ?_
         try simp only [pS]
         go_upto_region 12 with fail
         refine wp_region_held_drew (S := fun w' => Hid (Fq No w w' [(g1, 43, Bv.cells x), (g3, 24, Cg.cells c)])) rfl (show Hid _ from HF.out.drew) (fun hH => ?_)
         replace HF : Hid (Fq No w wr.drew [(g1, 43, Bv.cells x), (g3, 24, Cg.cells c)]) := hH
         clear hH
         generalize wr.drew = w17 at HF ⊢
         refine yK 0 83 HF (pg g1 2) <| yT 1 84 HF (v := x.l.v) (zD 0 2 U41 rfl) <| yK 2 85 HF (.int .i64 ((i : Nat) : Int)) <| yT 3 86 HF (zI (s := x.l) (i := i) hsl E41 F41 (by omega)) <| yT 4 87 HF (zL fun w HF => (load_L (fun j v h => HF.out.kept.cell (hc j v h) (fun e => e)))) <| yK 5 88 HF (pg g1 0) <| yT 6 89 HF (v := .int .i64 x.up) (zD 0 0 U3 rfl) <| yT 7 90 HF (zP (Cg.cs c) 1 0 U24 S24 (Cg.cs c) rfl) <| ?_
         try simp only [pS]
         cases q9 : (lastR x.up c.bl (lAt ls i))
         ·skip
          refine yC 8 91 (r_IsLast (lAt ls i) x.up c _ HB) q9 HF fun w18 HF => yK 9 92 HF (.bool true) <| yK 10 93 HF (.bool true) <| yS 11 94 HF <| yS 12 95 HF <| yS 13 96 HF <| yS 14 97 HF <| yS 15 98 HF <| ?_
          try simp only [pS]
          refine yS 16 99 HF <| yS 17 100 HF <| yS 18 101 HF <| yS 19 102 HF <| yS 20 103 HF <| yS 21 104 HF <| yS 22 105 HF <| yS 23 106 HF <| ?_
          try simp only [pS]
          refine yS 24 107 HF <| yS 25 108 HF <| yS 26 109 HF <| yS 27 110 HF <| yS 28 111 HF <| yK 29 112 HF (.bool true) <| ?_
          try simp only [pS]
          refine wpAnyH_done (by kernel_rfl) ?_ _
          try simp only [pS]
          go_upto_region 13 with fail
          refine WL.start <| tK (.bool false) <| WL.nil <| ?_
          try simp only [pS]
          go_wp2
          rw [HC.out]
          exact ⟨ret_bool (by rw [show bktR c.bl c.rm x es ls = false from by unfold bktR; rw [rng_f (n := ls.length) (i := i) (by rw [HRL.out.len]; exact hlt) (by simp only [lasR, bsq, q9])]; simp only [bsq, q1, q3, q2]]), HF.out.kept⟩
         refine yC 8 91 (r_IsLast (lAt ls i) x.up c _ HB) q9 HF fun w19 HF => yK 9 92 HF (.bool false) <| yK 10 93 HF (.bool false) <| yK 11 94 HF (.int .i64 ((i : Nat) : Int)) <| ?_
         try simp only [pS]
         cases q10 : (decide (i = 0))
         rotate_left
         ·skip
          refine yT 12 95 HF (zN (gI (a := ((i : Nat) : Int)) (b := 0) (decide_eq_false (by have := of_decide_eq_true q10; omega)))) <| yK 13 96 HF (.bool false) <| yS 14 97 HF <| yS 15 98 HF <| yS 16 99 HF <| yS 17 100 HF <| yS 18 101 HF <| yS 19 102 HF <| ?_
          try simp only [pS]
          refine yS 20 103 HF <| yS 21 104 HF <| yS 22 105 HF <| yS 23 106 HF <| yS 24 107 HF <| yS 25 108 HF <| yS 26 109 HF <| yS 27 110 HF <| ?_
          try simp only [pS]
          refine yK 28 111 HF (.bool false) <| yK 29 112 HF (.bool false) <| ?_
          try simp only [pS]
          refine wpAnyH_done (by kernel_rfl) ?_ _
          try simp only [pS]
          go_upto_region 11 with fail
          refine WL.start <| tK (.int .i64 ((i : Nat) : Int)) <| bN (v := .int .i64 (((i + 1) : Nat) : Int)) (b_addw ((i : Nat) : Int) 1 (((i + 1) : Nat) : Int) (by rw [IntKind.wrap_i64]; omega)) <| tK (.int .i64 (((i + 1) : Nat) : Int)) <| WL.nil <| ?_
          try simp only [pS]
          go_wp2
          go_roundw
          case rel => exact ⟨i + 1, by go_num, by omega, up_j HP2.out (by simp only [lasR, bsq, q9, q10]), HF⟩
          case measure => simp [intOf]; omega
         refine yT 12 95 HF (zN (gI (a := ((i : Nat) : Int)) (b := 0) (decide_eq_true (by have := of_decide_eq_false q10; omega)))) <| yK 13 96 HF (.bool true) <| yK 14 97 HF (pg g1 2) <| yT 15 98 HF (v := x.l.v) (zD 0 2 U41 rfl) <| yK 16 99 HF (.int .i64 ((i : Nat) : Int)) <| yT 17 100 HF (v := .int .i64 (((i - 1) : Nat) : Int)) (zN (b_subw ((i : Nat) : Int) 1 (((i - 1) : Nat) : Int) (by rw [IntKind.wrap_i64]; have := of_decide_eq_false q10; omega))) <| yT 18 101 HF (zI (i := i - 1) hsl E41 F41 (by omega)) <| yK 19 102 HF (.pointer (some ⟨b, off + (i - 1) * 7, none⟩)) <| ?_
         try simp only [pS]
         refine yT 20 103 HF (zL fun w HF => (load_one (HF.out.kept.cell (HRL.out.pre (i := i - 1) hsl (by omega) 0 _ rfl) (fun e => e)) U3 rfl)) <| yK 21 104 HF (pg g1 2) <| yT 22 105 HF (v := x.l.v) (zD 0 2 U41 rfl) <| yK 23 106 HF (.int .i64 ((i : Nat) : Int)) <| yT 24 107 HF (zI (s := x.l) (i := i) hsl E41 F41 (by omega)) <| yK 25 108 HF (.pointer (some ⟨b, off + i * 7, none⟩)) <| yT 26 109 HF (zL fun w HF => (load_one (HF.out.kept.cell (hc 0 _ rfl) (fun e => e)) U3 rfl)) <| ?_
         try simp only [pS]
         cases q11 : (decide (((lAt ls i).cl) ≤ ((lAt ls (i - 1)).cl)))
         rotate_left
         ·skip
          refine yT 27 110 HF (zN (geI q11)) <| yK 28 111 HF (.bool true) <| yK 29 112 HF (.bool true) <| ?_
          try simp only [pS]
          refine wpAnyH_done (by kernel_rfl) ?_ _
          try simp only [pS]
          go_upto_region 13 with fail
          refine WL.start <| tK (.bool false) <| WL.nil <| ?_
          try simp only [pS]
          go_wp2
          rw [HC.out]
          exact ⟨ret_bool (by rw [show bktR c.bl c.rm x es ls = false from by unfold bktR; rw [rng_f (n := ls.length) (i := i) (by rw [HRL.out.len]; exact hlt) (by simp only [lasR, bsq, q9, q10, q11])]; simp only [bsq, q1, q3, q2]]), HF.out.kept⟩
         refine yT 27 110 HF (zN (geI q11)) <| yK 28 111 HF (.bool false) <| yK 29 112 HF (.bool false) <| ?_
         try simp only [pS]
         refine wpAnyH_done (by kernel_rfl) ?_ _
         try simp only [pS]
         go_upto_region 11 with fail
         refine WL.start <| tK (.int .i64 ((i : Nat) : Int)) <| bN (v := .int .i64 (((i + 1) : Nat) : Int)) (b_addw ((i : Nat) : Int) 1 (((i + 1) : Nat) : Int) (by rw [IntKind.wrap_i64]; omega)) <| tK (.int .i64 (((i + 1) : Nat) : Int)) <| WL.nil <| ?_
         try simp only [pS]
         go_wp2
         go_roundw
         case rel => exact ⟨i + 1, by go_num, by omega, up_j HP2.out (by simp only [lasR, bsq, q9, q10, q11]), HF⟩
         case measure => simp [intOf]; omega
        ·skip
         go_upto_region 10 with fail
         refine WL.start <| tK (.int .i64 ((i : Nat) : Int)) <| tK (pg g1 2) <| lD (x.l.v) HF 0 2 U41 rfl <| tK (.int .i64 ((x.l.l : Nat) : Int)) <| bN (lI (a := ((i : Nat) : Int)) (b := ((x.l.l : Nat) : Int)) (decide_eq_false (by omega))) <| WL.nil <| ?_
         try simp only [pS]
         go_upto_region 14 with fail
         refine WL.start <| tK (.bool true) <| WL.nil <| ?_
         try simp only [pS]
         go_wp2
         rw [HC.out]
         exact ⟨ret_bool (by rw [show bktR c.bl c.rm x es ls = true from by unfold bktR; rw [rng_t (n := es.length) HA.out, rng_t (n := ls.length) (fun j hj => HP2.out j (by rw [HRL.out.len] at hj; omega))]; simp only [bsq, q1, q3, q2]]), HF.out.kept⟩
  refine bN (eI q3) <| tK (.bool true) <| tK (pg g1 1) <| lD (x.e.v) HF 0 1 U40 rfl <| tK (.int .i64 ((x.e.l : Nat) : Int)) <| ?_
  try simp only [pS]
  cases q12 : (decide (0 < ((x.e.l : Nat) : Int)))
  rotate_left
  ·skip
   refine bN (gI q12) <| tK (.bool true) <| tK (.bool true) <| WL.nil <| ?_
   try simp only [pS]
   go_upto_region 2 with fail
   refine WL.start <| tK (.bool false) <| WL.nil <| ?_
   try simp only [pS]
   go_wp2
   rw [HC.out]
   exact ⟨ret_bool (by simp only [bktR, bsq, q1, q2, q3, q12]), HF.out.kept⟩
  refine bN (gI q12) <| tK (.bool false) <| tK (.bool false) <| WL.nil <| ?_
  try simp only [pS]
  go_upto_region 3 with fail
  refine WL.start <| tK (.int .i64 0) <| WL.nil <| ?_
  try simp only [pS]
  have hx0 := hne
  go_wp2
  go_loopw [5] (fun v5 wr => ∃ i : Nat, v5 = .int .i64 ((i : Nat) : Int) ∧ i ≤ x.e.l ∧ Hid (∀ j, j < i → entR c.bl es j = true) ∧ Hid (Fq No w wr [(g1, 43, Bv.cells x), (g3, 24, Cg.cells c)])) (fun v5 _ => x.e.l - (intOf v5).toNat)
  case atStart => exact ⟨0, by go_num, by omega, fun j hj => absurd hj (Nat.not_lt_zero _), HF⟩
  case round =>
    clear HF
    obtain ⟨i, rfl, hi, HP, HF⟩ := hrel
    by_cases hlt : i < x.e.l
    ·skip
     obtain ⟨b, off, hsl, hc⟩ := RdE.at' HRE.out (i := i) (by omega)
     go_upto_region 4 with fail
     refine WL.start <| tK (.int .i64 ((i : Nat) : Int)) <| tK (pg g1 1) <| lD (x.e.v) HF 0 1 U40 rfl <| tK (.int .i64 ((x.e.l : Nat) : Int)) <| bN (lI (a := ((i : Nat) : Int)) (b := ((x.e.l : Nat) : Int)) (decide_eq_true (by omega))) <| WL.nil <| ?_
     try simp only [pS]
     go_upto_region 6 with fail
     refine WL.start <| tK (pg g1 1) <| lD (x.e.v) HF 0 1 U40 rfl <| tK (.int .i64 ((i : Nat) : Int)) <| iS (s := x.e) (i := i) hsl E40 F40 (by omega) <| lR (load_E (fun j v h => HF.out.kept.cell (hc j v h) (fun e => e))) <| xA (En.cells enZ) Z92 HF fun g20 w21 HF => sB (En.cs (eAt es i)) (En.cs (eAt es i)) HF 2 0 (v := .agg (En.cells (eAt es i))) rfl S92 (En.oneL _) (En.cs enZ) rfl fun w22 HF => WL.nil <| ?_
     try simp only [pS]
     go_upto_region 7 with fail
     refine wp_region_held_drew (S := fun w' => Hid (Fq No w w' [(g1, 43, Bv.cells x), (g3, 24, Cg.cells c), (g20, 92, En.cells (eAt es i))])) rfl (show Hid _ from HF.out.drew) (fun hH => ?_)
     replace HF : Hid (Fq No w w22.drew [(g1, 43, Bv.cells x), (g3, 24, Cg.cells c), (g20, 92, En.cells (eAt es i))]) := hH
     clear hH
     generalize w22.drew = w23 at HF ⊢
     refine yK 0 43 HF (pg g20 0) <| yT 1 44 HF (v := .string (eAt es i).nm) (zD 2 0 U9 rfl) <| ?_
     try simp only [pS]
     cases q13 : (nameR ((eAt es i).nm))
     ·skip
      refine yC 2 45 (r_IsName ((eAt es i).nm) _) q13 HF fun w24 HF => yK 3 46 HF (.bool true) <| yK 4 47 HF (.bool true) <| yS 5 48 HF <| yS 6 49 HF <| yS 7 50 HF <| yS 8 51 HF <| yK 9 52 HF (.bool true) <| ?_
      try simp only [pS]
      refine yK 10 53 HF (.bool true) <| yS 11 54 HF <| yS 12 55 HF <| yS 13 56 HF <| yS 14 57 HF <| yS 15 58 HF <| yK 16 59 HF (.bool true) <| yK 17 60 HF (.bool true) <| ?_
      try simp only [pS]
      refine yS 18 61 HF <| yS 19 62 HF <| yS 20 63 HF <| yS 21 64 HF <| yS 22 65 HF <| yS 23 66 HF <| yS 24 67 HF <| yS 25 68 HF <| ?_
      try simp only [pS]
      refine yS 26 69 HF <| yS 27 70 HF <| yS 28 71 HF <| yS 29 72 HF <| yS 30 73 HF <| yS 31 74 HF <| yK 32 75 HF (.bool true) <| ?_
      try simp only [pS]
      refine wpAnyH_done (by kernel_rfl) ?_ _
      try simp only [pS]
      go_upto_region 8 with fail
      refine WL.start <| tK (.bool false) <| WL.nil <| ?_
      try simp only [pS]
      go_wp2
      rw [HC.out]
      exact ⟨ret_bool (by rw [show bktR c.bl c.rm x es ls = false from by unfold bktR; rw [rng_f (n := es.length) (i := i) (by rw [HRE.out.len]; exact hlt) (by simp only [entR, bsq, q13])]; simp only [bsq, q1, q3, q12, q2]]), HF.out.kept⟩
     refine yC 2 45 (r_IsName ((eAt es i).nm) _) q13 HF fun w25 HF => yK 3 46 HF (.bool false) <| yK 4 47 HF (.bool false) <| yK 5 48 HF (pg g20 1) <| yT 6 49 HF (zP (Fi.cs ⟨(eAt es i).f0, (eAt es i).f1⟩) 2 1 U37 S37 (En.cs (eAt es i)) rfl) <| ?_
     try simp only [pS]
     cases q14 : (filB ⟨(eAt es i).f0, (eAt es i).f1⟩)
     ·skip
      refine yC 7 50 (r_IsFile ⟨(eAt es i).f0, (eAt es i).f1⟩ _) q14 HF fun w26 HF => yK 8 51 HF (.bool true) <| yK 9 52 HF (.bool true) <| yK 10 53 HF (.bool true) <| yS 11 54 HF <| yS 12 55 HF <| yS 13 56 HF <| yS 14 57 HF <| ?_
      try simp only [pS]
      refine yS 15 58 HF <| yK 16 59 HF (.bool true) <| yK 17 60 HF (.bool true) <| yS 18 61 HF <| yS 19 62 HF <| yS 20 63 HF <| yS 21 64 HF <| yS 22 65 HF <| ?_
      try simp only [pS]
      refine yS 23 66 HF <| yS 24 67 HF <| yS 25 68 HF <| yS 26 69 HF <| yS 27 70 HF <| yS 28 71 HF <| yS 29 72 HF <| yS 30 73 HF <| ?_
      try simp only [pS]
      refine yS 31 74 HF <| yK 32 75 HF (.bool true) <| ?_
      try simp only [pS]
      refine wpAnyH_done (by kernel_rfl) ?_ _
      try simp only [pS]
      go_upto_region 8 with fail
      refine WL.start <| tK (.bool false) <| WL.nil <| ?_
      try simp only [pS]
      go_wp2
      rw [HC.out]
      exact ⟨ret_bool (by rw [show bktR c.bl c.rm x es ls = false from by unfold bktR; rw [rng_f (n := es.length) (i := i) (by rw [HRE.out.len]; exact hlt) (by simp only [entR, bsq, q13, q14])]; simp only [bsq, q1, q3, q12, q2]]), HF.out.kept⟩
     refine yC 7 50 (r_IsFile ⟨(eAt es i).f0, (eAt es i).f1⟩ _) q14 HF fun w27 HF => yK 8 51 HF (.bool false) <| yK 9 52 HF (.bool false) <| yK 10 53 HF (.bool false) <| yK 11 54 HF (pg g20 3) <| yT 12 55 HF (v := .int .i64 (eAt es i).sz) (zD 2 3 U3 rfl) <| yT 13 56 HF (zP (Cg.cs c) 1 0 U24 S24 (Cg.cs c) rfl) <| ?_
     try simp only [pS]
     cases q15 : (szB c.bl ((eAt es i).sz))
     ·skip
      refine yC 14 57 (r_IsSize ((eAt es i).sz) c _ HB) q15 HF fun w28 HF => yK 15 58 HF (.bool true) <| yK 16 59 HF (.bool true) <| yK 17 60 HF (.bool true) <| yS 18 61 HF <| yS 19 62 HF <| yS 20 63 HF <| yS 21 64 HF <| ?_
      try simp only [pS]
      refine yS 22 65 HF <| yS 23 66 HF <| yS 24 67 HF <| yS 25 68 HF <| yS 26 69 HF <| yS 27 70 HF <| yS 28 71 HF <| yS 29 72 HF <| ?_
      try simp only [pS]
      refine yS 30 73 HF <| yS 31 74 HF <| yK 32 75 HF (.bool true) <| ?_
      try simp only [pS]
      refine wpAnyH_done (by kernel_rfl) ?_ _
      try simp only [pS]
      go_upto_region 8 with fail
      refine WL.start <| tK (.bool false) <| WL.nil <| ?_
      try simp only [pS]
      go_wp2
      rw [HC.out]
      exact ⟨ret_bool (by rw [show bktR c.bl c.rm x es ls = false from by unfold bktR; rw [rng_f (n := es.length) (i := i) (by rw [HRE.out.len]; exact hlt) (by simp only [entR, bsq, q13, q14, q15])]; simp only [bsq, q1, q3, q12, q2]]), HF.out.kept⟩
     refine yC 14 57 (r_IsSize ((eAt es i).sz) c _ HB) q15 HF fun w29 HF => yK 15 58 HF (.bool false) <| yK 16 59 HF (.bool false) <| yK 17 60 HF (.bool false) <| yK 18 61 HF (.int .i64 ((i : Nat) : Int)) <| ?_
     try simp only [pS]
     cases q16 : (decide (i = 0))
     rotate_left
     ·skip
      refine yT 19 62 HF (zN (gI (a := ((i : Nat) : Int)) (b := 0) (decide_eq_false (by have := of_decide_eq_true q16; omega)))) <| yK 20 63 HF (.bool false) <| yS 21 64 HF <| yS 22 65 HF <| yS 23 66 HF <| yS 24 67 HF <| yS 25 68 HF <| yS 26 69 HF <| ?_
      try simp only [pS]
      refine yS 27 70 HF <| yS 28 71 HF <| yS 29 72 HF <| yS 30 73 HF <| yK 31 74 HF (.bool false) <| yK 32 75 HF (.bool false) <| ?_
      try simp only [pS]
      refine wpAnyH_done (by kernel_rfl) ?_ _
      try simp only [pS]
      go_upto_region 5 with fail
      refine WL.start <| tK (.int .i64 ((i : Nat) : Int)) <| bN (v := .int .i64 (((i + 1) : Nat) : Int)) (b_addw ((i : Nat) : Int) 1 (((i + 1) : Nat) : Int) (by rw [IntKind.wrap_i64]; omega)) <| tK (.int .i64 (((i + 1) : Nat) : Int)) <| WL.nil <| ?_
      try simp only [pS]
      go_wp2
      go_roundw
      case rel => exact ⟨i + 1, by go_num, by omega, up_j HP.out (by simp only [entR, bsq, q13, q14, q15, q16]), Fq.front (l := [(g1, 43, Bv.cells x), (g3, 24, Cg.cells c)]) (m := [(g20, 92, En.cells (eAt es i))]) HF⟩
      case measure => simp [intOf]; omega
     refine yT 19 62 HF (zN (gI (a := ((i : Nat) : Int)) (b := 0) (decide_eq_true (by have := of_decide_eq_false q16; omega)))) <| yK 20 63 HF (.bool true) <| yK 21 64 HF (pg g1 1) <| yT 22 65 HF (v := x.e.v) (zD 0 1 U40 rfl) <| yK 23 66 HF (.int .i64 ((i : Nat) : Int)) <| yT 24 67 HF (v := .int .i64 (((i - 1) : Nat) : Int)) (zN (b_subw ((i : Nat) : Int) 1 (((i - 1) : Nat) : Int) (by rw [IntKind.wrap_i64]; have := of_decide_eq_false q16; omega))) <| yT 25 68 HF (zI (i := i - 1) hsl E40 F40 (by omega)) <| yK 26 69 HF (.pointer (some ⟨b, off + (i - 1) * 4, none⟩)) <| ?_
     try simp only [pS]
     refine yT 27 70 HF (zL fun w HF => (load_one (HF.out.kept.cell (HRE.out.pre (i := i - 1) hsl (by omega) 0 _ rfl) (fun e => e)) U9 rfl)) <| yK 28 71 HF (pg g20 0) <| yT 29 72 HF (v := .string (eAt es i).nm) (zD 2 0 U9 rfl) <| ?_
     try simp only [pS]
     cases q17 : (ltS ((eAt es (i - 1)).nm) ((eAt es i).nm))
     ·skip
      refine yT 30 73 HF (zN (geN0 q17)) <| yK 31 74 HF (.bool true) <| yK 32 75 HF (.bool true) <| ?_
      try simp only [pS]
      refine wpAnyH_done (by kernel_rfl) ?_ _
      try simp only [pS]
      go_upto_region 8 with fail
      refine WL.start <| tK (.bool false) <| WL.nil <| ?_
      try simp only [pS]
      go_wp2
      rw [HC.out]
      exact ⟨ret_bool (by rw [show bktR c.bl c.rm x es ls = false from by unfold bktR; rw [rng_f (n := es.length) (i := i) (by rw [HRE.out.len]; exact hlt) (by simp only [entR, bsq, q13, q14, q15, q16, q17])]; simp only [bsq, q1, q3, q12, q2]]), HF.out.kept⟩
     refine yT 30 73 HF (zN (geN1 q17)) <| yK 31 74 HF (.bool false) <| yK 32 75 HF (.bool false) <| ?_
     try simp only [pS]
     refine wpAnyH_done (by kernel_rfl) ?_ _
     try simp only [pS]
     go_upto_region 5 with fail
     refine WL.start <| tK (.int .i64 ((i : Nat) : Int)) <| bN (v := .int .i64 (((i + 1) : Nat) : Int)) (b_addw ((i : Nat) : Int) 1 (((i + 1) : Nat) : Int) (by rw [IntKind.wrap_i64]; omega)) <| tK (.int .i64 (((i + 1) : Nat) : Int)) <| WL.nil <| ?_
     try simp only [pS]
     go_wp2
     go_roundw
     case rel => exact ⟨i + 1, by go_num, by omega, up_j HP.out (by simp only [entR, bsq, q13, q14, q15, q16, q17]), Fq.front (l := [(g1, 43, Bv.cells x), (g3, 24, Cg.cells c)]) (m := [(g20, 92, En.cells (eAt es i))]) HF⟩
     case measure => simp [intOf]; omega
    ·skip
     have HA : Hid (∀ j, j < es.length → entR c.bl es j = true) := fun j hj => HP.out j (by rw [HRE.out.len] at hj; omega)
     clear HP
     go_upto_region 4 with fail
     refine WL.start <| tK (.int .i64 ((i : Nat) : Int)) <| tK (pg g1 1) <| lD (x.e.v) HF 0 1 U40 rfl <| tK (.int .i64 ((x.e.l : Nat) : Int)) <| bN (lI (a := ((i : Nat) : Int)) (b := ((x.e.l : Nat) : Int)) (decide_eq_false (by omega))) <| WL.nil <| ?_
     try simp only [pS]
     go_upto_region 9 with fail
     refine WL.start <| tK (.int .i64 0) <| WL.nil <| ?_
     try simp only [pS]
     have hx1 := hnl
     go_wp2
     go_loopw [7] (fun v7 wr => ∃ i : Nat, v7 = .int .i64 ((i : Nat) : Int) ∧ i ≤ x.l.l ∧ Hid (∀ j, j < i → lasR c.bl x.up ls j = true) ∧ Hid (Fq No w wr [(g1, 43, Bv.cells x), (g3, 24, Cg.cells c)])) (fun v7 _ => x.l.l - (intOf v7).toNat)
     case atStart => exact ⟨0, by go_num, by omega, fun j hj => absurd hj (Nat.not_lt_zero _), HF⟩
     case round =>
       clear HF
       obtain ⟨i, rfl, hi, HP2, HF⟩ := hrel
       by_cases hlt : i < x.l.l
       ·skip
        obtain ⟨b, off, hsl, hc⟩ := RdL.at' HRL.out (i := i) (by omega)
        go_upto_region 10 with fail
        refine WL.start <| tK (.int .i64 ((i : Nat) : Int)) <| tK (pg g1 2) <| lD (x.l.v) HF 0 2 U41 rfl <| tK (.int .i64 ((x.l.l : Nat) : Int)) <| bN (lI (a := ((i : Nat) : Int)) (b := ((x.l.l : Nat) : Int)) (decide_eq_true (by omega))) <| WL.nil <| ?_
        try simp only [pS]
        go_upto_region 12 with fail
        refine wp_region_held_drew (S := fun w' => Hid (Fq No w w' [(g1, 43, Bv.cells x), (g3, 24, Cg.cells c)])) rfl (show Hid _ from HF.out.drew) (fun hH => ?_)
        replace HF : Hid (Fq No w wr.drew [(g1, 43, Bv.cells x), (g3, 24, Cg.cells c)]) := hH
        clear hH
        generalize wr.drew = w30 at HF ⊢
        refine yK 0 83 HF (pg g1 2) <| yT 1 84 HF (v := x.l.v) (zD 0 2 U41 rfl) <| yK 2 85 HF (.int .i64 ((i : Nat) : Int)) <| yT 3 86 HF (zI (s := x.l) (i := i) hsl E41 F41 (by omega)) <| yT 4 87 HF (zL fun w HF => (load_L (fun j v h => HF.out.kept.cell (hc j v h) (fun e => e)))) <| yK 5 88 HF (pg g1 0) <| yT 6 89 HF (v := .int .i64 x.up) (zD 0 0 U3 rfl) <| yT 7 90 HF (zP (Cg.cs c) 1 0 U24 S24 (Cg.cs c) rfl) <| ?_
        try simp only [pS]
        cases q18 : (lastR x.up c.bl (lAt ls i))
        ·skip
         refine yC 8 91 (r_IsLast (lAt ls i) x.up c _ HB) q18 HF fun w31 HF => yK 9 92 HF (.bool true) <| yK 10 93 HF (.bool true) <| yS 11 94 HF <| yS 12 95 HF <| yS 13 96 HF <| yS 14 97 HF <| yS 15 98 HF <| ?_
         try simp only [pS]
         refine yS 16 99 HF <| yS 17 100 HF <| yS 18 101 HF <| yS 19 102 HF <| yS 20 103 HF <| yS 21 104 HF <| yS 22 105 HF <| yS 23 106 HF <| ?_
         try simp only [pS]
         refine yS 24 107 HF <| yS 25 108 HF <| yS 26 109 HF <| yS 27 110 HF <| yS 28 111 HF <| yK 29 112 HF (.bool true) <| ?_
         try simp only [pS]
         refine wpAnyH_done (by kernel_rfl) ?_ _
         try simp only [pS]
         go_upto_region 13 with fail
         refine WL.start <| tK (.bool false) <| WL.nil <| ?_
         try simp only [pS]
         go_wp2
         rw [HC.out]
         exact ⟨ret_bool (by rw [show bktR c.bl c.rm x es ls = false from by unfold bktR; rw [rng_f (n := ls.length) (i := i) (by rw [HRL.out.len]; exact hlt) (by simp only [lasR, bsq, q18])]; simp only [bsq, q1, q3, q12, q2]]), HF.out.kept⟩
        refine yC 8 91 (r_IsLast (lAt ls i) x.up c _ HB) q18 HF fun w32 HF => yK 9 92 HF (.bool false) <| yK 10 93 HF (.bool false) <| yK 11 94 HF (.int .i64 ((i : Nat) : Int)) <| ?_
        try simp only [pS]
        cases q19 : (decide (i = 0))
        rotate_left
        ·skip
         refine yT 12 95 HF (zN (gI (a := ((i : Nat) : Int)) (b := 0) (decide_eq_false (by have := of_decide_eq_true q19; omega)))) <| yK 13 96 HF (.bool false) <| yS 14 97 HF <| yS 15 98 HF <| yS 16 99 HF <| yS 17 100 HF <| yS 18 101 HF <| yS 19 102 HF <| ?_
         try simp only [pS]
         refine yS 20 103 HF <| yS 21 104 HF <| yS 22 105 HF <| yS 23 106 HF <| yS 24 107 HF <| yS 25 108 HF <| yS 26 109 HF <| yS 27 110 HF <| ?_
         try simp only [pS]
         refine yK 28 111 HF (.bool false) <| yK 29 112 HF (.bool false) <| ?_
         try simp only [pS]
         refine wpAnyH_done (by kernel_rfl) ?_ _
         try simp only [pS]
         go_upto_region 11 with fail
         refine WL.start <| tK (.int .i64 ((i : Nat) : Int)) <| bN (v := .int .i64 (((i + 1) : Nat) : Int)) (b_addw ((i : Nat) : Int) 1 (((i + 1) : Nat) : Int) (by rw [IntKind.wrap_i64]; omega)) <| tK (.int .i64 (((i + 1) : Nat) : Int)) <| WL.nil <| ?_
         try simp only [pS]
         go_wp2
         go_roundw
         case rel => exact ⟨i + 1, by go_num, by omega, up_j HP2.out (by simp only [lasR, bsq, q18, q19]), HF⟩
         case measure => simp [intOf]; omega
        refine yT 12 95 HF (zN (gI (a := ((i : Nat) : Int)) (b := 0) (decide_eq_true (by have := of_decide_eq_false q19; omega)))) <| yK 13 96 HF (.bool true) <| yK 14 97 HF (pg g1 2) <| yT 15 98 HF (v := x.l.v) (zD 0 2 U41 rfl) <| yK 16 99 HF (.int .i64 ((i : Nat) : Int)) <| yT 17 100 HF (v := .int .i64 (((i - 1) : Nat) : Int)) (zN (b_subw ((i : Nat) : Int) 1 (((i - 1) : Nat) : Int) (by rw [IntKind.wrap_i64]; have := of_decide_eq_false q19; omega))) <| yT 18 101 HF (zI (i := i - 1) hsl E41 F41 (by omega)) <| yK 19 102 HF (.pointer (some ⟨b, off + (i - 1) * 7, none⟩)) <| ?_
        try simp only [pS]
        refine yT 20 103 HF (zL fun w HF => (load_one (HF.out.kept.cell (HRL.out.pre (i := i - 1) hsl (by omega) 0 _ rfl) (fun e => e)) U3 rfl)) <| yK 21 104 HF (pg g1 2) <| yT 22 105 HF (v := x.l.v) (zD 0 2 U41 rfl) <| yK 23 106 HF (.int .i64 ((i : Nat) : Int)) <| yT 24 107 HF (zI (s := x.l) (i := i) hsl E41 F41 (by omega)) <| yK 25 108 HF (.pointer (some ⟨b, off + i * 7, none⟩)) <| yT 26 109 HF (zL fun w HF => (load_one (HF.out.kept.cell (hc 0 _ rfl) (fun e => e)) U3 rfl)) <| ?_
        try simp only [pS]
        cases q20 : (decide (((lAt ls i).cl) ≤ ((lAt ls (i - 1)).cl)))
        rotate_left
        ·skip
         refine yT 27 110 HF (zN (geI q20)) <| yK 28 111 HF (.bool true) <| yK 29 112 HF (.bool true) <| ?_
         try simp only [pS]
         refine wpAnyH_done (by kernel_rfl) ?_ _
         try simp only [pS]
         go_upto_region 13 with fail
         refine WL.start <| tK (.bool false) <| WL.nil <| ?_
         try simp only [pS]
         go_wp2
         rw [HC.out]
         exact ⟨ret_bool (by rw [show bktR c.bl c.rm x es ls = false from by unfold bktR; rw [rng_f (n := ls.length) (i := i) (by rw [HRL.out.len]; exact hlt) (by simp only [lasR, bsq, q18, q19, q20])]; simp only [bsq, q1, q3, q12, q2]]), HF.out.kept⟩
        refine yT 27 110 HF (zN (geI q20)) <| yK 28 111 HF (.bool false) <| yK 29 112 HF (.bool false) <| ?_
        try simp only [pS]
        refine wpAnyH_done (by kernel_rfl) ?_ _
        try simp only [pS]
        go_upto_region 11 with fail
        refine WL.start <| tK (.int .i64 ((i : Nat) : Int)) <| bN (v := .int .i64 (((i + 1) : Nat) : Int)) (b_addw ((i : Nat) : Int) 1 (((i + 1) : Nat) : Int) (by rw [IntKind.wrap_i64]; omega)) <| tK (.int .i64 (((i + 1) : Nat) : Int)) <| WL.nil <| ?_
        try simp only [pS]
        go_wp2
        go_roundw
        case rel => exact ⟨i + 1, by go_num, by omega, up_j HP2.out (by simp only [lasR, bsq, q18, q19, q20]), HF⟩
        case measure => simp [intOf]; omega
       ·skip
        go_upto_region 10 with fail
        refine WL.start <| tK (.int .i64 ((i : Nat) : Int)) <| tK (pg g1 2) <| lD (x.l.v) HF 0 2 U41 rfl <| tK (.int .i64 ((x.l.l : Nat) : Int)) <| bN (lI (a := ((i : Nat) : Int)) (b := ((x.l.l : Nat) : Int)) (decide_eq_false (by omega))) <| WL.nil <| ?_
        try simp only [pS]
        go_upto_region 14 with fail
        refine WL.start <| tK (.bool true) <| WL.nil <| ?_
        try simp only [pS]
        go_wp2
        rw [HC.out]
        exact ⟨ret_bool (by rw [show bktR c.bl c.rm x es ls = true from by unfold bktR; rw [rng_t (n := es.length) HA.out, rng_t (n := ls.length) (fun j hj => HP2.out j (by rw [HRL.out.len] at hj; omega))]; simp only [bsq, q1, q3, q12, q2]]), HF.out.kept⟩
end Go.Proofs.YtgdnofacgfjaeaaGreat.Md
