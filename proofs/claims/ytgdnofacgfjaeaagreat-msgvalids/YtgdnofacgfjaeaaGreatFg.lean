import Derived.Test.YtgdnofacgfjaeaaGreatKf
namespace Go.Proofs.YtgdnofacgfjaeaaGreat.Md
open Go.RowKit
set_option linter.unusedVariables false
set_option linter.unusedSimpArgs false

theorem RdE.pre {w : World} {s : Sl} {es : List En} (h : RdE w s es) {b off : Nat} (hsl : s.v = .slice (some ⟨b, off, none⟩) s.l s.k) {i : Nat} (hi : i < s.l) (j : Nat) (v : Value) (hv : (eAt es i).cs[j]? = some v) : w.cell? ⟨b, off + i * 4 + j, none⟩ = some v := by
  obtain ⟨b', off', h1, h2⟩ := h.at' hi
  rw [hsl] at h1
  simp only [Value.slice.injEq, Option.some.injEq, Addr.mk.injEq] at h1
  obtain ⟨⟨rfl, rfl, _⟩, _⟩ := h1
  exact h2 j v hv
theorem RdL.pre {w : World} {s : Sl} {es : List La} (h : RdL w s es) {b off : Nat} (hsl : s.v = .slice (some ⟨b, off, none⟩) s.l s.k) {i : Nat} (hi : i < s.l) (j : Nat) (v : Value) (hv : (lAt es i).cs[j]? = some v) : w.cell? ⟨b, off + i * 7 + j, none⟩ = some v := by
  obtain ⟨b', off', h1, h2⟩ := h.at' hi
  rw [hsl] at h1
  simp only [Value.slice.injEq, Option.some.injEq, Addr.mk.injEq] at h1
  obtain ⟨⟨rfl, rfl, _⟩, _⟩ := h1
  exact h2 j v hv
set_option maxRecDepth 100000 in
set_option maxHeartbeats 4000000 in
theorem p_rightEntries (x : Sl) (es : List En) (c : Cg) (w : World) (hb : 0 ≤ c.bl ∧ c.bl ≤ 4096) (he : RdE w x es) (hn : x.l ≤ 281474976710656) : Calls Tryz.prog 110 #[x.v, .agg (Cg.cells c)] w (fun e w' => e = .returned (.bool (entsP c.bl c.rm es)) ∧ Kept No w w') := by
  obtain ⟨C, hC⟩ : ∃ C : Ending → World → Prop, C = (fun e w' => e = .returned (.bool (entsP c.bl c.rm es)) ∧ Kept No w w') := ⟨_, rfl⟩
  have HC : Hid (C = (fun e w' => e = .returned (.bool (entsP c.bl c.rm es)) ∧ Kept No w w')) := hC
  rw [← hC]
  clear hC
  have HB : Hid (0 ≤ c.bl ∧ c.bl ≤ 4096) := hb
  clear hb
  have HRE : Hid (RdE w x es) := he
  clear he
  have HF : Hid (Fq No w w []) := Fq.start _ _
  go_enter Tryz.func110, Tryz.ntmps110
  go_upto_region 0 with fail
  refine WL.start <| xB (Cg.cells c) HF fun g1 w2 HF => ?_
  try simp only [pS]
  have HF : Hid (Fq No w w2 [(g1, 24, Cg.cells c)]) := HF
  refine tK (.bool false) <| ?_
  try simp only [pS]
  refine WL.nil <| ?_
  try simp only [pS]
  go_upto_region 1 with fail
  refine WL.start <| tK (x.v) <| tK (.int .i64 ((x.l : Nat) : Int)) <| tK (.pointer (some ⟨g1, 5, none⟩)) <| lD (.int .i64 c.rm) HF 0 5 U3 rfl <| ?_
  try simp only [pS]
  cases q1 : (decide (c.rm < ((x.l : Nat) : Int)))
  ·skip
   refine bN (gI q1) <| ?_
   try simp only [pS]
   refine WL.nil <| ?_
   try simp only [pS]
   go_upto_region 3 with fail
   refine WL.start <| tK (.string ⟨#[]⟩) <| ?_
   try simp only [pS]
   refine WL.nil <| ?_
   try simp only [pS]
   go_upto_region 4 with fail
   refine WL.start <| tK (x.v) <| tK (.int .i64 ((x.l : Nat) : Int)) <| tK (.int .i64 0) <| ?_
   try simp only [pS]
   refine WL.nil <| ?_
   try simp only [pS]
   go_wp2
   go_loopw [5, 15] (fun v5 v15 wr => ∃ i : Nat, v5 = .string (lastN es i) ∧ v15 = .int .i64 ((i : Nat) : Int) ∧ i ≤ x.l ∧ Hid (∀ j, j < i → entP c.bl es j = true) ∧ Hid (Fq No w wr [(g1, 24, Cg.cells c)])) (fun v5 v15 _ => x.l - (intOf v15).toNat)
   case atStart => exact ⟨0, rfl, by go_num, by omega, fun j hj => absurd hj (Nat.not_lt_zero _), HF⟩
   case round =>
     clear HF
     obtain ⟨i, rfl, rfl, hi, HP, HF⟩ := hrel
     by_cases hlt : i < x.l
     ·skip
      obtain ⟨b, off, hsl, hc⟩ := RdE.at' HRE.out (i := i) (by omega)
      go_upto_region 5 with fail
      refine WL.start <| bN (lI (a := ((i : Nat) : Int)) (b := ((x.l : Nat) : Int)) (decide_eq_true (by omega))) <| ?_
      try simp only [pS]
      refine WL.nil <| ?_
      try simp only [pS]
      go_upto_region 6 with fail
      refine WL.start <| iS (s := x) (i := i) hsl E40 F40 (by omega) <| lR (load_E (fun j v h => HF.out.kept.cell (hc j v h) (fun e => e))) <| xA (En.cells enZ) Z92 HF fun g3 w4 HF => ?_
      try simp only [pS]
      have HF : Hid (Fq No w w4 [(g1, 24, Cg.cells c), (g3, 92, En.cells enZ)]) := HF
      refine sB (En.cs (eAt es i)) (En.cs (eAt es i)) HF 1 0 (v := .agg (En.cells (eAt es i))) rfl S92 (En.oneL _) (En.cs enZ) rfl fun w5 HF => ?_
      try simp only [pS]
      have HF : Hid (Fq No w w5 [(g1, 24, Cg.cells c), (g3, 92, En.cells (eAt es i))]) := HF
      refine WL.nil <| ?_
      try simp only [pS]
      go_upto_region 7 with fail
      refine WL.start <| tK (.pointer (some ⟨g3, 0, none⟩)) <| lD (.string (eAt es i).nm) HF 1 0 U9 rfl <| tK (.string (lastN es i)) <| ?_
      try simp only [pS]
      cases q2 : (ltS (lastN es i) ((eAt es i).nm))
      ·skip
       refine bN (leN0 q2) <| tK (.bool true) <| sK <| sK <| sK <| sK <| tK (.bool true) <| tK (.bool true) <| sK <| sK <| sK <| sK <| tK (.bool true) <| tK (.bool true) <| sK <| sK <| ?_
       try simp only [pS]
       refine sK <| sK <| sK <| tK (.bool true) <| ?_
       try simp only [pS]
       refine WL.nil <| ?_
       try simp only [pS]
       go_upto_region 8 with fail
       refine WL.start <| tK (.bool false) <| ?_
       try simp only [pS]
       refine WL.nil <| ?_
       try simp only [pS]
       go_wp2
       rw [HC.out]
       exact ⟨ret_bool (by rw [show entsP c.bl c.rm es = false from by unfold entsP; rw [rng_f (i := i) (by rw [HRE.out.len]; exact hlt) (by simp only [entP, bsq, q2])]; simp only [bsq]]), HF.out.kept⟩
      ·skip
       refine bN (leN1 q2) <| tK (.bool false) <| tK (.pointer (some ⟨g3, 0, none⟩)) <| lD (.string (eAt es i).nm) HF 1 0 U9 rfl <| ?_
       try simp only [pS]
       cases q3 : (nameP ((eAt es i).nm))
       ·skip
        refine cB (p_rightName ((eAt es i).nm) _) q3 HF fun w6 HF => tK (.bool true) <| tK (.bool true) <| tK (.bool true) <| sK <| sK <| sK <| sK <| tK (.bool true) <| tK (.bool true) <| sK <| sK <| sK <| sK <| sK <| tK (.bool true) <| ?_
        try simp only [pS]
        refine WL.nil <| ?_
        try simp only [pS]
        go_upto_region 8 with fail
        refine WL.start <| tK (.bool false) <| ?_
        try simp only [pS]
        refine WL.nil <| ?_
        try simp only [pS]
        go_wp2
        rw [HC.out]
        exact ⟨ret_bool (by rw [show entsP c.bl c.rm es = false from by unfold entsP; rw [rng_f (i := i) (by rw [HRE.out.len]; exact hlt) (by simp only [entP, bsq, q2, q3])]; simp only [bsq]]), HF.out.kept⟩
       ·skip
        refine cB (p_rightName ((eAt es i).nm) _) q3 HF fun w7 HF => tK (.bool false) <| tK (.bool false) <| tK (.bool false) <| tK (.pointer (some ⟨g3, 1, none⟩)) <| lP (Fi.cs ⟨(eAt es i).f0, (eAt es i).f1⟩) HF 1 1 U37 S37 (En.cs (eAt es i)) rfl <| ?_
        try simp only [pS]
        cases q4 : (filB ⟨(eAt es i).f0, (eAt es i).f1⟩)
        ·skip
         refine cB (p_isFile ⟨(eAt es i).f0, (eAt es i).f1⟩ _) q4 HF fun w8 HF => tK (.bool true) <| tK (.bool true) <| tK (.bool true) <| sK <| sK <| sK <| sK <| sK <| tK (.bool true) <| ?_
         try simp only [pS]
         refine WL.nil <| ?_
         try simp only [pS]
         go_upto_region 8 with fail
         refine WL.start <| tK (.bool false) <| ?_
         try simp only [pS]
         refine WL.nil <| ?_
         try simp only [pS]
         go_wp2
         rw [HC.out]
         exact ⟨ret_bool (by rw [show entsP c.bl c.rm es = false from by unfold entsP; rw [rng_f (i := i) (by rw [HRE.out.len]; exact hlt) (by simp only [entP, bsq, q2, q3, q4])]; simp only [bsq]]), HF.out.kept⟩
        ·skip
         refine cB (p_isFile ⟨(eAt es i).f0, (eAt es i).f1⟩ _) q4 HF fun w9 HF => tK (.bool false) <| tK (.bool false) <| tK (.bool false) <| tK (.pointer (some ⟨g3, 3, none⟩)) <| lD (.int .i64 (eAt es i).sz) HF 1 3 U3 rfl <| lP (Cg.cs c) HF 0 0 U24 S24 (Cg.cs c) rfl <| ?_
         try simp only [pS]
         cases q5 : (szB c.bl ((eAt es i).sz))
         ·skip
          refine cB (p_rightSize ((eAt es i).sz) c _ HB) q5 HF fun w10 HF => tK (.bool true) <| tK (.bool true) <| ?_
          try simp only [pS]
          refine WL.nil <| ?_
          try simp only [pS]
          go_upto_region 8 with fail
          refine WL.start <| tK (.bool false) <| ?_
          try simp only [pS]
          refine WL.nil <| ?_
          try simp only [pS]
          go_wp2
          rw [HC.out]
          exact ⟨ret_bool (by rw [show entsP c.bl c.rm es = false from by unfold entsP; rw [rng_f (i := i) (by rw [HRE.out.len]; exact hlt) (by simp only [entP, bsq, q2, q3, q4, q5])]; simp only [bsq]]), HF.out.kept⟩
         ·skip
          refine cB (p_rightSize ((eAt es i).sz) c _ HB) q5 HF fun w11 HF => tK (.bool false) <| tK (.bool false) <| ?_
          try simp only [pS]
          refine WL.nil <| ?_
          try simp only [pS]
          go_upto_region 9 with fail
          refine WL.start <| tK (.pointer (some ⟨g3, 0, none⟩)) <| lD (.string (eAt es i).nm) HF 1 0 U9 rfl <| tK (.string (eAt es i).nm) <| ?_
          try simp only [pS]
          refine WL.nil <| ?_
          try simp only [pS]
          go_upto_region 10 with fail
          refine WL.start <| bN (v := .int .i64 (((i + 1) : Nat) : Int)) (b_addw ((i : Nat) : Int) 1 (((i + 1) : Nat) : Int) (by rw [IntKind.wrap_i64]; omega)) <| tK (.int .i64 (((i + 1) : Nat) : Int)) <| ?_
          try simp only [pS]
          refine WL.nil <| ?_
          try simp only [pS]
          go_wp2
          go_roundw
          case rel => exact ⟨i + 1, rfl, by go_num, by omega, up_j HP.out (by simp only [entP, bsq, q2, q3, q4, q5]), Fq.front (l := [(g1, 24, Cg.cells c)]) (m := [(g3, 92, En.cells (eAt es i))]) HF⟩
          case measure => simp [intOf]; omega
     ·skip
      go_upto_region 5 with fail
      refine WL.start <| bN (lI (a := ((i : Nat) : Int)) (b := ((x.l : Nat) : Int)) (decide_eq_false (by omega))) <| ?_
      try simp only [pS]
      refine WL.nil <| ?_
      try simp only [pS]
      go_upto_region 11 with fail
      refine WL.start <| tK (.bool true) <| ?_
      try simp only [pS]
      refine WL.nil <| ?_
      try simp only [pS]
      go_wp2
      rw [HC.out]
      exact ⟨ret_bool (by rw [show entsP c.bl c.rm es = true from by unfold entsP; rw [rng_t (fun j hj => HP.out j (by rw [HRE.out.len] at hj; omega)), HRE.out.len]; simp only [bsq, q1]]), HF.out.kept⟩
  ·skip
   refine bN (gI q1) <| ?_
   try simp only [pS]
   refine WL.nil <| ?_
   try simp only [pS]
   go_upto_region 2 with fail
   refine WL.start <| tK (.bool false) <| ?_
   try simp only [pS]
   refine WL.nil <| ?_
   try simp only [pS]
   go_wp2
   rw [HC.out]
   exact ⟨ret_bool (by rw [show entsP c.bl c.rm es = false from by simp only [entsP, HRE.out.len, bsq, q1]]), HF.out.kept⟩
set_option maxRecDepth 100000 in
set_option maxHeartbeats 4000000 in
theorem p_rightLasts (x : Sl) (ls : List La) (up : Int) (c : Cg) (w : World) (hb : 0 ≤ c.bl ∧ c.bl ≤ 4096) (he : RdL w x ls) (hn : x.l ≤ 281474976710656) : Calls Tryz.prog 111 #[x.v, .int .i64 up, .agg (Cg.cells c)] w (fun e w' => e = .returned (.bool (lassP c.bl up ls)) ∧ Kept No w w') := by
  obtain ⟨C, hC⟩ : ∃ C : Ending → World → Prop, C = (fun e w' => e = .returned (.bool (lassP c.bl up ls)) ∧ Kept No w w') := ⟨_, rfl⟩
  have HC : Hid (C = (fun e w' => e = .returned (.bool (lassP c.bl up ls)) ∧ Kept No w w')) := hC
  rw [← hC]
  clear hC
  have HB : Hid (0 ≤ c.bl ∧ c.bl ≤ 4096) := hb
  clear hb
  have HRL : Hid (RdL w x ls) := he
  clear he
  have HF : Hid (Fq No w w []) := Fq.start _ _
  go_enter Tryz.func111, Tryz.ntmps111
  go_upto_region 0 with fail
  refine WL.start <| xB (Cg.cells c) HF fun g1 w2 HF => ?_
  try simp only [pS]
  have HF : Hid (Fq No w w2 [(g1, 24, Cg.cells c)]) := HF
  refine tK (.bool false) <| ?_
  try simp only [pS]
  refine WL.nil <| ?_
  try simp only [pS]
  go_upto_region 1 with fail
  refine WL.start <| tK (.int .i64 0) <| ?_
  try simp only [pS]
  refine WL.nil <| ?_
  try simp only [pS]
  go_upto_region 2 with fail
  refine WL.start <| tK (x.v) <| tK (.int .i64 ((x.l : Nat) : Int)) <| tK (.int .i64 0) <| ?_
  try simp only [pS]
  refine WL.nil <| ?_
  try simp only [pS]
  go_wp2
  go_loopw [7, 12] (fun v7 v12 wr => ∃ i : Nat, v7 = .int .i64 (lastC ls i) ∧ v12 = .int .i64 ((i : Nat) : Int) ∧ i ≤ x.l ∧ Hid (∀ j, j < i → lasP c.bl up ls j = true) ∧ Hid (Fq No w wr [(g1, 24, Cg.cells c)])) (fun v7 v12 _ => x.l - (intOf v12).toNat)
  case atStart => exact ⟨0, rfl, by go_num, by omega, fun j hj => absurd hj (Nat.not_lt_zero _), HF⟩
  case round =>
    clear HF
    obtain ⟨i, rfl, rfl, hi, HP, HF⟩ := hrel
    by_cases hlt : i < x.l
    ·skip
     obtain ⟨b, off, hsl, hc⟩ := RdL.at' HRL.out (i := i) (by omega)
     go_upto_region 3 with fail
     refine WL.start <| bN (lI (a := ((i : Nat) : Int)) (b := ((x.l : Nat) : Int)) (decide_eq_true (by omega))) <| ?_
     try simp only [pS]
     refine WL.nil <| ?_
     try simp only [pS]
     go_upto_region 4 with fail
     refine WL.start <| iS (s := x) (i := i) hsl E41 F41 (by omega) <| lR (load_L (fun j v h => HF.out.kept.cell (hc j v h) (fun e => e))) <| xA (La.cells laZ) Z94 HF fun g3 w4 HF => ?_
     try simp only [pS]
     have HF : Hid (Fq No w w4 [(g1, 24, Cg.cells c), (g3, 94, La.cells laZ)]) := HF
     refine sB (La.cs (lAt ls i)) (La.cs (lAt ls i)) HF 1 0 (v := .agg (La.cells (lAt ls i))) rfl S94 (La.oneL _) (La.cs laZ) rfl fun w5 HF => ?_
     try simp only [pS]
     have HF : Hid (Fq No w w5 [(g1, 24, Cg.cells c), (g3, 94, La.cells (lAt ls i))]) := HF
     refine WL.nil <| ?_
     try simp only [pS]
     go_upto_region 5 with fail
     refine WL.start <| tK (.pointer (some ⟨g3, 0, none⟩)) <| lD (.int .i64 (lAt ls i).cl) HF 1 0 U3 rfl <| tK (.int .i64 (lastC ls i)) <| ?_
     try simp only [pS]
     cases q1 : (decide (((lAt ls i).cl) ≤ (lastC ls i)))
     ·skip
      refine bN (leI q1) <| tK (.bool false) <| tK (.pointer (some ⟨g3, 0, none⟩)) <| lD (.int .i64 (lAt ls i).cl) HF 1 0 U3 rfl <| ?_
      try simp only [pS]
      cases q2 : (wn ((lAt ls i).cl) 1 255)
      ·skip
       refine cB (p_rightId ((lAt ls i).cl) _) q2 HF fun w6 HF => tK (.bool true) <| tK (.bool true) <| tK (.bool true) <| sK <| sK <| sK <| sK <| tK (.bool true) <| tK (.bool true) <| sK <| sK <| sK <| sK <| sK <| tK (.bool true) <| ?_
       try simp only [pS]
       refine tK (.bool true) <| sK <| sK <| sK <| sK <| tK (.bool true) <| ?_
       try simp only [pS]
       refine WL.nil <| ?_
       try simp only [pS]
       go_upto_region 6 with fail
       refine WL.start <| tK (.bool false) <| ?_
       try simp only [pS]
       refine WL.nil <| ?_
       try simp only [pS]
       go_wp2
       rw [HC.out]
       exact ⟨ret_bool (by rw [show lassP c.bl up ls = false from rng_f (i := i) (by rw [HRL.out.len]; exact hlt) (by simp only [lasP, bsq, q1, q2])]), HF.out.kept⟩
      ·skip
       refine cB (p_rightId ((lAt ls i).cl) _) q2 HF fun w7 HF => tK (.bool false) <| tK (.bool false) <| tK (.bool false) <| tK (.pointer (some ⟨g3, 1, none⟩)) <| lD (.int .i64 (lAt ls i).op) HF 1 1 U3 rfl <| ?_
       try simp only [pS]
       cases q3 : (wn ((lAt ls i).op) 1 1099511627776)
       ·skip
        refine cB (p_rightNum ((lAt ls i).op) _) q3 HF fun w8 HF => tK (.bool true) <| tK (.bool true) <| tK (.bool true) <| sK <| sK <| sK <| sK <| sK <| tK (.bool true) <| tK (.bool true) <| sK <| sK <| sK <| sK <| tK (.bool true) <| ?_
        try simp only [pS]
        refine WL.nil <| ?_
        try simp only [pS]
        go_upto_region 6 with fail
        refine WL.start <| tK (.bool false) <| ?_
        try simp only [pS]
        refine WL.nil <| ?_
        try simp only [pS]
        go_wp2
        rw [HC.out]
        exact ⟨ret_bool (by rw [show lassP c.bl up ls = false from rng_f (i := i) (by rw [HRL.out.len]; exact hlt) (by simp only [lasP, bsq, q1, q2, q3])]), HF.out.kept⟩
       ·skip
        refine cB (p_rightNum ((lAt ls i).op) _) q3 HF fun w9 HF => tK (.bool false) <| tK (.bool false) <| tK (.bool false) <| tK (.pointer (some ⟨g3, 2, none⟩)) <| lD (.int .i64 (lAt ls i).ins) HF 1 2 U3 rfl <| tK (.int .i64 up) <| ?_
        try simp only [pS]
        cases q4 : (wn ((lAt ls i).ins) 1 up)
        ·skip
         refine cB (p_within ((lAt ls i).ins) 1 up _) q4 HF fun w10 HF => tK (.bool true) <| tK (.bool true) <| tK (.bool true) <| sK <| sK <| sK <| sK <| tK (.bool true) <| ?_
         try simp only [pS]
         refine WL.nil <| ?_
         try simp only [pS]
         go_upto_region 6 with fail
         refine WL.start <| tK (.bool false) <| ?_
         try simp only [pS]
         refine WL.nil <| ?_
         try simp only [pS]
         go_wp2
         rw [HC.out]
         exact ⟨ret_bool (by rw [show lassP c.bl up ls = false from rng_f (i := i) (by rw [HRL.out.len]; exact hlt) (by simp only [lasP, bsq, q1, q2, q3, q4])]), HF.out.kept⟩
        ·skip
         refine cB (p_within ((lAt ls i).ins) 1 up _) q4 HF fun w11 HF => tK (.bool false) <| tK (.bool false) <| tK (.bool false) <| lP (La.cs (lAt ls i)) HF 1 0 U94 S94 (La.cs (lAt ls i)) rfl <| lP (Cg.cs c) HF 0 0 U24 S24 (Cg.cs c) rfl <| ?_
         try simp only [pS]
         cases q5 : (ansP c.bl (lAt ls i))
         ·skip
          refine cB (p_rightAnswer (lAt ls i) c _ HB) q5 HF fun w12 HF => tK (.bool true) <| tK (.bool true) <| ?_
          try simp only [pS]
          refine WL.nil <| ?_
          try simp only [pS]
          go_upto_region 6 with fail
          refine WL.start <| tK (.bool false) <| ?_
          try simp only [pS]
          refine WL.nil <| ?_
          try simp only [pS]
          go_wp2
          rw [HC.out]
          exact ⟨ret_bool (by rw [show lassP c.bl up ls = false from rng_f (i := i) (by rw [HRL.out.len]; exact hlt) (by simp only [lasP, bsq, q1, q2, q3, q4, q5])]), HF.out.kept⟩
         ·skip
          refine cB (p_rightAnswer (lAt ls i) c _ HB) q5 HF fun w13 HF => tK (.bool false) <| tK (.bool false) <| ?_
          try simp only [pS]
          refine WL.nil <| ?_
          try simp only [pS]
          go_upto_region 7 with fail
          refine WL.start <| tK (.pointer (some ⟨g3, 0, none⟩)) <| lD (.int .i64 (lAt ls i).cl) HF 1 0 U3 rfl <| tK (.int .i64 (lAt ls i).cl) <| ?_
          try simp only [pS]
          refine WL.nil <| ?_
          try simp only [pS]
          go_upto_region 8 with fail
          refine WL.start <| bN (v := .int .i64 (((i + 1) : Nat) : Int)) (b_addw ((i : Nat) : Int) 1 (((i + 1) : Nat) : Int) (by rw [IntKind.wrap_i64]; omega)) <| tK (.int .i64 (((i + 1) : Nat) : Int)) <| ?_
          try simp only [pS]
          refine WL.nil <| ?_
          try simp only [pS]
          go_wp2
          go_roundw
          case rel => exact ⟨i + 1, rfl, by go_num, by omega, up_j HP.out (by simp only [lasP, bsq, q1, q2, q3, q4, q5]), Fq.front (l := [(g1, 24, Cg.cells c)]) (m := [(g3, 94, La.cells (lAt ls i))]) HF⟩
          case measure => simp [intOf]; omega
     ·skip
      refine bN (leI q1) <| tK (.bool true) <| sK <| sK <| sK <| sK <| tK (.bool true) <| tK (.bool true) <| sK <| sK <| sK <| sK <| tK (.bool true) <| tK (.bool true) <| sK <| sK <| ?_
      try simp only [pS]
      refine sK <| sK <| sK <| tK (.bool true) <| tK (.bool true) <| sK <| sK <| sK <| sK <| tK (.bool true) <| ?_
      try simp only [pS]
      refine WL.nil <| ?_
      try simp only [pS]
      go_upto_region 6 with fail
      refine WL.start <| tK (.bool false) <| ?_
      try simp only [pS]
      refine WL.nil <| ?_
      try simp only [pS]
      go_wp2
      rw [HC.out]
      exact ⟨ret_bool (by rw [show lassP c.bl up ls = false from rng_f (i := i) (by rw [HRL.out.len]; exact hlt) (by simp only [lasP, bsq, q1])]), HF.out.kept⟩
    ·skip
     go_upto_region 3 with fail
     refine WL.start <| bN (lI (a := ((i : Nat) : Int)) (b := ((x.l : Nat) : Int)) (decide_eq_false (by omega))) <| ?_
     try simp only [pS]
     refine WL.nil <| ?_
     try simp only [pS]
     go_upto_region 9 with fail
     refine WL.start <| tK (.bool true) <| ?_
     try simp only [pS]
     refine WL.nil <| ?_
     try simp only [pS]
     go_wp2
     rw [HC.out]
     exact ⟨ret_bool (by rw [show lassP c.bl up ls = true from rng_t (fun j hj => HP.out j (by rw [HRL.out.len] at hj; omega))]), HF.out.kept⟩
set_option maxRecDepth 100000 in
set_option maxHeartbeats 4000000 in
theorem p_rightBucket (x : Bv) (es : List En) (ls : List La) (c : Cg) (w : World) (hb : 0 ≤ c.bl ∧ c.bl ≤ 4096) (he : RdE w x.e es) (hl : RdL w x.l ls) (hne : x.e.l ≤ 281474976710656) (hnl : x.l.l ≤ 281474976710656) : Calls Tryz.prog 47 #[.agg (Bv.cells x), .agg (Cg.cells c)] w (fun e w' => e = .returned (.bool (bktP c.bl c.rm x es ls)) ∧ Kept No w w') := by
  obtain ⟨C, hC⟩ : ∃ C : Ending → World → Prop, C = (fun e w' => e = .returned (.bool (bktP c.bl c.rm x es ls)) ∧ Kept No w w') := ⟨_, rfl⟩
  have HC : Hid (C = (fun e w' => e = .returned (.bool (bktP c.bl c.rm x es ls)) ∧ Kept No w w')) := hC
  rw [← hC]
  clear hC
  have HB : Hid (0 ≤ c.bl ∧ c.bl ≤ 4096) := hb
  clear hb
  have HRE : Hid (RdE w x.e es) := he
  have HRL : Hid (RdL w x.l ls) := hl
  clear he hl
  have HF : Hid (Fq No w w []) := Fq.start _ _
  go_enter Tryz.func47, Tryz.ntmps47
  go_upto_region 0 with fail
  refine WL.start <| xB (Bv.cells x) HF fun g1 w2 HF => ?_
  try simp only [pS]
  have HF : Hid (Fq No w w2 [(g1, 43, Bv.cells x)]) := HF
  refine xB (Cg.cells c) HF fun g3 w4 HF => ?_
  try simp only [pS]
  have HF : Hid (Fq No w w4 [(g1, 43, Bv.cells x), (g3, 24, Cg.cells c)]) := HF
  refine tK (.bool false) <| ?_
  try simp only [pS]
  refine WL.nil <| ?_
  try simp only [pS]
  go_upto_region 1 with fail
  refine WL.start <| tK (.pointer (some ⟨g1, 0, none⟩)) <| lD (.int .i64 x.up) HF 0 0 U3 rfl <| ?_
  try simp only [pS]
  cases q1 : (x.up == 0)
  ·skip
   refine bN (eI q1) <| ?_
   try simp only [pS]
   refine WL.nil <| ?_
   try simp only [pS]
   go_upto_region 3 with fail
   refine WL.start <| tK (.pointer (some ⟨g1, 0, none⟩)) <| lD (.int .i64 x.up) HF 0 0 U3 rfl <| ?_
   try simp only [pS]
   cases q2 : (wn x.up 1 1048576)
   ·skip
    refine cB (p_within x.up 1 1048576 _) q2 HF fun w5 HF => tK (.bool false) <| sK <| sK <| sK <| sK <| tK (.bool false) <| tK (.bool false) <| sK <| sK <| sK <| sK <| sK <| sK <| tK (.bool false) <| tK (.bool false) <| ?_
    try simp only [pS]
    refine WL.nil <| ?_
    try simp only [pS]
    go_wp2
    rw [HC.out]
    exact ⟨ret_bool (by simp only [bktP, bsq, q1, q2]), HF.out.kept⟩
   ·skip
    refine cB (p_within x.up 1 1048576 _) q2 HF fun w6 HF => tK (.bool true) <| tK (.pointer (some ⟨g1, 1, none⟩)) <| lD (x.e.v) HF 0 1 U40 rfl <| lP (Cg.cs c) HF 1 0 U24 S24 (Cg.cs c) rfl <| ?_
    try simp only [pS]
    cases q3 : (entsP c.bl c.rm es)
    ·skip
     refine cB (p_rightEntries x.e es c _ HB (HRE.out.no HF.out.kept) hne) q3 HF fun w7 HF => tK (.bool false) <| tK (.bool false) <| sK <| sK <| sK <| sK <| sK <| sK <| tK (.bool false) <| tK (.bool false) <| ?_
     try simp only [pS]
     refine WL.nil <| ?_
     try simp only [pS]
     go_wp2
     rw [HC.out]
     exact ⟨ret_bool (by simp only [bktP, bsq, q1, q2, q3]), HF.out.kept⟩
    ·skip
     refine cB (p_rightEntries x.e es c _ HB (HRE.out.no HF.out.kept) hne) q3 HF fun w8 HF => tK (.bool true) <| tK (.bool true) <| tK (.pointer (some ⟨g1, 2, none⟩)) <| lD (x.l.v) HF 0 2 U41 rfl <| tK (.pointer (some ⟨g1, 0, none⟩)) <| lD (.int .i64 x.up) HF 0 0 U3 rfl <| lP (Cg.cs c) HF 1 0 U24 S24 (Cg.cs c) rfl <| ?_
     try simp only [pS]
     cases q4 : (lassP c.bl x.up ls)
     ·skip
      refine cB (p_rightLasts x.l ls x.up c _ HB (HRL.out.no HF.out.kept) hnl) q4 HF fun w9 HF => tK (.bool false) <| tK (.bool false) <| ?_
      try simp only [pS]
      refine WL.nil <| ?_
      try simp only [pS]
      go_wp2
      rw [HC.out]
      exact ⟨ret_bool (by simp only [bktP, bsq, q1, q2, q3, q4]), HF.out.kept⟩
     ·skip
      refine cB (p_rightLasts x.l ls x.up c _ HB (HRL.out.no HF.out.kept) hnl) q4 HF fun w10 HF => tK (.bool true) <| tK (.bool true) <| ?_
      try simp only [pS]
      refine WL.nil <| ?_
      try simp only [pS]
      go_wp2
      rw [HC.out]
      exact ⟨ret_bool (by simp only [bktP, bsq, q1, q2, q3, q4]), HF.out.kept⟩
  ·skip
   refine bN (eI q1) <| ?_
   try simp only [pS]
   refine WL.nil <| ?_
   try simp only [pS]
   go_upto_region 2 with fail
   refine WL.start <| lP (Bv.cs x) HF 0 0 U43 S43 (Bv.cs x) rfl <| ?_
   try simp only [pS]
   cases q5 : (empK x)
   ·skip
    refine cB (p_emptyBucket x _) q5 HF fun w11 HF => tK (.bool false) <| ?_
    try simp only [pS]
    refine WL.nil <| ?_
    try simp only [pS]
    go_wp2
    rw [HC.out]
    exact ⟨ret_bool (by simp only [bktP, bsq, q1, q5]), HF.out.kept⟩
   ·skip
    refine cB (p_emptyBucket x _) q5 HF fun w12 HF => tK (.bool true) <| ?_
    try simp only [pS]
    refine WL.nil <| ?_
    try simp only [pS]
    go_wp2
    rw [HC.out]
    exact ⟨ret_bool (by simp only [bktP, bsq, q1, q5]), HF.out.kept⟩

end Go.Proofs.YtgdnofacgfjaeaaGreat.Md
