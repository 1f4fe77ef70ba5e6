import Derived.Test.YthnecaejhnojfaaLa
namespace Go.Proofs.Ythnecaejhnojfaa.Md
open Go.RowKit
set_option linter.unusedVariables false
set_option linter.unusedSimpArgs false

set_option maxRecDepth 100000 in
set_option maxHeartbeats 4000000 in
theorem sameEn (sa ta : Option Addr) (n sk tk : Nat) (es : List En) (w : World) (hs : RdE w ⟨sa, n, sk⟩ es) (ht : RdE w ⟨ta, n, tk⟩ es) (hn : n ≤ 4000000000000) : Calls Try.prog 35 #[.slice sa n sk, .slice ta n tk] w (fun e w' => e = .returned (.bool true) ∧ Kept No w w') := by
  obtain ⟨C, hC⟩ : ∃ C : Ending → World → Prop, C = (fun e w' => e = .returned (.bool true) ∧ Kept No w w') := ⟨_, rfl⟩
  have HC : Hid (C = (fun e w' => e = .returned (.bool true) ∧ Kept No w w')) := hC
  rw [← hC]
  clear hC
  have HS : Hid (Es w sa es) := hs.row
  have HT : Hid (Es w ta es) := ht.row
  have hle : es.length = n := hs.len
  clear hs ht
  have HF : Hid (Fq No w w []) := Fq.start _ _
  go_enter Try.func35, Try.ntmps35
  go_upto_region 0 with fail
  refine WL.start <| uK (.bool false) <| WL.nil <| ?_
  try simp only [pS]
  go_upto_region 1 with fail
  refine WL.start <| uK (.slice sa n sk) <| uK (.int .i64 ((n : Nat) : Int)) <| uK (.slice ta n tk) <| uK (.int .i64 ((n : Nat) : Int)) <| uB .neq 3 (.int .i64 ((n : Nat) : Int)) (.int .i64 ((n : Nat) : Int)) (.bool false) (by rw [b_neq, beq_self_eq_true]; rfl) <| WL.nil <| ?_
  try simp only [pS]
  go_upto_region 3 with fail
  refine WL.start <| uK (.int .i64 0) <| WL.nil <| ?_
  try simp only [pS]
  go_wp2
  go_loopw [5] (fun v5 wr => ∃ i : Nat, v5 = .int .i64 ((i : Nat) : Int) ∧ i ≤ n ∧ Hid (Fq No w wr [])) (fun i _ => n - (intOf i).toNat)
  case atStart => exact ⟨0, by go_num, by omega, HF⟩
  case round =>
    clear HF
    obtain ⟨i, rfl, hi, HF⟩ := hrel
    by_cases hlt : i < n
    · skip
      obtain ⟨b, off, rfl, hc⟩ := Es.at HS.out (i := i) (by omega)
      obtain ⟨b', off', rfl, hc'⟩ := Es.at HT.out (i := i) (by omega)
      go_upto_region 4 with fail
      refine WL.start <| uK (.int .i64 ((i : Nat) : Int)) <| uK (.slice (some ⟨b, off, none⟩) n sk) <| uK (.int .i64 ((n : Nat) : Int)) <| uB .lss 3 (.int .i64 ((i : Nat) : Int)) (.int .i64 ((n : Nat) : Int)) (.bool true) (by rw [b_lss, decide_eq_true (by omega)]) <| WL.nil <| ?_
      try simp only [pS]
      go_upto_region 6 with fail
      refine wp_region_held_drew (S := fun w' => Fq No w w' []) rfl (HF.out.drew) (fun hH => ?_)
      have HF : Hid (Fq No w (wr.drew) []) := HF.out.drew
      generalize wr.drew = wk1 at HF hH ⊢
      refine xV 0 17 (.slice (some ⟨b, off, none⟩) n sk) hH <| xV 1 18 (.int .i64 ((i : Nat) : Int)) hH <| xU 2 19 (.pointer (some ⟨b, off + i * 4, none⟩)) (fun w' hw => exec_ixA 46 4 E46 F46 _ _ rfl b off n sk i (by kernel_rfl) (by kernel_rfl) (by omega)) hH <| xL 3 20 70 ⟨b, off + i * 4, none⟩ (.agg (En.cells (eAt es i))) (fun _ hw => load_E (fun j v h => hw.kept.cell (hc j v h) (fun e => e))) hH <| xV 4 21 (.slice (some ⟨b', off', none⟩) n tk) hH <| xV 5 22 (.int .i64 ((i : Nat) : Int)) hH <| ?_
      try simp only [pS]
      refine xU 6 23 (.pointer (some ⟨b', off' + i * 4, none⟩)) (fun w' hw => exec_ixA 46 4 E46 F46 _ _ rfl b' off' n tk i (by kernel_rfl) (by kernel_rfl) (by omega)) hH <| xL 7 24 70 ⟨b', off' + i * 4, none⟩ (.agg (En.cells (eAt es i))) (fun _ hw => load_E (fun j v h => hw.kept.cell (hc' j v h) (fun e => e))) hH <| xB 8 25 .neq 70 (.agg (En.cells (eAt es i))) (.agg (En.cells (eAt es i))) (.bool false) (fun _ _ => by rw [eqE_neq, eqE_refl]; rfl) hH <| ?_
      try simp only [pS]
      refine wpAnyH_done (by kernel_rfl) ?_ _
      try simp only [pS]
      clear hH
      go_upto_region 5 with fail
      refine WL.start <| uK (.int .i64 ((i : Nat) : Int)) <| uB .add 3 (.int .i64 ((i : Nat) : Int)) (.int .i64 1) (.int .i64 (((i + 1) : Nat) : Int)) (b_addw _ _ _ (by rw [IntKind.wrap_i64]; omega) _) <| uK (.int .i64 (((i + 1) : Nat) : Int)) <| WL.nil <| ?_
      try simp only [pS]
      go_wp2
      go_roundw
      case rel => exact ⟨i + 1, by go_num, by omega, HF⟩
      case measure => simp [intOf]; omega
    · skip
      go_upto_region 4 with fail
      refine WL.start <| uK (.int .i64 ((i : Nat) : Int)) <| uK (.slice sa n sk) <| uK (.int .i64 ((n : Nat) : Int)) <| uB .lss 3 (.int .i64 ((i : Nat) : Int)) (.int .i64 ((n : Nat) : Int)) (.bool false) (by rw [b_lss, decide_eq_false (by omega)]) <| WL.nil <| ?_
      try simp only [pS]
      go_upto_region 8 with fail
      refine WL.start <| uK (.bool true) <| WL.nil <| ?_
      try simp only [pS]
      go_wp2
      rw [HC.out]
      exact ⟨rfl, HF.out.kept⟩
set_option maxRecDepth 100000 in
set_option maxHeartbeats 4000000 in
theorem sameLa (sa ta : Option Addr) (n sk tk : Nat) (es : List La) (w : World) (hs : RdL w ⟨sa, n, sk⟩ es) (ht : RdL w ⟨ta, n, tk⟩ es) (hn : n ≤ 4000000000000) : Calls Try.prog 41 #[.slice sa n sk, .slice ta n tk] w (fun e w' => e = .returned (.bool true) ∧ Kept No w w') := by
  obtain ⟨C, hC⟩ : ∃ C : Ending → World → Prop, C = (fun e w' => e = .returned (.bool true) ∧ Kept No w w') := ⟨_, rfl⟩
  have HC : Hid (C = (fun e w' => e = .returned (.bool true) ∧ Kept No w w')) := hC
  rw [← hC]
  clear hC
  have HS : Hid (Ls w sa es) := hs.row
  have HT : Hid (Ls w ta es) := ht.row
  have hle : es.length = n := hs.len
  clear hs ht
  have HF : Hid (Fq No w w []) := Fq.start _ _
  go_enter Try.func41, Try.ntmps41
  go_upto_region 0 with fail
  refine WL.start <| uK (.bool false) <| WL.nil <| ?_
  try simp only [pS]
  go_upto_region 1 with fail
  refine WL.start <| uK (.slice sa n sk) <| uK (.int .i64 ((n : Nat) : Int)) <| uK (.slice ta n tk) <| uK (.int .i64 ((n : Nat) : Int)) <| uB .neq 3 (.int .i64 ((n : Nat) : Int)) (.int .i64 ((n : Nat) : Int)) (.bool false) (by rw [b_neq, beq_self_eq_true]; rfl) <| WL.nil <| ?_
  try simp only [pS]
  go_upto_region 3 with fail
  refine WL.start <| uK (.int .i64 0) <| WL.nil <| ?_
  try simp only [pS]
  go_wp2
  go_loopw [5] (fun v5 wr => ∃ i : Nat, v5 = .int .i64 ((i : Nat) : Int) ∧ i ≤ n ∧ Hid (Fq No w wr [])) (fun i _ => n - (intOf i).toNat)
  case atStart => exact ⟨0, by go_num, by omega, HF⟩
  case round =>
    clear HF
    obtain ⟨i, rfl, hi, HF⟩ := hrel
    by_cases hlt : i < n
    · skip
      obtain ⟨b, off, rfl, hc⟩ := Ls.at HS.out (i := i) (by omega)
      obtain ⟨b', off', rfl, hc'⟩ := Ls.at HT.out (i := i) (by omega)
      go_upto_region 4 with fail
      refine WL.start <| uK (.int .i64 ((i : Nat) : Int)) <| uK (.slice (some ⟨b, off, none⟩) n sk) <| uK (.int .i64 ((n : Nat) : Int)) <| uB .lss 3 (.int .i64 ((i : Nat) : Int)) (.int .i64 ((n : Nat) : Int)) (.bool true) (by rw [b_lss, decide_eq_true (by omega)]) <| WL.nil <| ?_
      try simp only [pS]
      go_upto_region 6 with fail
      refine wp_region_held_drew (S := fun w' => Fq No w w' []) rfl (HF.out.drew) (fun hH => ?_)
      have HF : Hid (Fq No w (wr.drew) []) := HF.out.drew
      generalize wr.drew = wk1 at HF hH ⊢
      refine xV 0 17 (.slice (some ⟨b, off, none⟩) n sk) hH <| xV 1 18 (.int .i64 ((i : Nat) : Int)) hH <| xU 2 19 (.pointer (some ⟨b, off + i * 7, none⟩)) (fun w' hw => exec_ixA 47 7 E47 F47 _ _ rfl b off n sk i (by kernel_rfl) (by kernel_rfl) (by omega)) hH <| xL 3 20 93 ⟨b, off + i * 7, none⟩ (.agg (La.cells (lAt es i))) (fun _ hw => load_L (fun j v h => hw.kept.cell (hc j v h) (fun e => e))) hH <| xV 4 21 (.slice (some ⟨b', off', none⟩) n tk) hH <| xV 5 22 (.int .i64 ((i : Nat) : Int)) hH <| ?_
      try simp only [pS]
      refine xU 6 23 (.pointer (some ⟨b', off' + i * 7, none⟩)) (fun w' hw => exec_ixA 47 7 E47 F47 _ _ rfl b' off' n tk i (by kernel_rfl) (by kernel_rfl) (by omega)) hH <| xL 7 24 93 ⟨b', off' + i * 7, none⟩ (.agg (La.cells (lAt es i))) (fun _ hw => load_L (fun j v h => hw.kept.cell (hc' j v h) (fun e => e))) hH <| xB 8 25 .neq 93 (.agg (La.cells (lAt es i))) (.agg (La.cells (lAt es i))) (.bool false) (fun _ _ => by rw [eqL_neq, eqL_refl]; rfl) hH <| ?_
      try simp only [pS]
      refine wpAnyH_done (by kernel_rfl) ?_ _
      try simp only [pS]
      clear hH
      go_upto_region 5 with fail
      refine WL.start <| uK (.int .i64 ((i : Nat) : Int)) <| uB .add 3 (.int .i64 ((i : Nat) : Int)) (.int .i64 1) (.int .i64 (((i + 1) : Nat) : Int)) (b_addw _ _ _ (by rw [IntKind.wrap_i64]; omega) _) <| uK (.int .i64 (((i + 1) : Nat) : Int)) <| WL.nil <| ?_
      try simp only [pS]
      go_wp2
      go_roundw
      case rel => exact ⟨i + 1, by go_num, by omega, HF⟩
      case measure => simp [intOf]; omega
    · skip
      go_upto_region 4 with fail
      refine WL.start <| uK (.int .i64 ((i : Nat) : Int)) <| uK (.slice sa n sk) <| uK (.int .i64 ((n : Nat) : Int)) <| uB .lss 3 (.int .i64 ((i : Nat) : Int)) (.int .i64 ((n : Nat) : Int)) (.bool false) (by rw [b_lss, decide_eq_false (by omega)]) <| WL.nil <| ?_
      try simp only [pS]
      go_upto_region 8 with fail
      refine WL.start <| uK (.bool true) <| WL.nil <| ?_
      try simp only [pS]
      go_wp2
      rw [HC.out]
      exact ⟨rfl, HF.out.kept⟩
set_option maxRecDepth 100000 in
set_option maxHeartbeats 4000000 in
theorem sameCm (sa ta : Option Addr) (n sk tk : Nat) (es : List Cm) (w : World) (hs : RdC w ⟨sa, n, sk⟩ es) (ht : RdC w ⟨ta, n, tk⟩ es) (hn : n ≤ 4000000000000) : Calls Try.prog 37 #[.slice sa n sk, .slice ta n tk] w (fun e w' => e = .returned (.bool true) ∧ Kept No w w') := by
  obtain ⟨C, hC⟩ : ∃ C : Ending → World → Prop, C = (fun e w' => e = .returned (.bool true) ∧ Kept No w w') := ⟨_, rfl⟩
  have HC : Hid (C = (fun e w' => e = .returned (.bool true) ∧ Kept No w w')) := hC
  rw [← hC]
  clear hC
  have HS : Hid (Cs w sa es) := hs.row
  have HT : Hid (Cs w ta es) := ht.row
  have hle : es.length = n := hs.len
  clear hs ht
  have HF : Hid (Fq No w w []) := Fq.start _ _
  go_enter Try.func37, Try.ntmps37
  go_upto_region 0 with fail
  refine WL.start <| uK (.bool false) <| WL.nil <| ?_
  try simp only [pS]
  go_upto_region 1 with fail
  refine WL.start <| uK (.slice sa n sk) <| uK (.int .i64 ((n : Nat) : Int)) <| uK (.slice ta n tk) <| uK (.int .i64 ((n : Nat) : Int)) <| uB .neq 3 (.int .i64 ((n : Nat) : Int)) (.int .i64 ((n : Nat) : Int)) (.bool false) (by rw [b_neq, beq_self_eq_true]; rfl) <| WL.nil <| ?_
  try simp only [pS]
  go_upto_region 3 with fail
  refine WL.start <| uK (.int .i64 0) <| WL.nil <| ?_
  try simp only [pS]
  go_wp2
  go_loopw [5] (fun v5 wr => ∃ i : Nat, v5 = .int .i64 ((i : Nat) : Int) ∧ i ≤ n ∧ Hid (Fq No w wr [])) (fun i _ => n - (intOf i).toNat)
  case atStart => exact ⟨0, by go_num, by omega, HF⟩
  case round =>
    clear HF
    obtain ⟨i, rfl, hi, HF⟩ := hrel
    by_cases hlt : i < n
    · skip
      obtain ⟨b, off, rfl, hc⟩ := Cs.at HS.out (i := i) (by omega)
      obtain ⟨b', off', rfl, hc'⟩ := Cs.at HT.out (i := i) (by omega)
      go_upto_region 4 with fail
      refine WL.start <| uK (.int .i64 ((i : Nat) : Int)) <| uK (.slice (some ⟨b, off, none⟩) n sk) <| uK (.int .i64 ((n : Nat) : Int)) <| uB .lss 3 (.int .i64 ((i : Nat) : Int)) (.int .i64 ((n : Nat) : Int)) (.bool true) (by rw [b_lss, decide_eq_true (by omega)]) <| WL.nil <| ?_
      try simp only [pS]
      go_upto_region 6 with fail
      refine wp_region_held_drew (S := fun w' => Fq No w w' []) rfl (HF.out.drew) (fun hH => ?_)
      have HF : Hid (Fq No w (wr.drew) []) := HF.out.drew
      generalize wr.drew = wk1 at HF hH ⊢
      refine xV 0 17 (.slice (some ⟨b, off, none⟩) n sk) hH <| xV 1 18 (.int .i64 ((i : Nat) : Int)) hH <| xU 2 19 (.pointer (some ⟨b, off + i * 9, none⟩)) (fun w' hw => exec_ixA 50 9 E50 F50 _ _ rfl b off n sk i (by kernel_rfl) (by kernel_rfl) (by omega)) hH <| xL 3 20 45 ⟨b, off + i * 9, none⟩ (.agg (Cm.cells (cAt es i))) (fun _ hw => load_Ca (fun j v h => hw.kept.cell (hc j v h) (fun e => e))) hH <| xV 4 21 (.slice (some ⟨b', off', none⟩) n tk) hH <| xV 5 22 (.int .i64 ((i : Nat) : Int)) hH <| ?_
      try simp only [pS]
      refine xU 6 23 (.pointer (some ⟨b', off' + i * 9, none⟩)) (fun w' hw => exec_ixA 50 9 E50 F50 _ _ rfl b' off' n tk i (by kernel_rfl) (by kernel_rfl) (by omega)) hH <| xL 7 24 45 ⟨b', off' + i * 9, none⟩ (.agg (Cm.cells (cAt es i))) (fun _ hw => load_Ca (fun j v h => hw.kept.cell (hc' j v h) (fun e => e))) hH <| xB 8 25 .neq 45 (.agg (Cm.cells (cAt es i))) (.agg (Cm.cells (cAt es i))) (.bool false) (fun _ _ => by rw [eqC_neq, eqC_refl]; rfl) hH <| ?_
      try simp only [pS]
      refine wpAnyH_done (by kernel_rfl) ?_ _
      try simp only [pS]
      clear hH
      go_upto_region 5 with fail
      refine WL.start <| uK (.int .i64 ((i : Nat) : Int)) <| uB .add 3 (.int .i64 ((i : Nat) : Int)) (.int .i64 1) (.int .i64 (((i + 1) : Nat) : Int)) (b_addw _ _ _ (by rw [IntKind.wrap_i64]; omega) _) <| uK (.int .i64 (((i + 1) : Nat) : Int)) <| WL.nil <| ?_
      try simp only [pS]
      go_wp2
      go_roundw
      case rel => exact ⟨i + 1, by go_num, by omega, HF⟩
      case measure => simp [intOf]; omega
    · skip
      go_upto_region 4 with fail
      refine WL.start <| uK (.int .i64 ((i : Nat) : Int)) <| uK (.slice sa n sk) <| uK (.int .i64 ((n : Nat) : Int)) <| uB .lss 3 (.int .i64 ((i : Nat) : Int)) (.int .i64 ((n : Nat) : Int)) (.bool false) (by rw [b_lss, decide_eq_false (by omega)]) <| WL.nil <| ?_
      try simp only [pS]
      go_upto_region 8 with fail
      refine WL.start <| uK (.bool true) <| WL.nil <| ?_
      try simp only [pS]
      go_wp2
      rw [HC.out]
      exact ⟨rfl, HF.out.kept⟩
set_option maxRecDepth 100000 in
set_option maxHeartbeats 4000000 in
theorem sameBk (up : Int) (ea ta la ua : Option Addr) (n m ek tk lk uk : Nat) (es : List En) (ls : List La) (w : World) (h1 : RdE w ⟨ea, n, ek⟩ es) (h2 : RdE w ⟨ta, n, tk⟩ es) (h3 : RdL w ⟨la, m, lk⟩ ls) (h4 : RdL w ⟨ua, m, uk⟩ ls) (hn : n ≤ 4000000000000) (hm : m ≤ 4000000000000) : Calls Try.prog 36 #[.agg (Bv.cells ⟨up, ⟨ea, n, ek⟩, ⟨la, m, lk⟩⟩), .agg (Bv.cells ⟨up, ⟨ta, n, tk⟩, ⟨ua, m, uk⟩⟩)] w (fun e w' => e = .returned (.bool true) ∧ Kept No w w') := by
  obtain ⟨C, hC⟩ : ∃ C : Ending → World → Prop, C = (fun e w' => e = .returned (.bool true) ∧ Kept No w w') := ⟨_, rfl⟩
  have HC : Hid (C = (fun e w' => e = .returned (.bool true) ∧ Kept No w w')) := hC
  rw [← hC]
  clear hC
  have H1 : Hid (RdE w ⟨ea, n, ek⟩ es) := h1
  have H2 : Hid (RdE w ⟨ta, n, tk⟩ es) := h2
  have H3 : Hid (RdL w ⟨la, m, lk⟩ ls) := h3
  have H4 : Hid (RdL w ⟨ua, m, uk⟩ ls) := h4
  clear h1 h2 h3 h4
  have HF : Hid (Fq No w w []) := Fq.start _ _
  go_enter Try.func36, Try.ntmps36
  go_upto_region 0 with fail
  refine WL.start ?_
  refine uR (.pointer (some ⟨w.heap.size, 0, none⟩)) (w.alloc (.cells (Bv.cells ⟨up, ⟨ea, n, ek⟩, ⟨la, m, lk⟩⟩) 49)) (exec_box 49 _ rfl (Bv.cells ⟨up, ⟨ea, n, ek⟩, ⟨la, m, lk⟩⟩) (by kernel_rfl)) ?_
  try simp only [pS]
  have HF : Hid (Fq No w (w.alloc (.cells (Bv.cells ⟨up, ⟨ea, n, ek⟩, ⟨la, m, lk⟩⟩) 49)) [(w.heap.size, 49, Bv.cells ⟨up, ⟨ea, n, ek⟩, ⟨la, m, lk⟩⟩)]) := HF.out.alloc _ _
  generalize w.alloc (.cells (Bv.cells ⟨up, ⟨ea, n, ek⟩, ⟨la, m, lk⟩⟩) 49) = wk2 at HF ⊢
  generalize w.heap.size = gk1 at HF ⊢
  refine uR (.pointer (some ⟨wk2.heap.size, 0, none⟩)) (wk2.alloc (.cells (Bv.cells ⟨up, ⟨ta, n, tk⟩, ⟨ua, m, uk⟩⟩) 49)) (exec_box 49 _ rfl (Bv.cells ⟨up, ⟨ta, n, tk⟩, ⟨ua, m, uk⟩⟩) (by kernel_rfl)) ?_
  try simp only [pS]
  have HF : Hid (Fq No w (wk2.alloc (.cells (Bv.cells ⟨up, ⟨ta, n, tk⟩, ⟨ua, m, uk⟩⟩) 49)) [(gk1, 49, Bv.cells ⟨up, ⟨ea, n, ek⟩, ⟨la, m, lk⟩⟩), (wk2.heap.size, 49, Bv.cells ⟨up, ⟨ta, n, tk⟩, ⟨ua, m, uk⟩⟩)]) := HF.out.alloc _ _
  generalize wk2.alloc (.cells (Bv.cells ⟨up, ⟨ta, n, tk⟩, ⟨ua, m, uk⟩⟩) 49) = wk4 at HF ⊢
  generalize wk2.heap.size = gk3 at HF ⊢
  refine uK (.bool false) <| WL.nil <| ?_
  try simp only [pS]
  go_upto_region 1 with fail
  refine WL.start <| uK (.pointer (some ⟨gk1, 0, none⟩)) <| uL 3 ⟨gk1, 0, none⟩ (.int .i64 up) (load_one ((HF.out.box 0 _ _ _ rfl).cell 0 |>.trans (by kernel_rfl)) U3 rfl) <| uK (.pointer (some ⟨gk3, 0, none⟩)) <| uL 3 ⟨gk3, 0, none⟩ (.int .i64 up) (load_one ((HF.out.box 1 _ _ _ rfl).cell 0 |>.trans (by kernel_rfl)) U3 rfl) <| uB .eql 3 (.int .i64 up) (.int .i64 up) (.bool true) (by rw [b_eql, beq_self_eq_true]) <| uK (.bool true) <| uK (.pointer (some ⟨gk1, 1, none⟩)) <| ?_
  try simp only [pS]
  refine uL 46 ⟨gk1, 1, none⟩ (.slice ea n ek) (load_one ((HF.out.box 0 _ _ _ rfl).cell 1 |>.trans (by kernel_rfl)) U46 rfl) <| uK (.pointer (some ⟨gk3, 1, none⟩)) <| uL 46 ⟨gk3, 1, none⟩ (.slice ta n tk) (load_one ((HF.out.box 1 _ _ _ rfl).cell 1 |>.trans (by kernel_rfl)) U46 rfl) <| ?_
  try simp only [pS]
  refine uC 35 #[.slice ea n ek, .slice ta n tk] (sameEn ea ta n ek tk es wk4 (H1.out.no HF.out.kept) (H2.out.no HF.out.kept) hn) ?_
  rintro e wk5 ⟨rfl, hk⟩
  have HF : Hid (Fq No w (wk5) [(gk1, 49, Bv.cells ⟨up, ⟨ea, n, ek⟩, ⟨la, m, lk⟩⟩), (gk3, 49, Bv.cells ⟨up, ⟨ta, n, tk⟩, ⟨ua, m, uk⟩⟩)]) := HF.out.no hk
  clear hk
  refine ⟨.bool true, rfl, ?_⟩
  try simp only [pS]
  refine uK (.bool true) <| uK (.bool true) <| uK (.pointer (some ⟨gk1, 2, none⟩)) <| uL 47 ⟨gk1, 2, none⟩ (.slice la m lk) (load_one ((HF.out.box 0 _ _ _ rfl).cell 2 |>.trans (by kernel_rfl)) U47 rfl) <| uK (.pointer (some ⟨gk3, 2, none⟩)) <| uL 47 ⟨gk3, 2, none⟩ (.slice ua m uk) (load_one ((HF.out.box 1 _ _ _ rfl).cell 2 |>.trans (by kernel_rfl)) U47 rfl) <| ?_
  try simp only [pS]
  refine uC 41 #[.slice la m lk, .slice ua m uk] (sameLa la ua m lk uk ls wk5 (H3.out.no HF.out.kept) (H4.out.no HF.out.kept) hm) ?_
  rintro e wk6 ⟨rfl, hk⟩
  have HF : Hid (Fq No w (wk6) [(gk1, 49, Bv.cells ⟨up, ⟨ea, n, ek⟩, ⟨la, m, lk⟩⟩), (gk3, 49, Bv.cells ⟨up, ⟨ta, n, tk⟩, ⟨ua, m, uk⟩⟩)]) := HF.out.no hk
  clear hk
  refine ⟨.bool true, rfl, ?_⟩
  try simp only [pS]
  refine uK (.bool true) <| uK (.bool true) <| WL.nil <| ?_
  try simp only [pS]
  go_wp2
  rw [HC.out]
  exact ⟨rfl, HF.out.kept⟩
set_option maxRecDepth 100000 in
set_option maxHeartbeats 4000000 in
theorem sameRz (er : Int) (en : En) (n ins : Int) (s : Sp) (la lb da db : Option Addr) (ll lk lj dl dk dj : Nat) (es : List En) (zs : List Int) (w : World) (h1 : RdE w ⟨la, ll, lk⟩ es) (h2 : RdE w ⟨lb, ll, lj⟩ es) (h3 : Nums .u8 w da zs) (h4 : Nums .u8 w db zs) (hz : zs.length = dl) (hn : ll ≤ 4000000000000) (hm : dl ≤ 281474976710656) : Calls Try.prog 21 #[.agg (Rz.cells ⟨er, en, ⟨la, ll, lk⟩, ⟨da, dl, dk⟩, n, s, ins⟩), .agg (Rz.cells ⟨er, en, ⟨lb, ll, lj⟩, ⟨db, dl, dj⟩, n, s, ins⟩)] w (fun e w' => e = .returned (.bool true) ∧ Kept No w w') := by
  obtain ⟨C, hC⟩ : ∃ C : Ending → World → Prop, C = (fun e w' => e = .returned (.bool true) ∧ Kept No w w') := ⟨_, rfl⟩
  have HC : Hid (C = (fun e w' => e = .returned (.bool true) ∧ Kept No w w')) := hC
  rw [← hC]
  clear hC
  have H1 : Hid (RdE w ⟨la, ll, lk⟩ es) := h1
  have H2 : Hid (RdE w ⟨lb, ll, lj⟩ es) := h2
  have H3 : Hid (Nums .u8 w da zs) := h3
  have H4 : Hid (Nums .u8 w db zs) := h4
  clear h1 h2 h3 h4
  have HF : Hid (Fq No w w []) := Fq.start _ _
  go_enter Try.func21, Try.ntmps21
  go_upto_region 0 with fail
  refine WL.start ?_
  refine uR (.pointer (some ⟨w.heap.size, 0, none⟩)) (w.alloc (.cells (Rz.cells ⟨er, en, ⟨la, ll, lk⟩, ⟨da, dl, dk⟩, n, s, ins⟩) 72)) (exec_box 72 _ rfl (Rz.cells ⟨er, en, ⟨la, ll, lk⟩, ⟨da, dl, dk⟩, n, s, ins⟩) (by kernel_rfl)) ?_
  try simp only [pS]
  have HF : Hid (Fq No w (w.alloc (.cells (Rz.cells ⟨er, en, ⟨la, ll, lk⟩, ⟨da, dl, dk⟩, n, s, ins⟩) 72)) [(w.heap.size, 72, Rz.cells ⟨er, en, ⟨la, ll, lk⟩, ⟨da, dl, dk⟩, n, s, ins⟩)]) := HF.out.alloc _ _
  generalize w.alloc (.cells (Rz.cells ⟨er, en, ⟨la, ll, lk⟩, ⟨da, dl, dk⟩, n, s, ins⟩) 72) = wk2 at HF ⊢
  generalize w.heap.size = gk1 at HF ⊢
  refine uR (.pointer (some ⟨wk2.heap.size, 0, none⟩)) (wk2.alloc (.cells (Rz.cells ⟨er, en, ⟨lb, ll, lj⟩, ⟨db, dl, dj⟩, n, s, ins⟩) 72)) (exec_box 72 _ rfl (Rz.cells ⟨er, en, ⟨lb, ll, lj⟩, ⟨db, dl, dj⟩, n, s, ins⟩) (by kernel_rfl)) ?_
  try simp only [pS]
  have HF : Hid (Fq No w (wk2.alloc (.cells (Rz.cells ⟨er, en, ⟨lb, ll, lj⟩, ⟨db, dl, dj⟩, n, s, ins⟩) 72)) [(gk1, 72, Rz.cells ⟨er, en, ⟨la, ll, lk⟩, ⟨da, dl, dk⟩, n, s, ins⟩), (wk2.heap.size, 72, Rz.cells ⟨er, en, ⟨lb, ll, lj⟩, ⟨db, dl, dj⟩, n, s, ins⟩)]) := HF.out.alloc _ _
  generalize wk2.alloc (.cells (Rz.cells ⟨er, en, ⟨lb, ll, lj⟩, ⟨db, dl, dj⟩, n, s, ins⟩) 72) = wk4 at HF ⊢
  generalize wk2.heap.size = gk3 at HF ⊢
  refine uK (.bool false) <| WL.nil <| ?_
  try simp only [pS]
  go_upto_region 1 with fail
  refine WL.start <| uK (.pointer (some ⟨gk1, 0, none⟩)) <| uL 68 ⟨gk1, 0, none⟩ (.int .i64 er) (load_one ((HF.out.box 0 _ _ _ rfl).cell 0 |>.trans (by kernel_rfl)) U86 rfl) <| uK (.pointer (some ⟨gk3, 0, none⟩)) <| uL 68 ⟨gk3, 0, none⟩ (.int .i64 er) (load_one ((HF.out.box 1 _ _ _ rfl).cell 0 |>.trans (by kernel_rfl)) U86 rfl) <| uB .eql 68 (.int .i64 er) (.int .i64 er) (.bool true) (by rw [b_eql111, beq_self_eq_true]) <| uK (.bool true) <| uK (.pointer (some ⟨gk1, 1, none⟩)) <| ?_
  try simp only [pS]
  refine uL 70 ⟨gk1, 1, none⟩ (.agg (En.cells en)) (run_load_part (cs := Rz.cs ⟨er, en, ⟨la, ll, lk⟩, ⟨da, dl, dk⟩, n, s, ins⟩) (sub := En.cs en) (HF.out.box 0 _ _ _ rfl) (part_of (by kernel_rfl)) U88 rfl S88) <| uK (.pointer (some ⟨gk3, 1, none⟩)) <| uL 70 ⟨gk3, 1, none⟩ (.agg (En.cells en)) (run_load_part (cs := Rz.cs ⟨er, en, ⟨lb, ll, lj⟩, ⟨db, dl, dj⟩, n, s, ins⟩) (sub := En.cs en) (HF.out.box 1 _ _ _ rfl) (part_of (by kernel_rfl)) U88 rfl S88) <| uB .eql 70 (.agg (En.cells en)) (.agg (En.cells en)) (.bool true) (by rw [eqE_eql, eqE_refl]) <| uK (.bool true) <| uK (.bool true) <| uK (.pointer (some ⟨gk1, 5, none⟩)) <| uL 46 ⟨gk1, 5, none⟩ (.slice la ll lk) (load_one ((HF.out.box 0 _ _ _ rfl).cell 5 |>.trans (by kernel_rfl)) U46 rfl) <| ?_
  try simp only [pS]
  refine uK (.pointer (some ⟨gk3, 5, none⟩)) <| uL 46 ⟨gk3, 5, none⟩ (.slice lb ll lj) (load_one ((HF.out.box 1 _ _ _ rfl).cell 5 |>.trans (by kernel_rfl)) U46 rfl) <| ?_
  try simp only [pS]
  refine uC 35 #[.slice la ll lk, .slice lb ll lj] (sameEn la lb ll lk lj es wk4 (H1.out.no HF.out.kept) (H2.out.no HF.out.kept) hn) ?_
  rintro e wk5 ⟨rfl, hk⟩
  have HF : Hid (Fq No w (wk5) [(gk1, 72, Rz.cells ⟨er, en, ⟨la, ll, lk⟩, ⟨da, dl, dk⟩, n, s, ins⟩), (gk3, 72, Rz.cells ⟨er, en, ⟨lb, ll, lj⟩, ⟨db, dl, dj⟩, n, s, ins⟩)]) := HF.out.no hk
  clear hk
  refine ⟨.bool true, rfl, ?_⟩
  try simp only [pS]
  refine uK (.bool true) <| uK (.bool true) <| uK (.pointer (some ⟨gk1, 6, none⟩)) <| uL 25 ⟨gk1, 6, none⟩ (.slice da dl dk) (load_one ((HF.out.box 0 _ _ _ rfl).cell 6 |>.trans (by kernel_rfl)) U25 rfl) <| uK (.pointer (some ⟨gk3, 6, none⟩)) <| uL 25 ⟨gk3, 6, none⟩ (.slice db dl dj) (load_one ((HF.out.box 1 _ _ _ rfl).cell 6 |>.trans (by kernel_rfl)) U25 rfl) <| ?_
  try simp only [pS]
  refine uC 33 #[.slice da dl dk, .slice db dl dj] (same_l da db dk dj dl zs wk5 hz hm (Nums.kept H3.out HF.out.kept (fun _ _ _ e => e)) (Nums.kept H4.out HF.out.kept (fun _ _ _ e => e))) ?_
  rintro e wk6 ⟨rfl, hk⟩
  have HF : Hid (Fq No w (wk6) [(gk1, 72, Rz.cells ⟨er, en, ⟨la, ll, lk⟩, ⟨da, dl, dk⟩, n, s, ins⟩), (gk3, 72, Rz.cells ⟨er, en, ⟨lb, ll, lj⟩, ⟨db, dl, dj⟩, n, s, ins⟩)]) := HF.out.no hk
  clear hk
  refine ⟨.bool true, rfl, ?_⟩
  try simp only [pS]
  refine uK (.bool true) <| uK (.bool true) <| uK (.pointer (some ⟨gk1, 7, none⟩)) <| uL 3 ⟨gk1, 7, none⟩ (.int .i64 n) (load_one ((HF.out.box 0 _ _ _ rfl).cell 7 |>.trans (by kernel_rfl)) U3 rfl) <| uK (.pointer (some ⟨gk3, 7, none⟩)) <| uL 3 ⟨gk3, 7, none⟩ (.int .i64 n) (load_one ((HF.out.box 1 _ _ _ rfl).cell 7 |>.trans (by kernel_rfl)) U3 rfl) <| uB .eql 3 (.int .i64 n) (.int .i64 n) (.bool true) (by rw [b_eql, beq_self_eq_true]) <| uK (.bool true) <| ?_
  try simp only [pS]
  refine uK (.bool true) <| uK (.pointer (some ⟨gk1, 8, none⟩)) <| uL 41 ⟨gk1, 8, none⟩ (.agg (Sp.cells s)) (run_load_part (cs := Rz.cs ⟨er, en, ⟨la, ll, lk⟩, ⟨da, dl, dk⟩, n, s, ins⟩) (sub := Sp.cs s) (HF.out.box 0 _ _ _ rfl) (part_of (by kernel_rfl)) U41 rfl S41) <| uK (.pointer (some ⟨gk3, 8, none⟩)) <| uL 41 ⟨gk3, 8, none⟩ (.agg (Sp.cells s)) (run_load_part (cs := Rz.cs ⟨er, en, ⟨lb, ll, lj⟩, ⟨db, dl, dj⟩, n, s, ins⟩) (sub := Sp.cs s) (HF.out.box 1 _ _ _ rfl) (part_of (by kernel_rfl)) U41 rfl S41) <| uB .eql 41 (.agg (Sp.cells s)) (.agg (Sp.cells s)) (.bool true) (by rw [eqS_eql, eqS_refl]) <| uK (.bool true) <| uK (.bool true) <| ?_
  try simp only [pS]
  refine uK (.pointer (some ⟨gk1, 10, none⟩)) <| uL 3 ⟨gk1, 10, none⟩ (.int .i64 ins) (load_one ((HF.out.box 0 _ _ _ rfl).cell 10 |>.trans (by kernel_rfl)) U3 rfl) <| uK (.pointer (some ⟨gk3, 10, none⟩)) <| uL 3 ⟨gk3, 10, none⟩ (.int .i64 ins) (load_one ((HF.out.box 1 _ _ _ rfl).cell 10 |>.trans (by kernel_rfl)) U3 rfl) <| uB .eql 3 (.int .i64 ins) (.int .i64 ins) (.bool true) (by rw [b_eql, beq_self_eq_true]) <| uK (.bool true) <| uK (.bool true) <| WL.nil <| ?_
  try simp only [pS]
  go_wp2
  rw [HC.out]
  exact ⟨rfl, HF.out.kept⟩

end Go.Proofs.Ythnecaejhnojfaa.Md
