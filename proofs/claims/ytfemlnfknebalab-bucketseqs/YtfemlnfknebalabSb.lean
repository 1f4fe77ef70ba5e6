import Derived.Test.YtfemlnfknebalabSa
namespace Go.Proofs.Ytfemlnfknebalab
open Go.RowKit
set_option linter.unusedVariables false
set_option linter.unusedSimpArgs false

theorem filter_take (p : En → Bool) {es : List En} {i : Nat} (hi : i < es.length) : (es.take (i + 1)).filter p = (es.take i).filter p ++ (if p (eAt es i) then [eAt es i] else []) := by
  have h1 := eAt_some hi
  rw [List.getElem?_eq_getElem hi] at h1
  rw [List.take_succ_eq_append_getElem hi, List.filter_append, ← Option.some.inj h1]
  congr 1
  cases hq : p es[i] <;> simp [hq]
set_option maxRecDepth 100000 in
set_option maxHeartbeats 4000000 in
theorem refNames_any (up : Int) (ea : Option Addr) (en ec : Nat) (la : Option Addr) (ln lc : Nat) (es : List En) (n : ByteArray) (w : World) (he : RdE w ⟨ea, en, ec⟩ es) (hR : RiseE es) (hb : en + 1 ≤ 3518437208883) : Calls Try.prog 18 #[.agg (Bv.cells ⟨up, ⟨ea, en, ec⟩, ⟨la, ln, lc⟩⟩), .string n] w (fun e w' => ∃ s : Sl, e = .returned s.v ∧ OwE w' w.heap.size s (namesS es n) ∧ Kept No w w') := by
  obtain ⟨C, hC⟩ : ∃ C : Ending → World → Prop, C = (fun e w' => ∃ s : Sl, e = .returned s.v ∧ OwE w' w.heap.size s (namesS es n) ∧ Kept No w w') := ⟨_, rfl⟩
  have HC : Hid (C = (fun e w' => ∃ s : Sl, e = .returned s.v ∧ OwE w' w.heap.size s (namesS es n) ∧ Kept No w w')) := hC
  rw [← hC]
  clear hC
  have HNF : Hid (namesS es n = es.filter (fun e => hasP e.nm n)) := names_filter hR n
  have HEL : Hid (es.length = en) := he.len
  have HE : Hid (RdE w ⟨ea, en, ec⟩ es) := he
  clear he hR
  have HF : Hid (Fr No w w []) := Fr.start _ _
  go_enter Try.func18, Try.ntmps18
  go_upto_region 0 with fail
  refine WL.start ?_
  refine wp_runW (.pointer (some ⟨w.heap.size, 0, none⟩)) (w.alloc (.cells (Bv.cells ⟨up, ⟨ea, en, ec⟩, ⟨la, ln, lc⟩⟩) 26)) (exec_box 26 _ rfl (Bv.cells ⟨up, ⟨ea, en, ec⟩, ⟨la, ln, lc⟩⟩) (by kernel_rfl)) (by kernel_rfl) ?_
  try simp only [pA, pB, p1, p2, p3]
  have HF : Hid (Fr No w (w.alloc (.cells (Bv.cells ⟨up, ⟨ea, en, ec⟩, ⟨la, ln, lc⟩⟩) 26)) [(w.heap.size, 26, Bv.cells ⟨up, ⟨ea, en, ec⟩, ⟨la, ln, lc⟩⟩)]) := HF.out.alloc _ _
  generalize w.alloc (.cells (Bv.cells ⟨up, ⟨ea, en, ec⟩, ⟨la, ln, lc⟩⟩) 26) = wk2 at HF ⊢
  generalize w.heap.size = gk1 at HF ⊢
  refine tK (.slice none 0 0) ?_
  try simp only [pA, pB, p1, p2, p3]
  refine WL.nil ?_
  try simp only [pA, pB, p1, p2, p3]
  go_upto_region 1 with fail
  refine WL.start ?_
  refine tK (.slice none 0 0) ?_
  try simp only [pA, pB, p1, p2, p3]
  refine WL.nil ?_
  try simp only [pA, pB, p1, p2, p3]
  go_wp2
  go_loopw [5, 6] (fun v5 v6 wr => ∃ (i : Nat) (sa : Option Addr) (sn sc : Nat), v5 = .slice sa sn sc ∧ v6 = .int .i64 ((i : Nat) : Int) ∧ i ≤ en ∧ sn ≤ i ∧ Hid (OwE wr w.heap.size ⟨sa, sn, sc⟩ ((es.take i).filter (fun e => hasP e.nm n))) ∧ Hid (Fr No w wr [(gk1, 26, Bv.cells ⟨up, ⟨ea, en, ec⟩, ⟨la, ln, lc⟩⟩)])) (fun _ i _ => en - (intOf i).toNat)
  case atStart => exact ⟨0, none, 0, 0, rfl, by go_num, by omega, by omega, OwE.nil _ _, HF⟩
  case round =>
    clear HF
    obtain ⟨i, sa, sn, sc, rfl, rfl, hi, hsn, HO, HF⟩ := hrel
    by_cases hlt : i < en
    · obtain ⟨xb, xo, e0, hcx⟩ := Es.at HE.out.row (i := i) (by rw [HEL.out]; exact hlt)
      have e0 : ea = some ⟨xb, xo, none⟩ := e0
      subst e0
      have HCX : Hid (∀ (j : Nat) v, (eAt es i).cs[j]? = some v → w.cell? ⟨xb, xo + i * 4 + j, none⟩ = some v) := hcx
      have HX : Hid ((es.take (i + 1)).filter (fun e => hasP e.nm n) = (es.take i).filter (fun e => hasP e.nm n) ++ (if hasP (eAt es i).nm n then [eAt es i] else [])) := filter_take (fun e => hasP e.nm n) (by rw [HEL.out]; exact hlt)
      clear hcx
      generalize eAt es i = y at HCX HX
      generalize (es.take i).filter (fun e => hasP e.nm n) = O at HO HX
      go_upto_region 3 with fail
      refine WL.start ?_
      refine tK (.int .i64 ((i : Nat) : Int)) ?_
      try simp only [pA, pB, p1, p2, p3]
      refine tK (.pointer (some ⟨gk1, 1, none⟩)) ?_
      try simp only [pA, pB, p1, p2, p3]
      refine tW (.slice (some ⟨xb, xo, none⟩) en ec) (exec_load 23 _ rfl ⟨gk1, 1, none⟩ (by kernel_rfl) (.slice (some ⟨xb, xo, none⟩) en ec) (ld22 ((HF.out.box 0 _ _ _ rfl).cell 1))) ?_
      try simp only [pA, pB, p1, p2, p3]
      refine tK (.int .i64 ((en : Nat) : Int)) ?_
      try simp only [pA, pB, p1, p2, p3]
      refine tW (.bool true) (exec_bin .lss 3 _ _ _ rfl (.int .i64 ((i : Nat) : Int)) (.int .i64 ((en : Nat) : Int)) (.bool true) (by kernel_rfl) (by kernel_rfl) (by kernel_rfl) (by rw [b_lss, decide_eq_true (by omega)])) ?_
      try simp only [pA, pB, p1, p2, p3]
      refine WL.nil ?_
      try simp only [pA, pB, p1, p2, p3]
      go_upto_region 5 with fail
      refine WL.start ?_
      refine tK (.pointer (some ⟨gk1, 1, none⟩)) ?_
      try simp only [pA, pB, p1, p2, p3]
      refine tW (.slice (some ⟨xb, xo, none⟩) en ec) (exec_load 23 _ rfl ⟨gk1, 1, none⟩ (by kernel_rfl) (.slice (some ⟨xb, xo, none⟩) en ec) (ld22 ((HF.out.box 0 _ _ _ rfl).cell 1))) ?_
      try simp only [pA, pB, p1, p2, p3]
      refine tK (.int .i64 ((i : Nat) : Int)) ?_
      try simp only [pA, pB, p1, p2, p3]
      refine tW (.pointer (some ⟨xb, xo + i * 4, none⟩)) (exec_ixA 23 4 Try.und22e Try.size22e _ _ rfl xb xo en ec i (by kernel_rfl) (by kernel_rfl) hlt) ?_
      try simp only [pA, pB, p1, p2, p3]
      refine tK (.pointer (some ⟨xb, xo + i * 4, none⟩)) ?_
      try simp only [pA, pB, p1, p2, p3]
      refine tW (.string y.nm) (exec_load 9 _ rfl ⟨xb, xo + i * 4, none⟩ (by kernel_rfl) (.string y.nm) (ld9 (HF.out.kept.cell (HCX.out 0 _ rfl) (fun e => e)))) ?_
      try simp only [pA, pB, p1, p2, p3]
      refine tK (.string y.nm) ?_
      try simp only [pA, pB, p1, p2, p3]
      refine WL.nil ?_
      try simp only [pA, pB, p1, p2, p3]
      by_cases hz : n.size ≤ y.nm.size
      ·skip
       go_upto_region 6 with fail
       refine WL.start ?_
       refine tK (.string y.nm) ?_
       try simp only [pA, pB, p1, p2, p3]
       refine tK (.int .i64 ((y.nm.size : Nat) : Int)) ?_
       try simp only [pA, pB, p1, p2, p3]
       refine tK (.string n) ?_
       try simp only [pA, pB, p1, p2, p3]
       refine tK (.int .i64 ((n.size : Nat) : Int)) ?_
       try simp only [pA, pB, p1, p2, p3]
       refine tW (.bool true) (exec_bin .geq 3 _ _ _ rfl (.int .i64 ((y.nm.size : Nat) : Int)) (.int .i64 ((n.size : Nat) : Int)) (.bool true) (by kernel_rfl) (by kernel_rfl) (by kernel_rfl) (by rw [b_geq, decide_eq_true (by omega)])) ?_
       try simp only [pA, pB, p1, p2, p3]
       refine tK (.bool true) ?_
       try simp only [pA, pB, p1, p2, p3]
       refine tK (.string y.nm) ?_
       try simp only [pA, pB, p1, p2, p3]
       refine tK (.string n) ?_
       try simp only [pA, pB, p1, p2, p3]
       refine tK (.int .i64 ((n.size : Nat) : Int)) ?_
       try simp only [pA, pB, p1, p2, p3]
       refine tW (.string (y.nm.extract 0 n.size)) (exec_strH _ _ rfl y.nm n.size (by kernel_rfl) (by kernel_rfl) hz) ?_
       try simp only [pA, pB, p1, p2, p3]
       refine tK (.string n) ?_
       try simp only [pA, pB, p1, p2, p3]
       cases q1 : (eqN (y.nm.extract 0 n.size) n)
       ·skip
        refine tW (.bool false) (exec_bin .eql 9 _ _ _ rfl (.string (y.nm.extract 0 n.size)) (.string n) (.bool false) (by kernel_rfl) (by kernel_rfl) (by kernel_rfl) (by rw [eqN_eql, q1]; try rfl)) ?_
        try simp only [pA, pB, p1, p2, p3]
        refine tK (.bool false) ?_
        try simp only [pA, pB, p1, p2, p3]
        refine WL.nil ?_
        try simp only [pA, pB, p1, p2, p3]
        have hp : hasP y.nm n = false := by unfold hasP; rw [decide_eq_true hz, q1]; rfl
        have HO : Hid (OwE wr w.heap.size ⟨sa, sn, sc⟩ ((es.take (i + 1)).filter (fun e => hasP e.nm n))) := by rw [HX.out, hp]; exact (show OwE _ _ _ (O ++ []) from by rw [List.append_nil]; exact HO.out)
        clear HX hp
        go_wp2
        go_roundw
        case rel => exact ⟨i + 1, sa, sn, sc, rfl, by go_num, by omega, by omega, HO, HF⟩
        case measure => simp [intOf]; omega
       ·skip
        refine tW (.bool true) (exec_bin .eql 9 _ _ _ rfl (.string (y.nm.extract 0 n.size)) (.string n) (.bool true) (by kernel_rfl) (by kernel_rfl) (by kernel_rfl) (by rw [eqN_eql, q1]; try rfl)) ?_
        try simp only [pA, pB, p1, p2, p3]
        refine tK (.bool true) ?_
        try simp only [pA, pB, p1, p2, p3]
        refine WL.nil ?_
        try simp only [pA, pB, p1, p2, p3]
        have hp : hasP y.nm n = true := by unfold hasP; rw [decide_eq_true hz, q1]; rfl
        go_upto_region 7 with fail
        refine WL.start ?_
        refine tK (.slice sa sn sc) ?_
        try simp only [pA, pB, p1, p2, p3]
        refine tK (.pointer (some ⟨gk1, 1, none⟩)) ?_
        try simp only [pA, pB, p1, p2, p3]
        refine tW (.slice (some ⟨xb, xo, none⟩) en ec) (exec_load 23 _ rfl ⟨gk1, 1, none⟩ (by kernel_rfl) (.slice (some ⟨xb, xo, none⟩) en ec) (ld22 ((HF.out.box 0 _ _ _ rfl).cell 1))) ?_
        try simp only [pA, pB, p1, p2, p3]
        refine tK (.int .i64 ((i : Nat) : Int)) ?_
        try simp only [pA, pB, p1, p2, p3]
        refine tW (.pointer (some ⟨xb, xo + i * 4, none⟩)) (exec_ixA 23 4 Try.und22e Try.size22e _ _ rfl xb xo en ec i (by kernel_rfl) (by kernel_rfl) hlt) ?_
        try simp only [pA, pB, p1, p2, p3]
        refine tW (.agg (En.cells y)) (exec_load 34 _ rfl ⟨xb, xo + i * 4, none⟩ (by kernel_rfl) (.agg (En.cells y)) (load_E (fun j v h => HF.out.kept.cell (HCX.out j v h) (fun e => e)))) ?_
        try simp only [pA, pB, p1, p2, p3]
        obtain ⟨oa, oc, wk3, hrun, hO, hk⟩ := app1E (n := sn) HF.out.kept HO.out y (by omega)
        refine wp_runW (.slice (some ⟨wr.heap.size, 0, none⟩) 1 1) (wr.alloc (.cells (En.cells y) 34)) (exec_slice2 23 34 _ rfl (En.cells y) (.agg (En.cells y)) (by kernel_rfl) (slice1_en y _)) (by kernel_rfl) ?_
        try simp only [pA, pB, p1, p2, p3]
        refine wp_runW (.slice oa (sn + 1) oc) wk3 (exec_appN _ _ 23 23 rfl _ _ (by kernel_rfl) (by kernel_rfl) hrun) (by kernel_rfl) ?_
        try simp only [pA, pB, p1, p2, p3]
        have HF : Hid (Fr No w wk3 [(gk1, 26, Bv.cells ⟨up, ⟨(some ⟨xb, xo, none⟩), en, ec⟩, ⟨la, ln, lc⟩⟩)]) := HF.out.app HO.out.own hk (by simp)
        have HO : Hid (OwE wk3 w.heap.size ⟨oa, sn + 1, oc⟩ (O ++ [y])) := hO
        clear hrun hO hk
        refine tK (.slice oa (sn + 1) oc) ?_
        try simp only [pA, pB, p1, p2, p3]
        refine WL.nil ?_
        try simp only [pA, pB, p1, p2, p3]
        have HO : Hid (OwE wk3 w.heap.size ⟨oa, sn + 1, oc⟩ ((es.take (i + 1)).filter (fun e => hasP e.nm n))) := by rw [HX.out, hp]; exact HO.out
        clear HX hp
        go_wp2
        go_roundw
        case rel => exact ⟨i + 1, oa, sn + 1, oc, rfl, by go_num, by omega, by omega, HO, HF⟩
        case measure => simp [intOf]; omega
      ·skip
       go_upto_region 6 with fail
       refine WL.start ?_
       refine tK (.string y.nm) ?_
       try simp only [pA, pB, p1, p2, p3]
       refine tK (.int .i64 ((y.nm.size : Nat) : Int)) ?_
       try simp only [pA, pB, p1, p2, p3]
       refine tK (.string n) ?_
       try simp only [pA, pB, p1, p2, p3]
       refine tK (.int .i64 ((n.size : Nat) : Int)) ?_
       try simp only [pA, pB, p1, p2, p3]
       refine tW (.bool false) (exec_bin .geq 3 _ _ _ rfl (.int .i64 ((y.nm.size : Nat) : Int)) (.int .i64 ((n.size : Nat) : Int)) (.bool false) (by kernel_rfl) (by kernel_rfl) (by kernel_rfl) (by rw [b_geq, decide_eq_false (by omega)])) ?_
       try simp only [pA, pB, p1, p2, p3]
       refine tK (.bool false) ?_
       try simp only [pA, pB, p1, p2, p3]
       refine sK ?_
       try simp only [pA, pB, p1, p2, p3]
       refine sK ?_
       try simp only [pA, pB, p1, p2, p3]
       refine sK ?_
       try simp only [pA, pB, p1, p2, p3]
       refine sK ?_
       try simp only [pA, pB, p1, p2, p3]
       refine sK ?_
       try simp only [pA, pB, p1, p2, p3]
       refine sK ?_
       try simp only [pA, pB, p1, p2, p3]
       refine tK (.bool false) ?_
       try simp only [pA, pB, p1, p2, p3]
       refine WL.nil ?_
       try simp only [pA, pB, p1, p2, p3]
       have hp : hasP y.nm n = false := by unfold hasP; rw [decide_eq_false hz]; rfl
       have HO : Hid (OwE wr w.heap.size ⟨sa, sn, sc⟩ ((es.take (i + 1)).filter (fun e => hasP e.nm n))) := by rw [HX.out, hp]; exact (show OwE _ _ _ (O ++ []) from by rw [List.append_nil]; exact HO.out)
       clear HX hp
       go_wp2
       go_roundw
       case rel => exact ⟨i + 1, sa, sn, sc, rfl, by go_num, by omega, by omega, HO, HF⟩
       case measure => simp [intOf]; omega
    · have e : i = en := by omega
      have HX : Hid (OwE wr w.heap.size ⟨sa, sn, sc⟩ (namesS es n)) := by
        have := HO.out
        rw [List.take_of_length_le (by rw [HEL.out]; omega)] at this
        rw [HNF.out]; exact this
      clear HO
      go_upto_region 3 with fail
      refine WL.start ?_
      refine tK (.int .i64 ((i : Nat) : Int)) ?_
      try simp only [pA, pB, p1, p2, p3]
      refine tK (.pointer (some ⟨gk1, 1, none⟩)) ?_
      try simp only [pA, pB, p1, p2, p3]
      refine tW (.slice ea en ec) (exec_load 23 _ rfl ⟨gk1, 1, none⟩ (by kernel_rfl) (.slice ea en ec) (ld22 ((HF.out.box 0 _ _ _ rfl).cell 1))) ?_
      try simp only [pA, pB, p1, p2, p3]
      refine tK (.int .i64 ((en : Nat) : Int)) ?_
      try simp only [pA, pB, p1, p2, p3]
      refine tW (.bool false) (exec_bin .lss 3 _ _ _ rfl (.int .i64 ((i : Nat) : Int)) (.int .i64 ((en : Nat) : Int)) (.bool false) (by kernel_rfl) (by kernel_rfl) (by kernel_rfl) (by rw [b_lss, decide_eq_false (by omega)])) ?_
      try simp only [pA, pB, p1, p2, p3]
      refine WL.nil ?_
      try simp only [pA, pB, p1, p2, p3]
      go_upto_region 8 with fail
      refine WL.start ?_
      refine tK (.slice sa sn sc) ?_
      try simp only [pA, pB, p1, p2, p3]
      refine tK (.slice sa sn sc) ?_
      try simp only [pA, pB, p1, p2, p3]
      refine WL.nil ?_
      try simp only [pA, pB, p1, p2, p3]
      go_wp2
      rw [HC.out]
      exact ⟨⟨sa, sn, sc⟩, rfl, HX.out, HF.out.kept⟩

end Go.Proofs.Ytfemlnfknebalab
