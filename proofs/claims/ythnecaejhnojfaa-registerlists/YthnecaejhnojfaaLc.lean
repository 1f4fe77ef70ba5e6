import Derived.Test.YthnecaejhnojfaaLb
namespace Go.Proofs.Ythnecaejhnojfaa.Md
open Go.RowKit
set_option linter.unusedVariables false
set_option linter.unusedSimpArgs false

set_option maxRecDepth 100000 in
set_option maxHeartbeats 4000000 in
theorem grown_any (S : Nat → Prop) (t : Sl) (X0 : List It) (w : World) (hS : ∀ (j : Nat) x, X0[j]? = some x → ∀ k, x.at k → S k) (hK : Ks w 0 X0) (hA : Own 57 1 w 0 t.a t.k t.l (X0.map It.v)) (hR : ∀ (j : Nat) x, X0[j]? = some x → Raw x ∧ x.ms.length ≤ 1000) (htl : t.l ≤ 1000) : Calls Try.prog 14 #[t.v] w (GrO S w) := by
  obtain ⟨C, hC⟩ : ∃ C : Ending → World → Prop, C = (GrO S w) := ⟨_, rfl⟩
  have HC : Hid (C = (GrO S w)) := hC
  rw [← hC]
  clear hC
  have HF : Hid (Gm S w w t slZ X0 0 []) := Gm.start hK hA hS
  obtain ⟨V0, hV0⟩ : ∃ V, V = X0.map It.v := ⟨_, rfl⟩
  have HVn : Hid (∀ X : List It, X.map It.v = V0 → ∀ (j : Nat) x, X[j]? = some x → x.ms.length ≤ 1000) := fun X hX j x hx => by
    have hj := (List.getElem?_eq_some_iff.1 hx).1
    have hl : X.length = X0.length := by have := congrArg List.length (hX.trans hV0); rwa [List.length_map, List.length_map] at this
    obtain ⟨y, hy⟩ : ∃ y, X0[j]? = some y := ⟨_, List.getElem?_eq_getElem (by omega)⟩
    have e : x.v = y.v := by
      have := congrArg (fun l => l[j]?) (hX.trans hV0)
      simp only [List.getElem?_map, hx, hy, Option.map_some, Option.some.injEq] at this
      exact this
    have := (hR j y hy).2
    unfold It.v at e
    simp only [Value.slice.injEq] at e
    omega
  have HP0 : Hid (P1 0 X0) := fun j x hx => ⟨(hR j x hx).1, fun h => absurd h (by omega)⟩
  clear hK hA hR hS
  have hV0 := hV0.symm
  go_enter Try.func14, Try.ntmps14
  go_upto_region 0 with fail
  refine WL.start <| uK (.bool false) <| WL.nil <| ?_
  try simp only [pS]
  go_upto_region 1 with fail
  refine WL.start <| uK (.int .i64 0) <| WL.nil <| ?_
  try simp only [pS]
  go_wp2
  go_loopw [3] (fun v3 wr => ∃ (i : Nat) (X : List It), v3 = .int .i64 ((i : Nat) : Int) ∧ i ≤ t.l ∧ X.map It.v = V0 ∧ P1 i X ∧ Hid (Gm S w wr t slZ X 0 [])) (fun i _ => t.l - (intOf i).toNat)
  case atStart => exact ⟨0, X0, by go_num, by omega, hV0, HP0.out, HF⟩
  case round =>
    rename World => wo
    clear HF HP0
    obtain ⟨i, X, rfl, hi, hXV, hP, HF⟩ := hrel
    have hxl := HF.out.xl
    by_cases hlt : i < t.l
    · skip
      go_upto_region 2 with fail
      refine WL.start <| uK (.int .i64 ((i : Nat) : Int)) <| uK (t.v) <| uK (.int .i64 ((t.l : Nat) : Int)) <| uB .lss 3 (.int .i64 ((i : Nat) : Int)) (.int .i64 ((t.l : Nat) : Int)) (.bool true) (by rw [b_lss, decide_eq_true (by omega)]) <| WL.nil <| ?_
      try simp only [pS]
      go_upto_region 4 with fail
      refine WL.start <| uK (.int .i64 0) <| WL.nil <| ?_
      try simp only [pS]
      obtain ⟨x0, hx0⟩ : ∃ x, X[i]? = some x := ⟨_, List.getElem?_eq_getElem (by omega)⟩
      obtain ⟨n, hn⟩ : ∃ n, n = x0.ms.length := ⟨_, rfl⟩
      have hn1 : n ≤ 1000 := by rw [hn]; exact HVn.out X hXV i x0 hx0
      obtain ⟨gt, hgt⟩ := own_at HF.out.ra (by omega)
      go_wp2
      go_loopw [4] (fun v4 wr => ∃ (k : Nat) (X : List It) (x : It), v4 = .int .i64 ((k : Nat) : Int) ∧ k ≤ n ∧ X.map It.v = V0 ∧ P1 i X ∧ X[i]? = some x ∧ x.ms.length = n ∧ Mkd i x k ∧ Hid (Gm S w wr t slZ X 0 [])) (fun k _ => n - (intOf k).toNat)
      case atStart => exact ⟨0, X, x0, by go_num, by omega, hXV, hP, hx0, hn.symm, fun q hq => absurd hq (by omega), HF⟩
      case round =>
        rename World => wi
        clear HF hP hXV hx0 hn hxl
        obtain ⟨k, X, x, rfl, hk, hXV, hP, hxi, hxn, hmk, HF⟩ := hrel
        have hxl := HF.out.xl
        have hraw := (hP i x hxi).1
        by_cases hlk : k < n
        · skip
          have hkx : k < x.ms.length := by omega
          obtain ⟨gx, hgx⟩ := own_at (HF.out.ks.ok i x hxi).own (by omega)
          go_upto_region 5 with fail
          refine WL.start <| uK (.int .i64 ((k : Nat) : Int)) <| uK (t.v) <| uK (.int .i64 ((i : Nat) : Int)) <| uW (.pointer (some ⟨gt, 0 + i * 1, none⟩)) (exec_ixA 56 1 E56 F56 _ _ rfl gt 0 t.l t.k i (Eq.trans (b := t.v) (by kernel_rfl) (sl_v (s := t) hgt)) (by kernel_rfl) (by omega)) <| uL 57 ⟨gt, 0 + i * 1, none⟩ (.slice x.a x.ms.length x.c) (load_one (own_c1 HF.out.ra hgt (show (X.map It.v)[i]? = some x.v by rw [List.getElem?_map, hxi]; rfl)) U71 rfl) <| uK (.int .i64 ((x.ms.length : Nat) : Int)) <| uB .lss 3 (.int .i64 ((k : Nat) : Int)) (.int .i64 ((x.ms.length : Nat) : Int)) (.bool true) (by rw [b_lss, decide_eq_true (by omega)]) <| WL.nil <| ?_
          try simp only [pS]
          go_upto_region 7 with fail
          refine WL.start <| uK (t.v) <| uK (.int .i64 ((i : Nat) : Int)) <| uW (.pointer (some ⟨gt, 0 + i * 1, none⟩)) (exec_ixA 56 1 E56 F56 _ _ rfl gt 0 t.l t.k i (Eq.trans (b := t.v) (by kernel_rfl) (sl_v (s := t) hgt)) (by kernel_rfl) (by omega)) <| uL 57 ⟨gt, 0 + i * 1, none⟩ (.slice x.a x.ms.length x.c) (load_one (own_c1 HF.out.ra hgt (show (X.map It.v)[i]? = some x.v by rw [List.getElem?_map, hxi]; rfl)) U71 rfl) <| uK (.int .i64 ((k : Nat) : Int)) <| uK (.int .i64 ((i : Nat) : Int)) <| uB .add 3 (.int .i64 500) (.int .i64 ((i : Nat) : Int)) (.int .i64 (500 + ((i : Nat) : Int))) (b_addw _ _ _ (by rw [IntKind.wrap_i64]; omega) _) <| ?_
          try simp only [pS]
          refine uK (.int .i64 ((k : Nat) : Int)) <| uW (.agg (Mg.cells (mk (500 + ((i : Nat) : Int)) ((k : Nat) : Int)))) (exec_build 52 _ rfl (Mg.cells (mk (500 + ((i : Nat) : Int)) ((k : Nat) : Int))) (by kernel_rfl)) <| uW (.pointer (some ⟨gx, 0 + k * 30, none⟩)) (exec_ixA 57 30 E57m F57m _ _ rfl gx 0 x.ms.length x.c k (Eq.trans (b := .slice x.a x.ms.length x.c) (by kernel_rfl) (sl_v (s := ⟨x.a, x.ms.length, x.c⟩) hgx)) (by kernel_rfl) (by omega)) <| ?_
          try simp only [pS]
          obtain ⟨cs', hst, hG⟩ := HF.out.store hxi (by omega) hraw hkx hgx (mk (500 + ((i : Nat) : Int)) ((k : Nat) : Int))
          refine uT 52 ⟨gx, 0 + k * 30, none⟩ (.agg (Mg.cells (mk (500 + ((i : Nat) : Int)) ((k : Nat) : Int)))) (wi.setRow gx cs') hst ?_
          try simp only [pS]
          have HF : Hid (Gm S w (wi.setRow gx cs') t slZ (X.set i { x with ms := x.ms.set k (mk (500 + ((i : Nat) : Int)) ((k : Nat) : Int)) }) 0 []) := hG
          clear hG hst
          generalize wi.setRow gx cs' = wk1 at HF ⊢
          refine WL.nil ?_
          try simp only [pS]
          go_upto_region 6 with fail
          refine WL.start <| uK (.int .i64 ((k : Nat) : Int)) <| uB .add 3 (.int .i64 ((k : Nat) : Int)) (.int .i64 1) (.int .i64 (((k + 1) : Nat) : Int)) (b_addw _ _ _ (by rw [IntKind.wrap_i64]; omega) _) <| uK (.int .i64 (((k + 1) : Nat) : Int)) <| WL.nil <| ?_
          try simp only [pS]
          go_wp2
          go_roundw
          case rel =>
            refine ⟨k + 1, _, { x with ms := x.ms.set k (mk (500 + ((i : Nat) : Int)) ((k : Nat) : Int)) }, by go_num, by omega, ?_, ?_, List.getElem?_set_self (by omega), by show (x.ms.set _ _).length = n; rw [List.length_set]; exact hxn, ?_, HF⟩
            · rw [List.map_set, ← hXV]
              refine List.ext_getElem? (fun j => ?_)
              rw [List.getElem?_set]
              split
              · rename_i e
                subst e
                rw [if_pos (by rw [List.length_map]; omega), List.getElem?_map, hxi]
                show some (Value.slice _ _ _) = some (Value.slice _ _ _)
                rw [List.length_set]
              · rfl
            · intro j y hy
              rw [List.getElem?_set] at hy
              split at hy
              · rename_i e
                rw [if_pos (by omega)] at hy
                cases hy
                exact ⟨hraw, fun h => absurd h (by omega)⟩
              · exact hP j y hy
            · intro q hq
              show (x.ms.set k _)[q]? = _
              rw [List.getElem?_set]
              split
              · rename_i e
                subst e
                first
                  | rfl
                  | rw [if_pos (by omega)]
              · exact hmk q (by omega)
          case measure => simp [intOf]; omega
        · skip
          have hP2 : P1 (i + 1) X := fun j y hy => ⟨(hP j y hy).1, fun h => by
            rcases Nat.lt_or_ge j i with h2 | h2
            · exact (hP j y hy).2 h2
            · have e : j = i := by omega
              subst e
              rw [hxi] at hy
              cases hy
              exact fun q hq => hmk q (by omega)⟩
          go_upto_region 5 with fail
          refine WL.start <| uK (.int .i64 ((k : Nat) : Int)) <| uK (t.v) <| uK (.int .i64 ((i : Nat) : Int)) <| uW (.pointer (some ⟨gt, 0 + i * 1, none⟩)) (exec_ixA 56 1 E56 F56 _ _ rfl gt 0 t.l t.k i (Eq.trans (b := t.v) (by kernel_rfl) (sl_v (s := t) hgt)) (by kernel_rfl) (by omega)) <| uL 57 ⟨gt, 0 + i * 1, none⟩ (.slice x.a x.ms.length x.c) (load_one (own_c1 HF.out.ra hgt (show (X.map It.v)[i]? = some x.v by rw [List.getElem?_map, hxi]; rfl)) U71 rfl) <| uK (.int .i64 ((x.ms.length : Nat) : Int)) <| uB .lss 3 (.int .i64 ((k : Nat) : Int)) (.int .i64 ((x.ms.length : Nat) : Int)) (.bool false) (by rw [b_lss, decide_eq_false (by omega)]) <| WL.nil <| ?_
          try simp only [pS]
          go_upto_region 3 with fail
          refine WL.start <| uK (.int .i64 ((i : Nat) : Int)) <| uB .add 3 (.int .i64 ((i : Nat) : Int)) (.int .i64 1) (.int .i64 (((i + 1) : Nat) : Int)) (b_addw _ _ _ (by rw [IntKind.wrap_i64]; omega) _) <| uK (.int .i64 (((i + 1) : Nat) : Int)) <| WL.nil <| ?_
          try simp only [pS]
          go_wp2
          go_roundw
          case rel => exact ⟨i + 1, X, by go_num, by omega, hXV, hP2, HF⟩
          case measure => simp [intOf]; omega
    · skip
      have hit : i = t.l := by omega
      subst hit
      have hP2 : P2 0 X := fun j x hx => ⟨(hP j x hx).2 (by have := (List.getElem?_eq_some_iff.1 hx).1; omega), fun h => absurd h (by omega), fun _ => (hP j x hx).1⟩
      clear hP
      go_upto_region 2 with fail
      refine WL.start <| uK (.int .i64 ((t.l : Nat) : Int)) <| uK (t.v) <| uK (.int .i64 ((t.l : Nat) : Int)) <| uB .lss 3 (.int .i64 ((t.l : Nat) : Int)) (.int .i64 ((t.l : Nat) : Int)) (.bool false) (by rw [b_lss, decide_eq_false (by omega)]) <| WL.nil <| ?_
      try simp only [pS]
      go_upto_region 8 with fail
      refine WL.start <| uK (.slice none 0 0) <| WL.nil <| ?_
      try simp only [pS]
      go_upto_region 9 with fail
      refine WL.start <| uK (.int .i64 0) <| WL.nil <| ?_
      try simp only [pS]
      go_wp2
      go_loopw [5, 6] (fun v5 v6 wr => ∃ (i : Nat) (mo : Sl) (X : List It), v5 = mo.v ∧ v6 = .int .i64 ((i : Nat) : Int) ∧ i ≤ t.l ∧ mo.l = i ∧ X.map It.v = V0 ∧ P2 i X ∧ Hid (Gm S w wr t mo X i [])) (fun _ i _ => t.l - (intOf i).toNat)
      case atStart => exact ⟨0, slZ, X, rfl, by go_num, by omega, rfl, hXV, hP2, HF⟩
      case round =>
        rename World => wp
        clear HF hP2 hXV hxl hi hlt
        obtain ⟨i, mo, X, rfl, rfl, hi, hmo, hXV, hP, HF⟩ := hrel
        have hxl := HF.out.xl
        by_cases hlt : i < t.l
        · skip
          obtain ⟨x, hxi⟩ : ∃ x, X[i]? = some x := ⟨_, List.getElem?_eq_getElem (by omega)⟩
          obtain ⟨gt, hgt⟩ := own_at HF.out.ra (by omega)
          go_upto_region 10 with fail
          refine WL.start <| uK (.int .i64 ((i : Nat) : Int)) <| uK (t.v) <| uK (.int .i64 ((t.l : Nat) : Int)) <| uB .lss 3 (.int .i64 ((i : Nat) : Int)) (.int .i64 ((t.l : Nat) : Int)) (.bool true) (by rw [b_lss, decide_eq_true (by omega)]) <| WL.nil <| ?_
          try simp only [pS]
          go_upto_region 12 with fail
          refine WL.start <| uK (t.v) <| uK (.int .i64 ((i : Nat) : Int)) <| uW (.pointer (some ⟨gt, 0 + i * 1, none⟩)) (exec_ixA 56 1 E56 F56 _ _ rfl gt 0 t.l t.k i (Eq.trans (b := t.v) (by kernel_rfl) (sl_v (s := t) hgt)) (by kernel_rfl) (by omega)) <| uL 57 ⟨gt, 0 + i * 1, none⟩ (.slice x.a x.ms.length x.c) (load_one (own_c1 HF.out.ra hgt (show (X.map It.v)[i]? = some x.v by rw [List.getElem?_map, hxi]; rfl)) U71 rfl) <| uK (.slice x.a x.ms.length x.c) <| WL.nil <| ?_
          try simp only [pS]
          go_upto_region 13 with fail
          refine WL.start <| uK (.int .i64 0) <| WL.nil <| ?_
          try simp only [pS]
          have hraw := (hP i x hxi).2.2 (Nat.le_refl _)
          have HF : Hid (Gm S w wp t mo (X.set i { x with a2 := x.a, c2 := x.c, ms2 := x.ms }) i []) := HF.out.upd hxi (Nat.le_refl _) (Kept.refl _ _) ⟨(HF.out.ks.ok i x hxi).own, (HF.out.ks.ok i x hxi).own⟩ (fun k e => .inl (.inl (e.elim id id))) rfl
          have hms := (hP i x hxi).1
          have hPo : ∀ (X2 : List It) (y : It), X2 = X.set i y → ∀ (j : Nat) z, j ≠ i → X2[j]? = some z → Mkd j z z.ms.length ∧ (j < i → z.ms2 = z.ms ++ news j 40) ∧ (i ≤ j → Raw z) := fun X2 y e j z hj hz => by
            rw [e, List.getElem?_set_ne (fun f => hj f.symm)] at hz
            exact hP j z hz
          have hmv : ∀ y : It, y.v = x.v → (X.set i y).map It.v = V0 := fun y hy => by
            rw [List.map_set, hy, ← hXV]
            refine List.ext_getElem? (fun j => ?_)
            rw [List.getElem?_set]
            split
            · rename_i e
              subst e
              rw [if_pos (by rw [List.length_map]; omega), List.getElem?_map, hxi]
              rfl
            · rfl
          obtain ⟨n, hn⟩ : ∃ n, n = x.ms.length := ⟨_, rfl⟩
          have hn1 : n ≤ 1000 := by rw [hn]; exact HVn.out X hXV i x hxi
          go_wp2
          go_loopw [7, 8] (fun v7 v8 wr => ∃ (k : Nat) (y : It), v7 = y.v2 ∧ v8 = .int .i64 ((k : Nat) : Int) ∧ k ≤ 40 ∧ y.v = x.v ∧ y.ms = x.ms ∧ y.ms2 = x.ms ++ news i k ∧ y.link ∧ Hid (Gm S w wr t mo (X.set i y) i [])) (fun _ k _ => 40 - (intOf k).toNat)
          case atStart => exact ⟨0, { x with a2 := x.a, c2 := x.c, ms2 := x.ms }, rfl, by go_num, by omega, rfl, rfl, by show x.ms = x.ms ++ news i 0; simp [news], ⟨.inl ⟨rfl, rfl⟩, List.prefix_refl _⟩, HF⟩
          case round =>
            rename World => wi
            clear HF
            obtain ⟨k, y, rfl, rfl, hk, hyv, hym, hy2, hlk, HF⟩ := hrel
            have hxi2 : (X.set i y)[i]? = some y := List.getElem?_set_self (by omega)
            have hl2 : y.ms2.length ≤ 2000 := by rw [hy2, List.length_append, news_len]; omega
            by_cases hlk40 : k < 40
            · skip
              obtain ⟨X2, hX2⟩ : ∃ X2, X2 = X.set i y := ⟨_, rfl⟩
              rw [← hX2] at HF hxi2
              have hxiq : X2[i]? = some y := hxi2
              go_upto_region 14 with fail
              refine WL.start <| uK (.int .i64 ((k : Nat) : Int)) <| uB .lss 3 (.int .i64 ((k : Nat) : Int)) (.int .i64 40) (.bool true) (by rw [b_lss, decide_eq_true (by omega)]) <| WL.nil <| ?_
              try simp only [pS]
              go_upto_region 16 with fail
              refine WL.start <| uK (y.v2) <| uK (.int .i64 ((i : Nat) : Int)) <| uB .sub 3 (.int .i64 (-1)) (.int .i64 ((i : Nat) : Int)) (.int .i64 (-1 - ((i : Nat) : Int))) (b_subw _ _ _ (by rw [IntKind.wrap_i64]; omega) _) <| uK (.int .i64 ((k : Nat) : Int)) <| uW (.agg (Mg.cells (mk (-1 - ((i : Nat) : Int)) ((k : Nat) : Int)))) (exec_build 52 _ rfl (Mg.cells (mk (-1 - ((i : Nat) : Int)) ((k : Nat) : Int))) (by kernel_rfl)) <| ?_
              try simp only [pS]
              refine uR (.slice (some ⟨wi.heap.size, 0, none⟩) 1 1) (wi.alloc (.cells (Mg.cells (mk (-1 - ((i : Nat) : Int)) ((k : Nat) : Int))) 52)) (exec_slice2 57 52 _ rfl (Mg.cells (mk (-1 - ((i : Nat) : Int)) ((k : Nat) : Int))) (.agg (Mg.cells (mk (-1 - ((i : Nat) : Int)) ((k : Nat) : Int)))) (by kernel_rfl) (by kernel_rfl)) ?_
              try simp only [pS]
              have HF : Hid (Gm S w (wi.alloc (.cells (Mg.cells (mk (-1 - ((i : Nat) : Int)) ((k : Nat) : Int))) 52)) t mo X2 i [(wi.heap.size, 52, Mg.cells (mk (-1 - ((i : Nat) : Int)) ((k : Nat) : Int)))]) := HF.out.alloc _ _
              generalize wi.alloc (.cells (Mg.cells (mk (-1 - ((i : Nat) : Int)) ((k : Nat) : Int))) 52) = wk3 at HF ⊢
              generalize wi.heap.size = gk2 at HF ⊢
              obtain ⟨x', wk4, hap, hv', hms', hms2', hok', hlk', hk', hat'⟩ := (HF.out.ks.ok i y hxi2).grow hlk gk2 (mk (-1 - ((i : Nat) : Int)) ((k : Nat) : Int)) (HF.out.box 0 _ _ _ rfl) (by omega) (Nat.zero_le _)
              refine uR (x'.v2) wk4 (exec_appN _ _ 57 57 rfl _ _ (by kernel_rfl) (by kernel_rfl) hap) ?_
              try simp only [pS]
              have HF : Hid (Gm S w wk4 t mo (X2.set i x') i [(gk2, 52, Mg.cells (mk (-1 - ((i : Nat) : Int)) ((k : Nat) : Int)))]) := HF.out.upd hxi2 (Nat.le_refl _) hk' hok' hat' hv'
              clear hk' hok' hat' hap
              refine uK (x'.v2) <| WL.nil <| ?_
              try simp only [pS]
              go_upto_region 15 with fail
              refine WL.start <| uK (.int .i64 ((k : Nat) : Int)) <| uB .add 3 (.int .i64 ((k : Nat) : Int)) (.int .i64 1) (.int .i64 (((k + 1) : Nat) : Int)) (b_addw _ _ _ (by rw [IntKind.wrap_i64]; omega) _) <| uK (.int .i64 (((k + 1) : Nat) : Int)) <| WL.nil <| ?_
              try simp only [pS]
              have HF : Hid (Gm S w wk4 t mo (X2.set i x') i []) := Gm.front (l := []) HF.out
              have e2 : X2.set i x' = X.set i x' := by rw [hX2, List.set_set]
              rw [e2] at HF
              go_wp2
              go_roundw
              case rel => exact ⟨k + 1, x', rfl, by go_num, by omega, hv'.trans hyv, hms'.trans hym, by rw [hms2', hy2, news_snoc, List.append_assoc], hlk', HF⟩
              case measure => simp [intOf]; omega
            · skip
              have hk40 : k = 40 := by omega
              obtain ⟨X2, hX2⟩ : ∃ X2, X2 = X.set i y := ⟨_, rfl⟩
              rw [← hX2] at HF hxi2
              go_upto_region 14 with fail
              refine WL.start <| uK (.int .i64 ((k : Nat) : Int)) <| uB .lss 3 (.int .i64 ((k : Nat) : Int)) (.int .i64 40) (.bool false) (by rw [b_lss, decide_eq_false (by omega)]) <| WL.nil <| ?_
              try simp only [pS]
              go_upto_region 17 with fail
              refine WL.start <| uK (mo.v) <| uK (y.v2) <| ?_
              try simp only [pS]
              refine uR (.slice (some ⟨wi.heap.size, 0, none⟩) 1 1) (wi.alloc (.cells (#[y.v2]) 57)) (exec_slice2 56 57 _ rfl (#[y.v2]) (y.v2) (by kernel_rfl) (by kernel_rfl)) ?_
              try simp only [pS]
              have HF : Hid (Gm S w (wi.alloc (.cells (#[y.v2]) 57)) t mo X2 i [(wi.heap.size, 57, #[y.v2])]) := HF.out.alloc _ _
              generalize wi.alloc (.cells (#[y.v2]) 57) = wk6 at HF ⊢
              generalize wi.heap.size = gk5 at HF ⊢
              obtain ⟨a1, k1, wk7, hap, hG⟩ := HF.out.push (cc := 1) hxi2 (by omega) (HF.out.box 0 _ _ _ rfl)
              refine uR (.slice a1 (mo.l + 1) k1) wk7 (exec_appN _ _ 56 56 rfl _ _ (by kernel_rfl) (by kernel_rfl) hap) ?_
              try simp only [pS]
              have HF : Hid (Gm S w wk7 t ⟨a1, mo.l + 1, k1⟩ X2 (i + 1) []) := hG
              clear hG hap
              refine uK (.slice a1 (mo.l + 1) k1) <| WL.nil <| ?_
              try simp only [pS]
              go_upto_region 11 with fail
              refine WL.start <| uK (.int .i64 ((i : Nat) : Int)) <| uB .add 3 (.int .i64 ((i : Nat) : Int)) (.int .i64 1) (.int .i64 (((i + 1) : Nat) : Int)) (b_addw _ _ _ (by rw [IntKind.wrap_i64]; omega) _) <| uK (.int .i64 (((i + 1) : Nat) : Int)) <| WL.nil <| ?_
              try simp only [pS]
              go_wp2
              go_roundw
              case rel =>
                refine ⟨i + 1, _, X2, rfl, by go_num, by omega, by show mo.l + 1 = i + 1; omega, by rw [hX2]; exact hmv y hyv, fun j z hz => ?_, HF⟩
                by_cases e : j = i
                · subst e
                  rw [hxi2] at hz
                  cases hz
                  refine ⟨?_, fun _ => by rw [hy2, hym, hk40], fun h => absurd h (by omega)⟩
                  intro q hq
                  rw [hym] at hq ⊢
                  exact hms q hq
                · have h1 := hPo X2 y hX2 j z e hz
                  exact ⟨h1.1, fun h => h1.2.1 (by omega), fun h => h1.2.2 (by omega)⟩
              case measure => simp [intOf]; omega
        · skip
          have hit : i = t.l := by omega
          subst hit
          go_upto_region 10 with fail
          refine WL.start <| uK (.int .i64 ((t.l : Nat) : Int)) <| uK (t.v) <| uK (.int .i64 ((t.l : Nat) : Int)) <| uB .lss 3 (.int .i64 ((t.l : Nat) : Int)) (.int .i64 ((t.l : Nat) : Int)) (.bool false) (by rw [b_lss, decide_eq_false (by omega)]) <| WL.nil <| ?_
          try simp only [pS]
          go_upto_region 18 with fail
          refine WL.start <| uK (.int .i64 0) <| WL.nil <| ?_
          try simp only [pS]
          go_wp2
          go_loopw [9] (fun v9 wr => ∃ (i : Nat), v9 = .int .i64 ((i : Nat) : Int) ∧ i ≤ t.l ∧ Hid (Gm S w wr t mo X t.l [])) (fun i _ => t.l - (intOf i).toNat)
          case atStart => exact ⟨0, by go_num, by omega, HF⟩
          case round =>
            rename World => wq
            clear HF hi hlt
            obtain ⟨i, rfl, hi, HF⟩ := hrel
            by_cases hlt : i < t.l
            · skip
              obtain ⟨x, hxi⟩ : ∃ x, X[i]? = some x := ⟨_, List.getElem?_eq_getElem (by omega)⟩
              obtain ⟨gt, hgt⟩ := own_at HF.out.ra (by omega)
              obtain ⟨gm, hgm⟩ := own_at HF.out.rm (by omega)
              obtain ⟨hms, hm2, _⟩ := hP i x hxi
              have hm2 := hm2 hlt
              obtain ⟨n, hn⟩ : ∃ n, n = x.ms.length := ⟨_, rfl⟩
              have hn1 : n ≤ 1000 := by rw [hn]; exact HVn.out X hXV i x hxi
              have hl2 : x.ms2.length = n + 40 := by rw [hm2, List.length_append, news_len, hn]
              go_upto_region 19 with fail
              refine WL.start <| uK (.int .i64 ((i : Nat) : Int)) <| uK (t.v) <| uK (.int .i64 ((t.l : Nat) : Int)) <| uB .lss 3 (.int .i64 ((i : Nat) : Int)) (.int .i64 ((t.l : Nat) : Int)) (.bool true) (by rw [b_lss, decide_eq_true (by omega)]) <| WL.nil <| ?_
              try simp only [pS]
              go_upto_region 21 with fail
              refine WL.start <| uK (t.v) <| uK (.int .i64 ((i : Nat) : Int)) <| uW (.pointer (some ⟨gt, 0 + i * 1, none⟩)) (exec_ixA 56 1 E56 F56 _ _ rfl gt 0 t.l t.k i (Eq.trans (b := t.v) (by kernel_rfl) (sl_v (s := t) hgt)) (by kernel_rfl) (by omega)) <| uL 57 ⟨gt, 0 + i * 1, none⟩ (.slice x.a x.ms.length x.c) (load_one (own_c1 HF.out.ra hgt (show (X.map It.v)[i]? = some x.v by rw [List.getElem?_map, hxi]; rfl)) U71 rfl) <| uK (.int .i64 ((x.ms.length : Nat) : Int)) <| uK (.int .i64 ((x.ms.length : Nat) : Int)) <| WL.nil <| ?_
              try simp only [pS]
              go_upto_region 22 with fail
              refine WL.start <| uK (.int .i64 0) <| WL.nil <| ?_
              try simp only [pS]
              rw [← hn]
              go_wp2
              go_loopw [11] (fun v11 wr => ∃ (k : Nat), v11 = .int .i64 ((k : Nat) : Int) ∧ k ≤ n + 40 ∧ Hid (Gm S w wr t mo X t.l [])) (fun k _ => n + 40 - (intOf k).toNat)
              case atStart => exact ⟨0, by go_num, by omega, HF⟩
              case round =>
                rename World => wz
                clear HF
                obtain ⟨k, rfl, hk, HF⟩ := hrel
                by_cases hlk : k < n + 40
                · skip
                  obtain ⟨gy, hgy⟩ := own_at (HF.out.ks.ok i x hxi).own2 (by omega)
                  by_cases hkn : k < n
                  · skip
                    have hyi : x.ms[k]? = some (mk (500 + ((i : Nat) : Int)) ((k : Nat) : Int)) := hms k (by omega)
                    have hzi : x.ms2[k]? = some (mk (500 + ((i : Nat) : Int)) ((k : Nat) : Int)) := by rw [hm2, List.getElem?_append_left (by omega)]; exact hyi
                    obtain ⟨y, hy⟩ : ∃ y, y = mk (500 + ((i : Nat) : Int)) ((k : Nat) : Int) := ⟨_, rfl⟩
                    have hyk : y.k = 500 + ((i : Nat) : Int) := by rw [hy]; rfl
                    have hyo : y.op = ((k : Nat) : Int) := by rw [hy]; rfl
                    rw [← hy] at hyi hzi
                    obtain ⟨gx, hgx⟩ := own_at (HF.out.ks.ok i x hxi).own (by omega)
                    clear hy
                    go_upto_region 23 with fail
                    refine WL.start <| uK (.int .i64 ((k : Nat) : Int)) <| uK (.int .i64 ((n : Nat) : Int)) <| uB .add 3 (.int .i64 ((n : Nat) : Int)) (.int .i64 40) (.int .i64 ((n + 40 : Nat) : Int)) (b_addw _ _ _ (by rw [IntKind.wrap_i64]; omega) _) <| uB .lss 3 (.int .i64 ((k : Nat) : Int)) (.int .i64 ((n + 40 : Nat) : Int)) (.bool true) (by rw [b_lss, decide_eq_true (by omega)]) <| WL.nil <| ?_
                    try simp only [pS]
                    go_upto_region 25 with fail
                    refine WL.start <| uK (mo.v) <| uK (.int .i64 ((i : Nat) : Int)) <| uW (.pointer (some ⟨gm, 0 + i * 1, none⟩)) (exec_ixA 56 1 E56 F56 _ _ rfl gm 0 mo.l mo.k i (Eq.trans (b := mo.v) (by kernel_rfl) (sl_v (s := mo) hgm)) (by kernel_rfl) (by omega)) <| uL 57 ⟨gm, 0 + i * 1, none⟩ (.slice x.a2 x.ms2.length x.c2) (load_one (own_c1 HF.out.rm hgm (show ((X.take t.l).map It.v2)[i]? = some x.v2 by rw [List.getElem?_map, List.getElem?_take, if_pos hlt, hxi]; rfl)) U71 rfl) <| uK (.int .i64 ((k : Nat) : Int)) <| uW (.pointer (some ⟨gy, 0 + k * 30, none⟩)) (exec_ixA 57 30 E57m F57m _ _ rfl gy 0 x.ms2.length x.c2 k (Eq.trans (b := .slice x.a2 x.ms2.length x.c2) (by kernel_rfl) (sl_v (s := ⟨x.a2, x.ms2.length, x.c2⟩) hgy)) (by kernel_rfl) (by omega)) <| uL 52 ⟨gy, 0 + k * 30, none⟩ (.agg (Mg.cells y)) ((load_part (n := 0) (own_cell (f := Mg.cs) (HF.out.ks.ok i x hxi).own2 hgy (mgL_c x.ms2) (by decide) hzi) (part_of (off := 0) (sub := Mg.cs y) (by kernel_rfl)) U52 rfl S52)) <| ?_
                    try simp only [pS]
                    refine uR (.pointer (some ⟨wz.heap.size, 0, none⟩)) (wz.alloc (.cells (Mg.cells mgZ) 52)) (exec_alloc 52 rfl (Mg.cells mgZ) Z52) ?_
                    try simp only [pS]
                    have HF : Hid (Gm S w (wz.alloc (.cells (Mg.cells mgZ) 52)) t mo X t.l [(wz.heap.size, 52, Mg.cells mgZ)]) := HF.out.alloc _ _
                    generalize wz.alloc (.cells (Mg.cells mgZ) 52) = wk9 at HF ⊢
                    generalize wz.heap.size = gk8 at HF ⊢
                    refine uT 52 ⟨gk8, 0, none⟩ (.agg (Mg.cells y)) (wk9.setRow gk8 (Mg.cells y)) (rs (Mg.cs mgZ) (Mg.cs y) (Mg.cs y) (HF.out.box 0 _ _ _ rfl) S52 (Mg.oneL _)) ?_
                    try simp only [pS]
                    have HF : Hid (Gm S w (wk9.setRow gk8 (Mg.cells y)) t mo X t.l [(gk8, 52, Mg.cells y)]) := HF.out.set 0 rfl _
                    generalize wk9.setRow gk8 (Mg.cells y) = wk10 at HF ⊢
                    refine WL.nil ?_
                    try simp only [pS]
                    go_upto_region 26 with fail
                    refine WL.start <| uK (.int .i64 ((k : Nat) : Int)) <| uK (.int .i64 ((n : Nat) : Int)) <| uB .lss 3 (.int .i64 ((k : Nat) : Int)) (.int .i64 ((n : Nat) : Int)) (.bool true) (by rw [b_lss, decide_eq_true (by omega)]) <| uK (.bool true) <| uK (t.v) <| uK (.int .i64 ((i : Nat) : Int)) <| uW (.pointer (some ⟨gt, 0 + i * 1, none⟩)) (exec_ixA 56 1 E56 F56 _ _ rfl gt 0 t.l t.k i (Eq.trans (b := t.v) (by kernel_rfl) (sl_v (s := t) hgt)) (by kernel_rfl) (by omega)) <| ?_
                    try simp only [pS]
                    refine uL 57 ⟨gt, 0 + i * 1, none⟩ (.slice x.a x.ms.length x.c) (load_one (own_c1 HF.out.ra hgt (show (X.map It.v)[i]? = some x.v by rw [List.getElem?_map, hxi]; rfl)) U71 rfl) <| uK (.int .i64 ((k : Nat) : Int)) <| uW (.pointer (some ⟨gx, 0 + k * 30, none⟩)) (exec_ixA 57 30 E57m F57m _ _ rfl gx 0 x.ms.length x.c k (Eq.trans (b := .slice x.a x.ms.length x.c) (by kernel_rfl) (sl_v (s := ⟨x.a, x.ms.length, x.c⟩) hgx)) (by kernel_rfl) (by omega)) <| uK (.pointer (some ⟨gx, 0 + k * 30, none⟩)) <| uL 3 ⟨gx, 0 + k * 30, none⟩ (.int .i64 y.k) (load_one ((own_cell (f := Mg.cs) (HF.out.ks.ok i x hxi).own hgx (mgL_c x.ms) (by decide) hyi) 0 _ (by kernel_rfl)) U3 rfl) <| uK (.int .i64 ((i : Nat) : Int)) <| uB .add 3 (.int .i64 500) (.int .i64 ((i : Nat) : Int)) (.int .i64 (500 + ((i : Nat) : Int))) (b_addw _ _ _ (by rw [IntKind.wrap_i64]; omega) _) <| uB .neq 3 (.int .i64 y.k) (.int .i64 (500 + ((i : Nat) : Int))) (.bool false) (by rw [b_neq, hyk, beq_self_eq_true]; rfl) <| ?_
                    try simp only [pS]
                    refine uK (.bool false) <| uK (t.v) <| uK (.int .i64 ((i : Nat) : Int)) <| uW (.pointer (some ⟨gt, 0 + i * 1, none⟩)) (exec_ixA 56 1 E56 F56 _ _ rfl gt 0 t.l t.k i (Eq.trans (b := t.v) (by kernel_rfl) (sl_v (s := t) hgt)) (by kernel_rfl) (by omega)) <| uL 57 ⟨gt, 0 + i * 1, none⟩ (.slice x.a x.ms.length x.c) (load_one (own_c1 HF.out.ra hgt (show (X.map It.v)[i]? = some x.v by rw [List.getElem?_map, hxi]; rfl)) U71 rfl) <| uK (.int .i64 ((k : Nat) : Int)) <| uW (.pointer (some ⟨gx, 0 + k * 30, none⟩)) (exec_ixA 57 30 E57m F57m _ _ rfl gx 0 x.ms.length x.c k (Eq.trans (b := .slice x.a x.ms.length x.c) (by kernel_rfl) (sl_v (s := ⟨x.a, x.ms.length, x.c⟩) hgx)) (by kernel_rfl) (by omega)) <| uK (.pointer (some ⟨gx, 0 + k * 30 + 5, none⟩)) <| ?_
                    try simp only [pS]
                    refine uL 3 ⟨gx, 0 + k * 30 + 5, none⟩ (.int .i64 y.op) (load_one ((own_cell (f := Mg.cs) (HF.out.ks.ok i x hxi).own hgx (mgL_c x.ms) (by decide) hyi) 5 _ (by kernel_rfl)) U3 rfl) <| uK (.int .i64 ((k : Nat) : Int)) <| uB .neq 3 (.int .i64 y.op) (.int .i64 ((k : Nat) : Int)) (.bool false) (by rw [b_neq, hyo, beq_self_eq_true]; rfl) <| uK (.bool false) <| uK (.bool false) <| uK (.pointer (some ⟨gk8, 0, none⟩)) <| uL 3 ⟨gk8, 0, none⟩ (.int .i64 y.k) (load_one ((HF.out.box 0 _ _ _ rfl).cell 0 |>.trans (by kernel_rfl)) U3 rfl) <| uK (.int .i64 ((i : Nat) : Int)) <| ?_
                    try simp only [pS]
                    refine uB .add 3 (.int .i64 500) (.int .i64 ((i : Nat) : Int)) (.int .i64 (500 + ((i : Nat) : Int))) (b_addw _ _ _ (by rw [IntKind.wrap_i64]; omega) _) <| uB .neq 3 (.int .i64 y.k) (.int .i64 (500 + ((i : Nat) : Int))) (.bool false) (by rw [b_neq, hyk, beq_self_eq_true]; rfl) <| uK (.bool false) <| uK (.bool false) <| uK (.bool false) <| uK (.int .i64 ((k : Nat) : Int)) <| uK (.int .i64 ((n : Nat) : Int)) <| uB .geq 3 (.int .i64 ((k : Nat) : Int)) (.int .i64 ((n : Nat) : Int)) (.bool false) (by rw [b_geq, decide_eq_false (by omega)]) <| ?_
                    try simp only [pS]
                    refine uK (.bool false) <| uZ <| uZ <| uZ <| uZ <| uZ <| uZ <| uZ <| ?_
                    try simp only [pS]
                    refine uZ <| uZ <| uZ <| uZ <| uZ <| uZ <| uK (.bool false) <| uK (.bool false) <| WL.nil <| ?_
                    try simp only [pS]
                    have HF : Hid (Gm S w wk10 t mo X t.l []) := Gm.front (l := []) HF.out
                    go_upto_region 24 with fail
                    refine WL.start <| uK (.int .i64 ((k : Nat) : Int)) <| uB .add 3 (.int .i64 ((k : Nat) : Int)) (.int .i64 1) (.int .i64 (((k + 1) : Nat) : Int)) (b_addw _ _ _ (by rw [IntKind.wrap_i64]; omega) _) <| uK (.int .i64 (((k + 1) : Nat) : Int)) <| WL.nil <| ?_
                    try simp only [pS]
                    go_wp2
                    go_roundw
                    case rel => exact ⟨k + 1, by go_num, by omega, HF⟩
                    case measure => simp [intOf]; omega
                  · skip
                    have hzi : x.ms2[k]? = some (mk (-1 - ((i : Nat) : Int)) (((k - n : Nat)) : Int)) := by rw [hm2, List.getElem?_append_right (by omega), ← hn]; exact news_at (by omega)
                    obtain ⟨z, hz⟩ : ∃ z, z = mk (-1 - ((i : Nat) : Int)) (((k - n : Nat)) : Int) := ⟨_, rfl⟩
                    have hyk : z.k = -1 - ((i : Nat) : Int) := by rw [hz]; rfl
                    have hyo : z.op = ((k : Nat) : Int) - ((n : Nat) : Int) := by rw [hz]; show (((k - n : Nat)) : Int) = _; omega
                    rw [← hz] at hzi
                    clear hz
                    go_upto_region 23 with fail
                    refine WL.start <| uK (.int .i64 ((k : Nat) : Int)) <| uK (.int .i64 ((n : Nat) : Int)) <| uB .add 3 (.int .i64 ((n : Nat) : Int)) (.int .i64 40) (.int .i64 ((n + 40 : Nat) : Int)) (b_addw _ _ _ (by rw [IntKind.wrap_i64]; omega) _) <| uB .lss 3 (.int .i64 ((k : Nat) : Int)) (.int .i64 ((n + 40 : Nat) : Int)) (.bool true) (by rw [b_lss, decide_eq_true (by omega)]) <| WL.nil <| ?_
                    try simp only [pS]
                    go_upto_region 25 with fail
                    refine WL.start <| uK (mo.v) <| uK (.int .i64 ((i : Nat) : Int)) <| uW (.pointer (some ⟨gm, 0 + i * 1, none⟩)) (exec_ixA 56 1 E56 F56 _ _ rfl gm 0 mo.l mo.k i (Eq.trans (b := mo.v) (by kernel_rfl) (sl_v (s := mo) hgm)) (by kernel_rfl) (by omega)) <| uL 57 ⟨gm, 0 + i * 1, none⟩ (.slice x.a2 x.ms2.length x.c2) (load_one (own_c1 HF.out.rm hgm (show ((X.take t.l).map It.v2)[i]? = some x.v2 by rw [List.getElem?_map, List.getElem?_take, if_pos hlt, hxi]; rfl)) U71 rfl) <| uK (.int .i64 ((k : Nat) : Int)) <| uW (.pointer (some ⟨gy, 0 + k * 30, none⟩)) (exec_ixA 57 30 E57m F57m _ _ rfl gy 0 x.ms2.length x.c2 k (Eq.trans (b := .slice x.a2 x.ms2.length x.c2) (by kernel_rfl) (sl_v (s := ⟨x.a2, x.ms2.length, x.c2⟩) hgy)) (by kernel_rfl) (by omega)) <| uL 52 ⟨gy, 0 + k * 30, none⟩ (.agg (Mg.cells z)) ((load_part (n := 0) (own_cell (f := Mg.cs) (HF.out.ks.ok i x hxi).own2 hgy (mgL_c x.ms2) (by decide) hzi) (part_of (off := 0) (sub := Mg.cs z) (by kernel_rfl)) U52 rfl S52)) <| ?_
                    try simp only [pS]
                    refine uR (.pointer (some ⟨wz.heap.size, 0, none⟩)) (wz.alloc (.cells (Mg.cells mgZ) 52)) (exec_alloc 52 rfl (Mg.cells mgZ) Z52) ?_
                    try simp only [pS]
                    have HF : Hid (Gm S w (wz.alloc (.cells (Mg.cells mgZ) 52)) t mo X t.l [(wz.heap.size, 52, Mg.cells mgZ)]) := HF.out.alloc _ _
                    generalize wz.alloc (.cells (Mg.cells mgZ) 52) = wk12 at HF ⊢
                    generalize wz.heap.size = gk11 at HF ⊢
                    refine uT 52 ⟨gk11, 0, none⟩ (.agg (Mg.cells z)) (wk12.setRow gk11 (Mg.cells z)) (rs (Mg.cs mgZ) (Mg.cs z) (Mg.cs z) (HF.out.box 0 _ _ _ rfl) S52 (Mg.oneL _)) ?_
                    try simp only [pS]
                    have HF : Hid (Gm S w (wk12.setRow gk11 (Mg.cells z)) t mo X t.l [(gk11, 52, Mg.cells z)]) := HF.out.set 0 rfl _
                    generalize wk12.setRow gk11 (Mg.cells z) = wk13 at HF ⊢
                    refine WL.nil ?_
                    try simp only [pS]
                    go_upto_region 26 with fail
                    refine WL.start <| uK (.int .i64 ((k : Nat) : Int)) <| uK (.int .i64 ((n : Nat) : Int)) <| uB .lss 3 (.int .i64 ((k : Nat) : Int)) (.int .i64 ((n : Nat) : Int)) (.bool false) (by rw [b_lss, decide_eq_false (by omega)]) <| uK (.bool false) <| uZ <| uZ <| uZ <| ?_
                    try simp only [pS]
                    refine uZ <| uZ <| uZ <| uZ <| uZ <| uZ <| uZ <| uZ <| ?_
                    try simp only [pS]
                    refine uZ <| uZ <| uZ <| uZ <| uZ <| uZ <| uZ <| uZ <| ?_
                    try simp only [pS]
                    refine uZ <| uZ <| uZ <| uZ <| uZ <| uZ <| uZ <| uZ <| ?_
                    try simp only [pS]
                    refine uZ <| uZ <| uZ <| uK (.bool false) <| uK (.bool false) <| uK (.int .i64 ((k : Nat) : Int)) <| uK (.int .i64 ((n : Nat) : Int)) <| uB .geq 3 (.int .i64 ((k : Nat) : Int)) (.int .i64 ((n : Nat) : Int)) (.bool true) (by rw [b_geq, decide_eq_true (by omega)]) <| ?_
                    try simp only [pS]
                    refine uK (.bool true) <| uK (.pointer (some ⟨gk11, 0, none⟩)) <| uL 3 ⟨gk11, 0, none⟩ (.int .i64 z.k) (load_one ((HF.out.box 0 _ _ _ rfl).cell 0 |>.trans (by kernel_rfl)) U3 rfl) <| uK (.int .i64 ((i : Nat) : Int)) <| uB .sub 3 (.int .i64 (-1)) (.int .i64 ((i : Nat) : Int)) (.int .i64 (-1 - ((i : Nat) : Int))) (b_subw _ _ _ (by rw [IntKind.wrap_i64]; omega) _) <| uB .neq 3 (.int .i64 z.k) (.int .i64 (-1 - ((i : Nat) : Int))) (.bool false) (by rw [b_neq, hyk, beq_self_eq_true]; rfl) <| uK (.bool false) <| uK (.pointer (some ⟨gk11, 5, none⟩)) <| ?_
                    try simp only [pS]
                    refine uL 3 ⟨gk11, 5, none⟩ (.int .i64 z.op) (load_one ((HF.out.box 0 _ _ _ rfl).cell 5 |>.trans (by kernel_rfl)) U3 rfl) <| uK (.int .i64 ((k : Nat) : Int)) <| uK (.int .i64 ((n : Nat) : Int)) <| uB .sub 3 (.int .i64 ((k : Nat) : Int)) (.int .i64 ((n : Nat) : Int)) (.int .i64 (((k : Nat) : Int) - ((n : Nat) : Int))) (b_subw _ _ _ (by rw [IntKind.wrap_i64]; omega) _) <| uB .neq 3 (.int .i64 z.op) (.int .i64 (((k : Nat) : Int) - ((n : Nat) : Int))) (.bool false) (by rw [b_neq, hyo, beq_self_eq_true]; rfl) <| uK (.bool false) <| uK (.bool false) <| uK (.bool false) <| WL.nil <| ?_
                    try simp only [pS]
                    have HF : Hid (Gm S w wk13 t mo X t.l []) := Gm.front (l := []) HF.out
                    go_upto_region 24 with fail
                    refine WL.start <| uK (.int .i64 ((k : Nat) : Int)) <| uB .add 3 (.int .i64 ((k : Nat) : Int)) (.int .i64 1) (.int .i64 (((k + 1) : Nat) : Int)) (b_addw _ _ _ (by rw [IntKind.wrap_i64]; omega) _) <| uK (.int .i64 (((k + 1) : Nat) : Int)) <| WL.nil <| ?_
                    try simp only [pS]
                    go_wp2
                    go_roundw
                    case rel => exact ⟨k + 1, by go_num, by omega, HF⟩
                    case measure => simp [intOf]; omega
                · skip
                  go_upto_region 23 with fail
                  refine WL.start <| uK (.int .i64 ((k : Nat) : Int)) <| uK (.int .i64 ((n : Nat) : Int)) <| uB .add 3 (.int .i64 ((n : Nat) : Int)) (.int .i64 40) (.int .i64 ((n + 40 : Nat) : Int)) (b_addw _ _ _ (by rw [IntKind.wrap_i64]; omega) _) <| uB .lss 3 (.int .i64 ((k : Nat) : Int)) (.int .i64 ((n + 40 : Nat) : Int)) (.bool false) (by rw [b_lss, decide_eq_false (by omega)]) <| WL.nil <| ?_
                  try simp only [pS]
                  go_upto_region 20 with fail
                  refine WL.start <| uK (.int .i64 ((i : Nat) : Int)) <| uB .add 3 (.int .i64 ((i : Nat) : Int)) (.int .i64 1) (.int .i64 (((i + 1) : Nat) : Int)) (b_addw _ _ _ (by rw [IntKind.wrap_i64]; omega) _) <| uK (.int .i64 (((i + 1) : Nat) : Int)) <| WL.nil <| ?_
                  try simp only [pS]
                  go_wp2
                  go_roundw
                  case rel => exact ⟨i + 1, by go_num, by omega, HF⟩
                  case measure => simp [intOf]; omega
            · skip
              go_upto_region 19 with fail
              refine WL.start <| uK (.int .i64 ((i : Nat) : Int)) <| uK (t.v) <| uK (.int .i64 ((t.l : Nat) : Int)) <| uB .lss 3 (.int .i64 ((i : Nat) : Int)) (.int .i64 ((t.l : Nat) : Int)) (.bool false) (by rw [b_lss, decide_eq_false (by omega)]) <| WL.nil <| ?_
              try simp only [pS]
              go_upto_region 28 with fail
              refine WL.start <| uK (.bool true) <| WL.nil <| ?_
              try simp only [pS]
              go_wp2
              rw [HC.out]
              exact ⟨rfl, HF.out.fr.kept⟩

end Go.Proofs.Ythnecaejhnojfaa.Md
