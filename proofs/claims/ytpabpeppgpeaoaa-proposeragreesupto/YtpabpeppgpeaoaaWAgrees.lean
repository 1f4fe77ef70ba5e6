import Derived.Test.YtpabpeppgpeaoaaHo
import Derived.Test.YtpabpeppgpeaoaaAv
namespace Go.Proofs.Ytpabpeppgpeaoaa.Md
open Go.RowKit Gx
set_option linter.unusedVariables false
set_option linter.unusedSimpArgs false

theorem ex_eq {up : Nat → Bool} {h : Pax.Hl} {j : Nat} {x : PS} (hx : h.ps[j]? = some x) : Pax.exS up j h = Pax.exchH up h j x := by unfold Pax.exS; rw [hx]
set_option maxRecDepth 100000 in
set_option maxHeartbeats 4000000 in
theorem agreesWalk (f np : Int) (s : Sl) (zs : List Int) (w : World) (hN : Nums .i64 w s.a zs) (hzl : zs.length = s.l) (hsl : s.l ≤ 1048576) : Calls Try.prog 5 #[.int .i64 f, .int .i64 np, s.v] w (fun e w' => e = .returned (.bool true) ∧ Kept No w w') := by
  refine hideC fun C HC => ?_
  have HF : Hid (Fq No w w []) := Fq.start _ _
  obtain ⟨F, hF⟩ : ∃ F : Nat, (F : Int) = f % 4 := ⟨(f % 4).toNat, by omega⟩
  have hF4 : F < 4 := by omega
  have HNN : Hid (Nums .i64 w s.a zs) := hN
  clear hN
  go_enter Try.func5, Try.ntmps5
  go_upto_region 0 with fail
  refine WL.start <| uK (.bool false) <| WL.nil <| ?_
  try simp only [pS]
  go_upto_region 1 with fail
  refine WL.start ?_
  refine uC 8 #[] (known_any _) ?_
  rintro e wk1 ⟨rfl, hk⟩
  have HF : Hid (Fq No w (wk1) []) := HF.out.no hk
  clear hk
  refine ⟨.bool true, rfl, ?_⟩
  try simp only [pS]
  refine uK (.bool false) <| WL.nil <| ?_
  try simp only [pS]
  go_upto_region 3 with fail
  refine WL.start <| uK (.int .i64 f) <| uK (.int .i64 np) <| ?_
  try simp only [pS]
  refine uC 13 #[.int .i64 np, .int .i64 4] (rnd_eq _ 4 _ (by decide) (by decide)) ?_
  rintro e wk2 ⟨r, hr, hrn, rfl, hwq⟩
  have HF : Hid (Fq No w (wk2) []) := by rw [hwq]; exact HF
  clear hwq
  refine ⟨.int .i64 ((r : Nat) : Int), rfl, ?_⟩
  try simp only [pS]
  refine uB .add 3 (.int .i64 ((r : Nat) : Int)) (.int .i64 1) (.int .i64 (((r + 1) : Nat) : Int)) (b_addw _ _ _ (by rw [IntKind.wrap_i64]; omega) _) ?_
  try simp only [pS]
  have HF0 : Hid (Kept No w wk2) := HF.out.kept
  refine uC 15 #[.int .i64 f, .int .i64 (((r + 1) : Nat) : Int)] (open_any f F (r + 1) _ hF (by omega)) ?_
  rintro e wk3 ⟨hb, J, v, pp, rfl, hHal, hlow, hk⟩
  have HF : Hid (Fq No w (wk3) []) := HF.out.no hk
  have HL : Hid (Hal wk3 J hb v pp (Pax.openH (2 * F + 1) (r + 1)) ∧ ∀ k, J k → w.heap.size ≤ k) := ⟨hHal, fun k e => Nat.le_trans HF0.out.size (hlow k e)⟩
  clear hHal hlow hk
  refine ⟨.tuple #[.pointer (some ⟨hb, 0, none⟩), .bool true], rfl, ?_⟩
  try simp only [pS]
  refine uK (.tuple #[pV hb 0, .bool true]) <| uK (pV hb 0) <| uK (.bool true) <| uK (pV hb 0) <| uK (.bool true) <| WL.nil <| ?_
  try simp only [pS]
  have HF : Hid (Hg w wk3 No J hb v pp (Pax.openH (2 * F + 1) (r + 1)) [] []) := ⟨HL.out.1, HF.out, fun k e => .inr (HL.out.2 k e), by simp, by simp, by simp, by simp, by simp⟩
  clear HL HF0
  go_upto_region 4 with fail
  refine WL.start <| uK (.bool true) <| uK (.bool false) <| WL.nil <| ?_
  try simp only [pS]
  go_upto_region 6 with fail
  refine WL.start <| uW (.agg (Cm.cells cZ)) (exec_build 28 _ rfl (Cm.cells cZ) (by kernel_rfl)) <| ?_
  try simp only [pS]
  refine uR (pV wk3.heap.size 0) (wk3.alloc (.cells (Cm.cells cZ) 28)) (exec_alloc 28 rfl (Cm.cells cZ) Z28) ?_
  try simp only [pS]
  have HF : Hid (Hg w (wk3.alloc (.cells (Cm.cells cZ) 28)) No J hb v pp (Pax.openH (2 * F + 1) (r + 1)) [(wk3.heap.size, 28, Cm.cells cZ)] []) := HF.out.alloc _ _
  generalize wk3.alloc (.cells (Cm.cells cZ) 28) = wk5 at HF ⊢
  generalize wk3.heap.size = gk4 at HF ⊢
  refine uT 28 ⟨gk4, 0, none⟩ (.agg (Cm.cells cZ)) (wk5.setRow gk4 (Cm.cells cZ)) (rs (Cm.cs cZ) (Cm.cs cZ) (Cm.cs cZ) (HF.out.box 0 _ _ _ rfl) S28 (Cm.oneL _)) ?_
  try simp only [pS]
  have HF : Hid (Hg w (wk5.setRow gk4 (Cm.cells cZ)) No J hb v pp (Pax.openH (2 * F + 1) (r + 1)) [(gk4, 28, Cm.cells cZ)] []) := HF.out.set 0 rfl _
  generalize wk5.setRow gk4 (Cm.cells cZ) = wk6 at HF ⊢
  refine WL.nil ?_
  try simp only [pS]
  go_upto_region 7 with fail
  refine WL.start <| uK (.bool false) <| WL.nil <| ?_
  try simp only [pS]
  go_upto_region 8 with fail
  refine WL.start <| uK (.int .i64 0) <| WL.nil <| ?_
  try simp only [pS]
  go_wp2
  go_loopw [10, 11] (fun v10 v11 wr => ∃ (i : Nat) (b1 : Bool) (f1 : Ytpabpeppgpeaoaa.Cm) (h : Pax.Hl) (J1 : Nat → Prop) (v1 : Hv), v10 = .bool b1 ∧ v11 = .int .i64 ((i : Nat) : Int) ∧ i ≤ s.l ∧ Hid (Pax.S1 (2 * F + 1) (r + 1) i h f1 b1) ∧ Hid (Hg w wr No J1 hb v1 pp h [(gk4, 28, Cm.cells (dC' f1))] [])) (fun _ i _ => s.l - (intOf i).toNat)
  case atStart => exact ⟨0, false, Ytpabpeppgpeaoaa.cZ, _, J, v, rfl, by go_num, by omega, Pax.s1_start (by omega) (by omega) _, HF⟩
  case round =>
    clear HF
    obtain ⟨i, b1, f1, h, J1, v1, rfl, rfl, hi, HS, HF⟩ := hrel
    by_cases hlt : i < s.l
    · skip
      obtain ⟨gs, os, hgs, hcs⟩ := HNN.out i (by omega)
      obtain ⟨z, hz⟩ : ∃ z, z = zs[i]?.getD 0 := ⟨_, rfl⟩
      rw [← hz] at hcs
      have hcs : w.cell? ⟨gs, os + i * 1, none⟩ = some (.int .i64 z) := by rw [Nat.mul_one]; exact hcs
      have hS2 := HS.out.act (by omega) (z % 1099511627776)
      obtain ⟨c0, hA, hA2⟩ := hS2.agree
      have hokA := hS2.ok
      have hpl2 := hS2.pl
      go_upto_region 9 with fail
      refine WL.start <| uK (.int .i64 ((i : Nat) : Int)) <| uK (s.v) <| uK (.int .i64 ((s.l : Nat) : Int)) <| uB .lss 3 (.int .i64 ((i : Nat) : Int)) (.int .i64 ((s.l : Nat) : Int)) (.bool true) (by rw [b_lss, decide_eq_true (by omega)]) <| WL.nil <| ?_
      try simp only [pS]
      go_upto_region 11 with fail
      refine WL.start <| uK (pV hb 0) <| uK (s.v) <| uK (.int .i64 ((i : Nat) : Int)) <| uW (pV gs (os + i * 1)) (exec_ixA 24 1 E24 F24 _ _ rfl gs os s.l s.k i (Eq.trans (b := s.v) (by kernel_rfl) (sl_v (s := s) hgs)) (by kernel_rfl) (by omega)) <| uL 3 ⟨gs, os + i * 1, none⟩ (.int .i64 z) (load_one (HF.out.kept.cell hcs (fun e => e)) U3 rfl) <| ?_
      try simp only [pS]
      refine uC 16 #[pV hb 0, .int .i64 z] (act_any J1 hb v1 pp h z _ HF.out.hal (4000 + i) HS.out.ok (by omega) (by rw [HS.out.pl]; omega)) ?_
      rintro e wk7 ho
      obtain ⟨J2, v2, rfl, hG⟩ := HF.out.hcall ho
      have HF : Hid (Hg w wk7 No J2 hb v2 pp (Pax.actH h (z % 1099511627776)) [(gk4, 28, Cm.cells (dC' f1))] []) := hG
      clear ho hG
      refine ⟨.tuple #[], rfl, ?_⟩
      try simp only [pS]
      refine WL.nil ?_
      try simp only [pS]
      go_upto_region 12 with fail
      refine WL.start <| uK (.bool true) <| WL.nil <| ?_
      try simp only [pS]
      go_upto_region 13 with fail
      refine WL.start <| uK (pV hb 0) <| uL 28 ⟨gk4, 0, none⟩ (.agg (Cm.cells (dC' f1))) (run_load_part (cs := Cm.cs (dC' f1)) (sub := Cm.cs (dC' f1)) (HF.out.box 0 _ _ _ rfl) (Part.all _) U28 rfl S28) <| uK (.bool b1) <| ?_
      try simp only [pS]
      refine uC 17 #[pV hb 0, .agg (Cm.cells (dC' f1)), .bool b1] (agree_any J2 hb v2 pp _ f1 c0 _ _ HF.out.hal hokA.dec hA.all hA.hf hA.h1 (fun e => by have := hA.h2 e; omega) hA.h3) ?_
      rintro e wk8 ⟨f', b', rfl, hf', hd1, hd2, hk⟩
      have HF : Hid (Hg w wk8 No J2 hb v2 pp (Pax.actH h (z % 1099511627776)) [(gk4, 28, Cm.cells (dC' f1))] []) := HF.out.no hk
      clear hk
      refine ⟨.tuple #[.agg (Cm.cells (dC' f')), .bool b', .bool true], rfl, ?_⟩
      try simp only [pS]
      refine uK (.tuple #[.agg (Cm.cells (dC' f')), .bool b', .bool true]) <| uK (.agg (Cm.cells (dC' f'))) <| uK (.bool b') <| uK (.bool true) <| ?_
      try simp only [pS]
      refine uT 28 ⟨gk4, 0, none⟩ (.agg (Cm.cells (dC' f'))) (wk8.setRow gk4 (Cm.cells (dC' f'))) (rs (Cm.cs (dC' f1)) (Cm.cs (dC' f')) (Cm.cs (dC' f')) (HF.out.box 0 _ _ _ rfl) S28 (Cm.oneL _)) ?_
      try simp only [pS]
      have HF : Hid (Hg w (wk8.setRow gk4 (Cm.cells (dC' f'))) No J2 hb v2 pp (Pax.actH h (z % 1099511627776)) [(gk4, 28, Cm.cells (dC' f'))] []) := HF.out.set 0 rfl _
      generalize wk8.setRow gk4 (Cm.cells (dC' f')) = wk9 at HF ⊢
      refine uK (.bool b') <| uK (.bool true) <| WL.nil <| ?_
      try simp only [pS]
      go_upto_region 14 with fail
      refine WL.start <| uK (.bool true) <| uK (.bool false) <| WL.nil <| ?_
      try simp only [pS]
      go_upto_region 10 with fail
      refine WL.start <| uK (.int .i64 ((i : Nat) : Int)) <| uB .add 3 (.int .i64 ((i : Nat) : Int)) (.int .i64 1) (.int .i64 (((i + 1) : Nat) : Int)) (b_addw _ _ _ (by rw [IntKind.wrap_i64]; omega) _) <| uK (.int .i64 (((i + 1) : Nat) : Int)) <| WL.nil <| ?_
      try simp only [pS]
      go_wp2
      go_roundw
      case rel => exact ⟨i + 1, b', f', _, J2, v2, rfl, by go_num, by omega, hA2 f' b' hf' hd1 hd2, HF⟩
      case measure => simp [intOf]; omega
    · skip
      go_upto_region 9 with fail
      refine WL.start <| uK (.int .i64 ((i : Nat) : Int)) <| uK (s.v) <| uK (.int .i64 ((s.l : Nat) : Int)) <| uB .lss 3 (.int .i64 ((i : Nat) : Int)) (.int .i64 ((s.l : Nat) : Int)) (.bool false) (by rw [b_lss, decide_eq_false (by omega)]) <| WL.nil <| ?_
      try simp only [pS]
      go_upto_region 16 with fail
      refine WL.start <| uK (pV hb 0) <| uK (pV hb 0) <| uK (pV hb 7) <| ?_
      try simp only [pS]
      obtain ⟨J2, hG⟩ := HF.out.noY
      refine uT 66 ⟨hb, 7, none⟩ (.slice none 0 0) (wr.setRow hb (Hv.cells ⟨v1.ky, v1.g, v1.i, v1.p, slZ, v1.d, v1.a, v1.b⟩)) (rs (Hv.cs v1) ([.slice none 0 0]) (Hv.cs ⟨v1.ky, v1.g, v1.i, v1.p, slZ, v1.d, v1.a, v1.b⟩) (HF.out.hal.box) S66 (by simp [Value.oneCell', Sl.v])) ?_
      try simp only [pS]
      have HF : Hid (Hg w (wr.setRow hb (Hv.cells ⟨v1.ky, v1.g, v1.i, v1.p, slZ, v1.d, v1.a, v1.b⟩)) No J2 hb ⟨v1.ky, v1.g, v1.i, v1.p, slZ, v1.d, v1.a, v1.b⟩ pp ({ h with way := [] }) [(gk4, 28, Cm.cells (dC' f1))] []) := hG
      try clear hG
      generalize wr.setRow hb (Hv.cells ⟨v1.ky, v1.g, v1.i, v1.p, slZ, v1.d, v1.a, v1.b⟩) = wk10 at HF ⊢
      refine WL.nil ?_
      try simp only [pS]
      have HS : Hid (Pax.S2 (2 * F + 1) (r + 1) (1 + (i : Int) + 50000 * ((0 : Nat) : Int)) 0 { h with way := [] } f1 b1) := by
        have := HS.out.s2 (by omega)
        show Pax.S2 _ _ _ _ _ _ _
        rw [show (1 + (i : Int) + 50000 * ((0 : Nat) : Int)) = 1 + (i : Int) by omega]
        exact this
      go_upto_region 17 with fail
      refine WL.start <| uK (.int .i64 0) <| WL.nil <| ?_
      try simp only [pS]
      go_wp2
      go_loopw [10, 13] (fun v10 v13 wr => ∃ (j : Nat) (b2 : Bool) (f2 : Ytpabpeppgpeaoaa.Cm) (h2 : Pax.Hl) (J3 : Nat → Prop) (v3 : Hv), v10 = .bool b2 ∧ v13 = .int .i64 ((j : Nat) : Int) ∧ j ≤ r + 1 ∧ Hid (Pax.S2 (2 * F + 1) (r + 1) (1 + (i : Int) + 50000 * ((j : Nat) : Int)) j h2 f2 b2) ∧ Hid (Hg w wr No J3 hb v3 pp h2 [(gk4, 28, Cm.cells (dC' f2))] [])) (fun _ i _ => r + 1 - (intOf i).toNat)
      case atStart => exact ⟨0, b1, f1, _, J2, _, rfl, by go_num, by omega, HS, HF⟩
      case round =>
        clear HF HS
        obtain ⟨j, b2, f2, h2, J3, v3, rfl, rfl, hj, HS, HF⟩ := hrel
        have hpl3 := HF.out.pl
        rw [HS.out.pl] at hpl3
        by_cases hjk : j < v3.p.l
        · skip
          obtain ⟨x, hx⟩ : ∃ x, h2.ps[j]? = some x := ⟨_, List.getElem?_eq_getElem (by rw [HS.out.pl]; omega)⟩
          have hS3 := HS.out.s3 (by omega) (by omega) (by omega) hx
          obtain ⟨gp, hgp⟩ := HF.out.rP hjk
          obtain ⟨k, Ij, hpk, hP, _⟩ := HF.out.ask hx
          go_upto_region 18 with fail
          refine WL.start <| uK (.int .i64 ((j : Nat) : Int)) <| uK (pV hb 0) <| uK (pV hb 0) <| uK (pV hb 6) <| uL 65 ⟨hb, 6, none⟩ (v3.p.v) (load_one ((HF.out.hal.box).cell 6 |>.trans (by kernel_rfl)) U65 rfl) <| uK (.int .i64 ((v3.p.l : Nat) : Int)) <| uB .lss 3 (.int .i64 ((j : Nat) : Int)) (.int .i64 ((v3.p.l : Nat) : Int)) (.bool true) (by rw [b_lss, decide_eq_true (by omega)]) <| WL.nil <| ?_
          try simp only [pS]
          go_upto_region 20 with fail
          refine WL.start <| uK (pV hb 0) <| uK (pV hb 0) <| uK (pV hb 6) <| uL 65 ⟨hb, 6, none⟩ (v3.p.v) (load_one ((HF.out.hal.box).cell 6 |>.trans (by kernel_rfl)) U65 rfl) <| uK (.int .i64 ((j : Nat) : Int)) <| uW (pV gp (0 + j * 1)) (exec_ixA 65 1 E65 F65 _ _ rfl gp 0 v3.p.l v3.p.k j (Eq.trans (b := v3.p.v) (by kernel_rfl) (sl_v (s := v3.p) hgp)) (by kernel_rfl) (by omega)) <| uL 31 ⟨gp, 0 + j * 1, none⟩ (pV k 0) (load_one (HF.out.cP hgp hpk) U31 rfl) <| ?_
          try simp only [pS]
          obtain ⟨k2, I2, hpk2, hP2, hask⟩ := HF.out.ask hx
          cases Option.some.inj (hpk.symm.trans hpk2)
          refine uC 18 #[pV k 0] (begin_P hP2) ?_
          rintro e wk11 ho
          obtain ⟨la, lc, J4, rfl, hG⟩ := hask _ _ _ _ ho
          obtain ⟨hB, hhB⟩ : ∃ hB, hB = { h2 with ps := h2.ps.set j (begS x).1 } := ⟨_, rfl⟩
          rw [← hhB] at hS3
          have HF : Hid (Hg w wk11 No J4 hb v3 pp hB [(gk4, 28, Cm.cells (dC' f2))] []) := by rw [hhB]; exact hG.pick (by simp)
          have hzB : hB.zs = Pax.grp (2 * F + 1) := by
            obtain ⟨t, vv, _⟩ := hS3.iv
            exact vv.hi.z
          have HS3 : Hid (Pax.S3 (2 * F + 1) (r + 1) (1 + (i : Int) + 50000 * ((j : Nat) : Int)) j 0 hB hB f2 b2) := hS3
          clear ho hG hask hhB hS3
          refine ⟨.slice la (begS x).2.length lc, rfl, ?_⟩
          try simp only [pS]
          refine WL.nil ?_
          try simp only [pS]
          go_upto_region 21 with fail
          refine WL.start <| uK (.int .i64 0) <| WL.nil <| ?_
          try simp only [pS]
          go_wp2
          go_loopw [10, 14] (fun v10 v14 wr => ∃ (q : Nat) (b4 : Bool) (f4 : Ytpabpeppgpeaoaa.Cm) (h4 : Pax.Hl) (J5 : Nat → Prop) (v5 : Hv), v10 = .bool b4 ∧ v14 = .int .i64 ((q : Nat) : Int) ∧ q ≤ 5 ∧ Hid (Pax.S3 (2 * F + 1) (r + 1) (1 + (i : Int) + 50000 * ((j : Nat) : Int)) j q hB h4 f4 b4) ∧ Hid (Hg w wr No J5 hb v5 pp h4 [(gk4, 28, Cm.cells (dC' f4))] [])) (fun _ i _ => 5 - (intOf i).toNat)
          case atStart => exact ⟨0, b2, f2, hB, J4, v3, rfl, by go_num, by omega, HS3, HF⟩
          case round =>
            clear HF HS3
            obtain ⟨q, b4, f4, h4, J5, v5, rfl, rfl, hq, HS3, HF⟩ := hrel
            by_cases hq5 : q < 5
            · skip
              obtain ⟨y, hy⟩ : ∃ y, h4.ps[j]? = some y := ⟨_, List.getElem?_eq_getElem (by rw [HS3.out.pl]; omega)⟩
              obtain ⟨c0, hA, hA2⟩ := HS3.out.step (by omega) hq5 (by omega) (by omega)
              have hokE := HS3.out.ok.ex (Pax.upD 0) j
              have hokA := hokE.look
              have heq := ex_eq (up := Pax.upD 0) hy
              have hzn : h4.zs.length ≤ 60 := by
                obtain ⟨t, vv, _⟩ := HS3.out.iv
                rw [vv.hi.z, Pax.grp_len]; omega
              have hplF : (Pax.FA j h4).ps.length = r + 1 := Pax.ex_pl.trans HS3.out.pl
              go_upto_region 22 with fail
              refine WL.start <| uK (.int .i64 ((q : Nat) : Int)) <| uB .lss 3 (.int .i64 ((q : Nat) : Int)) (.int .i64 5) (.bool true) (by rw [b_lss, decide_eq_true (by omega)]) <| WL.nil <| ?_
              try simp only [pS]
              go_upto_region 24 with fail
              refine WL.start <| uK (pV hb 0) <| uK (.int .i64 ((j : Nat) : Int)) <| ?_
              try simp only [pS]
              refine uC 19 #[pV hb 0, .int .i64 ((j : Nat) : Int), .int .i64 0] (exch_any J5 hb v5 pp h4 j 0 y _ HF.out.hal 1100000 HS3.out.ok (by omega) hy (by omega) hzn) ?_
              rintro e wk12 ho
              obtain ⟨J6, v6, rfl, hG⟩ := HF.out.hcall ho
              have HF : Hid (Hg w wk12 No J6 hb v6 pp (Pax.exS (Pax.upD 0) j h4) [(gk4, 28, Cm.cells (dC' f4))] []) := by rw [heq]; exact hG
              clear ho hG
              refine ⟨.tuple #[], rfl, ?_⟩
              try simp only [pS]
              refine WL.nil ?_
              try simp only [pS]
              go_upto_region 25 with fail
              refine WL.start <| uK (pV hb 0) <| ?_
              try simp only [pS]
              refine uC 20 #[pV hb 0] (look_any J6 hb v6 pp _ _ HF.out.hal hokE.dec hokE.ps) ?_
              rintro e wk13 ho
              obtain ⟨J7, v7, rfl, hG⟩ := HF.out.hcall ho
              have HF : Hid (Hg w wk13 No J7 hb v7 pp (Pax.FA j h4) [(gk4, 28, Cm.cells (dC' f4))] []) := hG
              clear ho hG
              refine ⟨.tuple #[], rfl, ?_⟩
              try simp only [pS]
              refine WL.nil ?_
              try simp only [pS]
              go_upto_region 26 with fail
              refine WL.start <| uK (.bool true) <| WL.nil <| ?_
              try simp only [pS]
              go_upto_region 27 with fail
              refine WL.start <| uK (pV hb 0) <| uL 28 ⟨gk4, 0, none⟩ (.agg (Cm.cells (dC' f4))) (run_load_part (cs := Cm.cs (dC' f4)) (sub := Cm.cs (dC' f4)) (HF.out.box 0 _ _ _ rfl) (Part.all _) U28 rfl S28) <| uK (.bool b4) <| ?_
              try simp only [pS]
              refine uC 17 #[pV hb 0, .agg (Cm.cells (dC' f4)), .bool b4] (agree_any J7 hb v7 pp _ f4 c0 _ _ HF.out.hal hokA.dec hA.all hA.hf hA.h1 (fun e => by have := hA.h2 e; omega) hA.h3) ?_
              rintro e wk14 ⟨f', b', rfl, hf', hd1, hd2, hk⟩
              have HF : Hid (Hg w wk14 No J7 hb v7 pp (Pax.FA j h4) [(gk4, 28, Cm.cells (dC' f4))] []) := HF.out.no hk
              clear hk
              refine ⟨.tuple #[.agg (Cm.cells (dC' f')), .bool b', .bool true], rfl, ?_⟩
              try simp only [pS]
              refine uK (.tuple #[.agg (Cm.cells (dC' f')), .bool b', .bool true]) <| uK (.agg (Cm.cells (dC' f'))) <| uK (.bool b') <| uK (.bool true) <| ?_
              try simp only [pS]
              refine uT 28 ⟨gk4, 0, none⟩ (.agg (Cm.cells (dC' f'))) (wk14.setRow gk4 (Cm.cells (dC' f'))) (rs (Cm.cs (dC' f4)) (Cm.cs (dC' f')) (Cm.cs (dC' f')) (HF.out.box 0 _ _ _ rfl) S28 (Cm.oneL _)) ?_
              try simp only [pS]
              have HF : Hid (Hg w (wk14.setRow gk4 (Cm.cells (dC' f'))) No J7 hb v7 pp (Pax.FA j h4) [(gk4, 28, Cm.cells (dC' f'))] []) := HF.out.set 0 rfl _
              generalize wk14.setRow gk4 (Cm.cells (dC' f')) = wk15 at HF ⊢
              refine uK (.bool b') <| uK (.bool true) <| WL.nil <| ?_
              try simp only [pS]
              go_upto_region 28 with fail
              refine WL.start <| uK (.bool true) <| uK (.bool false) <| WL.nil <| ?_
              try simp only [pS]
              go_upto_region 23 with fail
              refine WL.start <| uK (.int .i64 ((q : Nat) : Int)) <| uB .add 3 (.int .i64 ((q : Nat) : Int)) (.int .i64 1) (.int .i64 (((q + 1) : Nat) : Int)) (b_addw _ _ _ (by rw [IntKind.wrap_i64]; omega) _) <| uK (.int .i64 (((q + 1) : Nat) : Int)) <| WL.nil <| ?_
              try simp only [pS]
              go_wp2
              go_roundw
              case rel => exact ⟨q + 1, b', f', _, J7, v7, rfl, by go_num, by omega, hA2 f' b' hf' hd1 hd2, HF⟩
              case measure => simp [intOf]; omega
            · skip
              obtain rfl : q = 5 := by omega
              obtain ⟨hb4, y, hy, hdy⟩ := HS3.out.done (by omega) hzB
              subst hb4
              have hpl5 := HF.out.pl
              rw [HS3.out.pl] at hpl5
              obtain ⟨gq, hgq⟩ := HF.out.rP (i := j) (by omega)
              obtain ⟨kq, Iq, hpkq, hPq, _⟩ := HF.out.ask hy
              go_upto_region 22 with fail
              refine WL.start <| uK (.int .i64 ((5 : Nat) : Int)) <| uB .lss 3 (.int .i64 ((5 : Nat) : Int)) (.int .i64 5) (.bool false) (by rw [b_lss, decide_eq_false (by omega)]) <| WL.nil <| ?_
              try simp only [pS]
              go_upto_region 30 with fail
              refine WL.start <| uK (pV hb 0) <| uK (pV hb 0) <| uK (pV hb 6) <| uL 65 ⟨hb, 6, none⟩ (v5.p.v) (load_one ((HF.out.hal.box).cell 6 |>.trans (by kernel_rfl)) U65 rfl) <| uK (.int .i64 ((j : Nat) : Int)) <| uW (pV gq (0 + j * 1)) (exec_ixA 65 1 E65 F65 _ _ rfl gq 0 v5.p.l v5.p.k j (Eq.trans (b := v5.p.v) (by kernel_rfl) (sl_v (s := v5.p) hgq)) (by kernel_rfl) (by omega)) <| uL 31 ⟨gq, 0 + j * 1, none⟩ (pV kq 0) (load_one (HF.out.cP hgq hpkq) U31 rfl) <| ?_
              try simp only [pS]
              refine uC 21 #[pV kq 0] (decided_P (hPq.no (Kept.refl No _))) ?_
              rintro e wk16 ⟨rfl, hk⟩
              have HF : Hid (Hg w wk16 No J5 hb v5 pp h4 [(gk4, 28, Cm.cells (dC' f4))] []) := HF.out.no hk
              clear hk
              refine ⟨.tuple #[.agg (Cm.cells (dC' f4)), .bool true], by rw [hdy]; rfl, ?_⟩
              try simp only [pS]
              refine uK (.tuple #[.agg (Cm.cells (dC' f4)), .bool true]) <| uK (.agg (Cm.cells (dC' f4))) <| uK (.bool true) <| ?_
              try simp only [pS]
              refine uR (pV wk16.heap.size 0) (wk16.alloc (.cells (Cm.cells cZ) 28)) (exec_alloc 28 rfl (Cm.cells cZ) Z28) ?_
              try simp only [pS]
              have HF : Hid (Hg w (wk16.alloc (.cells (Cm.cells cZ) 28)) No J5 hb v5 pp h4 [(gk4, 28, Cm.cells (dC' f4)), (wk16.heap.size, 28, Cm.cells cZ)] []) := HF.out.alloc _ _
              generalize wk16.alloc (.cells (Cm.cells cZ) 28) = wk18 at HF ⊢
              generalize wk16.heap.size = gk17 at HF ⊢
              refine uT 28 ⟨gk17, 0, none⟩ (.agg (Cm.cells (dC' f4))) (wk18.setRow gk17 (Cm.cells (dC' f4))) (rs (Cm.cs cZ) (Cm.cs (dC' f4)) (Cm.cs (dC' f4)) (HF.out.box 1 _ _ _ rfl) S28 (Cm.oneL _)) ?_
              try simp only [pS]
              have HF : Hid (Hg w (wk18.setRow gk17 (Cm.cells (dC' f4))) No J5 hb v5 pp h4 [(gk4, 28, Cm.cells (dC' f4)), (gk17, 28, Cm.cells (dC' f4))] []) := HF.out.set 1 rfl _
              generalize wk18.setRow gk17 (Cm.cells (dC' f4)) = wk19 at HF ⊢
              refine uK (.bool true) <| WL.nil <| ?_
              try simp only [pS]
              go_upto_region 31 with fail
              refine WL.start <| uK (.bool true) <| uK (.bool false) <| uK (.bool false) <| uL 28 ⟨gk17, 0, none⟩ (.agg (Cm.cells (dC' f4))) (run_load_part (cs := Cm.cs (dC' f4)) (sub := Cm.cs (dC' f4)) (HF.out.box 1 _ _ _ rfl) (Part.all _) U28 rfl S28) <| uL 28 ⟨gk4, 0, none⟩ (.agg (Cm.cells (dC' f4))) (run_load_part (cs := Cm.cs (dC' f4)) (sub := Cm.cs (dC' f4)) (HF.out.box 0 _ _ _ rfl) (Part.all _) U28 rfl S28) <| uB .neq 28 (.agg (Cm.cells (dC' f4))) (.agg (Cm.cells (dC' f4))) (.bool false) (by rw [eqC_neq, eqC_refl]; rfl) <| uK (.bool false) <| WL.nil <| ?_
              try simp only [pS]
              have HF : Hid (Hg w wk19 No J5 hb v5 pp h4 [(gk4, 28, Cm.cells (dC' f4))] []) := Hg.front (l := [(gk4, 28, Cm.cells (dC' f4))]) HF.out
              have HS : Hid (Pax.S2 (2 * F + 1) (r + 1) (1 + (i : Int) + 50000 * (((j + 1) : Nat) : Int)) (j + 1) h4 f4 true) := by
                have := HS3.out.s2 rfl
                have e : (1 + (i : Int) + 50000 * ((j : Nat) : Int)) + 50000 = (1 + (i : Int) + 50000 * (((j + 1) : Nat) : Int)) := by omega
                rw [e] at this
                exact this
              go_upto_region 19 with fail
              refine WL.start <| uK (.int .i64 ((j : Nat) : Int)) <| uB .add 3 (.int .i64 ((j : Nat) : Int)) (.int .i64 1) (.int .i64 (((j + 1) : Nat) : Int)) (b_addw _ _ _ (by rw [IntKind.wrap_i64]; omega) _) <| uK (.int .i64 (((j + 1) : Nat) : Int)) <| WL.nil <| ?_
              try simp only [pS]
              go_wp2
              go_roundw
              case rel => exact ⟨j + 1, true, f4, h4, J5, v5, rfl, by go_num, by omega, HS, HF⟩
              case measure => simp [intOf]; omega
        · skip
          go_upto_region 18 with fail
          refine WL.start <| uK (.int .i64 ((j : Nat) : Int)) <| uK (pV hb 0) <| uK (pV hb 0) <| uK (pV hb 6) <| uL 65 ⟨hb, 6, none⟩ (v3.p.v) (load_one ((HF.out.hal.box).cell 6 |>.trans (by kernel_rfl)) U65 rfl) <| uK (.int .i64 ((v3.p.l : Nat) : Int)) <| uB .lss 3 (.int .i64 ((j : Nat) : Int)) (.int .i64 ((v3.p.l : Nat) : Int)) (.bool false) (by rw [b_lss, decide_eq_false (by omega)]) <| WL.nil <| ?_
          try simp only [pS]
          go_upto_region 33 with fail
          refine WL.start <| uK (.bool b2) <| uK (.bool b2) <| WL.nil <| ?_
          try simp only [pS]
          go_wp2
          rw [HC.out]
          exact ⟨ret_bool (HS.out.an (by omega)), HF.out.kept⟩

end Go.Proofs.Ytpabpeppgpeaoaa.Md
