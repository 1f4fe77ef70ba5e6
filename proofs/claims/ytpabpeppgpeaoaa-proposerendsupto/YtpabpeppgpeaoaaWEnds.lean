import Derived.Test.YtpabpeppgpeaoaaHo
import Derived.Test.YtpabpeppgpeaoaaAw
import Derived.Deep.CutRange
import Derived.Deep.CutBlock
namespace Go.Proofs.Ytpabpeppgpeaoaa.Md
open Go.RowKit Gx
set_option linter.unusedVariables false
set_option linter.unusedSimpArgs false

theorem round_N {w : World} {I : Nat → Prop} {p : Nat} {s : PS} (h : Prp w I p s) : Calls Try.prog 22 #[.pointer (some ⟨p, 0, none⟩)] w (fun e w' => e = .returned (.int .i64 s.rd) ∧ Kept No w w') := (round_P h).mono fun e w' ⟨he, hw⟩ => ⟨he, hw ▸ Kept.refl No _⟩
theorem exs_eq {up : Nat → Bool} {h : Pax.Hl} {j : Nat} {x : PS} (hx : h.ps[j]? = some x) : Pax.exS up j h = Pax.exchH up h j x := by unfold Pax.exS; rw [hx]
set_option maxRecDepth 100000 in
set_option maxHeartbeats 4000000 in
theorem endsWalk (f : Int) (s : Sl) (who dead : Int) (zs : List Int) (w : World) (hN : Nums .i64 w s.a zs) (hzl : zs.length = s.l) (hsl : s.l ≤ 1048576) : Calls Try.prog 6 #[.int .i64 f, s.v, .int .i64 who, .int .i64 dead] w (fun e w' => e = .returned (.bool true) ∧ Kept No w w') := by
 refine hideC fun C HC => ?_
 have HF : Hid (Fq No w w []) := Fq.start _ _
 obtain ⟨F, hF⟩ : ∃ F : Nat, (F : Int) = f % 4 := ⟨(f % 4).toNat, by omega⟩
 have hF4 : F < 4 := by omega
 obtain ⟨D, hD⟩ : ∃ D : Nat, (D : Int) = dead % 1099511627776 := ⟨(dead % 1099511627776).toNat, by omega⟩
 have hDm : D < 1099511627776 := by omega
 have HNN : Hid (Nums .i64 w s.a zs) := hN
 clear hN
 go_enter Try.func6, Try.ntmps6
 go_upto_region 0 with fail
 refine WL.start <| uK (.bool false) <| WL.nil <| ?_
 try simp only [pS]
 go_upto_region 1 with fail
 refine WL.start ?_
 refine uC 8 #[] (known_any _) ?_
 rintro e wk1 ⟨rfl, hk⟩
 have HF : Hid (Fq No w (wk1) []) := HF.out.no hk
 clear hk
 refine ⟨.bool true, rfl, ?_⟩
 try simp only [pS]
 refine uK (.bool false) <| WL.nil <| ?_
 try simp only [pS]
 go_upto_region 3 with fail
 refine WL.start <| uK (.int .i64 f) <| ?_
 try simp only [pS]
 have HF0 : Hid (Kept No w wk1) := HF.out.kept
 refine uC 15 #[.int .i64 f, .int .i64 4] (open_any f F 4 _ hF (by omega)) ?_
 rintro e wk2 ⟨hb, J, v, pp, rfl, hHal, hlow, hk⟩
 have HF : Hid (Fq No w (wk2) []) := HF.out.no hk
 have HL : Hid (Hal wk2 J hb v pp (Pax.openH (2 * F + 1) 4) ∧ ∀ k, J k → w.heap.size ≤ k) := ⟨hHal, fun k e => Nat.le_trans HF0.out.size (hlow k e)⟩
 clear hHal hlow hk
 refine ⟨.tuple #[.pointer (some ⟨hb, 0, none⟩), .bool true], rfl, ?_⟩
 try simp only [pS]
 refine uK (.tuple #[pV hb 0, .bool true]) <| uK (pV hb 0) <| uK (.bool true) <| uK (pV hb 0) <| uK (.bool true) <| WL.nil <| ?_
 try simp only [pS]
 have HF : Hid (Hg w wk2 No J hb v pp (Pax.openH (2 * F + 1) 4) [] []) := ⟨HL.out.1, HF.out, fun k e => .inr (HL.out.2 k e), by simp, by simp, by simp, by simp, by simp⟩
 clear HL HF0
 go_upto_region 4 with fail
 refine WL.start <| uK (.bool true) <| uK (.bool false) <| WL.nil <| ?_
 try simp only [pS]
 go_upto_region 6 with fail
 refine WL.start <| uK (.int .i64 who) <| ?_
 try simp only [pS]
 refine uC 13 #[.int .i64 who, .int .i64 5] (rnd_eq _ 5 _ (by decide) (by decide)) ?_
 rintro e wk3 ⟨r, hr, hrn, rfl, hwq⟩
 have hr : (r : Int) = who % 5 := hr
 have HF : Hid (Hg w wk3 No J hb v pp (Pax.openH (2 * F + 1) 4) [] []) := by rw [hwq]; exact HF
 clear hwq
 skip
 refine ⟨.int .i64 ((r : Nat) : Int), rfl, ?_⟩
 try simp only [pS]
 refine uB .sub 3 (.int .i64 ((r : Nat) : Int)) (.int .i64 1) (.int .i64 (((r : Nat) : Int) - 1)) (b_subw _ _ _ (by rw [IntKind.wrap_i64]; omega) _) <| uK (.int .i64 (((r : Nat) : Int) - 1)) <| WL.nil <| ?_
 try simp only [pS]
 go_upto_region 7 with fail
 refine WL.start <| uK (.int .i64 (((r : Nat) : Int) - 1)) <| uB .lss 3 (.int .i64 (((r : Nat) : Int) - 1)) (.int .i64 0) (.bool (decide (((r : Nat) : Int) - 1 < 0))) (b_lss _ _ _) <| WL.nil <| ?_
 try simp only [pS]
 go_upto_if 38 with fail
 go_cut [11] from 34 (fun v11 wc => ∃ j : Nat, v11 = .int .i64 ((j : Nat) : Int) ∧ j < 4 ∧ Hid (Hg w wc No J hb v pp (Pax.openH (2 * F + 1) 4) [] []))
 case first =>
  rename_i J0 K0 hJ0 hK0
  cases hq : decide (((r : Nat) : Int) - 1 < 0)
  ·skip
   have hq := of_decide_eq_false hq
   obtain ⟨j, rfl⟩ : ∃ j, r = j + 1 := ⟨r - 1, by omega⟩
   go_wp2
   go_meet
   case rel => exact ⟨j, by congr 1; omega, by omega, HF⟩
  ·skip
   go_upto_region 8 with fail
   refine WL.start <| uK (.int .i64 0) <| WL.nil <| ?_
   try simp only [pS]
   refine hK0 _ _ (Met.intro (hJ0 _ _ ?_))
   (repeat apply Exists.intro)
   refine ⟨?_, rfl⟩
   exact ⟨0, rfl, by omega, HF⟩
 case rest =>
  clear HF hr hrn
  obtain ⟨j, rfl, hj4, HF⟩ := hcut
  go_upto_region 9 with fail
  refine WL.start <| uK (.int .i64 0) <| WL.nil <| ?_
  try simp only [pS]
  go_wp2
  go_loopw [12] (fun v12 wr => ∃ (i : Nat) (h : Pax.Hl) (J1 : Nat → Prop) (v1 : Hv), v12 = .int .i64 ((i : Nat) : Int) ∧ i ≤ s.l ∧ Hid (Pax.S1 (2 * F + 1) 4 i h Ytpabpeppgpeaoaa.cZ false) ∧ Hid (Hg w wr No J1 hb v1 pp h [] [])) (fun i _ => s.l - (intOf i).toNat)
  case atStart => exact ⟨0, _, J, v, by go_num, by omega, Pax.s1_start (by omega) (by omega) _, HF⟩
  case round =>
   clear HF
   obtain ⟨i, h, J1, v1, rfl, hi, HS, HF⟩ := hrel
   by_cases hlt : i < s.l
   · skip
     obtain ⟨gs, os, hgs, hcs⟩ := HNN.out i (by omega)
     obtain ⟨z, hz⟩ : ∃ z, z = zs[i]?.getD 0 := ⟨_, rfl⟩
     rw [← hz] at hcs
     have hcs : w.cell? ⟨gs, os + i * 1, none⟩ = some (.int .i64 z) := by rw [Nat.mul_one]; exact hcs
     have hS2 := HS.out.act (by omega) (z % 1099511627776)
     go_upto_region 10 with fail
     refine WL.start <| uK (.int .i64 ((i : Nat) : Int)) <| uK (s.v) <| uK (.int .i64 ((s.l : Nat) : Int)) <| uB .lss 3 (.int .i64 ((i : Nat) : Int)) (.int .i64 ((s.l : Nat) : Int)) (.bool true) (by rw [b_lss, decide_eq_true (by omega)]) <| WL.nil <| ?_
     try simp only [pS]
     go_upto_region 12 with fail
     refine WL.start <| uK (pV hb 0) <| uK (s.v) <| uK (.int .i64 ((i : Nat) : Int)) <| uW (pV gs (os + i * 1)) (exec_ixA 24 1 E24 F24 _ _ rfl gs os s.l s.k i (Eq.trans (b := s.v) (by kernel_rfl) (sl_v (s := s) hgs)) (by kernel_rfl) (by omega)) <| uL 3 ⟨gs, os + i * 1, none⟩ (.int .i64 z) (load_one (HF.out.kept.cell hcs (fun e => e)) U3 rfl) <| ?_
     try simp only [pS]
     refine uC 16 #[pV hb 0, .int .i64 z] (act_any J1 hb v1 pp h z _ HF.out.hal (4000 + i) HS.out.ok (by omega) (by rw [HS.out.pl]; omega)) ?_
     rintro e wk4 ho
     obtain ⟨J2, v2, rfl, hG⟩ := HF.out.hcall ho
     have HF : Hid (Hg w wk4 No J2 hb v2 pp (Pax.actH h (z % 1099511627776)) [] []) := hG
     clear ho hG
     refine ⟨.tuple #[], rfl, ?_⟩
     try simp only [pS]
     refine WL.nil ?_
     try simp only [pS]
     go_upto_region 11 with fail
     refine WL.start <| uK (.int .i64 ((i : Nat) : Int)) <| uB .add 3 (.int .i64 ((i : Nat) : Int)) (.int .i64 1) (.int .i64 (((i + 1) : Nat) : Int)) (b_addw _ _ _ (by rw [IntKind.wrap_i64]; omega) _) <| uK (.int .i64 (((i + 1) : Nat) : Int)) <| WL.nil <| ?_
     try simp only [pS]
     go_wp2
     go_roundw
     case rel => exact ⟨i + 1, _, J2, v2, by go_num, by omega, hS2, HF⟩
     case measure => simp [intOf]; omega
   · skip
     go_upto_region 10 with fail
     refine WL.start <| uK (.int .i64 ((i : Nat) : Int)) <| uK (s.v) <| uK (.int .i64 ((s.l : Nat) : Int)) <| uB .lss 3 (.int .i64 ((i : Nat) : Int)) (.int .i64 ((s.l : Nat) : Int)) (.bool false) (by rw [b_lss, decide_eq_false (by omega)]) <| WL.nil <| ?_
     try simp only [pS]
     go_upto_region 13 with fail
     refine WL.start <| uK (.int .i64 0) <| WL.nil <| ?_
     try simp only [pS]
     go_upto_region 14 with fail
     refine WL.start <| uK (.int .i64 f) <| ?_
     try simp only [pS]
     refine uC 13 #[.int .i64 f, .int .i64 4] (rnd_eq _ 4 _ (by decide) (by decide)) ?_
     rintro e wk5 ⟨r, hr, hrn, rfl, hwq⟩
     have hr : (r : Int) = f % 4 := hr
     have HF : Hid (Hg w wk5 No J1 hb v1 pp h [] []) := by rw [hwq]; exact HF
     clear hwq
     obtain rfl : F = r := by omega
     clear hr hrn
     refine ⟨.int .i64 ((F : Nat) : Int), rfl, ?_⟩
     try simp only [pS]
     refine uK (.int .i64 ((F : Nat) : Int)) <| WL.nil <| ?_
     try simp only [pS]
     go_upto_region 15 with fail
     refine WL.start <| uK (.int .i64 0) <| WL.nil <| ?_
     try simp only [pS]
     have hgl : v1.g.l = 2 * F + 1 := by
      obtain ⟨t, vv, _⟩ := HS.out.iv
      rw [← HF.out.gl, vv.hi.z, Pax.grp_len]
     go_upto_block 2 with fail
     go_cut [13] from 14 (fun v13 wc => ∃ d : Nat, v13 = .int .i64 ((d : Nat) : Int) ∧ (∃ k left, k ≤ 2 * F + 1 ∧ Pax.DB F k d left) ∧ Hid (Hg w wc No J1 hb v1 pp h [] []))
     case first =>
      rename_i J0 K0 hJ0 hK0
      go_wp2
      go_loopw [13, 14, 15] (fun v13 v14 v15 wr => ∃ (k d left : Nat), v13 = .int .i64 ((d : Nat) : Int) ∧ v14 = .int .i64 ((left : Nat) : Int) ∧ v15 = .int .i64 ((k : Nat) : Int) ∧ k ≤ 2 * F + 1 ∧ Pax.DB F k d left ∧ Hid (Hg w wr No J1 hb v1 pp h [] [])) (fun _ _ k _ => 2 * F + 1 - (intOf k).toNat)
      case atStart => exact ⟨0, 0, F, by go_num, rfl, by go_num, by omega, Pax.DB.start F, HF⟩
      case round =>
       clear HF
       obtain ⟨k, d, left, rfl, rfl, rfl, hk, hDB, HF⟩ := hrel
       have hdf := hDB.few hk hF4
       by_cases hkl : k < v1.g.l
       · by_cases hl0 : 0 < left
         · skip
           obtain ⟨lf, rfl⟩ : ∃ l, left = l + 1 := ⟨left - 1, by omega⟩
           have hlf : lf + 1 ≤ F := by have := hDB.2; omega
           by_cases hbit : D &&& 2 ^ k = 0
           ·skip
            go_upto_region 16 with fail
            refine WL.start <| uK (.int .i64 ((k : Nat) : Int)) <| uK (pV hb 0) <| uK (pV hb 0) <| uK (pV hb 4) <| uL 24 ⟨hb, 4, none⟩ (v1.g.v) (load_one ((HF.out.hal.box).cell 4 |>.trans (by kernel_rfl)) U24 rfl) <| uK (.int .i64 ((v1.g.l : Nat) : Int)) <| uB .lss 3 (.int .i64 ((k : Nat) : Int)) (.int .i64 ((v1.g.l : Nat) : Int)) (.bool true) (by rw [b_lss, decide_eq_true (by omega)]) <| ?_
            try simp only [pS]
            refine uK (.bool true) <| uK (.int .i64 ((lf + 1 : Nat) : Int)) <| uB .gtr 3 (.int .i64 ((lf + 1 : Nat) : Int)) (.int .i64 0) (.bool true) (by rw [b_gtr, decide_eq_true (by omega)]) <| uK (.bool true) <| WL.nil <| ?_
            try simp only [pS]
            go_upto_region 18 with fail
            refine wp_region_held_drew (S := fun w' => True) rfl trivial (fun hH => ?_)
            have HF : Hid (Hg w wr.drew No J1 hb v1 pp h [] []) := HF.out.drew
            generalize wr.drew = wk6 at HF hH ⊢
            refine xV 0 66 (.int .i64 dead) hH <| xV 2 68 (.int .i64 ((k : Nat) : Int)) hH <| xB 3 69 .shl 3 (.int .i64 1) (.int .i64 ((k : Nat) : Int)) (.int .i64 (((2 ^ k) : Nat) : Int)) (fun _ _ => b_shl k (by omega) _) hH <| ?_
            try simp only [pS]
            refine xC 1 67 13 #[.int .i64 dead, .int .i64 1099511627776] (rnd_eq _ 1099511627776 _ (by decide) (by decide)) ?_
            rintro e wk7 ⟨r, hr, hrn, rfl, hwq⟩
            have hr : (r : Int) = dead % 1099511627776 := hr
            have HF : Hid (Hg w wk7 No J1 hb v1 pp h [] []) := by rw [hwq]; exact HF
            clear hwq
            obtain rfl : D = r := by omega
            clear hr hrn
            have hH2 : True := trivial
            refine ⟨.int .i64 ((D : Nat) : Int), rfl, hH2, fun hH => ?_⟩
            clear hH2
            try simp only [pS]
            refine xB 4 70 .and 3 (.int .i64 ((D : Nat) : Int)) (.int .i64 (((2 ^ k) : Nat) : Int)) (.int .i64 (((D &&& 2 ^ k) : Nat) : Int)) (fun _ _ => b_andN D (2 ^ k) (by omega) (pow_small (by omega)) _) hH <| xB 5 71 .neq 3 (.int .i64 (((D &&& 2 ^ k) : Nat) : Int)) (.int .i64 0) (.bool false) (fun _ _ => by rw [b_neq, beq_iff_eq.2 (by omega)]; rfl) hH <| ?_
            try simp only [pS]
            refine wpAnyH_done (by kernel_rfl) ?_ _
            try simp only [pS]
            clear hH
            go_upto_region 17 with fail
            refine WL.start <| uK (.int .i64 ((k : Nat) : Int)) <| uB .add 3 (.int .i64 ((k : Nat) : Int)) (.int .i64 1) (.int .i64 (((k + 1) : Nat) : Int)) (b_addw _ _ _ (by rw [IntKind.wrap_i64]; omega) _) <| uK (.int .i64 (((k + 1) : Nat) : Int)) <| WL.nil <| ?_
            try simp only [pS]
            go_wp2
            go_roundw
            case rel => exact ⟨k + 1, d, lf + 1, rfl, rfl, by go_num, by omega, hDB.no, HF⟩
            case measure => simp [intOf]; omega
           ·skip
            go_upto_region 16 with fail
            refine WL.start <| uK (.int .i64 ((k : Nat) : Int)) <| uK (pV hb 0) <| uK (pV hb 0) <| uK (pV hb 4) <| uL 24 ⟨hb, 4, none⟩ (v1.g.v) (load_one ((HF.out.hal.box).cell 4 |>.trans (by kernel_rfl)) U24 rfl) <| uK (.int .i64 ((v1.g.l : Nat) : Int)) <| uB .lss 3 (.int .i64 ((k : Nat) : Int)) (.int .i64 ((v1.g.l : Nat) : Int)) (.bool true) (by rw [b_lss, decide_eq_true (by omega)]) <| ?_
            try simp only [pS]
            refine uK (.bool true) <| uK (.int .i64 ((lf + 1 : Nat) : Int)) <| uB .gtr 3 (.int .i64 ((lf + 1 : Nat) : Int)) (.int .i64 0) (.bool true) (by rw [b_gtr, decide_eq_true (by omega)]) <| uK (.bool true) <| WL.nil <| ?_
            try simp only [pS]
            go_upto_region 18 with fail
            refine wp_region_held_drew (S := fun w' => True) rfl trivial (fun hH => ?_)
            have HF : Hid (Hg w wr.drew No J1 hb v1 pp h [] []) := HF.out.drew
            generalize wr.drew = wk8 at HF hH ⊢
            refine xV 0 66 (.int .i64 dead) hH <| xV 2 68 (.int .i64 ((k : Nat) : Int)) hH <| xB 3 69 .shl 3 (.int .i64 1) (.int .i64 ((k : Nat) : Int)) (.int .i64 (((2 ^ k) : Nat) : Int)) (fun _ _ => b_shl k (by omega) _) hH <| ?_
            try simp only [pS]
            refine xC 1 67 13 #[.int .i64 dead, .int .i64 1099511627776] (rnd_eq _ 1099511627776 _ (by decide) (by decide)) ?_
            rintro e wk9 ⟨r, hr, hrn, rfl, hwq⟩
            have hr : (r : Int) = dead % 1099511627776 := hr
            have HF : Hid (Hg w wk9 No J1 hb v1 pp h [] []) := by rw [hwq]; exact HF
            clear hwq
            obtain rfl : D = r := by omega
            clear hr hrn
            have hH2 : True := trivial
            refine ⟨.int .i64 ((D : Nat) : Int), rfl, hH2, fun hH => ?_⟩
            clear hH2
            try simp only [pS]
            refine xB 4 70 .and 3 (.int .i64 ((D : Nat) : Int)) (.int .i64 (((2 ^ k) : Nat) : Int)) (.int .i64 (((D &&& 2 ^ k) : Nat) : Int)) (fun _ _ => b_andN D (2 ^ k) (by omega) (pow_small (by omega)) _) hH <| xB 5 71 .neq 3 (.int .i64 (((D &&& 2 ^ k) : Nat) : Int)) (.int .i64 0) (.bool true) (fun _ _ => by rw [b_neq, beq_eq_false_iff_ne.2 (by omega)]; rfl) hH <| ?_
            try simp only [pS]
            refine wpAnyH_done (by kernel_rfl) ?_ _
            try simp only [pS]
            clear hH
            go_upto_region 19 with fail
            refine WL.start <| uK (.int .i64 ((d : Nat) : Int)) <| uK (.int .i64 ((k : Nat) : Int)) <| uB .shl 3 (.int .i64 1) (.int .i64 ((k : Nat) : Int)) (.int .i64 (((2 ^ k) : Nat) : Int)) (b_shl k (by omega) _) <| uB .or 3 (.int .i64 ((d : Nat) : Int)) (.int .i64 (((2 ^ k) : Nat) : Int)) (.int .i64 (((d ||| 2 ^ k) : Nat) : Int)) (b_orN d (2 ^ k) (by omega) (pow_small (by omega)) _) <| uK (.int .i64 (((d ||| 2 ^ k) : Nat) : Int)) <| WL.nil <| ?_
            try simp only [pS]
            go_upto_region 20 with fail
            refine WL.start <| uK (.int .i64 ((lf + 1 : Nat) : Int)) <| uB .sub 3 (.int .i64 ((lf + 1 : Nat) : Int)) (.int .i64 1) (.int .i64 ((((lf + 1) - 1) : Nat) : Int)) (b_subw _ _ _ (by rw [IntKind.wrap_i64]; omega) _) <| uK (.int .i64 ((((lf + 1) - 1) : Nat) : Int)) <| WL.nil <| ?_
            try simp only [pS]
            go_upto_region 17 with fail
            refine WL.start <| uK (.int .i64 ((k : Nat) : Int)) <| uB .add 3 (.int .i64 ((k : Nat) : Int)) (.int .i64 1) (.int .i64 (((k + 1) : Nat) : Int)) (b_addw _ _ _ (by rw [IntKind.wrap_i64]; omega) _) <| uK (.int .i64 (((k + 1) : Nat) : Int)) <| WL.nil <| ?_
            try simp only [pS]
            go_wp2
            go_roundw
            case rel => exact ⟨k + 1, d ||| 2 ^ k, lf, rfl, by first | rfl | go_num, by go_num, by omega, hDB.yes, HF⟩
            case measure => simp [intOf]; omega
         · skip
           go_upto_region 16 with fail
           refine WL.start <| uK (.int .i64 ((k : Nat) : Int)) <| uK (pV hb 0) <| uK (pV hb 0) <| uK (pV hb 4) <| uL 24 ⟨hb, 4, none⟩ (v1.g.v) (load_one ((HF.out.hal.box).cell 4 |>.trans (by kernel_rfl)) U24 rfl) <| uK (.int .i64 ((v1.g.l : Nat) : Int)) <| uB .lss 3 (.int .i64 ((k : Nat) : Int)) (.int .i64 ((v1.g.l : Nat) : Int)) (.bool true) (by rw [b_lss, decide_eq_true (by omega)]) <| ?_
           try simp only [pS]
           refine uK (.bool true) <| uK (.int .i64 ((left : Nat) : Int)) <| uB .gtr 3 (.int .i64 ((left : Nat) : Int)) (.int .i64 0) (.bool false) (by rw [b_gtr, decide_eq_false (by omega)]) <| uK (.bool false) <| WL.nil <| ?_
           try simp only [pS]
           go_wp2
           go_meet
           case rel => exact ⟨d, rfl, ⟨k, left, hk, hDB⟩, HF⟩
       · skip
         go_upto_region 16 with fail
         refine WL.start <| uK (.int .i64 ((k : Nat) : Int)) <| uK (pV hb 0) <| uK (pV hb 0) <| uK (pV hb 4) <| uL 24 ⟨hb, 4, none⟩ (v1.g.v) (load_one ((HF.out.hal.box).cell 4 |>.trans (by kernel_rfl)) U24 rfl) <| uK (.int .i64 ((v1.g.l : Nat) : Int)) <| uB .lss 3 (.int .i64 ((k : Nat) : Int)) (.int .i64 ((v1.g.l : Nat) : Int)) (.bool false) (by rw [b_lss, decide_eq_false (by omega)]) <| ?_
         try simp only [pS]
         refine uK (.bool false) <| uZ <| uZ <| uK (.bool false) <| WL.nil <| ?_
         try simp only [pS]
         go_wp2
         go_meet
         case rel => exact ⟨d, rfl, ⟨k, left, hk, hDB⟩, HF⟩
     case rest =>
      clear HF
      obtain ⟨d, rfl, ⟨k, left, hk, hDB⟩, HF⟩ := hcut
      have hM := hDB.maj hk hF4
      have hdf := hDB.few hk hF4
      clear hDB hk
      have hpl : v1.p.l = 4 := by rw [← HF.out.pl, HS.out.pl]
      have hal : v1.a.l = 4 := by rw [← HF.out.al, HS.out.ok.ln, HS.out.pl]
      have hbl : v1.b.l = 4 := by rw [← HF.out.bl, HS.out.ok.ls, HS.out.pl]
      obtain ⟨x, hx⟩ : ∃ x, h.ps[j]? = some x := ⟨_, List.getElem?_eq_getElem (by rw [HS.out.pl]; omega)⟩
      obtain ⟨qn, hqn⟩ : ∃ q, h.nkd[j]? = some q := ⟨_, List.getElem?_eq_getElem (by rw [HS.out.ok.ln, HS.out.pl]; omega)⟩
      obtain ⟨nb, hnb⟩ : ∃ q, h.nks[j]? = some q := ⟨_, List.getElem?_eq_getElem (by rw [HS.out.ok.ls, HS.out.pl]; omega)⟩
      obtain ⟨nB, hnB⟩ : ∃ n, (begS x).2.length = n := ⟨_, rfl⟩
      obtain ⟨bg, hbg⟩ : ∃ b, decide ((0 : Int) < ((nB : Nat) : Int)) = b := ⟨_, rfl⟩
      obtain ⟨qt, hqt⟩ : ∃ b, (!(qn == (begS x).1.rd)) = b := ⟨_, rfl⟩
      obtain ⟨gp, hgp⟩ := HF.out.rP (i := j) (by omega)
      obtain ⟨ga, hga⟩ := HF.out.rA (i := j) (by omega)
      obtain ⟨gb, hgb⟩ := HF.out.rB (i := j) (by omega)
      obtain ⟨kp, Ij, hpk, hP, _⟩ := HF.out.ask hx
      go_upto_region 21 with fail
      refine WL.start <| uK (pV hb 0) <| uK (pV hb 0) <| uK (pV hb 6) <| uL 65 ⟨hb, 6, none⟩ (v1.p.v) (load_one ((HF.out.hal.box).cell 6 |>.trans (by kernel_rfl)) U65 rfl) <| uK (.int .i64 ((j : Nat) : Int)) <| uW (pV gp (0 + j * 1)) (exec_ixA 65 1 E65 F65 _ _ rfl gp 0 v1.p.l v1.p.k j (Eq.trans (b := v1.p.v) (by kernel_rfl) (sl_v (s := v1.p) hgp)) (by kernel_rfl) (by omega)) <| uL 31 ⟨gp, 0 + j * 1, none⟩ (pV kp 0) (load_one (HF.out.cP hgp hpk) U31 rfl) <| ?_
      try simp only [pS]
      refine uK (pV kp 0) <| WL.nil <| ?_
      try simp only [pS]
      go_upto_region 22 with fail
      refine WL.start <| uK (pV hb 0) <| uK (pV hb 0) <| uK (pV hb 7) <| ?_
      try simp only [pS]
      obtain ⟨J2, hG⟩ := HF.out.noY
      refine uT 66 ⟨hb, 7, none⟩ (.slice none 0 0) (wc.setRow hb (Hv.cells ⟨v1.ky, v1.g, v1.i, v1.p, slZ, v1.d, v1.a, v1.b⟩)) (rs (Hv.cs v1) ([.slice none 0 0]) (Hv.cs ⟨v1.ky, v1.g, v1.i, v1.p, slZ, v1.d, v1.a, v1.b⟩) (HF.out.hal.box) S66 (by simp [Value.oneCell', Sl.v])) ?_
      try simp only [pS]
      have HF : Hid (Hg w (wc.setRow hb (Hv.cells ⟨v1.ky, v1.g, v1.i, v1.p, slZ, v1.d, v1.a, v1.b⟩)) No J2 hb ⟨v1.ky, v1.g, v1.i, v1.p, slZ, v1.d, v1.a, v1.b⟩ pp ({ h with way := [] }) [] []) := hG
      try clear hG
      generalize wc.setRow hb (Hv.cells ⟨v1.ky, v1.g, v1.i, v1.p, slZ, v1.d, v1.a, v1.b⟩) = wk10 at HF ⊢
      refine WL.nil ?_
      try simp only [pS]
      go_upto_region 23 with fail
      refine WL.start <| uK (pV kp 0) <| ?_
      try simp only [pS]
      obtain ⟨k2, I2, hpk2, hP2, hask⟩ := HF.out.ask (j := j) (s := x) hx
      cases Option.some.inj (hpk.symm.trans hpk2)
      refine uC 18 #[pV kp 0] (begin_P hP2) ?_
      rintro e wk11 ho
      obtain ⟨la, lc, J4, he, hG⟩ := hask _ _ _ _ ho
      rw [hnB] at he
      subst he
      obtain ⟨hB, hhB⟩ : ∃ hB : Pax.Hl, hB = { { h with way := [] } with ps := h.ps.set j (begS x).1 } := ⟨_, rfl⟩
      have HF : Hid (Hg w wk11 No J4 hb ⟨v1.ky, v1.g, v1.i, v1.p, slZ, v1.d, v1.a, v1.b⟩ pp hB [] []) := by rw [hhB]; exact hG.pick (by simp)
      have hxB : hB.ps[j]? = some (begS x).1 := by rw [hhB]; show (h.ps.set j _)[j]? = _; rw [List.getElem?_set_self (List.getElem?_eq_some_iff.1 hx).1]
      have hqn : hB.nkd[j]? = some qn := by rw [hhB]; exact hqn
      have hnb : hB.nks[j]? = some nb := by rw [hhB]; exact hnb
      clear ho hG hask
      refine ⟨.slice la nB lc, rfl, ?_⟩
      try simp only [pS]
      refine uK (.int .i64 ((nB : Nat) : Int)) <| uB .gtr 3 (.int .i64 ((nB : Nat) : Int)) (.int .i64 0) (.bool bg) (by rw [b_gtr, hbg]) <| uK (.bool bg) <| WL.nil <| ?_
      try simp only [pS]
      go_upto_region 24 with fail
      refine wp_region_held_drew (S := fun w' => Hg w w' No J4 hb ⟨v1.ky, v1.g, v1.i, v1.p, slZ, v1.d, v1.a, v1.b⟩ pp hB [] []) rfl (HF.out.drew) (fun hH => ?_)
      have HF : Hid (Hg w wk11.drew No J4 hb ⟨v1.ky, v1.g, v1.i, v1.p, slZ, v1.d, v1.a, v1.b⟩ pp hB [] []) := HF.out.drew
      generalize wk11.drew = wk12 at HF hH ⊢
      refine xV 0 92 (pV hb 0) hH <| xV 1 93 (pV hb 0) hH <| xV 2 94 (pV hb 9) hH <| xL 3 95 24 ⟨hb, 9, none⟩ v1.a.v (fun _ hw => load_one ((hw.hal.box).cell 9 |>.trans (by kernel_rfl)) U24 rfl) hH <| xV 4 96 (.int .i64 ((j : Nat) : Int)) hH <| xU 5 97 (pV ga (0 + j * 1)) (fun w' hw => exec_ixA 24 1 E24 F24 _ _ rfl ga 0 v1.a.l v1.a.k j (Eq.trans (b := v1.a.v) (by kernel_rfl) (sl_v (s := v1.a) hga)) (by kernel_rfl) (by omega)) hH <| ?_
      try simp only [pS]
      refine xL 6 98 3 ⟨ga, 0 + j * 1, none⟩ (.int .i64 qn) (fun _ hw => load_one (hw.cA hga hqn) U3 rfl) hH <| xV 7 99 (pV kp 0) hH <| ?_
      try simp only [pS]
      obtain ⟨k3, I3, hpk3, hP3, _⟩ := HF.out.ask hxB
      cases Option.some.inj (hpk.symm.trans hpk3)
      refine xC 8 100 22 #[pV kp 0] (round_N hP3) ?_
      rintro e wk13 ⟨rfl, hk⟩
      have hH2 : Hg w wk13 No J4 hb ⟨v1.ky, v1.g, v1.i, v1.p, slZ, v1.d, v1.a, v1.b⟩ pp hB [] [] := (hH.no hk)
      have HF : Hid (Hg w wk13 No J4 hb ⟨v1.ky, v1.g, v1.i, v1.p, slZ, v1.d, v1.a, v1.b⟩ pp hB [] []) := HF.out.no hk
      clear hk
      refine ⟨.int .i64 (begS x).1.rd, rfl, hH2, fun hH => ?_⟩
      clear hH2
      try simp only [pS]
      refine xB 9 101 .neq 3 (.int .i64 qn) (.int .i64 (begS x).1.rd) (.bool qt) (fun _ _ => by rw [b_neq, hqt]) hH <| xV 10 18 (.bool qt) hH <| ?_
      try simp only [pS]
      refine wpAnyH_done (by kernel_rfl) ?_ _
      try simp only [pS]
      clear hH
      go_upto_region 25 with fail
      refine WL.start <| uK (pV hb 0) <| uK (pV hb 0) <| uK (pV hb 10) <| uL 24 ⟨hb, 10, none⟩ (v1.b.v) (load_one ((HF.out.hal.box).cell 10 |>.trans (by kernel_rfl)) U24 rfl) <| uK (.int .i64 ((j : Nat) : Int)) <| uW (pV gb (0 + j * 1)) (exec_ixA 24 1 E24 F24 _ _ rfl gb 0 v1.b.l v1.b.k j (Eq.trans (b := v1.b.v) (by kernel_rfl) (sl_v (s := v1.b) hgb)) (by kernel_rfl) (by omega)) <| uL 3 ⟨gb, 0 + j * 1, none⟩ (.int .i64 nb) (load_one (HF.out.cB hgb hnb) U3 rfl) <| ?_
      try simp only [pS]
      refine uK (.int .i64 nb) <| WL.nil <| ?_
      try simp only [pS]
      obtain ⟨hS0, hE0⟩ := (HS.out.s2 (by omega)).e3 (j := j) (d := d) (s := x) rfl (by omega) (by omega) hx hM (bg := bg) (qt := qt) (fun e => by rw [e] at hbg; have := of_decide_eq_true hbg; omega) (fun e => by
       rw [e] at hqt
       intro e2
       have e3 : h.nkd[j]? = some qn := by rw [hhB] at hqn; exact hqn
       have e4 : some qn = some (begS x).1.rd := e3.symm.trans e2
       rw [Option.some.inj e4] at hqt
       simp at hqt)
      have HS3 : Hid (Pax.E3 (2 * F + 1) 4 (1 + (i : Int)) d j 0 hB hB) := by rw [hhB]; exact hS0
      have HE : Hid (Pax.Ed d j hB bg qt) := by rw [hhB]; exact hE0
      clear hS0 hE0
      go_upto_region 26 with fail
      refine WL.start <| uK (.int .i64 0) <| WL.nil <| ?_
      try simp only [pS]
      go_wp2
      go_loopw [20] (fun v20 wr => ∃ (n : Nat) (h4 : Pax.Hl) (J5 : Nat → Prop) (v5 : Hv), v20 = .int .i64 ((n : Nat) : Int) ∧ Hid (Pax.E3 (2 * F + 1) 4 (1 + (i : Int)) d j n hB h4) ∧ Hid (Hg w wr No J5 hb v5 pp h4 [] [])) (fun n _ => 5 - (intOf n).toNat)
      case atStart => exact ⟨0, hB, J4, _, by go_num, HS3, HF⟩
      case round =>
       clear HF HS3
       obtain ⟨n, h4, J5, v5, rfl, HS3, HF⟩ := hrel
       obtain ⟨hn4, hn3, hn2⟩ := HS3.out.lt HE.out
       obtain ⟨y, hy⟩ : ∃ y, h4.ps[j]? = some y := ⟨_, List.getElem?_eq_getElem (by rw [HS3.out.pl]; omega)⟩
       by_cases hdec : (decO y).2 = true
       · skip
         go_upto_region 27 with fail
         refine WL.start <| uK (.int .i64 ((n : Nat) : Int)) <| uB .lss 3 (.int .i64 ((n : Nat) : Int)) (.int .i64 5) (.bool true) (by rw [b_lss, decide_eq_true (by omega)]) <| WL.nil <| ?_
         try simp only [pS]
         go_upto_region 28 with fail
         refine WL.start <| uK (pV kp 0) <| ?_
         try simp only [pS]
         obtain ⟨k4, I4, hpk4, hP4, _⟩ := HF.out.ask hy
         cases Option.some.inj (hpk.symm.trans hpk4)
         refine uC 21 #[pV kp 0] (decided_P (hP4.no (Kept.refl No _))) ?_
         rintro e wk14 ⟨rfl, hk⟩
         have HF : Hid (Hg w wk14 No J5 hb v5 pp h4 [] []) := HF.out.no hk
         clear hk
         refine ⟨.tuple #[.agg (Cm.cells (dC' (decO y).1)), .bool true], by rw [hdec]; rfl, ?_⟩
         try simp only [pS]
         refine uK (.tuple #[.agg (Cm.cells (dC' (decO y).1)), .bool true]) <| uK (.agg (Cm.cells (dC' (decO y).1))) <| uK (.bool true) <| ?_
         try simp only [pS]
         refine uR (pV wk14.heap.size 0) (wk14.alloc (.cells (Cm.cells cZ) 28)) (exec_alloc 28 rfl (Cm.cells cZ) Z28) ?_
         try simp only [pS]
         have HF : Hid (Hg w (wk14.alloc (.cells (Cm.cells cZ) 28)) No J5 hb v5 pp h4 [(wk14.heap.size, 28, Cm.cells cZ)] []) := HF.out.alloc _ _
         generalize wk14.alloc (.cells (Cm.cells cZ) 28) = wk16 at HF ⊢
         generalize wk14.heap.size = gk15 at HF ⊢
         refine uT 28 ⟨gk15, 0, none⟩ (.agg (Cm.cells (dC' (decO y).1))) (wk16.setRow gk15 (Cm.cells (dC' (decO y).1))) (rs (Cm.cs cZ) (Cm.cs (dC' (decO y).1)) (Cm.cs (dC' (decO y).1)) (HF.out.box 0 _ _ _ rfl) S28 (Cm.oneL _)) ?_
         try simp only [pS]
         have HF : Hid (Hg w (wk16.setRow gk15 (Cm.cells (dC' (decO y).1))) No J5 hb v5 pp h4 [(gk15, 28, Cm.cells (dC' (decO y).1))] []) := HF.out.set 0 rfl _
         generalize wk16.setRow gk15 (Cm.cells (dC' (decO y).1)) = wk17 at HF ⊢
         refine uK (.bool true) <| WL.nil <| ?_
         try simp only [pS]
         go_upto_region 29 with fail
         refine WL.start <| uK (.bool true) <| WL.nil <| ?_
         try simp only [pS]
         go_upto_region 32 with fail
         refine WL.start <| uK (pV kp 0) <| ?_
         try simp only [pS]
         obtain ⟨k4, I4, hpk4, hP4, _⟩ := HF.out.ask hy
         cases Option.some.inj (hpk.symm.trans hpk4)
         refine uC 21 #[pV kp 0] (decided_P (hP4.no (Kept.refl No _))) ?_
         rintro e wk18 ⟨rfl, hk⟩
         have HF : Hid (Hg w wk18 No J5 hb v5 pp h4 [(gk15, 28, Cm.cells (dC' (decO y).1))] []) := HF.out.no hk
         clear hk
         refine ⟨.tuple #[.agg (Cm.cells (dC' (decO y).1)), .bool true], by rw [hdec]; rfl, ?_⟩
         try simp only [pS]
         refine uK (.tuple #[.agg (Cm.cells (dC' (decO y).1)), .bool true]) <| uK (.agg (Cm.cells (dC' (decO y).1))) <| uK (.bool true) <| ?_
         try simp only [pS]
         refine uR (pV wk18.heap.size 0) (wk18.alloc (.cells (Cm.cells cZ) 28)) (exec_alloc 28 rfl (Cm.cells cZ) Z28) ?_
         try simp only [pS]
         have HF : Hid (Hg w (wk18.alloc (.cells (Cm.cells cZ) 28)) No J5 hb v5 pp h4 [(gk15, 28, Cm.cells (dC' (decO y).1)), (wk18.heap.size, 28, Cm.cells cZ)] []) := HF.out.alloc _ _
         generalize wk18.alloc (.cells (Cm.cells cZ) 28) = wk20 at HF ⊢
         generalize wk18.heap.size = gk19 at HF ⊢
         refine uT 28 ⟨gk19, 0, none⟩ (.agg (Cm.cells (dC' (decO y).1))) (wk20.setRow gk19 (Cm.cells (dC' (decO y).1))) (rs (Cm.cs cZ) (Cm.cs (dC' (decO y).1)) (Cm.cs (dC' (decO y).1)) (HF.out.box 1 _ _ _ rfl) S28 (Cm.oneL _)) ?_
         try simp only [pS]
         have HF : Hid (Hg w (wk20.setRow gk19 (Cm.cells (dC' (decO y).1))) No J5 hb v5 pp h4 [(gk15, 28, Cm.cells (dC' (decO y).1)), (gk19, 28, Cm.cells (dC' (decO y).1))] []) := HF.out.set 1 rfl _
         generalize wk20.setRow gk19 (Cm.cells (dC' (decO y).1)) = wk21 at HF ⊢
         refine uK (.bool true) <| WL.nil <| ?_
         try simp only [pS]
         have hbl5 : v5.b.l = 4 := by rw [← HF.out.bl, HS3.out.ok.ls, HS3.out.pl]
         obtain ⟨gb5, hgb5⟩ := HF.out.rB (i := j) (by omega)
         obtain ⟨nb5, hnb5⟩ : ∃ q, h4.nks[j]? = some q := ⟨_, List.getElem?_eq_getElem (by rw [HS3.out.ok.ls, HS3.out.pl]; omega)⟩
         have hn2 : qt = true → nb = nb5 → n ≤ 2 := fun e1 e2 => hn2 e1 (by unfold Pax.nkJ; rw [hnb, hnb5, e2])
         clear hqt hbg HE
         obtain hqv | hqv : qt = true ∨ qt = false := by cases qt <;> simp
         ·skip
          subst hqv
          by_cases hee : nb = nb5
          ·skip
           have hn2 := hn2 rfl hee
           go_upto_region 33 with fail
           refine WL.start <| uK (.bool true) <| uK (.bool true) <| uK (.int .i64 nb) <| uK (pV hb 0) <| uK (pV hb 0) <| uK (pV hb 10) <| uL 24 ⟨hb, 10, none⟩ (v5.b.v) (load_one ((HF.out.hal.box).cell 10 |>.trans (by kernel_rfl)) U24 rfl) <| ?_
           try simp only [pS]
           refine uK (.int .i64 ((j : Nat) : Int)) <| uW (pV gb5 (0 + j * 1)) (exec_ixA 24 1 E24 F24 _ _ rfl gb5 0 v5.b.l v5.b.k j (Eq.trans (b := v5.b.v) (by kernel_rfl) (sl_v (s := v5.b) hgb5)) (by kernel_rfl) (by omega)) <| uL 3 ⟨gb5, 0 + j * 1, none⟩ (.int .i64 nb5) (load_one (HF.out.cB hgb5 hnb5) U3 rfl) <| uB .eql 3 (.int .i64 nb) (.int .i64 nb5) (.bool true) (by rw [b_eql, beq_iff_eq.2 (by omega)]) <| uK (.bool true) <| uK (.bool true) <| WL.nil <| ?_
           try simp only [pS]
           obtain hbv | hbv : bg = true ∨ bg = false := by cases bg <;> simp
           ·skip
            subst hbv
            have hn3 := hn3 rfl
            go_upto_region 34 with fail
            refine WL.start <| uK (.bool true) <| uK (.bool true) <| uK (.int .i64 ((n : Nat) : Int)) <| uB .leq 3 (.int .i64 ((n : Nat) : Int)) (.int .i64 4) (.bool true) (by rw [b_leq, decide_eq_true (by omega)]) <| uK (.bool true) <| uK (.bool true) <| uK (.bool true) <| ?_
            try simp only [pS]
            refine uK (.bool false) <| uK (.bool false) <| uK (.int .i64 ((n : Nat) : Int)) <| uB .leq 3 (.int .i64 ((n : Nat) : Int)) (.int .i64 3) (.bool true) (by rw [b_leq, decide_eq_true (by omega)]) <| uK (.bool true) <| uK (.bool true) <| uK (.bool true) <| uK (.bool true) <| ?_
            try simp only [pS]
            refine uK (.bool false) <| uK (.bool false) <| uK (.int .i64 ((n : Nat) : Int)) <| uB .leq 3 (.int .i64 ((n : Nat) : Int)) (.int .i64 2) (.bool true) (by rw [b_leq, decide_eq_true (by omega)]) <| uK (.bool true) <| uK (.bool true) <| uK (.bool true) <| WL.nil <| ?_
            try simp only [pS]
            go_wp2
            rw [HC.out]
            exact ⟨ret_bool rfl, HF.out.kept⟩
           ·skip
            subst hbv
            go_upto_region 34 with fail
            refine WL.start <| uK (.bool true) <| uK (.bool true) <| uK (.int .i64 ((n : Nat) : Int)) <| uB .leq 3 (.int .i64 ((n : Nat) : Int)) (.int .i64 4) (.bool true) (by rw [b_leq, decide_eq_true (by omega)]) <| uK (.bool true) <| uK (.bool true) <| uK (.bool false) <| ?_
            try simp only [pS]
            refine uK (.bool true) <| uK (.bool true) <| uZ <| uZ <| uK (.bool true) <| uK (.bool true) <| uK (.bool true) <| uK (.bool true) <| ?_
            try simp only [pS]
            refine uK (.bool false) <| uK (.bool false) <| uK (.int .i64 ((n : Nat) : Int)) <| uB .leq 3 (.int .i64 ((n : Nat) : Int)) (.int .i64 2) (.bool true) (by rw [b_leq, decide_eq_true (by omega)]) <| uK (.bool true) <| uK (.bool true) <| uK (.bool true) <| WL.nil <| ?_
            try simp only [pS]
            go_wp2
            rw [HC.out]
            exact ⟨ret_bool rfl, HF.out.kept⟩
          ·skip
           go_upto_region 33 with fail
           refine WL.start <| uK (.bool true) <| uK (.bool true) <| uK (.int .i64 nb) <| uK (pV hb 0) <| uK (pV hb 0) <| uK (pV hb 10) <| uL 24 ⟨hb, 10, none⟩ (v5.b.v) (load_one ((HF.out.hal.box).cell 10 |>.trans (by kernel_rfl)) U24 rfl) <| ?_
           try simp only [pS]
           refine uK (.int .i64 ((j : Nat) : Int)) <| uW (pV gb5 (0 + j * 1)) (exec_ixA 24 1 E24 F24 _ _ rfl gb5 0 v5.b.l v5.b.k j (Eq.trans (b := v5.b.v) (by kernel_rfl) (sl_v (s := v5.b) hgb5)) (by kernel_rfl) (by omega)) <| uL 3 ⟨gb5, 0 + j * 1, none⟩ (.int .i64 nb5) (load_one (HF.out.cB hgb5 hnb5) U3 rfl) <| uB .eql 3 (.int .i64 nb) (.int .i64 nb5) (.bool false) (by rw [b_eql, beq_eq_false_iff_ne.2 (by omega)]) <| uK (.bool false) <| uK (.bool false) <| WL.nil <| ?_
           try simp only [pS]
           obtain hbv | hbv : bg = true ∨ bg = false := by cases bg <;> simp
           ·skip
            subst hbv
            have hn3 := hn3 rfl
            go_upto_region 34 with fail
            refine WL.start <| uK (.bool true) <| uK (.bool true) <| uK (.int .i64 ((n : Nat) : Int)) <| uB .leq 3 (.int .i64 ((n : Nat) : Int)) (.int .i64 4) (.bool true) (by rw [b_leq, decide_eq_true (by omega)]) <| uK (.bool true) <| uK (.bool true) <| uK (.bool true) <| ?_
            try simp only [pS]
            refine uK (.bool false) <| uK (.bool false) <| uK (.int .i64 ((n : Nat) : Int)) <| uB .leq 3 (.int .i64 ((n : Nat) : Int)) (.int .i64 3) (.bool true) (by rw [b_leq, decide_eq_true (by omega)]) <| uK (.bool true) <| uK (.bool true) <| uK (.bool true) <| uK (.bool false) <| ?_
            try simp only [pS]
            refine uK (.bool true) <| uK (.bool true) <| uZ <| uZ <| uK (.bool true) <| uK (.bool true) <| uK (.bool true) <| WL.nil <| ?_
            try simp only [pS]
            go_wp2
            rw [HC.out]
            exact ⟨ret_bool rfl, HF.out.kept⟩
           ·skip
            subst hbv
            go_upto_region 34 with fail
            refine WL.start <| uK (.bool true) <| uK (.bool true) <| uK (.int .i64 ((n : Nat) : Int)) <| uB .leq 3 (.int .i64 ((n : Nat) : Int)) (.int .i64 4) (.bool true) (by rw [b_leq, decide_eq_true (by omega)]) <| uK (.bool true) <| uK (.bool true) <| uK (.bool false) <| ?_
            try simp only [pS]
            refine uK (.bool true) <| uK (.bool true) <| uZ <| uZ <| uK (.bool true) <| uK (.bool true) <| uK (.bool true) <| uK (.bool false) <| ?_
            try simp only [pS]
            refine uK (.bool true) <| uK (.bool true) <| uZ <| uZ <| uK (.bool true) <| uK (.bool true) <| uK (.bool true) <| WL.nil <| ?_
            try simp only [pS]
            go_wp2
            rw [HC.out]
            exact ⟨ret_bool rfl, HF.out.kept⟩
         ·skip
          subst hqv
          go_upto_region 33 with fail
          refine WL.start <| uK (.bool false) <| uK (.bool false) <| uZ <| uZ <| uZ <| uZ <| uZ <| ?_
          try simp only [pS]
          refine uZ <| uZ <| uZ <| uZ <| uK (.bool false) <| uK (.bool false) <| WL.nil <| ?_
          try simp only [pS]
          obtain hbv | hbv : bg = true ∨ bg = false := by cases bg <;> simp
          ·skip
           subst hbv
           have hn3 := hn3 rfl
           go_upto_region 34 with fail
           refine WL.start <| uK (.bool true) <| uK (.bool true) <| uK (.int .i64 ((n : Nat) : Int)) <| uB .leq 3 (.int .i64 ((n : Nat) : Int)) (.int .i64 4) (.bool true) (by rw [b_leq, decide_eq_true (by omega)]) <| uK (.bool true) <| uK (.bool true) <| uK (.bool true) <| ?_
           try simp only [pS]
           refine uK (.bool false) <| uK (.bool false) <| uK (.int .i64 ((n : Nat) : Int)) <| uB .leq 3 (.int .i64 ((n : Nat) : Int)) (.int .i64 3) (.bool true) (by rw [b_leq, decide_eq_true (by omega)]) <| uK (.bool true) <| uK (.bool true) <| uK (.bool true) <| uK (.bool false) <| ?_
           try simp only [pS]
           refine uK (.bool true) <| uK (.bool true) <| uZ <| uZ <| uK (.bool true) <| uK (.bool true) <| uK (.bool true) <| WL.nil <| ?_
           try simp only [pS]
           go_wp2
           rw [HC.out]
           exact ⟨ret_bool rfl, HF.out.kept⟩
          ·skip
           subst hbv
           go_upto_region 34 with fail
           refine WL.start <| uK (.bool true) <| uK (.bool true) <| uK (.int .i64 ((n : Nat) : Int)) <| uB .leq 3 (.int .i64 ((n : Nat) : Int)) (.int .i64 4) (.bool true) (by rw [b_leq, decide_eq_true (by omega)]) <| uK (.bool true) <| uK (.bool true) <| uK (.bool false) <| ?_
           try simp only [pS]
           refine uK (.bool true) <| uK (.bool true) <| uZ <| uZ <| uK (.bool true) <| uK (.bool true) <| uK (.bool true) <| uK (.bool false) <| ?_
           try simp only [pS]
           refine uK (.bool true) <| uK (.bool true) <| uZ <| uZ <| uK (.bool true) <| uK (.bool true) <| uK (.bool true) <| WL.nil <| ?_
           try simp only [pS]
           go_wp2
           rw [HC.out]
           exact ⟨ret_bool rfl, HF.out.kept⟩
       · skip
         have hdec : (decO y).2 = false := by simpa using hdec
         have hnd : ¬ Pax.DecJ j h4 := fun e => by have := (Pax.dec_iff hy).1 e; rw [hdec] at this; exact nomatch this
         have heq := exs_eq (up := Pax.upD d) hy
         have hzn : h4.zs.length ≤ 60 := by
          obtain ⟨t, vv⟩ := HS3.out.iv
          rw [vv.hi.z, Pax.grp_len]; omega
         go_upto_region 27 with fail
         refine WL.start <| uK (.int .i64 ((n : Nat) : Int)) <| uB .lss 3 (.int .i64 ((n : Nat) : Int)) (.int .i64 5) (.bool true) (by rw [b_lss, decide_eq_true (by omega)]) <| WL.nil <| ?_
         try simp only [pS]
         go_upto_region 28 with fail
         refine WL.start <| uK (pV kp 0) <| ?_
         try simp only [pS]
         obtain ⟨k4, I4, hpk4, hP4, _⟩ := HF.out.ask hy
         cases Option.some.inj (hpk.symm.trans hpk4)
         refine uC 21 #[pV kp 0] (decided_P (hP4.no (Kept.refl No _))) ?_
         rintro e wk22 ⟨rfl, hk⟩
         have HF : Hid (Hg w wk22 No J5 hb v5 pp h4 [] []) := HF.out.no hk
         clear hk
         refine ⟨.tuple #[.agg (Cm.cells (dC' (decO y).1)), .bool false], by rw [hdec]; rfl, ?_⟩
         try simp only [pS]
         refine uK (.tuple #[.agg (Cm.cells (dC' (decO y).1)), .bool false]) <| uK (.agg (Cm.cells (dC' (decO y).1))) <| uK (.bool false) <| ?_
         try simp only [pS]
         refine uR (pV wk22.heap.size 0) (wk22.alloc (.cells (Cm.cells cZ) 28)) (exec_alloc 28 rfl (Cm.cells cZ) Z28) ?_
         try simp only [pS]
         have HF : Hid (Hg w (wk22.alloc (.cells (Cm.cells cZ) 28)) No J5 hb v5 pp h4 [(wk22.heap.size, 28, Cm.cells cZ)] []) := HF.out.alloc _ _
         generalize wk22.alloc (.cells (Cm.cells cZ) 28) = wk24 at HF ⊢
         generalize wk22.heap.size = gk23 at HF ⊢
         refine uT 28 ⟨gk23, 0, none⟩ (.agg (Cm.cells (dC' (decO y).1))) (wk24.setRow gk23 (Cm.cells (dC' (decO y).1))) (rs (Cm.cs cZ) (Cm.cs (dC' (decO y).1)) (Cm.cs (dC' (decO y).1)) (HF.out.box 0 _ _ _ rfl) S28 (Cm.oneL _)) ?_
         try simp only [pS]
         have HF : Hid (Hg w (wk24.setRow gk23 (Cm.cells (dC' (decO y).1))) No J5 hb v5 pp h4 [(gk23, 28, Cm.cells (dC' (decO y).1))] []) := HF.out.set 0 rfl _
         generalize wk24.setRow gk23 (Cm.cells (dC' (decO y).1)) = wk25 at HF ⊢
         refine uK (.bool false) <| WL.nil <| ?_
         try simp only [pS]
         go_upto_region 29 with fail
         refine WL.start <| uK (.bool false) <| WL.nil <| ?_
         try simp only [pS]
         go_upto_region 30 with fail
         refine WL.start <| uK (pV hb 0) <| uK (.int .i64 ((j : Nat) : Int)) <| uK (.int .i64 ((d : Nat) : Int)) <| ?_
         try simp only [pS]
         refine uC 19 #[pV hb 0, .int .i64 ((j : Nat) : Int), .int .i64 ((d : Nat) : Int)] (exch_any J5 hb v5 pp h4 j d y _ HF.out.hal 1100000 HS3.out.ok (by omega) hy (by omega) hzn) ?_
         rintro e wk26 ho
         obtain ⟨J6, v6, rfl, hG⟩ := HF.out.hcall ho
         have HF : Hid (Hg w wk26 No J6 hb v6 pp (Pax.exS (Pax.upD d) j h4) [(gk23, 28, Cm.cells (dC' (decO y).1))] []) := by rw [heq]; exact hG
         clear ho hG
         refine ⟨.tuple #[], rfl, ?_⟩
         try simp only [pS]
         refine WL.nil ?_
         try simp only [pS]
         go_upto_region 31 with fail
         refine WL.start <| uK (.int .i64 ((n : Nat) : Int)) <| uB .add 3 (.int .i64 ((n : Nat) : Int)) (.int .i64 1) (.int .i64 (((n + 1) : Nat) : Int)) (b_addw _ _ _ (by rw [IntKind.wrap_i64]; omega) _) <| uK (.int .i64 (((n + 1) : Nat) : Int)) <| WL.nil <| ?_
         try simp only [pS]
         have HF : Hid (Hg w wk26 No J6 hb v6 pp (Pax.exS (Pax.upD d) j h4) [] []) := Hg.front (l := []) HF.out
         go_wp2
         go_roundw
         case rel => exact ⟨n + 1, _, J6, v6, by go_num, HS3.out.step (by omega) (by omega) (by omega) hnd, HF⟩
         case measure => simp [intOf]; omega

end Go.Proofs.Ytpabpeppgpeaoaa.Md
