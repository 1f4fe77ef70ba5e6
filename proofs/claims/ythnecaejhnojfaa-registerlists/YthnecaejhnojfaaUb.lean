import Derived.Test.YthnecaejhnojfaaQg
namespace Go.Proofs.Ythnecaejhnojfaa.Md
open Go.RowKit
set_option linter.unusedVariables false
set_option linter.unusedSimpArgs false

theorem U31 : Try.prog.underlying 31 = some ((Try.prog.underlying 31).getD .bool) := by kernel_rfl
theorem V31 : (match (Try.prog.underlying 31).getD .bool with | .struct _ | .array _ _ => true | _ => false) = false := by kernel_rfl
theorem U32 : Try.prog.underlying 32 = some ((Try.prog.underlying 32).getD .bool) := by kernel_rfl
theorem V32 : (match (Try.prog.underlying 32).getD .bool with | .struct _ | .array _ _ => true | _ => false) = false := by kernel_rfl
/-- What both tell at their end is alike. -/
theorem done_like {B : Sl → List Int → Prop} {s : RM} {x : Rx} (h : Rel B s x) : (donP s).2.2.2 = (donR x).2 ∧ (donR x).1.er = (donP s).1 ∧ (donR x).1.en = enZ ∧ (donR x).1.li = slZ ∧ (donR x).1.n = 0 ∧ (donR x).1.st = (donP s).2.1 ∧ (donR x).1.ins = 0 ∧ (((donR x).1.da = slZ ∧ (donP s).2.2.1 = []) ∨ B (donR x).1.da (donP s).2.2.1) := by
  have hph := h.ph
  unfold donP donR
  cases e : s.ph with
  | fresh => rw [e] at hph; rw [hph.1]; exact ⟨rfl, rfl, rfl, rfl, rfl, rfl, rfl, .inl ⟨rfl, rfl⟩⟩
  | ask X => rw [e] at hph; rw [hph.1]; exact ⟨rfl, rfl, rfl, rfl, rfl, rfl, rfl, .inl ⟨rfl, rfl⟩⟩
  | lay b U => rw [e] at hph; rw [hph.1]; exact ⟨rfl, rfl, rfl, rfl, rfl, rfl, rfl, .inl ⟨rfl, rfl⟩⟩
  | fin er st z =>
    rw [e] at hph
    obtain ⟨h1, h2, h3, h4⟩ := hph
    rw [h1, h2]
    by_cases he : er = 0
    · subst he
      obtain ⟨q1, q2, q3⟩ := h3 rfl
      refine ⟨rfl, rfl, rfl, rfl, rfl, q1, rfl, ?_⟩
      show ((if x.wr then slZ else x.bl) = slZ ∧ z = []) ∨ B (if x.wr then slZ else x.bl) z
      cases hw : x.wr with
      | true => exact .inl ⟨rfl, q3 hw⟩
      | false => exact .inr (q2 hw)
    · obtain ⟨q1, q2⟩ := h4 he
      have hb : (er == 0) = false := by simpa using he
      dsimp only
      rw [hb, q1, q2]
      exact ⟨rfl, rfl, rfl, rfl, rfl, rfl, rfl, .inl ⟨rfl, rfl⟩⟩
set_option maxRecDepth 100000 in
set_option maxHeartbeats 4000000 in
theorem look_any {H : Nat → Prop} (w0 : World) (I : Nat → Prop) (m r : Nat) (g : Sl) (LV : Option (Nat × Nat)) (s : RM) (x : Rx) (w : World) (h : Wq w0 w I m r g LV s x) (hr : Rel (Bw H w I (Jx r g LV)) s x) : Calls Try.prog 7 #[.agg #[.iface 84 (.pointer (some ⟨m, 0, none⟩)), .pointer (some ⟨r, 0, none⟩)]] w (fun e w' => e = .returned (.bool true) ∧ Kept No w w') := by
  obtain ⟨C, hC⟩ : ∃ C : Ending → World → Prop, C = (fun e w' => e = .returned (.bool true) ∧ Kept No w w') := ⟨_, rfl⟩
  have HC : Hid (C = (fun e w' => e = .returned (.bool true) ∧ Kept No w w')) := hC
  rw [← hC]
  clear hC
  have HW : Hid (Wq w0 w I m r g LV s x) := h
  obtain ⟨an, vv, hg⟩ := h.ref.gg
  have HG : Hid (RfG w r x g an vv) := hg
  have hrd := hr.rd
  obtain ⟨d1, d2, d3, d4, d5, d6, d7, d8⟩ := done_like hr
  obtain ⟨D, hD⟩ : ∃ D, D = (donR x).1 := ⟨_, rfl⟩
  have HD : Hid (Calls Try.prog 20 #[.pointer (some ⟨r, 0, none⟩)] w (fun e w' => True)) := (rDone r x g an vv w hg).mono fun _ _ _ => trivial
  clear HD
  have HDn : Hid (∀ W, Kept No w W → Calls Try.prog 20 #[.pointer (some ⟨r, 0, none⟩)] W (fun e w' => e = .returned (.tuple #[.agg (Rz.cells D), .bool (donP s).2.2.2]) ∧ Kept No W w')) := fun W hk => by rw [hD, d1]; exact rDone r x g an vv W (hg.no hk)
  have HP : Hid (∀ W, Kept No w W → Calls Try.prog 59 #[.pointer (some ⟨m, 0, none⟩)] W (DoneOut W (donP s).1 (donP s).2.1.n (donP s).2.1.c (donP s).2.2.1 (donP s).2.2.2)) := fun W hk => done_M (h.mch.no hk)
  rw [← hD] at d2 d3 d4 d5 d6 d7 d8
  clear hD d1 h hr hg
  generalize donP s = dp at HDn HP d2 d6 d8
  obtain ⟨er, ⟨sn, sc⟩, z, b⟩ := dp
  dsimp only at HDn HP d2 d6 d8
  obtain ⟨er', en, li, ⟨ra, rl, rk⟩, n, st', ins⟩ := D
  dsimp only at d2 d3 d4 d5 d6 d7 d8
  subst d2 d3 d4 d5 d6 d7
  have HZ : Hid (Nums .u8 w ra z ∧ z.length = rl ∧ rl ≤ 281474976710656) := by
    rcases d8 with ⟨e1, rfl⟩ | hb
    · cases e1; exact ⟨fun i hi => by simp at hi, rfl, by omega⟩
    · exact ⟨hb.1.row, hb.1.len, by have := hb.2.1; dsimp only at this; omega⟩
  clear d8
  have hzl := HZ.out.2.1
  have hzb := HZ.out.2.2
  have HF : Hid (Fq No w w []) := Fq.start _ _
  go_enter Try.func7, Try.ntmps7
  go_upto_region 0 with fail
  refine WL.start ?_
  refine uR (.pointer (some ⟨w.heap.size, 0, none⟩)) (w.alloc (.cells (#[.iface 84 (.pointer (some ⟨m, 0, none⟩)), .pointer (some ⟨r, 0, none⟩)]) 34)) (exec_box 34 _ rfl (#[.iface 84 (.pointer (some ⟨m, 0, none⟩)), .pointer (some ⟨r, 0, none⟩)]) (by kernel_rfl)) ?_
  try simp only [pS]
  have HF : Hid (Fq No w (w.alloc (.cells (#[.iface 84 (.pointer (some ⟨m, 0, none⟩)), .pointer (some ⟨r, 0, none⟩)]) 34)) [(w.heap.size, 34, #[.iface 84 (.pointer (some ⟨m, 0, none⟩)), .pointer (some ⟨r, 0, none⟩)])]) := HF.out.alloc _ _
  generalize w.alloc (.cells (#[.iface 84 (.pointer (some ⟨m, 0, none⟩)), .pointer (some ⟨r, 0, none⟩)]) 34) = wk2 at HF ⊢
  generalize w.heap.size = gk1 at HF ⊢
  refine uK (.bool false) <| WL.nil <| ?_
  try simp only [pS]
  go_upto_region 1 with fail
  refine WL.start <| uK (.pointer (some ⟨gk1, 0, none⟩)) <| uL 31 ⟨gk1, 0, none⟩ (.iface 84 (.pointer (some ⟨m, 0, none⟩))) (load_one ((HF.out.box 0 _ _ _ rfl).cell 0 |>.trans (by kernel_rfl)) U31 V31) <| ?_
  try simp only [pS]
  refine uC 59 #[.pointer (some ⟨m, 0, none⟩)] (HP.out wk2 HF.out.kept) ?_
  rintro e wk3 ⟨da, dc, rfl, hO, hk⟩
  rw [hzl]
  have HO : Hid (OwnB (wk3) wk2.heap.size da dc z) := hO
  have HF : Hid (Fq No w (wk3) [(gk1, 34, #[.iface 84 (.pointer (some ⟨m, 0, none⟩)), .pointer (some ⟨r, 0, none⟩)])]) := HF.out.no hk
  generalize wk2.heap.size = nO at HO
  clear hO hk
  refine ⟨.tuple #[.agg (resC er' sn sc da rl dc), .bool b], rfl, ?_⟩
  try simp only [pS]
  refine uK (.tuple #[.agg (resC er' sn sc da rl dc), .bool b]) <| uK (.agg (Rz.cells ⟨er', enZ, slZ, ⟨da, rl, dc⟩, 0, ⟨sn, sc⟩, 0⟩)) <| uK (.bool b) <| ?_
  try simp only [pS]
  refine uR (.pointer (some ⟨wk3.heap.size, 0, none⟩)) (wk3.alloc (.cells (Rz.cells rzZ) 72)) (exec_alloc 72 rfl (Rz.cells rzZ) Z90) ?_
  try simp only [pS]
  have HO : Hid (OwnB (wk3.alloc (.cells (Rz.cells rzZ) 72)) nO da dc z) := HO.out.no ((Kept.refl No _).alloc _)
  have HF : Hid (Fq No w (wk3.alloc (.cells (Rz.cells rzZ) 72)) [(gk1, 34, #[.iface 84 (.pointer (some ⟨m, 0, none⟩)), .pointer (some ⟨r, 0, none⟩)]), (wk3.heap.size, 72, Rz.cells rzZ)]) := HF.out.alloc _ _
  generalize wk3.alloc (.cells (Rz.cells rzZ) 72) = wk5 at HF HO ⊢
  generalize wk3.heap.size = gk4 at HF ⊢
  refine uT 72 ⟨gk4, 0, none⟩ (.agg (Rz.cells ⟨er', enZ, slZ, ⟨da, rl, dc⟩, 0, ⟨sn, sc⟩, 0⟩)) (wk5.setRow gk4 (Rz.cells ⟨er', enZ, slZ, ⟨da, rl, dc⟩, 0, ⟨sn, sc⟩, 0⟩)) (rs (Rz.cs rzZ) (Rz.cs ⟨er', enZ, slZ, ⟨da, rl, dc⟩, 0, ⟨sn, sc⟩, 0⟩) (Rz.cs ⟨er', enZ, slZ, ⟨da, rl, dc⟩, 0, ⟨sn, sc⟩, 0⟩) (HF.out.box 1 _ _ _ rfl) S90 (Rz.oneL _)) ?_
  try simp only [pS]
  have HO : Hid (OwnB (wk5.setRow gk4 (Rz.cells ⟨er', enZ, slZ, ⟨da, rl, dc⟩, 0, ⟨sn, sc⟩, 0⟩)) nO da dc z) := Own.kept HO.out (Kept.setRow _ _ _) (fun k h e => Own.notBox HO.out (HF.out.box 1 _ _ _ rfl) (by decide) ((show k = gk4 from e) ▸ h))
  have HF : Hid (Fq No w (wk5.setRow gk4 (Rz.cells ⟨er', enZ, slZ, ⟨da, rl, dc⟩, 0, ⟨sn, sc⟩, 0⟩)) [(gk1, 34, #[.iface 84 (.pointer (some ⟨m, 0, none⟩)), .pointer (some ⟨r, 0, none⟩)]), (gk4, 72, Rz.cells ⟨er', enZ, slZ, ⟨da, rl, dc⟩, 0, ⟨sn, sc⟩, 0⟩)]) := HF.out.set 1 rfl _
  generalize wk5.setRow gk4 (Rz.cells ⟨er', enZ, slZ, ⟨da, rl, dc⟩, 0, ⟨sn, sc⟩, 0⟩) = wk6 at HF HO ⊢
  refine uK (.bool b) <| WL.nil <| ?_
  try simp only [pS]
  go_upto_region 2 with fail
  refine WL.start <| uK (.pointer (some ⟨gk1, 1, none⟩)) <| uL 32 ⟨gk1, 1, none⟩ (.pointer (some ⟨r, 0, none⟩)) (load_one ((HF.out.box 0 _ _ _ rfl).cell 1 |>.trans (by kernel_rfl)) U32 V32) <| ?_
  try simp only [pS]
  refine uC 20 #[.pointer (some ⟨r, 0, none⟩)] (HDn.out wk6 HF.out.kept) ?_
  rintro e wk7 ⟨rfl, hk⟩
  have HO : Hid (OwnB (wk7) nO da dc z) := HO.out.no hk
  have HF : Hid (Fq No w (wk7) [(gk1, 34, #[.iface 84 (.pointer (some ⟨m, 0, none⟩)), .pointer (some ⟨r, 0, none⟩)]), (gk4, 72, Rz.cells ⟨er', enZ, slZ, ⟨da, rl, dc⟩, 0, ⟨sn, sc⟩, 0⟩)]) := HF.out.no hk
  clear hk
  refine ⟨.tuple #[.agg (Rz.cells ⟨er', enZ, slZ, ⟨ra, rl, rk⟩, 0, ⟨sn, sc⟩, 0⟩), .bool b], rfl, ?_⟩
  try simp only [pS]
  refine uK (.tuple #[.agg (Rz.cells ⟨er', enZ, slZ, ⟨ra, rl, rk⟩, 0, ⟨sn, sc⟩, 0⟩), .bool b]) <| uK (.agg (Rz.cells ⟨er', enZ, slZ, ⟨ra, rl, rk⟩, 0, ⟨sn, sc⟩, 0⟩)) <| uK (.bool b) <| ?_
  try simp only [pS]
  refine uR (.pointer (some ⟨wk7.heap.size, 0, none⟩)) (wk7.alloc (.cells (Rz.cells rzZ) 72)) (exec_alloc 72 rfl (Rz.cells rzZ) Z90) ?_
  try simp only [pS]
  have HO : Hid (OwnB (wk7.alloc (.cells (Rz.cells rzZ) 72)) nO da dc z) := HO.out.no ((Kept.refl No _).alloc _)
  have HF : Hid (Fq No w (wk7.alloc (.cells (Rz.cells rzZ) 72)) [(gk1, 34, #[.iface 84 (.pointer (some ⟨m, 0, none⟩)), .pointer (some ⟨r, 0, none⟩)]), (gk4, 72, Rz.cells ⟨er', enZ, slZ, ⟨da, rl, dc⟩, 0, ⟨sn, sc⟩, 0⟩), (wk7.heap.size, 72, Rz.cells rzZ)]) := HF.out.alloc _ _
  generalize wk7.alloc (.cells (Rz.cells rzZ) 72) = wk9 at HF HO ⊢
  generalize wk7.heap.size = gk8 at HF ⊢
  refine uT 72 ⟨gk8, 0, none⟩ (.agg (Rz.cells ⟨er', enZ, slZ, ⟨ra, rl, rk⟩, 0, ⟨sn, sc⟩, 0⟩)) (wk9.setRow gk8 (Rz.cells ⟨er', enZ, slZ, ⟨ra, rl, rk⟩, 0, ⟨sn, sc⟩, 0⟩)) (rs (Rz.cs rzZ) (Rz.cs ⟨er', enZ, slZ, ⟨ra, rl, rk⟩, 0, ⟨sn, sc⟩, 0⟩) (Rz.cs ⟨er', enZ, slZ, ⟨ra, rl, rk⟩, 0, ⟨sn, sc⟩, 0⟩) (HF.out.box 2 _ _ _ rfl) S90 (Rz.oneL _)) ?_
  try simp only [pS]
  have HO : Hid (OwnB (wk9.setRow gk8 (Rz.cells ⟨er', enZ, slZ, ⟨ra, rl, rk⟩, 0, ⟨sn, sc⟩, 0⟩)) nO da dc z) := Own.kept HO.out (Kept.setRow _ _ _) (fun k h e => Own.notBox HO.out (HF.out.box 2 _ _ _ rfl) (by decide) ((show k = gk8 from e) ▸ h))
  have HF : Hid (Fq No w (wk9.setRow gk8 (Rz.cells ⟨er', enZ, slZ, ⟨ra, rl, rk⟩, 0, ⟨sn, sc⟩, 0⟩)) [(gk1, 34, #[.iface 84 (.pointer (some ⟨m, 0, none⟩)), .pointer (some ⟨r, 0, none⟩)]), (gk4, 72, Rz.cells ⟨er', enZ, slZ, ⟨da, rl, dc⟩, 0, ⟨sn, sc⟩, 0⟩), (gk8, 72, Rz.cells ⟨er', enZ, slZ, ⟨ra, rl, rk⟩, 0, ⟨sn, sc⟩, 0⟩)]) := HF.out.set 2 rfl _
  generalize wk9.setRow gk8 (Rz.cells ⟨er', enZ, slZ, ⟨ra, rl, rk⟩, 0, ⟨sn, sc⟩, 0⟩) = wk10 at HF HO ⊢
  refine uK (.bool b) <| WL.nil <| ?_
  try simp only [pS]
  go_upto_region 3 with fail
  refine wp_region_held_drew (S := fun w' => Fq No w w' [(gk1, 34, #[.iface 84 (.pointer (some ⟨m, 0, none⟩)), .pointer (some ⟨r, 0, none⟩)]), (gk4, 72, Rz.cells ⟨er', enZ, slZ, ⟨da, rl, dc⟩, 0, ⟨sn, sc⟩, 0⟩), (gk8, 72, Rz.cells ⟨er', enZ, slZ, ⟨ra, rl, rk⟩, 0, ⟨sn, sc⟩, 0⟩)]) rfl (HF.out.drew) (fun hH => ?_)
  have HO : Hid (OwnB (wk10.drew) nO da dc z) := HO.out.no (Kept.refl No _).drew
  have HF : Hid (Fq No w (wk10.drew) [(gk1, 34, #[.iface 84 (.pointer (some ⟨m, 0, none⟩)), .pointer (some ⟨r, 0, none⟩)]), (gk4, 72, Rz.cells ⟨er', enZ, slZ, ⟨da, rl, dc⟩, 0, ⟨sn, sc⟩, 0⟩), (gk8, 72, Rz.cells ⟨er', enZ, slZ, ⟨ra, rl, rk⟩, 0, ⟨sn, sc⟩, 0⟩)]) := HF.out.drew
  generalize wk10.drew = wk11 at HF HO hH ⊢
  refine xV 0 19 (.bool b) hH <| xV 1 20 (.bool b) hH <| xB 2 21 .eql 4 (.bool b) (.bool b) (.bool true) (fun _ _ => by rw [b_eqlB, beq_self_eq_true]) hH <| xV 3 22 (.bool true) hH <| xL 4 23 72 ⟨gk4, 0, none⟩ (.agg (Rz.cells ⟨er', enZ, slZ, ⟨da, rl, dc⟩, 0, ⟨sn, sc⟩, 0⟩)) (fun _ hw => run_load_part (cs := Rz.cs ⟨er', enZ, slZ, ⟨da, rl, dc⟩, 0, ⟨sn, sc⟩, 0⟩) (sub := Rz.cs ⟨er', enZ, slZ, ⟨da, rl, dc⟩, 0, ⟨sn, sc⟩, 0⟩) (hw.box 1 _ _ _ rfl) (Part.all _) U90 rfl S90) hH <| xL 5 24 72 ⟨gk8, 0, none⟩ (.agg (Rz.cells ⟨er', enZ, slZ, ⟨ra, rl, rk⟩, 0, ⟨sn, sc⟩, 0⟩)) (fun _ hw => run_load_part (cs := Rz.cs ⟨er', enZ, slZ, ⟨ra, rl, rk⟩, 0, ⟨sn, sc⟩, 0⟩) (sub := Rz.cs ⟨er', enZ, slZ, ⟨ra, rl, rk⟩, 0, ⟨sn, sc⟩, 0⟩) (hw.box 2 _ _ _ rfl) (Part.all _) U90 rfl S90) hH <| ?_
  try simp only [pS]
  refine xC 6 25 21 #[.agg (Rz.cells ⟨er', enZ, slZ, ⟨da, rl, dc⟩, 0, ⟨sn, sc⟩, 0⟩), .agg (Rz.cells ⟨er', enZ, slZ, ⟨ra, rl, rk⟩, 0, ⟨sn, sc⟩, 0⟩)] (sameRz er' enZ 0 0 ⟨sn, sc⟩ none none da ra 0 0 0 rl dc rk [] z wk11 (rdE_nil _) (rdE_nil _) (OwnB.bytes HO.out) (Nums.kept HZ.out.1 HF.out.kept (fun _ _ _ e => e)) hzl (by omega) hzb) ?_
  rintro e wk12 ⟨rfl, hk⟩
  have hH2 : Fq No w wk12 [(gk1, 34, #[.iface 84 (.pointer (some ⟨m, 0, none⟩)), .pointer (some ⟨r, 0, none⟩)]), (gk4, 72, Rz.cells ⟨er', enZ, slZ, ⟨da, rl, dc⟩, 0, ⟨sn, sc⟩, 0⟩), (gk8, 72, Rz.cells ⟨er', enZ, slZ, ⟨ra, rl, rk⟩, 0, ⟨sn, sc⟩, 0⟩)] := hH.no hk
  have HO : Hid (OwnB (wk12) nO da dc z) := HO.out.no hk
  have HF : Hid (Fq No w (wk12) [(gk1, 34, #[.iface 84 (.pointer (some ⟨m, 0, none⟩)), .pointer (some ⟨r, 0, none⟩)]), (gk4, 72, Rz.cells ⟨er', enZ, slZ, ⟨da, rl, dc⟩, 0, ⟨sn, sc⟩, 0⟩), (gk8, 72, Rz.cells ⟨er', enZ, slZ, ⟨ra, rl, rk⟩, 0, ⟨sn, sc⟩, 0⟩)]) := HF.out.no hk
  clear hk
  refine ⟨.bool true, rfl, hH2, fun hH => ?_⟩
  clear hH2
  try simp only [pS]
  refine xV 7 26 (.bool true) hH <| xV 8 27 (.bool true) hH <| xV 9 28 (.pointer (some ⟨gk1, 0, none⟩)) hH <| xL 10 29 31 ⟨gk1, 0, none⟩ (.iface 84 (.pointer (some ⟨m, 0, none⟩))) (fun _ hw => load_one ((hw.box 0 _ _ _ rfl).cell 0 |>.trans (by kernel_rfl)) U31 V31) hH <| xV 12 31 (.pointer (some ⟨gk1, 1, none⟩)) hH <| xL 13 32 32 ⟨gk1, 1, none⟩ (.pointer (some ⟨r, 0, none⟩)) (fun _ hw => load_one ((hw.box 0 _ _ _ rfl).cell 1 |>.trans (by kernel_rfl)) U32 V32) hH <| ?_
  try simp only [pS]
  refine xV 14 33 (.pointer (some ⟨r, 0, none⟩)) hH <| xV 15 34 (.pointer (some ⟨r, 8, none⟩)) hH <| xL 16 35 3 ⟨r, 8, none⟩ (.int .i64 x.rd) (fun _ hw => load_one ((HG.out.box.kept hw.kept (fun e => e)).cell 8 |>.trans (by kernel_rfl)) U3 rfl) hH <| ?_
  try simp only [pS]
  refine xC 11 30 60 #[.pointer (some ⟨m, 0, none⟩)] (round_M (HW.out.mch.no HF.out.kept)) ?_
  rintro e wq ⟨rfl, hwq⟩
  rw [hwq]
  clear hwq wq
  refine ⟨.int .i64 s.rd, rfl, hH, fun hH => ?_⟩
  try simp only [pS]
  refine xB 17 36 .eql 3 (.int .i64 s.rd) (.int .i64 x.rd) (.bool true) (fun _ _ => by rw [b_eql, hrd, beq_self_eq_true]) hH <| xV 18 37 (.bool true) hH <| xV 19 2 (.bool true) hH <| ?_
  try simp only [pS]
  refine wpAnyH_done (by kernel_rfl) ?_ _
  try simp only [pS]
  clear hH
  go_wp2
  rw [HC.out]
  exact ⟨rfl, HF.out.kept⟩

end Go.Proofs.Ythnecaejhnojfaa.Md
namespace Go.Proofs.Ythnecaejhnojfaa.Md
open Go.RowKit
set_option linter.unusedVariables false
set_option linter.unusedSimpArgs false

theorem b_remI (a : Int) (n : Nat) (h0 : 0 < n) (w : World) : (binOp .rem 3 (.int .i64 a) (.int .i64 (n : Int))).run Try.prog w = .ok (.int .i64 (a.tmod (n : Int))) w := by
  rw [binOp_rem]
  unfold Op.intDiv
  rw [if_neg (by omega)]
  rfl
theorem tmod_in (a : Int) (n : Nat) (h0 : 0 < n) : -(n : Int) < a.tmod n ∧ a.tmod n < n := by
  constructor
  · have := Int.lt_tmod_of_pos a (show (0 : Int) < n by omega); omega
  · exact Int.tmod_lt_of_pos a (by omega)
/-- A message made near: only who sends and who is asked, the op, the round and the key are laid anew. -/
def NearM (d d' : Mg) : Prop := ∃ fr too op rd ky, d' = { d with fr := fr, too := too, op := op, rd := rd, ky := ky }
set_option maxRecDepth 100000 in
set_option maxHeartbeats 4000000 in
theorem near_any (m r : Nat) (x : Rx) (g an vv : Sl) (d : Mg) (w : World) (hB : RfG w r x g an vv) : Calls Try.prog 12 #[.agg #[.iface 84 (.pointer (some ⟨m, 0, none⟩)), .pointer (some ⟨r, 0, none⟩)], .agg (Mg.cells d)] w (fun e w' => ∃ d', e = .returned (.agg (Mg.cells d')) ∧ NearM d d' ∧ Kept No w w') := by
  obtain ⟨C, hC⟩ : ∃ C : Ending → World → Prop, C = (fun e w' => ∃ d', e = .returned (.agg (Mg.cells d')) ∧ NearM d d' ∧ Kept No w w') := ⟨_, rfl⟩
  have HC : Hid (C = (fun e w' => ∃ d', e = .returned (.agg (Mg.cells d')) ∧ NearM d d' ∧ Kept No w w')) := hC
  rw [← hC]
  clear hC
  have HBr : Hid (Box w r 62 (rvG x g an vv).cells) := hB.box
  have HG : Hid (OwI w 0 g x.zs) := hB.gr
  have hzl := hB.gr.len
  have hnn := hB.hn
  clear hB
  have HF : Hid (Fq No w w []) := Fq.start _ _
  go_enter Try.func12, Try.ntmps12
  go_upto_region 0 with fail
  refine WL.start ?_
  refine uR (.pointer (some ⟨w.heap.size, 0, none⟩)) (w.alloc (.cells (#[.iface 84 (.pointer (some ⟨m, 0, none⟩)), .pointer (some ⟨r, 0, none⟩)]) 34)) (exec_box 34 _ rfl (#[.iface 84 (.pointer (some ⟨m, 0, none⟩)), .pointer (some ⟨r, 0, none⟩)]) (by kernel_rfl)) ?_
  try simp only [pS]
  have HF : Hid (Fq No w (w.alloc (.cells (#[.iface 84 (.pointer (some ⟨m, 0, none⟩)), .pointer (some ⟨r, 0, none⟩)]) 34)) [(w.heap.size, 34, #[.iface 84 (.pointer (some ⟨m, 0, none⟩)), .pointer (some ⟨r, 0, none⟩)])]) := HF.out.alloc _ _
  generalize w.alloc (.cells (#[.iface 84 (.pointer (some ⟨m, 0, none⟩)), .pointer (some ⟨r, 0, none⟩)]) 34) = wk2 at HF ⊢
  generalize w.heap.size = gk1 at HF ⊢
  refine uR (.pointer (some ⟨wk2.heap.size, 0, none⟩)) (wk2.alloc (.cells (Mg.cells d) 52)) (exec_box 52 _ rfl (Mg.cells d) (by kernel_rfl)) ?_
  try simp only [pS]
  have HF : Hid (Fq No w (wk2.alloc (.cells (Mg.cells d) 52)) [(gk1, 34, #[.iface 84 (.pointer (some ⟨m, 0, none⟩)), .pointer (some ⟨r, 0, none⟩)]), (wk2.heap.size, 52, Mg.cells d)]) := HF.out.alloc _ _
  generalize wk2.alloc (.cells (Mg.cells d) 52) = wk4 at HF ⊢
  generalize wk2.heap.size = gk3 at HF ⊢
  refine uR (.pointer (some ⟨wk4.heap.size, 0, none⟩)) (wk4.alloc (.cells (Mg.cells mgZ) 52)) (exec_alloc 52 rfl (Mg.cells mgZ) Z52) ?_
  try simp only [pS]
  have HF : Hid (Fq No w (wk4.alloc (.cells (Mg.cells mgZ) 52)) [(gk1, 34, #[.iface 84 (.pointer (some ⟨m, 0, none⟩)), .pointer (some ⟨r, 0, none⟩)]), (gk3, 52, Mg.cells d), (wk4.heap.size, 52, Mg.cells mgZ)]) := HF.out.alloc _ _
  generalize wk4.alloc (.cells (Mg.cells mgZ) 52) = wk6 at HF ⊢
  generalize wk4.heap.size = gk5 at HF ⊢
  refine WL.nil ?_
  try simp only [pS]
  go_upto_region 1 with fail
  refine WL.start <| uK (.pointer (some ⟨gk1, 1, none⟩)) <| uL 32 ⟨gk1, 1, none⟩ (.pointer (some ⟨r, 0, none⟩)) (load_one ((HF.out.box 0 _ _ _ rfl).cell 1 |>.trans (by kernel_rfl)) U32 V32) <| uK (.pointer (some ⟨r, 0, none⟩)) <| uK (.pointer (some ⟨r, 1, none⟩)) <| uL 3 ⟨r, 1, none⟩ (.int .i64 x.cl) (load_one ((HBr.out.kept HF.out.kept (fun e => e)).cell 1 |>.trans (by kernel_rfl)) U3 rfl) <| uW (.agg (Ad.cells ⟨true, x.cl⟩)) (exec_build 39 _ rfl (Ad.cells ⟨true, x.cl⟩) (by kernel_rfl)) <| uK (.pointer (some ⟨gk3, 3, none⟩)) <| ?_
  try simp only [pS]
  refine uT 39 ⟨gk3, 3, none⟩ (.agg (Ad.cells ⟨true, x.cl⟩)) (wk6.setRow gk3 (Mg.cells ⟨d.k, d.fr, ⟨true, x.cl⟩, d.op, d.rd, d.ky, d.st, d.hd, d.bl, d.c, d.bk, d.cm, d.mo⟩)) (rs (Mg.cs d) (Ad.cs ⟨true, x.cl⟩) (Mg.cs ⟨d.k, d.fr, ⟨true, x.cl⟩, d.op, d.rd, d.ky, d.st, d.hd, d.bl, d.c, d.bk, d.cm, d.mo⟩) (HF.out.box 1 _ _ _ rfl) S39 (Ad.oneL _)) ?_
  try simp only [pS]
  have HF : Hid (Fq No w (wk6.setRow gk3 (Mg.cells ⟨d.k, d.fr, ⟨true, x.cl⟩, d.op, d.rd, d.ky, d.st, d.hd, d.bl, d.c, d.bk, d.cm, d.mo⟩)) [(gk1, 34, #[.iface 84 (.pointer (some ⟨m, 0, none⟩)), .pointer (some ⟨r, 0, none⟩)]), (gk3, 52, Mg.cells ⟨d.k, d.fr, ⟨true, x.cl⟩, d.op, d.rd, d.ky, d.st, d.hd, d.bl, d.c, d.bk, d.cm, d.mo⟩), (gk5, 52, Mg.cells mgZ)]) := HF.out.set 1 rfl _
  generalize wk6.setRow gk3 (Mg.cells ⟨d.k, d.fr, ⟨true, x.cl⟩, d.op, d.rd, d.ky, d.st, d.hd, d.bl, d.c, d.bk, d.cm, d.mo⟩) = wk7 at HF ⊢
  refine WL.nil ?_
  try simp only [pS]
  go_upto_region 2 with fail
  refine WL.start <| uK (.pointer (some ⟨gk1, 1, none⟩)) <| uL 32 ⟨gk1, 1, none⟩ (.pointer (some ⟨r, 0, none⟩)) (load_one ((HF.out.box 0 _ _ _ rfl).cell 1 |>.trans (by kernel_rfl)) U32 V32) <| uK (.pointer (some ⟨r, 0, none⟩)) <| uK (.pointer (some ⟨r, 2, none⟩)) <| uL 3 ⟨r, 2, none⟩ (.int .i64 x.op) (load_one ((HBr.out.kept HF.out.kept (fun e => e)).cell 2 |>.trans (by kernel_rfl)) U3 rfl) <| uK (.pointer (some ⟨gk3, 5, none⟩)) <| ?_
  try simp only [pS]
  refine uT 3 ⟨gk3, 5, none⟩ (.int .i64 x.op) (wk7.setRow gk3 (Mg.cells ⟨d.k, d.fr, ⟨true, x.cl⟩, x.op, d.rd, d.ky, d.st, d.hd, d.bl, d.c, d.bk, d.cm, d.mo⟩)) (rs (Mg.cs ⟨d.k, d.fr, ⟨true, x.cl⟩, d.op, d.rd, d.ky, d.st, d.hd, d.bl, d.c, d.bk, d.cm, d.mo⟩) ([.int .i64 x.op]) (Mg.cs ⟨d.k, d.fr, ⟨true, x.cl⟩, x.op, d.rd, d.ky, d.st, d.hd, d.bl, d.c, d.bk, d.cm, d.mo⟩) (HF.out.box 1 _ _ _ rfl) S3 (by simp [Value.oneCell', Sl.v])) ?_
  try simp only [pS]
  have HF : Hid (Fq No w (wk7.setRow gk3 (Mg.cells ⟨d.k, d.fr, ⟨true, x.cl⟩, x.op, d.rd, d.ky, d.st, d.hd, d.bl, d.c, d.bk, d.cm, d.mo⟩)) [(gk1, 34, #[.iface 84 (.pointer (some ⟨m, 0, none⟩)), .pointer (some ⟨r, 0, none⟩)]), (gk3, 52, Mg.cells ⟨d.k, d.fr, ⟨true, x.cl⟩, x.op, d.rd, d.ky, d.st, d.hd, d.bl, d.c, d.bk, d.cm, d.mo⟩), (gk5, 52, Mg.cells mgZ)]) := HF.out.set 1 rfl _
  generalize wk7.setRow gk3 (Mg.cells ⟨d.k, d.fr, ⟨true, x.cl⟩, x.op, d.rd, d.ky, d.st, d.hd, d.bl, d.c, d.bk, d.cm, d.mo⟩) = wk8 at HF ⊢
  refine WL.nil ?_
  try simp only [pS]
  go_upto_region 3 with fail
  refine WL.start <| uK (.pointer (some ⟨gk1, 1, none⟩)) <| uL 32 ⟨gk1, 1, none⟩ (.pointer (some ⟨r, 0, none⟩)) (load_one ((HF.out.box 0 _ _ _ rfl).cell 1 |>.trans (by kernel_rfl)) U32 V32) <| uK (.pointer (some ⟨r, 0, none⟩)) <| uK (.pointer (some ⟨r, 8, none⟩)) <| uL 3 ⟨r, 8, none⟩ (.int .i64 x.rd) (load_one ((HBr.out.kept HF.out.kept (fun e => e)).cell 8 |>.trans (by kernel_rfl)) U3 rfl) <| uK (.pointer (some ⟨gk3, 6, none⟩)) <| ?_
  try simp only [pS]
  refine uT 3 ⟨gk3, 6, none⟩ (.int .i64 x.rd) (wk8.setRow gk3 (Mg.cells ⟨d.k, d.fr, ⟨true, x.cl⟩, x.op, x.rd, d.ky, d.st, d.hd, d.bl, d.c, d.bk, d.cm, d.mo⟩)) (rs (Mg.cs ⟨d.k, d.fr, ⟨true, x.cl⟩, x.op, d.rd, d.ky, d.st, d.hd, d.bl, d.c, d.bk, d.cm, d.mo⟩) ([.int .i64 x.rd]) (Mg.cs ⟨d.k, d.fr, ⟨true, x.cl⟩, x.op, x.rd, d.ky, d.st, d.hd, d.bl, d.c, d.bk, d.cm, d.mo⟩) (HF.out.box 1 _ _ _ rfl) S3 (by simp [Value.oneCell', Sl.v])) ?_
  try simp only [pS]
  have HF : Hid (Fq No w (wk8.setRow gk3 (Mg.cells ⟨d.k, d.fr, ⟨true, x.cl⟩, x.op, x.rd, d.ky, d.st, d.hd, d.bl, d.c, d.bk, d.cm, d.mo⟩)) [(gk1, 34, #[.iface 84 (.pointer (some ⟨m, 0, none⟩)), .pointer (some ⟨r, 0, none⟩)]), (gk3, 52, Mg.cells ⟨d.k, d.fr, ⟨true, x.cl⟩, x.op, x.rd, d.ky, d.st, d.hd, d.bl, d.c, d.bk, d.cm, d.mo⟩), (gk5, 52, Mg.cells mgZ)]) := HF.out.set 1 rfl _
  generalize wk8.setRow gk3 (Mg.cells ⟨d.k, d.fr, ⟨true, x.cl⟩, x.op, x.rd, d.ky, d.st, d.hd, d.bl, d.c, d.bk, d.cm, d.mo⟩) = wk9 at HF ⊢
  refine WL.nil ?_
  try simp only [pS]
  go_upto_region 4 with fail
  refine WL.start <| uK (.pointer (some ⟨gk1, 1, none⟩)) <| uL 32 ⟨gk1, 1, none⟩ (.pointer (some ⟨r, 0, none⟩)) (load_one ((HF.out.box 0 _ _ _ rfl).cell 1 |>.trans (by kernel_rfl)) U32 V32) <| uK (.pointer (some ⟨r, 0, none⟩)) <| uK (.pointer (some ⟨r, 3, none⟩)) <| uL 23 ⟨r, 3, none⟩ (.agg (Ky.cells x.ky)) (run_load_part (cs := Rv.cs (rvG x g an vv)) (sub := Ky.cs x.ky) (HBr.out.kept HF.out.kept (fun e => e)) (part_of (by kernel_rfl)) U23 rfl S23) <| uK (.pointer (some ⟨gk3, 7, none⟩)) <| ?_
  try simp only [pS]
  refine uT 23 ⟨gk3, 7, none⟩ (.agg (Ky.cells x.ky)) (wk9.setRow gk3 (Mg.cells ⟨d.k, d.fr, ⟨true, x.cl⟩, x.op, x.rd, x.ky, d.st, d.hd, d.bl, d.c, d.bk, d.cm, d.mo⟩)) (rs (Mg.cs ⟨d.k, d.fr, ⟨true, x.cl⟩, x.op, x.rd, d.ky, d.st, d.hd, d.bl, d.c, d.bk, d.cm, d.mo⟩) (Ky.cs x.ky) (Mg.cs ⟨d.k, d.fr, ⟨true, x.cl⟩, x.op, x.rd, x.ky, d.st, d.hd, d.bl, d.c, d.bk, d.cm, d.mo⟩) (HF.out.box 1 _ _ _ rfl) S23 (Ky.oneL _)) ?_
  try simp only [pS]
  have HF : Hid (Fq No w (wk9.setRow gk3 (Mg.cells ⟨d.k, d.fr, ⟨true, x.cl⟩, x.op, x.rd, x.ky, d.st, d.hd, d.bl, d.c, d.bk, d.cm, d.mo⟩)) [(gk1, 34, #[.iface 84 (.pointer (some ⟨m, 0, none⟩)), .pointer (some ⟨r, 0, none⟩)]), (gk3, 52, Mg.cells ⟨d.k, d.fr, ⟨true, x.cl⟩, x.op, x.rd, x.ky, d.st, d.hd, d.bl, d.c, d.bk, d.cm, d.mo⟩), (gk5, 52, Mg.cells mgZ)]) := HF.out.set 1 rfl _
  generalize wk9.setRow gk3 (Mg.cells ⟨d.k, d.fr, ⟨true, x.cl⟩, x.op, x.rd, x.ky, d.st, d.hd, d.bl, d.c, d.bk, d.cm, d.mo⟩) = wk10 at HF ⊢
  refine WL.nil ?_
  try simp only [pS]
  go_upto_region 5 with fail
  refine WL.start <| uK (.pointer (some ⟨gk1, 1, none⟩)) <| uL 32 ⟨gk1, 1, none⟩ (.pointer (some ⟨r, 0, none⟩)) (load_one ((HF.out.box 0 _ _ _ rfl).cell 1 |>.trans (by kernel_rfl)) U32 V32) <| uK (.pointer (some ⟨r, 0, none⟩)) <| uK (.pointer (some ⟨r, 7, none⟩)) <| uL 24 ⟨r, 7, none⟩ (g.v) (load_one ((HBr.out.kept HF.out.kept (fun e => e)).cell 7 |>.trans (by kernel_rfl)) U24 rfl) <| uK (.int .i64 ((g.l : Nat) : Int)) <| uK (.int .i64 ((g.l : Nat) : Int)) <| WL.nil <| ?_
  try simp only [pS]
  go_upto_region 6 with fail
  refine WL.start <| uK (.int .i64 ((g.l : Nat) : Int)) <| ?_
  try simp only [pS]
  cases q1 : (decide (0 < ((g.l : Nat) : Int)))
  ·skip
   refine uB .gtr 3 (.int .i64 ((g.l : Nat) : Int)) (.int .i64 0) (.bool false) (by rw [b_gtr, q1]; try rfl) <| WL.nil <| ?_
   try simp only [pS]
   go_upto_region 11 with fail
   refine WL.start <| uL 52 ⟨gk3, 0, none⟩ (.agg (Mg.cells ⟨d.k, d.fr, ⟨true, x.cl⟩, x.op, x.rd, x.ky, d.st, d.hd, d.bl, d.c, d.bk, d.cm, d.mo⟩)) (run_load_part (cs := Mg.cs ⟨d.k, d.fr, ⟨true, x.cl⟩, x.op, x.rd, x.ky, d.st, d.hd, d.bl, d.c, d.bk, d.cm, d.mo⟩) (sub := Mg.cs ⟨d.k, d.fr, ⟨true, x.cl⟩, x.op, x.rd, x.ky, d.st, d.hd, d.bl, d.c, d.bk, d.cm, d.mo⟩) (HF.out.box 1 _ _ _ rfl) (Part.all _) U52 rfl S52) <| ?_
   try simp only [pS]
   refine uT 52 ⟨gk5, 0, none⟩ (.agg (Mg.cells ⟨d.k, d.fr, ⟨true, x.cl⟩, x.op, x.rd, x.ky, d.st, d.hd, d.bl, d.c, d.bk, d.cm, d.mo⟩)) (wk10.setRow gk5 (Mg.cells ⟨d.k, d.fr, ⟨true, x.cl⟩, x.op, x.rd, x.ky, d.st, d.hd, d.bl, d.c, d.bk, d.cm, d.mo⟩)) (rs (Mg.cs mgZ) (Mg.cs ⟨d.k, d.fr, ⟨true, x.cl⟩, x.op, x.rd, x.ky, d.st, d.hd, d.bl, d.c, d.bk, d.cm, d.mo⟩) (Mg.cs ⟨d.k, d.fr, ⟨true, x.cl⟩, x.op, x.rd, x.ky, d.st, d.hd, d.bl, d.c, d.bk, d.cm, d.mo⟩) (HF.out.box 2 _ _ _ rfl) S52 (Mg.oneL _)) ?_
   try simp only [pS]
   have HF : Hid (Fq No w (wk10.setRow gk5 (Mg.cells ⟨d.k, d.fr, ⟨true, x.cl⟩, x.op, x.rd, x.ky, d.st, d.hd, d.bl, d.c, d.bk, d.cm, d.mo⟩)) [(gk1, 34, #[.iface 84 (.pointer (some ⟨m, 0, none⟩)), .pointer (some ⟨r, 0, none⟩)]), (gk3, 52, Mg.cells ⟨d.k, d.fr, ⟨true, x.cl⟩, x.op, x.rd, x.ky, d.st, d.hd, d.bl, d.c, d.bk, d.cm, d.mo⟩), (gk5, 52, Mg.cells ⟨d.k, d.fr, ⟨true, x.cl⟩, x.op, x.rd, x.ky, d.st, d.hd, d.bl, d.c, d.bk, d.cm, d.mo⟩)]) := HF.out.set 2 rfl _
   generalize wk10.setRow gk5 (Mg.cells ⟨d.k, d.fr, ⟨true, x.cl⟩, x.op, x.rd, x.ky, d.st, d.hd, d.bl, d.c, d.bk, d.cm, d.mo⟩) = wk11 at HF ⊢
   refine WL.nil ?_
   try simp only [pS]
   go_wp2
   rw [HC.out]
   refine bodyPost_ret (results_row1 (by rfl) _ _ gk5 (Mg.cells ⟨d.k, d.fr, ⟨true, x.cl⟩, x.op, x.rd, x.ky, d.st, d.hd, d.bl, d.c, d.bk, d.cm, d.mo⟩) (by rfl) (run_load_part (cs := Mg.cs ⟨d.k, d.fr, ⟨true, x.cl⟩, x.op, x.rd, x.ky, d.st, d.hd, d.bl, d.c, d.bk, d.cm, d.mo⟩) (sub := Mg.cs ⟨d.k, d.fr, ⟨true, x.cl⟩, x.op, x.rd, x.ky, d.st, d.hd, d.bl, d.c, d.bk, d.cm, d.mo⟩) (HF.out.box 2 _ _ _ rfl) (Part.all _) U52 rfl S52)) rfl ?_
   exact ⟨_, rfl, ⟨_, _, _, _, _, rfl⟩, HF.out.kept⟩
  ·skip
   refine uB .gtr 3 (.int .i64 ((g.l : Nat) : Int)) (.int .i64 0) (.bool true) (by rw [b_gtr, q1]; try rfl) <| WL.nil <| ?_
   try simp only [pS]
   have hl0 := of_decide_eq_true q1
   go_upto_region 7 with fail
   refine WL.start <| uK (.pointer (some ⟨gk3, 1, none⟩)) <| uK (.pointer (some ⟨gk3, 2, none⟩)) <| uL 3 ⟨gk3, 2, none⟩ (.int .i64 d.fr.id) (load_one ((HF.out.box 1 _ _ _ rfl).cell 2 |>.trans (by kernel_rfl)) U3 rfl) <| uK (.int .i64 ((g.l : Nat) : Int)) <| uB .rem 3 (.int .i64 d.fr.id) (.int .i64 ((g.l : Nat) : Int)) (.int .i64 (d.fr.id.tmod ((g.l : Nat) : Int))) (b_remI _ _ (by omega) _) <| uK (.int .i64 (d.fr.id.tmod ((g.l : Nat) : Int))) <| WL.nil <| ?_
   try simp only [pS]
   have ht := tmod_in d.fr.id g.l (by omega)
   generalize d.fr.id.tmod ((g.l : Nat) : Int) = q at ht ⊢
   go_upto_region 8 with fail
   refine WL.start <| uK (.int .i64 q) <| ?_
   try simp only [pS]
   cases q2 : (decide (q < 0))
   ·skip
    refine uB .lss 3 (.int .i64 q) (.int .i64 0) (.bool false) (by rw [b_lss, q2]; try rfl) <| WL.nil <| ?_
    try simp only [pS]
    have hq0 := of_decide_eq_false q2
    obtain ⟨i, rfl⟩ : ∃ i : Nat, q = (i : Int) := ⟨q.toNat, by omega⟩
    obtain ⟨gb, hga, hgc⟩ := HG.out.at (i := i) (by omega)
    have hsl : g.v = .slice (some ⟨gb, 0, none⟩) g.l g.k := by unfold Sl.v; rw [hga]
    have HGc : Hid (w.cell? ⟨gb, 0 + i * 1, none⟩ = some (.int .i64 (x.zs[i]?.getD 0))) := hgc
    clear hga hgc
    obtain ⟨z, hzz⟩ : ∃ z, z = x.zs[i]?.getD 0 := ⟨_, rfl⟩
    rw [← hzz] at HGc
    go_upto_region 10 with fail
    refine WL.start <| uK (.pointer (some ⟨gk1, 1, none⟩)) <| uL 32 ⟨gk1, 1, none⟩ (.pointer (some ⟨r, 0, none⟩)) (load_one ((HF.out.box 0 _ _ _ rfl).cell 1 |>.trans (by kernel_rfl)) U32 V32) <| uK (.pointer (some ⟨r, 0, none⟩)) <| uK (.pointer (some ⟨r, 7, none⟩)) <| uL 24 ⟨r, 7, none⟩ (g.v) (load_one ((HBr.out.kept HF.out.kept (fun e => e)).cell 7 |>.trans (by kernel_rfl)) U24 rfl) <| uK (.int .i64 ((i : Nat) : Int)) <| uW (.pointer (some ⟨gb, 0 + i * 1, none⟩)) (exec_ixA 24 1 E24 F24 _ _ rfl gb 0 g.l g.k i (Eq.trans (b := g.v) (by kernel_rfl) hsl) (by kernel_rfl) (by omega)) <| ?_
    try simp only [pS]
    refine uL 3 ⟨gb, 0 + i * 1, none⟩ (.int .i64 z) (load_one (HF.out.kept.cell HGc.out (fun e => e)) U3 rfl) <| uK (.pointer (some ⟨gk3, 1, none⟩)) <| uK (.pointer (some ⟨gk3, 2, none⟩)) <| ?_
    try simp only [pS]
    refine uT 3 ⟨gk3, 2, none⟩ (.int .i64 z) (wk10.setRow gk3 (Mg.cells ⟨d.k, ⟨d.fr.cl, z⟩, ⟨true, x.cl⟩, x.op, x.rd, x.ky, d.st, d.hd, d.bl, d.c, d.bk, d.cm, d.mo⟩)) (rs (Mg.cs ⟨d.k, d.fr, ⟨true, x.cl⟩, x.op, x.rd, x.ky, d.st, d.hd, d.bl, d.c, d.bk, d.cm, d.mo⟩) ([.int .i64 z]) (Mg.cs ⟨d.k, ⟨d.fr.cl, z⟩, ⟨true, x.cl⟩, x.op, x.rd, x.ky, d.st, d.hd, d.bl, d.c, d.bk, d.cm, d.mo⟩) (HF.out.box 1 _ _ _ rfl) S3 (by simp [Value.oneCell', Sl.v])) ?_
    try simp only [pS]
    have HF : Hid (Fq No w (wk10.setRow gk3 (Mg.cells ⟨d.k, ⟨d.fr.cl, z⟩, ⟨true, x.cl⟩, x.op, x.rd, x.ky, d.st, d.hd, d.bl, d.c, d.bk, d.cm, d.mo⟩)) [(gk1, 34, #[.iface 84 (.pointer (some ⟨m, 0, none⟩)), .pointer (some ⟨r, 0, none⟩)]), (gk3, 52, Mg.cells ⟨d.k, ⟨d.fr.cl, z⟩, ⟨true, x.cl⟩, x.op, x.rd, x.ky, d.st, d.hd, d.bl, d.c, d.bk, d.cm, d.mo⟩), (gk5, 52, Mg.cells mgZ)]) := HF.out.set 1 rfl _
    generalize wk10.setRow gk3 (Mg.cells ⟨d.k, ⟨d.fr.cl, z⟩, ⟨true, x.cl⟩, x.op, x.rd, x.ky, d.st, d.hd, d.bl, d.c, d.bk, d.cm, d.mo⟩) = wk12 at HF ⊢
    refine WL.nil ?_
    try simp only [pS]
    go_upto_region 11 with fail
    refine WL.start <| uL 52 ⟨gk3, 0, none⟩ (.agg (Mg.cells ⟨d.k, ⟨d.fr.cl, z⟩, ⟨true, x.cl⟩, x.op, x.rd, x.ky, d.st, d.hd, d.bl, d.c, d.bk, d.cm, d.mo⟩)) (run_load_part (cs := Mg.cs ⟨d.k, ⟨d.fr.cl, z⟩, ⟨true, x.cl⟩, x.op, x.rd, x.ky, d.st, d.hd, d.bl, d.c, d.bk, d.cm, d.mo⟩) (sub := Mg.cs ⟨d.k, ⟨d.fr.cl, z⟩, ⟨true, x.cl⟩, x.op, x.rd, x.ky, d.st, d.hd, d.bl, d.c, d.bk, d.cm, d.mo⟩) (HF.out.box 1 _ _ _ rfl) (Part.all _) U52 rfl S52) <| ?_
    try simp only [pS]
    refine uT 52 ⟨gk5, 0, none⟩ (.agg (Mg.cells ⟨d.k, ⟨d.fr.cl, z⟩, ⟨true, x.cl⟩, x.op, x.rd, x.ky, d.st, d.hd, d.bl, d.c, d.bk, d.cm, d.mo⟩)) (wk12.setRow gk5 (Mg.cells ⟨d.k, ⟨d.fr.cl, z⟩, ⟨true, x.cl⟩, x.op, x.rd, x.ky, d.st, d.hd, d.bl, d.c, d.bk, d.cm, d.mo⟩)) (rs (Mg.cs mgZ) (Mg.cs ⟨d.k, ⟨d.fr.cl, z⟩, ⟨true, x.cl⟩, x.op, x.rd, x.ky, d.st, d.hd, d.bl, d.c, d.bk, d.cm, d.mo⟩) (Mg.cs ⟨d.k, ⟨d.fr.cl, z⟩, ⟨true, x.cl⟩, x.op, x.rd, x.ky, d.st, d.hd, d.bl, d.c, d.bk, d.cm, d.mo⟩) (HF.out.box 2 _ _ _ rfl) S52 (Mg.oneL _)) ?_
    try simp only [pS]
    have HF : Hid (Fq No w (wk12.setRow gk5 (Mg.cells ⟨d.k, ⟨d.fr.cl, z⟩, ⟨true, x.cl⟩, x.op, x.rd, x.ky, d.st, d.hd, d.bl, d.c, d.bk, d.cm, d.mo⟩)) [(gk1, 34, #[.iface 84 (.pointer (some ⟨m, 0, none⟩)), .pointer (some ⟨r, 0, none⟩)]), (gk3, 52, Mg.cells ⟨d.k, ⟨d.fr.cl, z⟩, ⟨true, x.cl⟩, x.op, x.rd, x.ky, d.st, d.hd, d.bl, d.c, d.bk, d.cm, d.mo⟩), (gk5, 52, Mg.cells ⟨d.k, ⟨d.fr.cl, z⟩, ⟨true, x.cl⟩, x.op, x.rd, x.ky, d.st, d.hd, d.bl, d.c, d.bk, d.cm, d.mo⟩)]) := HF.out.set 2 rfl _
    generalize wk12.setRow gk5 (Mg.cells ⟨d.k, ⟨d.fr.cl, z⟩, ⟨true, x.cl⟩, x.op, x.rd, x.ky, d.st, d.hd, d.bl, d.c, d.bk, d.cm, d.mo⟩) = wk13 at HF ⊢
    refine WL.nil ?_
    try simp only [pS]
    go_wp2
    rw [HC.out]
    refine bodyPost_ret (results_row1 (by rfl) _ _ gk5 (Mg.cells ⟨d.k, ⟨d.fr.cl, z⟩, ⟨true, x.cl⟩, x.op, x.rd, x.ky, d.st, d.hd, d.bl, d.c, d.bk, d.cm, d.mo⟩) (by rfl) (run_load_part (cs := Mg.cs ⟨d.k, ⟨d.fr.cl, z⟩, ⟨true, x.cl⟩, x.op, x.rd, x.ky, d.st, d.hd, d.bl, d.c, d.bk, d.cm, d.mo⟩) (sub := Mg.cs ⟨d.k, ⟨d.fr.cl, z⟩, ⟨true, x.cl⟩, x.op, x.rd, x.ky, d.st, d.hd, d.bl, d.c, d.bk, d.cm, d.mo⟩) (HF.out.box 2 _ _ _ rfl) (Part.all _) U52 rfl S52)) rfl ?_
    exact ⟨_, rfl, ⟨_, _, _, _, _, rfl⟩, HF.out.kept⟩
   ·skip
    refine uB .lss 3 (.int .i64 q) (.int .i64 0) (.bool true) (by rw [b_lss, q2]; try rfl) <| WL.nil <| ?_
    try simp only [pS]
    have hq0 := of_decide_eq_true q2
    go_upto_region 9 with fail
    refine WL.start <| uK (.int .i64 q) <| uK (.int .i64 ((g.l : Nat) : Int)) <| uB .add 3 (.int .i64 q) (.int .i64 ((g.l : Nat) : Int)) (.int .i64 (q + ((g.l : Nat) : Int))) (b_addw _ _ _ (by rw [IntKind.wrap_i64]; omega) _) <| uK (.int .i64 (q + ((g.l : Nat) : Int))) <| WL.nil <| ?_
    try simp only [pS]
    obtain ⟨i, hi⟩ : ∃ i : Nat, q + ((g.l : Nat) : Int) = (i : Int) := ⟨(q + (g.l : Int)).toNat, by omega⟩
    rw [hi]
    obtain ⟨gb, hga, hgc⟩ := HG.out.at (i := i) (by omega)
    have hsl : g.v = .slice (some ⟨gb, 0, none⟩) g.l g.k := by unfold Sl.v; rw [hga]
    have HGc : Hid (w.cell? ⟨gb, 0 + i * 1, none⟩ = some (.int .i64 (x.zs[i]?.getD 0))) := hgc
    clear hga hgc
    obtain ⟨z, hzz⟩ : ∃ z, z = x.zs[i]?.getD 0 := ⟨_, rfl⟩
    rw [← hzz] at HGc
    go_upto_region 10 with fail
    refine WL.start <| uK (.pointer (some ⟨gk1, 1, none⟩)) <| uL 32 ⟨gk1, 1, none⟩ (.pointer (some ⟨r, 0, none⟩)) (load_one ((HF.out.box 0 _ _ _ rfl).cell 1 |>.trans (by kernel_rfl)) U32 V32) <| uK (.pointer (some ⟨r, 0, none⟩)) <| uK (.pointer (some ⟨r, 7, none⟩)) <| uL 24 ⟨r, 7, none⟩ (g.v) (load_one ((HBr.out.kept HF.out.kept (fun e => e)).cell 7 |>.trans (by kernel_rfl)) U24 rfl) <| uK (.int .i64 ((i : Nat) : Int)) <| uW (.pointer (some ⟨gb, 0 + i * 1, none⟩)) (exec_ixA 24 1 E24 F24 _ _ rfl gb 0 g.l g.k i (Eq.trans (b := g.v) (by kernel_rfl) hsl) (by kernel_rfl) (by omega)) <| ?_
    try simp only [pS]
    refine uL 3 ⟨gb, 0 + i * 1, none⟩ (.int .i64 z) (load_one (HF.out.kept.cell HGc.out (fun e => e)) U3 rfl) <| uK (.pointer (some ⟨gk3, 1, none⟩)) <| uK (.pointer (some ⟨gk3, 2, none⟩)) <| ?_
    try simp only [pS]
    refine uT 3 ⟨gk3, 2, none⟩ (.int .i64 z) (wk10.setRow gk3 (Mg.cells ⟨d.k, ⟨d.fr.cl, z⟩, ⟨true, x.cl⟩, x.op, x.rd, x.ky, d.st, d.hd, d.bl, d.c, d.bk, d.cm, d.mo⟩)) (rs (Mg.cs ⟨d.k, d.fr, ⟨true, x.cl⟩, x.op, x.rd, x.ky, d.st, d.hd, d.bl, d.c, d.bk, d.cm, d.mo⟩) ([.int .i64 z]) (Mg.cs ⟨d.k, ⟨d.fr.cl, z⟩, ⟨true, x.cl⟩, x.op, x.rd, x.ky, d.st, d.hd, d.bl, d.c, d.bk, d.cm, d.mo⟩) (HF.out.box 1 _ _ _ rfl) S3 (by simp [Value.oneCell', Sl.v])) ?_
    try simp only [pS]
    have HF : Hid (Fq No w (wk10.setRow gk3 (Mg.cells ⟨d.k, ⟨d.fr.cl, z⟩, ⟨true, x.cl⟩, x.op, x.rd, x.ky, d.st, d.hd, d.bl, d.c, d.bk, d.cm, d.mo⟩)) [(gk1, 34, #[.iface 84 (.pointer (some ⟨m, 0, none⟩)), .pointer (some ⟨r, 0, none⟩)]), (gk3, 52, Mg.cells ⟨d.k, ⟨d.fr.cl, z⟩, ⟨true, x.cl⟩, x.op, x.rd, x.ky, d.st, d.hd, d.bl, d.c, d.bk, d.cm, d.mo⟩), (gk5, 52, Mg.cells mgZ)]) := HF.out.set 1 rfl _
    generalize wk10.setRow gk3 (Mg.cells ⟨d.k, ⟨d.fr.cl, z⟩, ⟨true, x.cl⟩, x.op, x.rd, x.ky, d.st, d.hd, d.bl, d.c, d.bk, d.cm, d.mo⟩) = wk14 at HF ⊢
    refine WL.nil ?_
    try simp only [pS]
    go_upto_region 11 with fail
    refine WL.start <| uL 52 ⟨gk3, 0, none⟩ (.agg (Mg.cells ⟨d.k, ⟨d.fr.cl, z⟩, ⟨true, x.cl⟩, x.op, x.rd, x.ky, d.st, d.hd, d.bl, d.c, d.bk, d.cm, d.mo⟩)) (run_load_part (cs := Mg.cs ⟨d.k, ⟨d.fr.cl, z⟩, ⟨true, x.cl⟩, x.op, x.rd, x.ky, d.st, d.hd, d.bl, d.c, d.bk, d.cm, d.mo⟩) (sub := Mg.cs ⟨d.k, ⟨d.fr.cl, z⟩, ⟨true, x.cl⟩, x.op, x.rd, x.ky, d.st, d.hd, d.bl, d.c, d.bk, d.cm, d.mo⟩) (HF.out.box 1 _ _ _ rfl) (Part.all _) U52 rfl S52) <| ?_
    try simp only [pS]
    refine uT 52 ⟨gk5, 0, none⟩ (.agg (Mg.cells ⟨d.k, ⟨d.fr.cl, z⟩, ⟨true, x.cl⟩, x.op, x.rd, x.ky, d.st, d.hd, d.bl, d.c, d.bk, d.cm, d.mo⟩)) (wk14.setRow gk5 (Mg.cells ⟨d.k, ⟨d.fr.cl, z⟩, ⟨true, x.cl⟩, x.op, x.rd, x.ky, d.st, d.hd, d.bl, d.c, d.bk, d.cm, d.mo⟩)) (rs (Mg.cs mgZ) (Mg.cs ⟨d.k, ⟨d.fr.cl, z⟩, ⟨true, x.cl⟩, x.op, x.rd, x.ky, d.st, d.hd, d.bl, d.c, d.bk, d.cm, d.mo⟩) (Mg.cs ⟨d.k, ⟨d.fr.cl, z⟩, ⟨true, x.cl⟩, x.op, x.rd, x.ky, d.st, d.hd, d.bl, d.c, d.bk, d.cm, d.mo⟩) (HF.out.box 2 _ _ _ rfl) S52 (Mg.oneL _)) ?_
    try simp only [pS]
    have HF : Hid (Fq No w (wk14.setRow gk5 (Mg.cells ⟨d.k, ⟨d.fr.cl, z⟩, ⟨true, x.cl⟩, x.op, x.rd, x.ky, d.st, d.hd, d.bl, d.c, d.bk, d.cm, d.mo⟩)) [(gk1, 34, #[.iface 84 (.pointer (some ⟨m, 0, none⟩)), .pointer (some ⟨r, 0, none⟩)]), (gk3, 52, Mg.cells ⟨d.k, ⟨d.fr.cl, z⟩, ⟨true, x.cl⟩, x.op, x.rd, x.ky, d.st, d.hd, d.bl, d.c, d.bk, d.cm, d.mo⟩), (gk5, 52, Mg.cells ⟨d.k, ⟨d.fr.cl, z⟩, ⟨true, x.cl⟩, x.op, x.rd, x.ky, d.st, d.hd, d.bl, d.c, d.bk, d.cm, d.mo⟩)]) := HF.out.set 2 rfl _
    generalize wk14.setRow gk5 (Mg.cells ⟨d.k, ⟨d.fr.cl, z⟩, ⟨true, x.cl⟩, x.op, x.rd, x.ky, d.st, d.hd, d.bl, d.c, d.bk, d.cm, d.mo⟩) = wk15 at HF ⊢
    refine WL.nil ?_
    try simp only [pS]
    go_wp2
    rw [HC.out]
    refine bodyPost_ret (results_row1 (by rfl) _ _ gk5 (Mg.cells ⟨d.k, ⟨d.fr.cl, z⟩, ⟨true, x.cl⟩, x.op, x.rd, x.ky, d.st, d.hd, d.bl, d.c, d.bk, d.cm, d.mo⟩) (by rfl) (run_load_part (cs := Mg.cs ⟨d.k, ⟨d.fr.cl, z⟩, ⟨true, x.cl⟩, x.op, x.rd, x.ky, d.st, d.hd, d.bl, d.c, d.bk, d.cm, d.mo⟩) (sub := Mg.cs ⟨d.k, ⟨d.fr.cl, z⟩, ⟨true, x.cl⟩, x.op, x.rd, x.ky, d.st, d.hd, d.bl, d.c, d.bk, d.cm, d.mo⟩) (HF.out.box 2 _ _ _ rfl) (Part.all _) U52 rfl S52)) rfl ?_
    exact ⟨_, rfl, ⟨_, _, _, _, _, rfl⟩, HF.out.kept⟩

end Go.Proofs.Ythnecaejhnojfaa.Md
