import Derived.Test.YtcgnbpaaalmkoaaBj
namespace Go.Proofs.Ytcgnbpaaalmkoaa
open Go.RowKit
set_option linter.unusedVariables false
set_option linter.unusedSimpArgs false

theorem Fr.lent {S : Nat → Prop} {w0 w w' : World} {l : List (Nat × TypeId × Array Value)} (h : Fr No w0 w l) (hk : Kept S w w') (hlow : ∀ k, S k → w0.heap.size ≤ k) (hne : ∀ x ∈ l, ¬ S x.1) : Fr No w0 w' l :=
  ⟨h.kept.trans hk (fun _ e => e) (fun i hi e => absurd (hlow i e) (by omega)), fun i g T cs hi => (h.box i g T cs hi).kept hk (hne _ (List.mem_of_getElem? hi)), h.low, h.inj⟩
def LS (gb ge gl gp : Nat) : Nat → Prop := fun k => k = gb ∨ k = ge ∨ k = gl ∨ k = gp
theorem LtAt.low {W : World} {base : Nat} {h : Hd} {bs : List Int} {es : List En} {ls : List La} {ps : List Pl} {gb ge gl gp : Nat} (H : LtAt W base h bs es ls ps gb ge gl gp) {n : Nat} (hn : n ≤ base) : ∀ k, LS gb ge gl gp k → n ≤ k := by
  rintro k (e | e | e | e) <;> subst e
  · exact Nat.le_trans hn H.lb
  · exact Nat.le_trans hn H.le
  · exact Nat.le_trans hn H.ll
  · exact Nat.le_trans hn H.lp
theorem LtAt.out {W : World} {base : Nat} {h : Hd} {bs : List Int} {es : List En} {ls : List La} {ps : List Pl} {gb ge gl gp : Nat} (H : LtAt W base h bs es ls ps gb ge gl gp) {g : Nat} {T : TypeId} {cs : Array Value} (hb : Box W g T cs) (hT : T ≠ 5 ∧ T ≠ 110 ∧ T ≠ 113 ∧ T ≠ 87) : ¬ LS gb ge gl gp g := by
  rintro (e | e | e | e)
  · exact hb.ne H.b hT.1 e
  · exact hb.ne H.e hT.2.1 e
  · exact hb.ne H.l hT.2.2.1 e
  · exact hb.ne H.p hT.2.2.2 e
theorem LtAt.row {W : World} {base : Nat} {h : Hd} {bs : List Int} {es : List En} {ls : List La} {ps : List Pl} {gb ge gl gp : Nat} (H : LtAt W base h bs es ls ps gb ge gl gp) {g : Nat} {T : TypeId} {cs : Array Value} (hb : Box W g T cs) (hT : T ≠ 5 ∧ T ≠ 110 ∧ T ≠ 113 ∧ T ≠ 87) (cs' : Array Value) : LtAt (W.setRow g cs') base h bs es ls ps gb ge gl gp :=
  ⟨H.b.rowNe (fun e => hb.ne H.b hT.1 e.symm) _, H.e.rowNe (fun e => hb.ne H.e hT.2.1 e.symm) _, H.l.rowNe (fun e => hb.ne H.l hT.2.2.1 e.symm) _, H.p.rowNe (fun e => hb.ne H.p hT.2.2.2 e.symm) _, H.lb, H.le, H.ll, H.lp⟩
theorem Fr.back {w0 w w' : World} {l : List (Nat × TypeId × Array Value)} {base : Nat} {h : Hd} {bs : List Int} {es : List En} {ls : List La} {ps : List Pl} {gb ge gl gp : Nat} (hF : Fr No w0 w l) (H : LtAt w base h bs es ls ps gb ge gl gp) (hk : Kept (LS gb ge gl gp) w w') (hb : w0.heap.size ≤ base) (hT : ∀ x ∈ l, x.2.1 ≠ 5 ∧ x.2.1 ≠ 110 ∧ x.2.1 ≠ 113 ∧ x.2.1 ≠ 87) : Fr No w0 w' l :=
  hF.lent hk (H.low hb) (fun x hx => by obtain ⟨i, hi⟩ := List.mem_iff_getElem?.1 hx; exact H.out (hF.box i x.1 x.2.1 x.2.2 hi) (hT x hx))
theorem sameM_self (m : Mg) (w : World) (h1 : m.bl = slZ) (h2 : m.bk.e = slZ) (h3 : m.bk.l = slZ) (h4 : m.cm = slZ) : Calls Try.prog 14 #[.agg (Mg.cells m), .agg (Mg.cells m)] w (fun e w' => e = .returned (.bool true) ∧ Kept No w w') :=
  sameM_any m m.bl m.bk.e.a m.bk.e.k m.bk.l.a m.bk.l.k m.cm.a m.cm.k [] [] [] [] w (h1 ▸ ⟨Nums.nil _ _ _, rfl, fun _ => rfl⟩) (h1 ▸ ⟨Nums.nil _ _ _, rfl, fun _ => rfl⟩) (h2 ▸ ⟨RowsAt.nil _ _ _, rfl, fun _ => rfl⟩) (h2 ▸ ⟨RowsAt.nil _ _ _, rfl, fun _ => rfl⟩) (h3 ▸ ⟨RowsAt.nil _ _ _, rfl, fun _ => rfl⟩) (h3 ▸ ⟨RowsAt.nil _ _ _, rfl, fun _ => rfl⟩) (h4 ▸ ⟨RowsAt.nil _ _ _, rfl, fun _ => rfl⟩) (h4 ▸ ⟨RowsAt.nil _ _ _, rfl, fun _ => rfl⟩) (by rw [h2]; exact Nat.zero_le _) (by rw [h3]; exact Nat.zero_le _) (by rw [h4]; exact Nat.zero_le _)
theorem askS_nil (fm ta : Int) (k : Ky) (h : Hd) (ps : List Pl) : (askS fm ta k h ps).bl = slZ ∧ (askS fm ta k h ps).bk.e = slZ ∧ (askS fm ta k h ps).bk.l = slZ ∧ (askS fm ta k h ps).cm = slZ := by
  unfold askS
  split
  · exact ⟨rfl, rfl, rfl, rfl⟩
  · split <;> exact ⟨rfl, rfl, rfl, rfl⟩
set_option maxRecDepth 100000 in
set_option maxHeartbeats 4000000 in
theorem asksWalk (fm ta : Int) (k : Ky) (h : Hd) (bs : List Int) (es : List En) (ls : List La) (ps : List Pl) (w : World) (hh : HdAt w h bs es ls ps) : Calls Try.prog 3 #[.int .i64 fm, .int .i64 ta, .agg (Ky.cells k), .agg (Hd.cells h)] w (fun e w' => e = .returned (.bool true) ∧ Kept No w w') := by
  obtain ⟨C, hC⟩ : ∃ C : Ending → World → Prop, C = (fun e w' => e = .returned (.bool true) ∧ Kept No w w') := ⟨_, rfl⟩
  have HC : Hid (C = (fun e w' => e = .returned (.bool true) ∧ Kept No w w')) := hC
  rw [← hC]
  clear hC
  have HH : Hid (HdAt w h bs es ls ps) := hh
  have hp : ps.length ≤ 1099511627744 := by rw [hh.p.len]; exact hh.np
  clear hh
  have HF : Hid (Fr No w w []) := Fr.start _ _
  go_enter Try.func3, Try.ntmps3
  go_upto_region 0 with fail
  refine WL.start ?_
  refine wp_runW (.pointer (some ⟨w.heap.size, 0, none⟩)) (w.alloc (.cells (Ky.cells k) 23)) (exec_box 23 _ rfl (Ky.cells k) (by kernel_rfl)) (by kernel_rfl) ?_
  try simp only [pA, pB, p1, p2, p3]
  have HF : Hid (Fr No w (w.alloc (.cells (Ky.cells k) 23)) [(w.heap.size, 23, Ky.cells k)]) := HF.out.alloc _ _
  generalize w.alloc (.cells (Ky.cells k) 23) = wk2 at HF ⊢
  generalize w.heap.size = gk1 at HF ⊢
  refine wp_runW (.pointer (some ⟨wk2.heap.size, 0, none⟩)) (wk2.alloc (.cells (Hd.cells h) 35)) (exec_box 35 _ rfl (Hd.cells h) (by kernel_rfl)) (by kernel_rfl) ?_
  try simp only [pA, pB, p1, p2, p3]
  have HF : Hid (Fr No w (wk2.alloc (.cells (Hd.cells h) 35)) [(gk1, 23, Ky.cells k), (wk2.heap.size, 35, Hd.cells h)]) := HF.out.alloc _ _
  generalize wk2.alloc (.cells (Hd.cells h) 35) = wk4 at HF ⊢
  generalize wk2.heap.size = gk3 at HF ⊢
  refine tK (.bool false) ?_
  try simp only [pA, pB, p1, p2, p3]
  refine WL.nil ?_
  try simp only [pA, pB, p1, p2, p3]
  go_upto_region 1 with fail
  refine WL.start ?_
  refine wp_callW 9 #[] (by kernel_rfl) _ (known_any _) (by kernel_rfl) ?_
  rintro e wk5 ⟨rfl, hk⟩
  have HF : Hid (Fr No w (wk5) [(gk1, 23, Ky.cells k), (gk3, 35, Hd.cells h)]) := HF.out.no hk
  clear hk
  refine ⟨.bool true, rfl, ?_⟩
  try simp only [pA, pB, p1, p2, p3]
  refine tK (.bool false) ?_
  try simp only [pA, pB, p1, p2, p3]
  refine tK (.bool false) ?_
  try simp only [pA, pB, p1, p2, p3]
  refine tW (.agg (Hd.cells h)) (exec_load 35 _ rfl ⟨gk3, 0, none⟩ (by kernel_rfl) (.agg (Hd.cells h)) (run_load_part (cs := Hd.cs h) (sub := Hd.cs h) (HF.out.box 1 _ _ _ rfl) (Part.all _) Try.und35 rfl Try.size35)) ?_
  try simp only [pA, pB, p1, p2, p3]
  refine wp_callW 10 #[.agg (Hd.cells h)] (by kernel_rfl) _ (may_any h bs es ls ps _ (HH.out.no HF.out.kept)) (by kernel_rfl) ?_
  rintro e wk6 ⟨b, rfl, hb, hk⟩
  have HF : Hid (Fr No w (wk6) [(gk1, 23, Ky.cells k), (gk3, 35, Hd.cells h)]) := HF.out.no hk
  clear hk
  refine ⟨.bool b, rfl, ?_⟩
  try simp only [pA, pB, p1, p2, p3]
  cases q1 : (b)
  ·skip
   try simp only [q1]
   refine tK (.bool true) ?_
   try simp only [pA, pB, p1, p2, p3]
   refine tK (.bool true) ?_
   try simp only [pA, pB, p1, p2, p3]
   refine WL.nil ?_
   try simp only [pA, pB, p1, p2, p3]
   go_upto_region 2 with fail
   refine WL.start ?_
   refine wp_callW 9 #[] (by kernel_rfl) _ (known_any _) (by kernel_rfl) ?_
   rintro e wk7 ⟨rfl, hk⟩
   have HF : Hid (Fr No w (wk7) [(gk1, 23, Ky.cells k), (gk3, 35, Hd.cells h)]) := HF.out.no hk
   clear hk
   refine ⟨.bool true, rfl, ?_⟩
   try simp only [pA, pB, p1, p2, p3]
   refine tK (.bool true) ?_
   try simp only [pA, pB, p1, p2, p3]
   refine WL.nil ?_
   try simp only [pA, pB, p1, p2, p3]
   go_wp2
   rw [HC.out]
   exact ⟨rfl, HF.out.kept⟩
  ·skip
   try simp only [q1]
   refine tK (.bool false) ?_
   try simp only [pA, pB, p1, p2, p3]
   refine tK (.bool false) ?_
   try simp only [pA, pB, p1, p2, p3]
   refine WL.nil ?_
   try simp only [pA, pB, p1, p2, p3]
   have HM : Hid (MayP h ps) := hb (by simpa using q1)
   clear hb
   go_upto_region 3 with fail
   refine WL.start ?_
   refine tW (.agg (Hd.cells h)) (exec_load 35 _ rfl ⟨gk3, 0, none⟩ (by kernel_rfl) (.agg (Hd.cells h)) (run_load_part (cs := Hd.cs h) (sub := Hd.cs h) (HF.out.box 1 _ _ _ rfl) (Part.all _) Try.und35 rfl Try.size35)) ?_
   try simp only [pA, pB, p1, p2, p3]
   refine wp_callW 11 #[.agg (Hd.cells h)] (by kernel_rfl) _ (lend_any h bs es ls ps _ (HH.out.no HF.out.kept)) (by kernel_rfl) ?_
   have hbb : w.heap.size ≤ wk6.heap.size := HF.out.kept.size
   rintro e wk8 ⟨gb, ge, gl, gp, rfl, hT, hk⟩
   have HF : Hid (Fr No w (wk8) [(gk1, 23, Ky.cells k), (gk3, 35, Hd.cells h)]) := HF.out.no hk
   have HT : Hid (LtAt wk8 wk6.heap.size h bs es ls ps gb ge gl gp) := hT
   clear hk hT
   generalize wk6.heap.size = bb at hbb HT
   refine ⟨.agg (Hd.cells (lentH h gb ge gl gp)), rfl, ?_⟩
   try simp only [pA, pB, p1, p2, p3]
   refine wp_runW (.pointer (some ⟨wk8.heap.size, 0, none⟩)) (wk8.alloc (.cells (Hd.cells hdZ) 40)) (exec_alloc 40 rfl (Hd.cells hdZ) zero40) (by kernel_rfl) ?_
   try simp only [pA, pB, p1, p2, p3]
   have HT : Hid (LtAt (wk8.alloc (.cells (Hd.cells hdZ) 40)) bb h bs es ls ps gb ge gl gp) := HT.out.no ((Kept.refl No _).alloc _)
   have HF : Hid (Fr No w (wk8.alloc (.cells (Hd.cells hdZ) 40)) [(gk1, 23, Ky.cells k), (gk3, 35, Hd.cells h), (wk8.heap.size, 40, Hd.cells hdZ)]) := HF.out.alloc _ _
   generalize wk8.alloc (.cells (Hd.cells hdZ) 40) = wk10 at HF HT ⊢
   generalize wk8.heap.size = gk9 at HF ⊢
   refine wp_storeW 40 _ _ rfl ⟨gk9, 0, none⟩ (.agg (Hd.cells (lentH h gb ge gl gp))) (by kernel_rfl) (by kernel_rfl) (wk10.setRow gk9 (Hd.cells (lentH h gb ge gl gp))) (run_store_to (cur := Hd.cs hdZ) (vs := Hd.cs (lentH h gb ge gl gp)) (new := Hd.cs (lentH h gb ge gl gp)) (HF.out.box 2 _ _ _ rfl) (by kernel_rfl) Try.size40 (Nat.le_of_ble_eq_true (by kernel_rfl)) (Hd.oneL _) (by kernel_rfl)) (by kernel_rfl) ?_
   try simp only [pA, pB, p1, p2, p3]
   have HT : Hid (LtAt (wk10.setRow gk9 (Hd.cells (lentH h gb ge gl gp))) bb h bs es ls ps gb ge gl gp) := HT.out.row (HF.out.box 2 _ _ _ rfl) (by decide) _
   have HF : Hid (Fr No w (wk10.setRow gk9 (Hd.cells (lentH h gb ge gl gp))) [(gk1, 23, Ky.cells k), (gk3, 35, Hd.cells h), (gk9, 40, Hd.cells (lentH h gb ge gl gp))]) := HF.out.set 2 rfl _
   generalize wk10.setRow gk9 (Hd.cells (lentH h gb ge gl gp)) = wk11 at HF HT ⊢
   refine WL.nil ?_
   try simp only [pA, pB, p1, p2, p3]
   go_upto_region 4 with fail
   refine WL.start ?_
   refine tK (.int .i64 fm) ?_
   try simp only [pA, pB, p1, p2, p3]
   refine tK (.int .i64 ta) ?_
   try simp only [pA, pB, p1, p2, p3]
   refine tW (.agg (Ky.cells k)) (exec_load 23 _ rfl ⟨gk1, 0, none⟩ (by kernel_rfl) (.agg (Ky.cells k)) (run_load_part (cs := Ky.cs k) (sub := Ky.cs k) (HF.out.box 0 _ _ _ rfl) (Part.all _) Try.und23 rfl Try.size23)) ?_
   try simp only [pA, pB, p1, p2, p3]
   refine tW (.agg (Hd.cells (lentH h gb ge gl gp))) (exec_load 40 _ rfl ⟨gk9, 0, none⟩ (by kernel_rfl) (.agg (Hd.cells (lentH h gb ge gl gp))) (run_load_part (cs := Hd.cs (lentH h gb ge gl gp)) (sub := Hd.cs (lentH h gb ge gl gp)) (HF.out.box 2 _ _ _ rfl) (Part.all _) Try.und40 rfl Try.size40)) ?_
   try simp only [pA, pB, p1, p2, p3]
   refine wp_callW 12 #[.int .i64 fm, .int .i64 ta, .agg (Ky.cells k), .agg (Hd.cells (lentH h gb ge gl gp))] (by kernel_rfl) _ (ask_any fm ta k (lentH h gb ge gl gp) ps _ (rd_P (s := h.r) HH.out.p.len HT.out.p) (fun k e => by obtain ⟨ad, e1, e2⟩ := e; cases e1; subst e2; exact HT.out.p.lt) (by omega) HM.out.rng (by have h1 : 0 ≤ edgeF h.k.up (decd ps) ∧ edgeF h.k.up (decd ps) ≤ 1048576 := HM.out.edge_le; have h2 : edgeF (lentH h gb ge gl gp).k.up (decd ps) = edgeF h.k.up (decd ps) := rfl; omega)) (by kernel_rfl) ?_
   rintro e wk12 ⟨rfl, hk⟩
   have HT : Hid (LtAt (wk12) bb h bs es ls ps gb ge gl gp) := HT.out.no hk
   have HF : Hid (Fr No w (wk12) [(gk1, 23, Ky.cells k), (gk3, 35, Hd.cells h), (gk9, 40, Hd.cells (lentH h gb ge gl gp))]) := HF.out.no hk
   clear hk
   refine ⟨.agg (Mg.cells (askS fm ta k h ps)), rfl, ?_⟩
   try simp only [pA, pB, p1, p2, p3]
   refine wp_runW (.pointer (some ⟨wk12.heap.size, 0, none⟩)) (wk12.alloc (.cells (Mg.cells mgZ) 50)) (exec_alloc 50 rfl (Mg.cells mgZ) zero50) (by kernel_rfl) ?_
   try simp only [pA, pB, p1, p2, p3]
   have HT : Hid (LtAt (wk12.alloc (.cells (Mg.cells mgZ) 50)) bb h bs es ls ps gb ge gl gp) := HT.out.no ((Kept.refl No _).alloc _)
   have HF : Hid (Fr No w (wk12.alloc (.cells (Mg.cells mgZ) 50)) [(gk1, 23, Ky.cells k), (gk3, 35, Hd.cells h), (gk9, 40, Hd.cells (lentH h gb ge gl gp)), (wk12.heap.size, 50, Mg.cells mgZ)]) := HF.out.alloc _ _
   generalize wk12.alloc (.cells (Mg.cells mgZ) 50) = wk14 at HF HT ⊢
   generalize wk12.heap.size = gk13 at HF ⊢
   refine wp_storeW 50 _ _ rfl ⟨gk13, 0, none⟩ (.agg (Mg.cells (askS fm ta k h ps))) (by kernel_rfl) (by kernel_rfl) (wk14.setRow gk13 (Mg.cells (askS fm ta k h ps))) (run_store_to (cur := Mg.cs mgZ) (vs := Mg.cs (askS fm ta k h ps)) (new := Mg.cs (askS fm ta k h ps)) (HF.out.box 3 _ _ _ rfl) (by kernel_rfl) Try.size50 (Nat.le_of_ble_eq_true (by kernel_rfl)) (Mg.oneL _) (by kernel_rfl)) (by kernel_rfl) ?_
   try simp only [pA, pB, p1, p2, p3]
   have HT : Hid (LtAt (wk14.setRow gk13 (Mg.cells (askS fm ta k h ps))) bb h bs es ls ps gb ge gl gp) := HT.out.row (HF.out.box 3 _ _ _ rfl) (by decide) _
   have HF : Hid (Fr No w (wk14.setRow gk13 (Mg.cells (askS fm ta k h ps))) [(gk1, 23, Ky.cells k), (gk3, 35, Hd.cells h), (gk9, 40, Hd.cells (lentH h gb ge gl gp)), (gk13, 50, Mg.cells (askS fm ta k h ps))]) := HF.out.set 3 rfl _
   generalize wk14.setRow gk13 (Mg.cells (askS fm ta k h ps)) = wk15 at HF HT ⊢
   refine WL.nil ?_
   try simp only [pA, pB, p1, p2, p3]
   go_upto_region 5 with fail
   refine wp_region_held_drew (S := fun w' => Fr No w w' [(gk1, 23, Ky.cells k), (gk3, 35, Hd.cells h), (gk9, 40, Hd.cells (lentH h gb ge gl gp)), (gk13, 50, Mg.cells (askS fm ta k h ps))]) rfl (HF.out.drew) (fun hH => ?_)
   have HT : Hid (LtAt (wk15.drew) bb h bs es ls ps gb ge gl gp) := HT.out.no (Kept.refl No _).drew
   have HF : Hid (Fr No w (wk15.drew) [(gk1, 23, Ky.cells k), (gk3, 35, Hd.cells h), (gk9, 40, Hd.cells (lentH h gb ge gl gp)), (gk13, 50, Mg.cells (askS fm ta k h ps))]) := HF.out.drew
   generalize wk15.drew = wk16 at HF HT hH ⊢
   refine aT (i := 0) (oi := { dst := some 26, op := Op.load 40 (Operand.tmp 9), type := 40, pos := "law.go:99", after := #[], guard := none }) (v := .agg (Hd.cells (lentH h gb ge gl gp))) (fun w' hw => exec_load 40 _ rfl ⟨gk9, 0, none⟩ (by kernel_rfl) (.agg (Hd.cells (lentH h gb ge gl gp))) (run_load_part (cs := Hd.cs (lentH h gb ge gl gp)) (sub := Hd.cs (lentH h gb ge gl gp)) (hw.box 2 _ _ _ rfl) (Part.all _) Try.und40 rfl Try.size40)) hH ?_
   try simp only [pA, pB, p1, p2, p3]
   refine aT (i := 1) (oi := { dst := some 27, op := Op.load 35 (Operand.tmp 7), type := 35, pos := "law.go:99", after := #[], guard := none }) (v := .agg (Hd.cells h)) (fun w' hw => exec_load 35 _ rfl ⟨gk3, 0, none⟩ (by kernel_rfl) (.agg (Hd.cells h)) (run_load_part (cs := Hd.cs h) (sub := Hd.cs h) (hw.box 1 _ _ _ rfl) (Part.all _) Try.und35 rfl Try.size35)) hH ?_
   try simp only [pA, pB, p1, p2, p3]
   refine any_call (i := 2) (o := { dst := some 28, op := Op.call { callee := Callee.value (Operand.func 13), args := #[Operand.tmp 26, Operand.tmp 27], argTypes := #[40, 35] }, type := 4, pos := "law.go:99", after := #[{ on := 0, ground := Ground.data }, { on := 1, ground := Ground.data }], guard := none }) rfl (by kernel_rfl) (by kernel_rfl) 13 #[.agg (Hd.cells (lentH h gb ge gl gp)), .agg (Hd.cells h)] (by kernel_rfl) _ (back_any h gb ge gl gp bb bs es ls ps _ (HH.out.no HF.out.kept) HT.out) ?_
   rintro e wk17 ⟨rfl, hk⟩
   have hH2 : Fr No w wk17 [(gk1, 23, Ky.cells k), (gk3, 35, Hd.cells h), (gk9, 40, Hd.cells (lentH h gb ge gl gp)), (gk13, 50, Mg.cells (askS fm ta k h ps))] := hH.back HT.out hk hbb (by simp)
   have HF : Hid (Fr No w (wk17) [(gk1, 23, Ky.cells k), (gk3, 35, Hd.cells h), (gk9, 40, Hd.cells (lentH h gb ge gl gp)), (gk13, 50, Mg.cells (askS fm ta k h ps))]) := HF.out.back HT.out hk hbb (by simp)
   clear hk HT
   refine ⟨.bool true, rfl, hH2, fun hH => ?_⟩
   clear hH2
   try simp only [pA, pB, p1, p2, p3]
   refine aT (i := 3) (oi := { dst := some 29, op := Op.move (Operand.tmp 28), type := 4, pos := "law.go:99", after := #[{ on := 2, ground := Ground.data }, { on := 2, ground := Ground.chain }], guard := none }) (v := .bool true) (fun _ _ => by kernel_rfl) hH ?_
   try simp only [pA, pB, p1, p2, p3]
   refine aT (i := 4) (oi := { dst := some 30, op := Op.load 50 (Operand.tmp 10), type := 50, pos := "law.go:99", after := #[{ on := 3, ground := Ground.guard }], guard := some (3, true) }) (v := .agg (Mg.cells (askS fm ta k h ps))) (fun w' hw => exec_load 50 _ rfl ⟨gk13, 0, none⟩ (by kernel_rfl) (.agg (Mg.cells (askS fm ta k h ps))) (run_load_part (cs := Mg.cs (askS fm ta k h ps)) (sub := Mg.cs (askS fm ta k h ps)) (hw.box 3 _ _ _ rfl) (Part.all _) Try.und50 rfl Try.size50)) hH ?_
   try simp only [pA, pB, p1, p2, p3]
   refine aT (i := 5) (oi := { dst := some 31, op := Op.move (Operand.tmp 0), type := 3, pos := "law.go:99", after := #[{ on := 3, ground := Ground.guard }], guard := some (3, true) }) (v := .int .i64 fm) (fun _ _ => by kernel_rfl) hH ?_
   try simp only [pA, pB, p1, p2, p3]
   refine aT (i := 6) (oi := { dst := some 32, op := Op.move (Operand.tmp 1), type := 3, pos := "law.go:99", after := #[{ on := 3, ground := Ground.guard }], guard := some (3, true) }) (v := .int .i64 ta) (fun _ _ => by kernel_rfl) hH ?_
   try simp only [pA, pB, p1, p2, p3]
   refine aT (i := 7) (oi := { dst := some 33, op := Op.load 23 (Operand.tmp 6), type := 23, pos := "law.go:99", after := #[{ on := 3, ground := Ground.guard }], guard := some (3, true) }) (v := .agg (Ky.cells k)) (fun w' hw => exec_load 23 _ rfl ⟨gk1, 0, none⟩ (by kernel_rfl) (.agg (Ky.cells k)) (run_load_part (cs := Ky.cs k) (sub := Ky.cs k) (hw.box 0 _ _ _ rfl) (Part.all _) Try.und23 rfl Try.size23)) hH ?_
   try simp only [pA, pB, p1, p2, p3]
   refine aT (i := 8) (oi := { dst := some 34, op := Op.load 35 (Operand.tmp 7), type := 35, pos := "law.go:99", after := #[{ on := 3, ground := Ground.guard }], guard := some (3, true) }) (v := .agg (Hd.cells h)) (fun w' hw => exec_load 35 _ rfl ⟨gk3, 0, none⟩ (by kernel_rfl) (.agg (Hd.cells h)) (run_load_part (cs := Hd.cs h) (sub := Hd.cs h) (hw.box 1 _ _ _ rfl) (Part.all _) Try.und35 rfl Try.size35)) hH ?_
   try simp only [pA, pB, p1, p2, p3]
   refine any_call (i := 9) (o := { dst := some 35, op := Op.call { callee := Callee.value (Operand.func 15), args := #[Operand.tmp 31, Operand.tmp 32, Operand.tmp 33, Operand.tmp 34], argTypes := #[3, 3, 23, 35] }, type := 50, pos := "law.go:99", after := #[{ on := 5, ground := Ground.data }, { on := 6, ground := Ground.data }, { on := 7, ground := Ground.data }, { on := 8, ground := Ground.data }, { on := 3, ground := Ground.chain }, { on := 3, ground := Ground.guard }], guard := some (3, true) }) rfl (by kernel_rfl) (by kernel_rfl) 15 #[.int .i64 fm, .int .i64 ta, .agg (Ky.cells k), .agg (Hd.cells h)] (by kernel_rfl) _ (refAsk_any fm ta k h ps _ (HH.out.p.no HF.out.kept) hp HM.out) ?_
   rintro e wk18 ⟨rfl, hk⟩
   have hH2 : Fr No w wk18 [(gk1, 23, Ky.cells k), (gk3, 35, Hd.cells h), (gk9, 40, Hd.cells (lentH h gb ge gl gp)), (gk13, 50, Mg.cells (askS fm ta k h ps))] := hH.no hk
   have HF : Hid (Fr No w (wk18) [(gk1, 23, Ky.cells k), (gk3, 35, Hd.cells h), (gk9, 40, Hd.cells (lentH h gb ge gl gp)), (gk13, 50, Mg.cells (askS fm ta k h ps))]) := HF.out.no hk
   clear hk
   refine ⟨.agg (Mg.cells (askS fm ta k h ps)), rfl, hH2, fun hH => ?_⟩
   clear hH2
   try simp only [pA, pB, p1, p2, p3]
   refine any_call (i := 10) (o := { dst := some 36, op := Op.call { callee := Callee.value (Operand.func 14), args := #[Operand.tmp 30, Operand.tmp 35], argTypes := #[50, 50] }, type := 4, pos := "law.go:99", after := #[{ on := 4, ground := Ground.data }, { on := 9, ground := Ground.data }, { on := 9, ground := Ground.chain }, { on := 3, ground := Ground.guard }], guard := some (3, true) }) rfl (by kernel_rfl) (by kernel_rfl) 14 #[.agg (Mg.cells (askS fm ta k h ps)), .agg (Mg.cells (askS fm ta k h ps))] (by kernel_rfl) _ (sameM_self (askS fm ta k h ps) _ (askS_nil fm ta k h ps).1 (askS_nil fm ta k h ps).2.1 (askS_nil fm ta k h ps).2.2.1 (askS_nil fm ta k h ps).2.2.2) ?_
   rintro e wk19 ⟨rfl, hk⟩
   have hH2 : Fr No w wk19 [(gk1, 23, Ky.cells k), (gk3, 35, Hd.cells h), (gk9, 40, Hd.cells (lentH h gb ge gl gp)), (gk13, 50, Mg.cells (askS fm ta k h ps))] := hH.no hk
   have HF : Hid (Fr No w (wk19) [(gk1, 23, Ky.cells k), (gk3, 35, Hd.cells h), (gk9, 40, Hd.cells (lentH h gb ge gl gp)), (gk13, 50, Mg.cells (askS fm ta k h ps))]) := HF.out.no hk
   clear hk
   refine ⟨.bool true, rfl, hH2, fun hH => ?_⟩
   clear hH2
   try simp only [pA, pB, p1, p2, p3]
   refine aT (i := 11) (oi := { dst := some 37, op := Op.pick (Operand.tmp 29) (Operand.tmp 36) (Operand.const (Value.bool false)), type := 4, pos := "law.go:99", after := #[{ on := 3, ground := Ground.data }, { on := 10, ground := Ground.data }], guard := none }) (v := .bool true) (fun _ _ => by kernel_rfl) hH ?_
   try simp only [pA, pB, p1, p2, p3]
   refine aT (i := 12) (oi := { dst := some 8, op := Op.assign (Operand.tmp 37), type := 4, pos := "law.go:99", after := #[{ on := 11, ground := Ground.data }, { on := 10, ground := Ground.chain }, { on := 0, ground := Ground.phase }, { on := 1, ground := Ground.phase }, { on := 2, ground := Ground.phase }, { on := 3, ground := Ground.phase }, { on := 4, ground := Ground.phase }, { on := 5, ground := Ground.phase }, { on := 6, ground := Ground.phase }, { on := 7, ground := Ground.phase }, { on := 8, ground := Ground.phase }, { on := 9, ground := Ground.phase }, { on := 10, ground := Ground.phase }, { on := 11, ground := Ground.phase }], guard := none }) (v := .bool true) (fun _ _ => by kernel_rfl) hH ?_
   try simp only [pA, pB, p1, p2, p3]
   refine wpAnyH_done (by kernel_rfl) ?_ _
   try simp only [pA, pB, p1, p2, p3]
   clear hH
   go_wp2
   rw [HC.out]
   exact ⟨rfl, HF.out.kept⟩

end Go.Proofs.Ytcgnbpaaalmkoaa
