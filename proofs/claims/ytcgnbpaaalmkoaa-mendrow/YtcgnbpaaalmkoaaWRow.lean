import Derived.Test.YtcgnbpaaalmkoaaEd
namespace Go.Proofs.Ytcgnbpaaalmkoaa
open Go.RowKit
set_option linter.unusedVariables false
set_option linter.unusedSimpArgs false
@[reducible] def oqWRow0 : Oper := { dst := some 32, op := Op.call { callee := Callee.value (Operand.func 11), args := #[Operand.tmp 31], argTypes := #[35] }, type := 40, pos := "law.go:138", after := #[{ on := 1, ground := Ground.data }], guard := none }
@[reducible] def oqWRow1 : Oper := { dst := some 33, op := Op.call { callee := Callee.value (Operand.func 12), args := #[Operand.const (Value.int IntKind.i64 1), Operand.const (Value.int IntKind.i64 2), Operand.tmp 30, Operand.tmp 32], argTypes := #[3, 3, 23, 40] }, type := 50, pos := "law.go:138", after := #[{ on := 0, ground := Ground.data }, { on := 2, ground := Ground.data }, { on := 2, ground := Ground.chain }], guard := none }
@[reducible] def oqWRow2 : Oper := { dst := some 7, op := Op.alloc 50, type := 0, pos := "law.go:138", after := #[], guard := none }
@[reducible] def oqWRow3 : Oper := { dst := none, op := Op.store 50 (Operand.tmp 7) (Operand.tmp 33), type := 0, pos := "law.go:138", after := #[{ on := 4, ground := Ground.data }, { on := 3, ground := Ground.data }, { on := 3, ground := Ground.chain }, { on := 0, ground := Ground.phase }, { on := 1, ground := Ground.phase }, { on := 2, ground := Ground.phase }, { on := 3, ground := Ground.phase }, { on := 4, ground := Ground.phase }], guard := none }
@[reducible] def oqWRow4 : Oper := { dst := some 46, op := Op.call { callee := Callee.value (Operand.func 11), args := #[Operand.tmp 45], argTypes := #[35] }, type := 40, pos := "law.go:143", after := #[{ on := 1, ground := Ground.data }], guard := none }
@[reducible] def oqWRow5 : Oper := { dst := some 47, op := Op.call { callee := Callee.value (Operand.func 17), args := #[Operand.tmp 44, Operand.tmp 46], argTypes := #[50, 40] }, type := 50, pos := "law.go:143", after := #[{ on := 0, ground := Ground.data }, { on := 2, ground := Ground.data }, { on := 2, ground := Ground.chain }], guard := none }
@[reducible] def oqWRow6 : Oper := { dst := some 9, op := Op.alloc 50, type := 0, pos := "law.go:143", after := #[], guard := none }
@[reducible] def oqWRow7 : Oper := { dst := none, op := Op.store 50 (Operand.tmp 9) (Operand.tmp 47), type := 0, pos := "law.go:143", after := #[{ on := 4, ground := Ground.data }, { on := 3, ground := Ground.data }, { on := 3, ground := Ground.chain }, { on := 0, ground := Ground.phase }, { on := 1, ground := Ground.phase }, { on := 2, ground := Ground.phase }, { on := 3, ground := Ground.phase }, { on := 4, ground := Ground.phase }], guard := none }
@[reducible] def oqWRow8 : Oper := { dst := some 57, op := Op.call { callee := Callee.value (Operand.func 11), args := #[Operand.tmp 56], argTypes := #[35] }, type := 40, pos := "law.go:147", after := #[{ on := 1, ground := Ground.data }], guard := none }
@[reducible] def oqWRow9 : Oper := { dst := some 58, op := Op.call { callee := Callee.value (Operand.func 21), args := #[Operand.tmp 55, Operand.tmp 57], argTypes := #[50, 40] }, type := 62, pos := "law.go:147", after := #[{ on := 0, ground := Ground.data }, { on := 2, ground := Ground.data }, { on := 2, ground := Ground.chain }], guard := none }
@[reducible] def oqWRow10 : Oper := { dst := some 54, op := Op.move (Operand.tmp 58), type := 62, pos := "law.go:147", after := #[{ on := 3, ground := Ground.data }], guard := none }
@[reducible] def oqWRow11 : Oper := { dst := some 59, op := Op.extract (Operand.tmp 54) 0, type := 61, pos := "law.go:147", after := #[{ on := 4, ground := Ground.data }], guard := none }
@[reducible] def oqWRow12 : Oper := { dst := some 60, op := Op.extract (Operand.tmp 54) 1, type := 50, pos := "law.go:147", after := #[{ on := 4, ground := Ground.data }, { on := 9, ground := Ground.gcOnly Departure.lateStores }], guard := none }
@[reducible] def oqWRow13 : Oper := { dst := some 61, op := Op.extract (Operand.tmp 54) 2, type := 4, pos := "law.go:147", after := #[{ on := 4, ground := Ground.data }, { on := 10, ground := Ground.gcOnly Departure.lateStores }], guard := none }
@[reducible] def oqWRow14 : Oper := { dst := some 11, op := Op.alloc 50, type := 0, pos := "law.go:147", after := #[], guard := none }
@[reducible] def oqWRow15 : Oper := { dst := some 10, op := Op.assign (Operand.tmp 59), type := 61, pos := "law.go:147", after := #[{ on := 5, ground := Ground.data }, { on := 3, ground := Ground.chain }, { on := 0, ground := Ground.phase }, { on := 1, ground := Ground.phase }, { on := 2, ground := Ground.phase }, { on := 3, ground := Ground.phase }, { on := 4, ground := Ground.phase }, { on := 5, ground := Ground.phase }, { on := 6, ground := Ground.textOnly Departure.lateStores }, { on := 7, ground := Ground.textOnly Departure.lateStores }, { on := 8, ground := Ground.phase }], guard := none }
@[reducible] def oqWRow16 : Oper := { dst := none, op := Op.store 50 (Operand.tmp 11) (Operand.tmp 60), type := 0, pos := "law.go:147", after := #[{ on := 8, ground := Ground.data }, { on := 6, ground := Ground.data }, { on := 9, ground := Ground.chain }, { on := 0, ground := Ground.phase }, { on := 1, ground := Ground.phase }, { on := 2, ground := Ground.phase }, { on := 3, ground := Ground.phase }, { on := 4, ground := Ground.phase }, { on := 5, ground := Ground.phase }, { on := 6, ground := Ground.phase }, { on := 7, ground := Ground.textOnly Departure.lateStores }, { on := 8, ground := Ground.phase }, { on := 9, ground := Ground.phase }], guard := none }
@[reducible] def oqWRow17 : Oper := { dst := some 12, op := Op.assign (Operand.tmp 61), type := 4, pos := "law.go:147", after := #[{ on := 7, ground := Ground.data }, { on := 10, ground := Ground.chain }, { on := 0, ground := Ground.phase }, { on := 1, ground := Ground.phase }, { on := 2, ground := Ground.phase }, { on := 3, ground := Ground.phase }, { on := 4, ground := Ground.phase }, { on := 5, ground := Ground.phase }, { on := 6, ground := Ground.phase }, { on := 7, ground := Ground.phase }, { on := 8, ground := Ground.phase }, { on := 9, ground := Ground.phase }, { on := 10, ground := Ground.phase }], guard := none }

theorem Kept.no {a b c : World} (h : Kept No a b) (hk : Kept No b c) : Kept No a c := h.then hk
def NilM (q : Mg) : Prop := q.bl = slZ ∧ q.bk.e = slZ ∧ q.bk.l = slZ ∧ q.cm = slZ
theorem sameM_nil (m : Mg) (w : World) (h : NilM m) : Calls Try.prog 14 #[.agg (Mg.cells m), .agg (Mg.cells m)] w (fun e w' => e = .returned (.bool true) ∧ Kept No w w') :=
 sameM2 m m ⟨scal m, [], [], [], []⟩ w ⟨rfl, h.1 ▸ RdB.nil w, h.2.1 ▸ RdE.nil w, h.2.2.1 ▸ RdL.nil w, h.2.2.2 ▸ RdC.nil w⟩ ⟨rfl, h.1 ▸ RdB.nil w, h.2.1 ▸ RdE.nil w, h.2.2.1 ▸ RdL.nil w, h.2.2.2 ▸ RdC.nil w⟩ (Nat.zero_le _) (Nat.zero_le _) (Nat.zero_le _)
theorem askS_nil (fm ta : Int) (k : Ky) (h : Hd) (ps : List Pl) : NilM (askS fm ta k h ps) := by
 unfold askS
 split
 · exact ⟨rfl, rfl, rfl, rfl⟩
 · split <;> exact ⟨rfl, rfl, rfl, rfl⟩
theorem LtAt.tp {W : World} {base : Nat} {h : Hd} {bs : List Int} {es : List En} {ls : List La} {ps : List Pl} {gb ge gl gp : Nat} (H : LtAt W base h bs es ls ps gb ge gl gp) : ∀ k, At (lentH h gb ge gl gp).r.a k → k < W.heap.size := fun k e => by obtain ⟨ad, e1, e2⟩ := e; cases e1; subst e2; exact H.p.lt
theorem LtAt.row {W : World} {base : Nat} {h : Hd} {bs : List Int} {es : List En} {ls : List La} {ps : List Pl} {gb ge gl gp : Nat} (H : LtAt W base h bs es ls ps gb ge gl gp) {g : Nat} {T : TypeId} {cs : Array Value} (hb : Box W g T cs) (hT : T ≠ 5 ∧ T ≠ 110 ∧ T ≠ 113 ∧ T ≠ 87) (cs' : Array Value) : LtAt (W.setRow g cs') base h bs es ls ps gb ge gl gp :=
 ⟨H.b.rowNe (fun e => hb.ne H.b hT.1 e.symm) _, H.e.rowNe (fun e => hb.ne H.e hT.2.1 e.symm) _, H.l.rowNe (fun e => hb.ne H.l hT.2.2.1 e.symm) _, H.p.rowNe (fun e => hb.ne H.p hT.2.2.2 e.symm) _, H.lb, H.le, H.ll, H.lp⟩
theorem LsOk.next {u v : Int} {Y : List Ch} {n j : Nat} (h : ∀ i, j ≤ i → i < n → ChOk u (hAt Y i)) (h2 : (∃ i, i < n ∧ ((hAt Y i).ky.k == 1) = false ∧ ((hAt Y i).ky.k == 2) = true) → n = 1) (hj : j < n) (hv : (((hAt Y j).ky.k == 1) = false ∧ ((hAt Y j).ky.k == 2) = true) ∨ v = u) : ∀ i, j + 1 ≤ i → i < n → ChOk v (hAt Y i) := by
 intro i hi hn
 rcases hv with hv | hv
 · have := h2 ⟨j, hj, hv.1, hv.2⟩
   omega
 · rw [hv]; exact h i (by omega) hn
theorem TkRd.cells {W : World} {s : Sl} {z : List Ch} {bs : List Int} {es : List En} {ls : List La} {X : List Ch} (h : TkRd W s z bs es ls X) {i : Nat} (hi : i < s.l) {pb po : Nat} (ha : s.a = some ⟨pb, po, none⟩) : ∀ (j : Nat) v, (Ch.cs (hAt X i))[j]? = some v → W.cell? ⟨pb, po + i * 24 + j, none⟩ = some v := by
 obtain ⟨b, off, e, hc⟩ := h.at hi
 rw [ha] at e
 cases e
 exact hc
theorem HdAt.lens {w : World} {h : Hd} {bs : List Int} {es : List En} {ls : List La} {ps : List Pl} (H : HdAt w h bs es ls ps) : bs.length ≤ 140737488351232 ∧ es.length ≤ 3518437208780 ∧ ls.length ≤ 2513169434843 := ⟨by rw [H.b.len]; exact H.nb, by rw [H.e.len]; exact H.ne, by rw [H.l.len]; exact H.nl⟩
set_option maxRecDepth 100000 in
set_option maxHeartbeats 4000000 in
theorem rowWalk (k : Ky) (a0 b : Hd) (ab0 : List Int) (ae0 : List En) (al0 : List La) (ap0 : List Pl) (bbs : List Int) (bes : List En) (bls : List La) (bp : List Pl) (w : World) (ha : HdAt w a0 ab0 ae0 al0 ap0) (hb : HdAt w b bbs bes bls bp) : Calls Try.prog 6 #[.agg (Ky.cells k), .agg (Hd.cells a0), .agg (Hd.cells b)] w (fun e w' => e = .returned (.bool true) ∧ Kept No w w') := by
 obtain ⟨C, hC⟩ : ∃ C : Ending → World → Prop, C = (fun e w' => e = .returned (.bool true) ∧ Kept No w w') := ⟨_, rfl⟩
 have HC : Hid (C = (fun e w' => e = .returned (.bool true) ∧ Kept No w w')) := hC
 rw [← hC]
 clear hC
 have HA0 : Hid (HdAt w a0 ab0 ae0 al0 ap0) := ha
 have HB : Hid (HdAt w b bbs bes bls bp) := hb
 have hp0 : ap0.length ≤ 1099511627744 := by rw [ha.p.len]; exact ha.np
 have hLb := hb.lens
 clear ha hb
 have HF : Hid (Fr No w w []) := Fr.start _ _
 go_enter Try.func6, Try.ntmps6
 go_upto_region 0 with fail
 refine WL.start ?_
 refine wp_runW (.pointer (some ⟨w.heap.size, 0, none⟩)) (w.alloc (.cells (Ky.cells k) 23)) (exec_box 23 _ rfl (Ky.cells k) (by kernel_rfl)) (by kernel_rfl) ?_
 try simp only [pS]
 have HF : Hid (Fr No w _ [(w.heap.size, 23, Ky.cells k)]) := HF.out.alloc _ _
 generalize w.alloc (.cells (Ky.cells k) 23) = wk2 at HF ⊢
 generalize w.heap.size = gk1 at HF ⊢
 refine wp_runW (.pointer (some ⟨wk2.heap.size, 0, none⟩)) (wk2.alloc (.cells (Hd.cells a0) 35)) (exec_box 35 _ rfl (Hd.cells a0) (by kernel_rfl)) (by kernel_rfl) ?_
 try simp only [pS]
 have HF : Hid (Fr No w _ [(gk1, 23, Ky.cells k), (wk2.heap.size, 35, Hd.cells a0)]) := HF.out.alloc _ _
 generalize wk2.alloc (.cells (Hd.cells a0) 35) = wk4 at HF ⊢
 generalize wk2.heap.size = gk3 at HF ⊢
 refine wp_runW (.pointer (some ⟨wk4.heap.size, 0, none⟩)) (wk4.alloc (.cells (Hd.cells b) 35)) (exec_box 35 _ rfl (Hd.cells b) (by kernel_rfl)) (by kernel_rfl) ?_
 try simp only [pS]
 have HF : Hid (Fr No w _ [(gk1, 23, Ky.cells k), (gk3, 35, Hd.cells a0), (wk4.heap.size, 35, Hd.cells b)]) := HF.out.alloc _ _
 generalize wk4.alloc (.cells (Hd.cells b) 35) = wk6 at HF ⊢
 generalize wk4.heap.size = gk5 at HF ⊢
 refine tK (.bool false) ?_
 try simp only [pS]
 refine WL.nil ?_
 try simp only [pS]
 go_upto_region 1 with fail
 refine WL.start ?_
 refine wp_callW 9 #[] (by kernel_rfl) _ (known_any _) (by kernel_rfl) ?_
 rintro e wk7 ⟨rfl, hk⟩
 have HF : Hid (Fr No w (wk7) [(gk1, 23, Ky.cells k), (gk3, 35, Hd.cells a0), (gk5, 35, Hd.cells b)]) := HF.out.no hk
 clear hk
 refine ⟨.bool true, rfl, ?_⟩
 try simp only [pS]
 refine tK (.bool false) ?_
 refine tK (.bool false) ?_
 refine tW (.agg (Hd.cells a0)) (eL 35 _ rfl ⟨gk3, 0, none⟩ (run_load_part (cs := Hd.cs a0) (sub := Hd.cs a0) (HF.out.box 1 _ _ _ rfl) (Part.all _) Try.und35 rfl Try.size35)) ?_
 try simp only [pS]
 refine wp_callW 10 #[.agg (Hd.cells a0)] (by kernel_rfl) _ (may_any a0 ab0 ae0 al0 ap0 _ (HA0.out.no HF.out.kept)) (by kernel_rfl) ?_
 rintro e wk8 ⟨b1, rfl, hb1, hk⟩
 have HF : Hid (Fr No w (wk8) [(gk1, 23, Ky.cells k), (gk3, 35, Hd.cells a0), (gk5, 35, Hd.cells b)]) := HF.out.no hk
 clear hk
 refine ⟨.bool b1, rfl, ?_⟩
 try simp only [pS]
 cases q1 : (b1)
 ·skip
  try simp only [q1]
  refine tK (.bool true) ?_
  refine tK (.bool true) ?_
  refine tK (.bool true) ?_
  refine sK ?_
  refine sK ?_
  refine sK ?_
  refine tK (.bool true) ?_
  try simp only [pS]
  refine WL.nil ?_
  try simp only [pS]
  go_upto_region 2 with fail
  refine WL.start ?_
  refine wp_callW 9 #[] (by kernel_rfl) _ (known_any _) (by kernel_rfl) ?_
  rintro e wk9 ⟨rfl, hk⟩
  have HF : Hid (Fr No w (wk9) [(gk1, 23, Ky.cells k), (gk3, 35, Hd.cells a0), (gk5, 35, Hd.cells b)]) := HF.out.no hk
  clear hk
  refine ⟨.bool true, rfl, ?_⟩
  try simp only [pS]
  refine tK (.bool true) ?_
  try simp only [pS]
  refine WL.nil ?_
  try simp only [pS]
  go_wp2
  rw [HC.out]
  exact ⟨rfl, HF.out.kept⟩
 ·skip
  try simp only [q1]
  refine tK (.bool false) ?_
  refine tK (.bool false) ?_
  refine tK (.bool false) ?_
  refine tW (.agg (Hd.cells b)) (eL 35 _ rfl ⟨gk5, 0, none⟩ (run_load_part (cs := Hd.cs b) (sub := Hd.cs b) (HF.out.box 2 _ _ _ rfl) (Part.all _) Try.und35 rfl Try.size35)) ?_
  try simp only [pS]
  refine wp_callW 10 #[.agg (Hd.cells b)] (by kernel_rfl) _ (may_any b bbs bes bls bp _ (HB.out.no HF.out.kept)) (by kernel_rfl) ?_
  rintro e wk10 ⟨b2, rfl, hb2, hk⟩
  have HF : Hid (Fr No w (wk10) [(gk1, 23, Ky.cells k), (gk3, 35, Hd.cells a0), (gk5, 35, Hd.cells b)]) := HF.out.no hk
  clear hk
  refine ⟨.bool b2, rfl, ?_⟩
  try simp only [pS]
  cases q2 : (b2)
  ·skip
   try simp only [q2]
   refine tK (.bool true) ?_
   refine tK (.bool true) ?_
   try simp only [pS]
   refine WL.nil ?_
   try simp only [pS]
   go_upto_region 2 with fail
   refine WL.start ?_
   refine wp_callW 9 #[] (by kernel_rfl) _ (known_any _) (by kernel_rfl) ?_
   rintro e wk11 ⟨rfl, hk⟩
   have HF : Hid (Fr No w (wk11) [(gk1, 23, Ky.cells k), (gk3, 35, Hd.cells a0), (gk5, 35, Hd.cells b)]) := HF.out.no hk
   clear hk
   refine ⟨.bool true, rfl, ?_⟩
   try simp only [pS]
   refine tK (.bool true) ?_
   try simp only [pS]
   refine WL.nil ?_
   try simp only [pS]
   go_wp2
   rw [HC.out]
   exact ⟨rfl, HF.out.kept⟩
  ·skip
   try simp only [q2]
   refine tK (.bool false) ?_
   refine tK (.bool false) ?_
   try simp only [pS]
   refine WL.nil ?_
   try simp only [pS]
   have HM0 : Hid (MayP a0 ap0) := hb1 (by simpa using q1)
   have HMb : Hid (MayP b bp) := hb2 (by simpa using q2)
   clear hb1 hb2
   go_upto_region 3 with fail
   go_cut [7] from 17 (fun v7 wc => ∃ g7 : Nat, v7 = .pointer (some ⟨g7, 0, none⟩) ∧ Hid (Fr No w wc [(gk1, 23, Ky.cells k), (gk3, 35, Hd.cells a0), (gk5, 35, Hd.cells b), (g7, 50, Mg.cells (askS 1 2 k a0 ap0))]))
   case first =>
    rename_i J0 K0 hJ0 hK0
    refine wp_region_held_drew (S := fun w' => Fr No w w' [(gk1, 23, Ky.cells k), (gk3, 35, Hd.cells a0), (gk5, 35, Hd.cells b)]) rfl (HF.out.drew) (fun hH => ?_)
    have HF : Hid (Fr No w (wk10.drew) [(gk1, 23, Ky.cells k), (gk3, 35, Hd.cells a0), (gk5, 35, Hd.cells b)]) := HF.out.drew
    generalize wk10.drew = wk12 at HF hH ⊢
    refine aT (i := 0) (oi := { dst := some 30, op := Op.load 23 (Operand.tmp 3), type := 23, pos := "law.go:138", after := #[], guard := none }) (v := .agg (Ky.cells k)) (fun w' hw => eL 23 _ rfl ⟨gk1, 0, none⟩ (run_load_part (cs := Ky.cs k) (sub := Ky.cs k) (hw.box 0 _ _ _ rfl) (Part.all _) Try.und23 rfl Try.size23)) hH ?_
    try simp only [pS]
    refine aT (i := 1) (oi := { dst := some 31, op := Op.load 35 (Operand.tmp 4), type := 35, pos := "law.go:138", after := #[], guard := none }) (v := .agg (Hd.cells a0)) (fun w' hw => eL 35 _ rfl ⟨gk3, 0, none⟩ (run_load_part (cs := Hd.cs a0) (sub := Hd.cs a0) (hw.box 1 _ _ _ rfl) (Part.all _) Try.und35 rfl Try.size35)) hH ?_
    try simp only [pS]
    refine any_pick (rs := [2, 4]) (by kernel_rfl) (by simp) ?_
    intro i hi
    rcases pick2 hi with rfl | rfl
    ·skip
     clear hi
     refine step_call (i := 2) (o := oqWRow0) rfl (by kernel_rfl) 11 #[.agg (Hd.cells a0)] (by kernel_rfl) _ (lend_any a0 ab0 ae0 al0 ap0 _ (HA0.out.no HF.out.kept)) ?_
     rintro e wk13 ⟨gb, ge, gl, gp, rfl, hT, hk⟩
     have hH2 : Fr No w wk13 [(gk1, 23, Ky.cells k), (gk3, 35, Hd.cells a0), (gk5, 35, Hd.cells b)] := hH.no hk
     have HF : Hid (Fr No w (wk13) [(gk1, 23, Ky.cells k), (gk3, 35, Hd.cells a0), (gk5, 35, Hd.cells b)]) := HF.out.no hk
     have HT : Hid (LtAt wk13 wk12.heap.size a0 ab0 ae0 al0 ap0 gb ge gl gp) := hT
     clear hk hT
     generalize wk12.heap.size = bb at HT
     refine ⟨.agg (Hd.cells (lentH a0 gb ge gl gp)), rfl, hH2, fun hH => ?_⟩
     clear hH2
     try simp only [pS]
     refine any_pick (rs := [3, 4]) (by kernel_rfl) (by simp) ?_
     intro i hi
     rcases pick2 hi with rfl | rfl
     ·skip
      clear hi
      refine step_call (i := 3) (o := oqWRow1) rfl (by kernel_rfl) 12 #[.int .i64 1, .int .i64 2, .agg (Ky.cells k), .agg (Hd.cells (lentH a0 gb ge gl gp))] (by kernel_rfl) _ (ask_any 1 2 k (lentH a0 gb ge gl gp) ap0 _ (rd_P (s := a0.r) HA0.out.p.len HT.out.p) HT.out.tp (by omega) HM0.out.rng (by have h1 : 0 ≤ edgeF a0.k.up (decd ap0) ∧ edgeF a0.k.up (decd ap0) ≤ 1048576 := HM0.out.edge_le; have h2 : edgeF (lentH a0 gb ge gl gp).k.up (decd ap0) = edgeF a0.k.up (decd ap0) := rfl; omega)) ?_
      rintro e wk14 ⟨rfl, hk⟩
      have hH2 : Fr No w wk14 [(gk1, 23, Ky.cells k), (gk3, 35, Hd.cells a0), (gk5, 35, Hd.cells b)] := hH.no hk
      have HF : Hid (Fr No w (wk14) [(gk1, 23, Ky.cells k), (gk3, 35, Hd.cells a0), (gk5, 35, Hd.cells b)]) := HF.out.no hk
      clear hk HT
      refine ⟨.agg (Mg.cells (askS 1 2 k a0 ap0)), rfl, hH2, fun hH => ?_⟩
      clear hH2
      try simp only [pS]
      refine any_step (i := 4) (o := oqWRow2) rfl (by kernel_rfl) (by kernel_rfl) (exec_alloc 50 rfl (Mg.cells mgZ) zero50) (Fr.front (l := [(gk1, 23, Ky.cells k), (gk3, 35, Hd.cells a0), (gk5, 35, Hd.cells b)]) (m := [_]) (hH.alloc _ _)) (fun hH => ?_)
      try simp only [pS]
      have HF : Hid (Fr No w _ [(gk1, 23, Ky.cells k), (gk3, 35, Hd.cells a0), (gk5, 35, Hd.cells b), (wk14.heap.size, 50, Mg.cells mgZ)]) := HF.out.alloc _ _
      generalize wk14.alloc (.cells (Mg.cells mgZ) 50) = wk16 at HF hH ⊢
      generalize wk14.heap.size = gk15 at HF ⊢
      refine any_store (i := 5) (o := oqWRow3) (w' := wk16.setRow gk15 (Mg.cells (askS 1 2 k a0 ap0))) rfl (by kernel_rfl) (by kernel_rfl) 50 _ _ rfl ⟨gk15, 0, none⟩ (.agg (Mg.cells (askS 1 2 k a0 ap0))) (by kernel_rfl) (by kernel_rfl) (run_store_to (cur := Mg.cs mgZ) (vs := Mg.cs (askS 1 2 k a0 ap0)) (new := Mg.cs (askS 1 2 k a0 ap0)) (HF.out.box 3 _ _ _ rfl) (by kernel_rfl) Try.size50 (Nat.le_of_ble_eq_true (by kernel_rfl)) (Mg.oneL _) (by kernel_rfl)) (Fr.front (l := [(gk1, 23, Ky.cells k), (gk3, 35, Hd.cells a0), (gk5, 35, Hd.cells b)]) (m := [(gk15, 50, Mg.cells (askS 1 2 k a0 ap0))]) (HF.out.set 3 rfl _)) (fun hH => ?_)
      try simp only [pS]
      have HF : Hid (Fr No w _ [(gk1, 23, Ky.cells k), (gk3, 35, Hd.cells a0), (gk5, 35, Hd.cells b), (gk15, 50, Mg.cells (askS 1 2 k a0 ap0))]) := HF.out.set 3 rfl _
      generalize wk16.setRow gk15 (Mg.cells (askS 1 2 k a0 ap0)) = wk17 at HF hH ⊢
      refine wpAnyH_done (by kernel_rfl) ?_ _
      try simp only [pS]
      clear hH
      refine hK0 _ _ (Met.intro (hJ0 _ _ ?_))
      (repeat apply Exists.intro)
      refine ⟨?_, rfl⟩
      exact ⟨gk15, rfl, HF⟩
     ·skip
      clear hi
      refine step_run (i := 4) (o := oqWRow2) rfl (by kernel_rfl) (exec_alloc 50 rfl (Mg.cells mgZ) zero50) (Fr.front (l := [(gk1, 23, Ky.cells k), (gk3, 35, Hd.cells a0), (gk5, 35, Hd.cells b)]) (m := [_]) (hH.alloc _ _)) (fun hH => ?_)
      try simp only [pS]
      have HT : Hid (LtAt (wk13.alloc (.cells (Mg.cells mgZ) 50)) bb a0 ab0 ae0 al0 ap0 gb ge gl gp) := HT.out.no ((Kept.refl No _).alloc _)
      have HF : Hid (Fr No w _ [(gk1, 23, Ky.cells k), (gk3, 35, Hd.cells a0), (gk5, 35, Hd.cells b), (wk13.heap.size, 50, Mg.cells mgZ)]) := HF.out.alloc _ _
      generalize wk13.alloc (.cells (Mg.cells mgZ) 50) = wk19 at HF HT hH ⊢
      generalize wk13.heap.size = gk18 at HF ⊢
      refine any_call (i := 3) (o := oqWRow1) rfl (by kernel_rfl) (by kernel_rfl) 12 #[.int .i64 1, .int .i64 2, .agg (Ky.cells k), .agg (Hd.cells (lentH a0 gb ge gl gp))] (by kernel_rfl) _ (ask_any 1 2 k (lentH a0 gb ge gl gp) ap0 _ (rd_P (s := a0.r) HA0.out.p.len HT.out.p) HT.out.tp (by omega) HM0.out.rng (by have h1 : 0 ≤ edgeF a0.k.up (decd ap0) ∧ edgeF a0.k.up (decd ap0) ≤ 1048576 := HM0.out.edge_le; have h2 : edgeF (lentH a0 gb ge gl gp).k.up (decd ap0) = edgeF a0.k.up (decd ap0) := rfl; omega)) ?_
      rintro e wk20 ⟨rfl, hk⟩
      have hH2 : Fr No w wk20 [(gk1, 23, Ky.cells k), (gk3, 35, Hd.cells a0), (gk5, 35, Hd.cells b)] := hH.no hk
      have HF : Hid (Fr No w (wk20) [(gk1, 23, Ky.cells k), (gk3, 35, Hd.cells a0), (gk5, 35, Hd.cells b), (gk18, 50, Mg.cells mgZ)]) := HF.out.no hk
      clear hk HT
      refine ⟨.agg (Mg.cells (askS 1 2 k a0 ap0)), rfl, hH2, fun hH => ?_⟩
      clear hH2
      try simp only [pS]
      refine any_store (i := 5) (o := oqWRow3) (w' := wk20.setRow gk18 (Mg.cells (askS 1 2 k a0 ap0))) rfl (by kernel_rfl) (by kernel_rfl) 50 _ _ rfl ⟨gk18, 0, none⟩ (.agg (Mg.cells (askS 1 2 k a0 ap0))) (by kernel_rfl) (by kernel_rfl) (run_store_to (cur := Mg.cs mgZ) (vs := Mg.cs (askS 1 2 k a0 ap0)) (new := Mg.cs (askS 1 2 k a0 ap0)) (HF.out.box 3 _ _ _ rfl) (by kernel_rfl) Try.size50 (Nat.le_of_ble_eq_true (by kernel_rfl)) (Mg.oneL _) (by kernel_rfl)) (Fr.front (l := [(gk1, 23, Ky.cells k), (gk3, 35, Hd.cells a0), (gk5, 35, Hd.cells b)]) (m := [(gk18, 50, Mg.cells (askS 1 2 k a0 ap0))]) (HF.out.set 3 rfl _)) (fun hH => ?_)
      try simp only [pS]
      have HF : Hid (Fr No w _ [(gk1, 23, Ky.cells k), (gk3, 35, Hd.cells a0), (gk5, 35, Hd.cells b), (gk18, 50, Mg.cells (askS 1 2 k a0 ap0))]) := HF.out.set 3 rfl _
      generalize wk20.setRow gk18 (Mg.cells (askS 1 2 k a0 ap0)) = wk21 at HF hH ⊢
      refine wpAnyH_done (by kernel_rfl) ?_ _
      try simp only [pS]
      clear hH
      refine hK0 _ _ (Met.intro (hJ0 _ _ ?_))
      (repeat apply Exists.intro)
      refine ⟨?_, rfl⟩
      exact ⟨gk18, rfl, HF⟩
    ·skip
     clear hi
     refine step_run (i := 4) (o := oqWRow2) rfl (by kernel_rfl) (exec_alloc 50 rfl (Mg.cells mgZ) zero50) (Fr.front (l := [(gk1, 23, Ky.cells k), (gk3, 35, Hd.cells a0), (gk5, 35, Hd.cells b)]) (m := [_]) (hH.alloc _ _)) (fun hH => ?_)
     try simp only [pS]
     have HF : Hid (Fr No w _ [(gk1, 23, Ky.cells k), (gk3, 35, Hd.cells a0), (gk5, 35, Hd.cells b), (wk12.heap.size, 50, Mg.cells mgZ)]) := HF.out.alloc _ _
     generalize wk12.alloc (.cells (Mg.cells mgZ) 50) = wk23 at HF hH ⊢
     generalize wk12.heap.size = gk22 at HF ⊢
     refine any_call (i := 2) (o := oqWRow0) rfl (by kernel_rfl) (by kernel_rfl) 11 #[.agg (Hd.cells a0)] (by kernel_rfl) _ (lend_any a0 ab0 ae0 al0 ap0 _ (HA0.out.no HF.out.kept)) ?_
     rintro e wk24 ⟨gb, ge, gl, gp, rfl, hT, hk⟩
     have hH2 : Fr No w wk24 [(gk1, 23, Ky.cells k), (gk3, 35, Hd.cells a0), (gk5, 35, Hd.cells b)] := hH.no hk
     have HF : Hid (Fr No w (wk24) [(gk1, 23, Ky.cells k), (gk3, 35, Hd.cells a0), (gk5, 35, Hd.cells b), (gk22, 50, Mg.cells mgZ)]) := HF.out.no hk
     have HT : Hid (LtAt wk24 wk23.heap.size a0 ab0 ae0 al0 ap0 gb ge gl gp) := hT
     clear hk hT
     generalize wk23.heap.size = bb at HT
     refine ⟨.agg (Hd.cells (lentH a0 gb ge gl gp)), rfl, hH2, fun hH => ?_⟩
     clear hH2
     try simp only [pS]
     refine any_call (i := 3) (o := oqWRow1) rfl (by kernel_rfl) (by kernel_rfl) 12 #[.int .i64 1, .int .i64 2, .agg (Ky.cells k), .agg (Hd.cells (lentH a0 gb ge gl gp))] (by kernel_rfl) _ (ask_any 1 2 k (lentH a0 gb ge gl gp) ap0 _ (rd_P (s := a0.r) HA0.out.p.len HT.out.p) HT.out.tp (by omega) HM0.out.rng (by have h1 : 0 ≤ edgeF a0.k.up (decd ap0) ∧ edgeF a0.k.up (decd ap0) ≤ 1048576 := HM0.out.edge_le; have h2 : edgeF (lentH a0 gb ge gl gp).k.up (decd ap0) = edgeF a0.k.up (decd ap0) := rfl; omega)) ?_
     rintro e wk25 ⟨rfl, hk⟩
     have hH2 : Fr No w wk25 [(gk1, 23, Ky.cells k), (gk3, 35, Hd.cells a0), (gk5, 35, Hd.cells b)] := hH.no hk
     have HF : Hid (Fr No w (wk25) [(gk1, 23, Ky.cells k), (gk3, 35, Hd.cells a0), (gk5, 35, Hd.cells b), (gk22, 50, Mg.cells mgZ)]) := HF.out.no hk
     clear hk HT
     refine ⟨.agg (Mg.cells (askS 1 2 k a0 ap0)), rfl, hH2, fun hH => ?_⟩
     clear hH2
     try simp only [pS]
     refine any_store (i := 5) (o := oqWRow3) (w' := wk25.setRow gk22 (Mg.cells (askS 1 2 k a0 ap0))) rfl (by kernel_rfl) (by kernel_rfl) 50 _ _ rfl ⟨gk22, 0, none⟩ (.agg (Mg.cells (askS 1 2 k a0 ap0))) (by kernel_rfl) (by kernel_rfl) (run_store_to (cur := Mg.cs mgZ) (vs := Mg.cs (askS 1 2 k a0 ap0)) (new := Mg.cs (askS 1 2 k a0 ap0)) (HF.out.box 3 _ _ _ rfl) (by kernel_rfl) Try.size50 (Nat.le_of_ble_eq_true (by kernel_rfl)) (Mg.oneL _) (by kernel_rfl)) (Fr.front (l := [(gk1, 23, Ky.cells k), (gk3, 35, Hd.cells a0), (gk5, 35, Hd.cells b)]) (m := [(gk22, 50, Mg.cells (askS 1 2 k a0 ap0))]) (HF.out.set 3 rfl _)) (fun hH => ?_)
     try simp only [pS]
     have HF : Hid (Fr No w _ [(gk1, 23, Ky.cells k), (gk3, 35, Hd.cells a0), (gk5, 35, Hd.cells b), (gk22, 50, Mg.cells (askS 1 2 k a0 ap0))]) := HF.out.set 3 rfl _
     generalize wk25.setRow gk22 (Mg.cells (askS 1 2 k a0 ap0)) = wk26 at HF hH ⊢
     refine wpAnyH_done (by kernel_rfl) ?_ _
     try simp only [pS]
     clear hH
     refine hK0 _ _ (Met.intro (hJ0 _ _ ?_))
     (repeat apply Exists.intro)
     refine ⟨?_, rfl⟩
     exact ⟨gk22, rfl, HF⟩
   case rest =>
    obtain ⟨g7, rfl, HF⟩ := hcut
    go_upto_region 4 with fail
    refine wp_region_held_drew (S := fun w' => Fr No w w' [(gk1, 23, Ky.cells k), (gk3, 35, Hd.cells a0), (gk5, 35, Hd.cells b), (g7, 50, Mg.cells (askS 1 2 k a0 ap0))]) rfl (HF.out.drew) (fun hH => ?_)
    have HF : Hid (Fr No w (wc.drew) [(gk1, 23, Ky.cells k), (gk3, 35, Hd.cells a0), (gk5, 35, Hd.cells b), (g7, 50, Mg.cells (askS 1 2 k a0 ap0))]) := HF.out.drew
    generalize wc.drew = wk27 at HF hH ⊢
    refine aT (i := 0) (oi := { dst := some 34, op := Op.load 50 (Operand.tmp 7), type := 50, pos := "law.go:139", after := #[], guard := none }) (v := .agg (Mg.cells (askS 1 2 k a0 ap0))) (fun w' hw => eL 50 _ rfl ⟨g7, 0, none⟩ (run_load_part (cs := Mg.cs (askS 1 2 k a0 ap0)) (sub := Mg.cs (askS 1 2 k a0 ap0)) (hw.box 3 _ _ _ rfl) (Part.all _) Try.und50 rfl Try.size50)) hH ?_
    try simp only [pS]
    refine aT (i := 1) (oi := { dst := some 35, op := Op.load 23 (Operand.tmp 3), type := 23, pos := "law.go:139", after := #[], guard := none }) (v := .agg (Ky.cells k)) (fun w' hw => eL 23 _ rfl ⟨gk1, 0, none⟩ (run_load_part (cs := Ky.cs k) (sub := Ky.cs k) (hw.box 0 _ _ _ rfl) (Part.all _) Try.und23 rfl Try.size23)) hH ?_
    try simp only [pS]
    refine aT (i := 2) (oi := { dst := some 36, op := Op.load 35 (Operand.tmp 4), type := 35, pos := "law.go:139", after := #[], guard := none }) (v := .agg (Hd.cells a0)) (fun w' hw => eL 35 _ rfl ⟨gk3, 0, none⟩ (run_load_part (cs := Hd.cs a0) (sub := Hd.cs a0) (hw.box 1 _ _ _ rfl) (Part.all _) Try.und35 rfl Try.size35)) hH ?_
    try simp only [pS]
    refine any_call (i := 3) (o := { dst := some 37, op := Op.call { callee := Callee.value (Operand.func 15), args := #[Operand.const (Value.int IntKind.i64 1), Operand.const (Value.int IntKind.i64 2), Operand.tmp 35, Operand.tmp 36], argTypes := #[3, 3, 23, 35] }, type := 50, pos := "law.go:139", after := #[{ on := 1, ground := Ground.data }, { on := 2, ground := Ground.data }], guard := none }) rfl (by kernel_rfl) (by kernel_rfl) 15 #[.int .i64 1, .int .i64 2, .agg (Ky.cells k), .agg (Hd.cells a0)] (by kernel_rfl) _ (refAsk_any 1 2 k a0 ap0 _ (HA0.out.p.no HF.out.kept) hp0 HM0.out) ?_
    rintro e wk28 ⟨rfl, hk⟩
    have hH2 : Fr No w wk28 [(gk1, 23, Ky.cells k), (gk3, 35, Hd.cells a0), (gk5, 35, Hd.cells b), (g7, 50, Mg.cells (askS 1 2 k a0 ap0))] := hH.no hk
    have HF : Hid (Fr No w (wk28) [(gk1, 23, Ky.cells k), (gk3, 35, Hd.cells a0), (gk5, 35, Hd.cells b), (g7, 50, Mg.cells (askS 1 2 k a0 ap0))]) := HF.out.no hk
    clear hk
    refine ⟨.agg (Mg.cells (askS 1 2 k a0 ap0)), rfl, hH2, fun hH => ?_⟩
    clear hH2
    try simp only [pS]
    refine any_call (i := 4) (o := { dst := some 38, op := Op.call { callee := Callee.value (Operand.func 14), args := #[Operand.tmp 34, Operand.tmp 37], argTypes := #[50, 50] }, type := 4, pos := "law.go:139", after := #[{ on := 0, ground := Ground.data }, { on := 3, ground := Ground.data }, { on := 3, ground := Ground.chain }], guard := none }) rfl (by kernel_rfl) (by kernel_rfl) 14 #[.agg (Mg.cells (askS 1 2 k a0 ap0)), .agg (Mg.cells (askS 1 2 k a0 ap0))] (by kernel_rfl) _ (sameM_nil (askS 1 2 k a0 ap0) _ (askS_nil 1 2 k a0 ap0)) ?_
    rintro e wk29 ⟨rfl, hk⟩
    have hH2 : Fr No w wk29 [(gk1, 23, Ky.cells k), (gk3, 35, Hd.cells a0), (gk5, 35, Hd.cells b), (g7, 50, Mg.cells (askS 1 2 k a0 ap0))] := hH.no hk
    have HF : Hid (Fr No w (wk29) [(gk1, 23, Ky.cells k), (gk3, 35, Hd.cells a0), (gk5, 35, Hd.cells b), (g7, 50, Mg.cells (askS 1 2 k a0 ap0))]) := HF.out.no hk
    clear hk
    refine ⟨.bool true, rfl, hH2, fun hH => ?_⟩
    clear hH2
    try simp only [pS]
    refine aT (i := 5) (oi := { dst := some 39, op := Op.unOp UnOp.not 4 (Operand.tmp 38), type := 4, pos := "law.go:139", after := #[{ on := 4, ground := Ground.data }], guard := none }) (v := .bool false) (fun _ _ => by kernel_rfl) hH ?_
    try simp only [pS]
    refine wpAnyH_done (by kernel_rfl) ?_ _
    try simp only [pS]
    clear hH
    go_upto_region 6 with fail
    refine WL.start ?_
    refine tK (.int .i64 0) ?_
    try simp only [pS]
    refine WL.nil ?_
    try simp only [pS]
    have hQ0 : QOk (askS 1 2 k a0 ap0) b 0 := .inl rfl
    have HA0w : Hid (HdAt wk29 a0 ab0 ae0 al0 ap0) := HA0.out.no HF.out.kept
    have hOf0 : HdOff (fun k => k = gk3 ∨ k = g7) a0 ab0 ae0 al0 ap0 := HdOff.start HA0.out (by rintro k (e | e); rw [e]; exact HF.out.low 1 _ _ _ rfl; rw [e]; exact HF.out.low 3 _ _ _ rfl)
    go_wp2
    go_loopw [8, 9, 10, 11, 12, 13, 14, 15, 16] (fun v8 v9 v10 v11 v12 v13 v14 v15 v16 wr => ∃ (t : Nat) (a : Hd) (ab : List Int) (ae : List En) (al : List La) (ap : List Pl) (q : Mg), v8 = .int .i64 ((t : Nat) : Int) ∧ Hid (QOk q b t) ∧ Hid (HdAt wr a ab ae al ap) ∧ Hid (MayP a ap) ∧ Hid (HdOff (fun k => k = gk3 ∨ k = g7) a ab ae al ap) ∧ Hid (Fr No w wr [(gk1, 23, Ky.cells k), (gk3, 35, Hd.cells a), (gk5, 35, Hd.cells b), (g7, 50, Mg.cells q)])) (fun i8 i9 i10 i11 i12 i13 i14 i15 i16 _ => 17000 - (intOf i8).toNat)
    case atStart => exact ⟨0, a0, ab0, ae0, al0, ap0, (askS 1 2 k a0 ap0), by go_num, hQ0, HA0w, HM0, hOf0, HF⟩
    case round =>
     clear HF HA0w hQ0 hOf0
     obtain ⟨t, a, ab, ae, al, ap, q, rfl, HQ, HH, HMa, HOf, HF⟩ := hrel
     have ht : t < 17000 := HQ.out.lt
     go_upto_region 7 with fail
     refine WL.start ?_
     refine tK (.int .i64 ((t : Nat) : Int)) ?_
     refine tW (.bool true) (eB .lss 3 _ _ _ rfl (.int .i64 ((t : Nat) : Int)) (.int .i64 17000) _ (by rw [b_lss, decide_eq_true (by omega)])) ?_
     try simp only [pS]
     refine WL.nil ?_
     try simp only [pS]
     go_upto_region 9 with fail
     go_cut [9] from 40 to 98 (fun v9 wc => ∃ (g9 : Nat) (m : Mg), v9 = .pointer (some ⟨g9, 0, none⟩) ∧ Hid (MgRd wc m (haveA q b bbs bes bls bp)) ∧ Hid (∀ k, (At m.bl.a k ∨ At m.bk.e.a k ∨ At m.bk.l.a k) → ¬ (fun k => k = gk3 ∨ k = g7) k) ∧ Hid (HdAt wc a ab ae al ap) ∧ Hid (Fr No w wc [(gk1, 23, Ky.cells k), (gk3, 35, Hd.cells a), (gk5, 35, Hd.cells b), (g7, 50, Mg.cells q), (g9, 50, Mg.cells m)]))
     case first =>
      rename_i J0 K0 hJ0 hK0
      have HHs : Hid (HdAt wr a ab ae al ap) := HH
      clear HH
      have HK0 : Hid (Kept No wr wr) := Kept.refl _ _
      obtain ⟨s0, hs0⟩ : ∃ n, wr.heap.size = n := ⟨_, rfl⟩
      have HS0 : Hid (wr.heap.size = s0) := hs0
      clear hs0
      refine wp_region_held_drew (S := fun w' => Fr No w w' [(gk1, 23, Ky.cells k), (gk3, 35, Hd.cells a), (gk5, 35, Hd.cells b), (g7, 50, Mg.cells q)]) rfl (HF.out.drew) (fun hH => ?_)
      have HK0 : Hid (Kept No wr (wr.drew)) := HK0.out.no (Kept.refl No _).drew
      have HF : Hid (Fr No w (wr.drew) [(gk1, 23, Ky.cells k), (gk3, 35, Hd.cells a), (gk5, 35, Hd.cells b), (g7, 50, Mg.cells q)]) := HF.out.drew
      generalize wr.drew = wk30 at HF HK0 hH ⊢
      refine aT (i := 0) (oi := { dst := some 44, op := Op.load 50 (Operand.tmp 7), type := 50, pos := "law.go:143", after := #[], guard := none }) (v := .agg (Mg.cells q)) (fun w' hw => eL 50 _ rfl ⟨g7, 0, none⟩ (run_load_part (cs := Mg.cs q) (sub := Mg.cs q) (hw.box 3 _ _ _ rfl) (Part.all _) Try.und50 rfl Try.size50)) hH ?_
      try simp only [pS]
      refine aT (i := 1) (oi := { dst := some 45, op := Op.load 35 (Operand.tmp 5), type := 35, pos := "law.go:143", after := #[], guard := none }) (v := .agg (Hd.cells b)) (fun w' hw => eL 35 _ rfl ⟨gk5, 0, none⟩ (run_load_part (cs := Hd.cs b) (sub := Hd.cs b) (hw.box 2 _ _ _ rfl) (Part.all _) Try.und35 rfl Try.size35)) hH ?_
      try simp only [pS]
      refine any_pick (rs := [2, 4]) (by kernel_rfl) (by simp) ?_
      intro i hi
      rcases pick2 hi with rfl | rfl
      ·skip
       clear hi
       refine step_call (i := 2) (o := oqWRow4) rfl (by kernel_rfl) 11 #[.agg (Hd.cells b)] (by kernel_rfl) _ (lend_any b bbs bes bls bp _ (HB.out.no HF.out.kept)) ?_
       rintro e wk31 ⟨gb, ge, gl, gp, rfl, hT, hk⟩
       have hH2 : Fr No w wk31 [(gk1, 23, Ky.cells k), (gk3, 35, Hd.cells a), (gk5, 35, Hd.cells b), (g7, 50, Mg.cells q)] := hH.no hk
       have HK0 : Hid (Kept No wr (wk31)) := HK0.out.no hk
       have HF : Hid (Fr No w (wk31) [(gk1, 23, Ky.cells k), (gk3, 35, Hd.cells a), (gk5, 35, Hd.cells b), (g7, 50, Mg.cells q)]) := HF.out.no hk
       have HT : Hid (LtAt wk31 wk30.heap.size b bbs bes bls bp gb ge gl gp) := hT
       clear hk hT
       generalize wk30.heap.size = bb at HT
       refine ⟨.agg (Hd.cells (lentH b gb ge gl gp)), rfl, hH2, fun hH => ?_⟩
       clear hH2
       try simp only [pS]
       refine any_pick (rs := [3, 4]) (by kernel_rfl) (by simp) ?_
       intro i hi
       rcases pick2 hi with rfl | rfl
       ·skip
        clear hi
        refine step_call (i := 3) (o := oqWRow5) rfl (by kernel_rfl) 17 #[.agg (Mg.cells q), .agg (Hd.cells (lentH b gb ge gl gp))] (by kernel_rfl) _ (have_any q b bbs bes bls bp gb ge gl gp bb _ (HB.out.no HF.out.kept) HT.out HMb.out) ?_
        have hGd : ∀ k, (fun k => k = gk3 ∨ k = g7) k → k < wk31.heap.size := by
         rintro k (e | e)
         · rw [e]; exact (HF.out.box 1 _ _ _ rfl).lt
         · rw [e]; exact (HF.out.box 3 _ _ _ rfl).lt
        rintro e wk32 ⟨m, rfl, hm, hmn, hk⟩
        have hH2 : Fr No w wk32 [(gk1, 23, Ky.cells k), (gk3, 35, Hd.cells a), (gk5, 35, Hd.cells b), (g7, 50, Mg.cells q)] := hH.no hk
        have HK0 : Hid (Kept No wr (wk32)) := HK0.out.no hk
        have HF : Hid (Fr No w (wk32) [(gk1, 23, Ky.cells k), (gk3, 35, Hd.cells a), (gk5, 35, Hd.cells b), (g7, 50, Mg.cells q)]) := HF.out.no hk
        have HMo : Hid (∀ k, (At m.bl.a k ∨ At m.bk.e.a k ∨ At m.bk.l.a k) → ¬ (fun k => k = gk3 ∨ k = g7) k) := show ∀ k, (At m.bl.a k ∨ At m.bk.e.a k ∨ At m.bk.l.a k) → ¬ (fun k => k = gk3 ∨ k = g7) k from fun k e f => by
         have h1 := hmn k (by rcases e with e | e | e; exact .inl e; exact .inr (.inl e); exact .inr (.inr (.inl e)))
         have h2 := hGd k f
         omega
        have HM6 : Hid (MgRd wk32 m (haveA q b bbs bes bls bp)) := hm
        have HN6 : Hid (MgNew wk31.heap.size m) := hmn
        clear hk hm hmn HT hGd
        generalize wk31.heap.size = dd at HN6
        have HS : Hid (Kept No wk32 wk32) := Kept.refl _ _
        obtain ⟨s6, hs6⟩ : ∃ n, wk32.heap.size = n := ⟨_, rfl⟩
        have HS6 : Hid (wk32.heap.size = s6) := hs6
        clear hs6
        refine ⟨.agg (Mg.cells m), rfl, hH2, fun hH => ?_⟩
        clear hH2
        try simp only [pS]
        refine any_step (i := 4) (o := oqWRow6) rfl (by kernel_rfl) (by kernel_rfl) (exec_alloc 50 rfl (Mg.cells mgZ) zero50) (Fr.front (l := [(gk1, 23, Ky.cells k), (gk3, 35, Hd.cells a), (gk5, 35, Hd.cells b), (g7, 50, Mg.cells q)]) (m := [_]) (hH.alloc _ _)) (fun hH => ?_)
        try simp only [pS]
        have hg7 : s6 ≤ wk32.heap.size := by rw [← HS6.out]; exact HS.out.size
        have hgs : s0 ≤ wk32.heap.size := by rw [← HS0.out]; exact HK0.out.size
        have HK0 : Hid (Kept No wr (wk32.alloc (.cells (Mg.cells mgZ) 50))) := HK0.out.no ((Kept.refl No _).alloc _)
        have HS : Hid (Kept No wk32 (wk32.alloc (.cells (Mg.cells mgZ) 50))) := HS.out.no ((Kept.refl No _).alloc _)
        have HF : Hid (Fr No w _ [(gk1, 23, Ky.cells k), (gk3, 35, Hd.cells a), (gk5, 35, Hd.cells b), (g7, 50, Mg.cells q), (wk32.heap.size, 50, Mg.cells mgZ)]) := HF.out.alloc _ _
        generalize wk32.alloc (.cells (Mg.cells mgZ) 50) = wk34 at HF HK0 HS hH ⊢
        generalize wk32.heap.size = gk33 at HF hg7 hgs ⊢
        refine any_store (i := 5) (o := oqWRow7) (w' := wk34.setRow gk33 (Mg.cells m)) rfl (by kernel_rfl) (by kernel_rfl) 50 _ _ rfl ⟨gk33, 0, none⟩ (.agg (Mg.cells m)) (by kernel_rfl) (by kernel_rfl) (run_store_to (cur := Mg.cs mgZ) (vs := Mg.cs m) (new := Mg.cs m) (HF.out.box 4 _ _ _ rfl) (by kernel_rfl) Try.size50 (Nat.le_of_ble_eq_true (by kernel_rfl)) (Mg.oneL _) (by kernel_rfl)) (Fr.front (l := [(gk1, 23, Ky.cells k), (gk3, 35, Hd.cells a), (gk5, 35, Hd.cells b), (g7, 50, Mg.cells q)]) (m := [(gk33, 50, Mg.cells m)]) (HF.out.set 4 rfl _)) (fun hH => ?_)
        try simp only [pS]
        have HK0 : Hid (Kept No wr (wk34.setRow gk33 (Mg.cells m))) := HK0.out.newRow (by rw [HS0.out]; exact hgs) _
        have HS : Hid (Kept No wk32 (wk34.setRow gk33 (Mg.cells m))) := HS.out.newRow (by rw [HS6.out]; exact hg7) _
        have HF : Hid (Fr No w _ [(gk1, 23, Ky.cells k), (gk3, 35, Hd.cells a), (gk5, 35, Hd.cells b), (g7, 50, Mg.cells q), (gk33, 50, Mg.cells m)]) := HF.out.set 4 rfl _
        generalize wk34.setRow gk33 (Mg.cells m) = wk35 at HF HK0 HS hH ⊢
        refine wpAnyH_done (by kernel_rfl) ?_ _
        try simp only [pS]
        clear hH
        have HMm : Hid (MgRd wk35 m (haveA q b bbs bes bls bp)) := HM6.out.no HS.out
        have HH : Hid (HdAt wk35 a ab ae al ap) := HHs.out.no HK0.out
        refine hK0 _ _ (Met.intro (hJ0 _ _ ?_))
        (repeat apply Exists.intro)
        refine ⟨?_, rfl⟩
        exact ⟨gk33, m, rfl, HMm, HMo, HH, HF⟩
       ·skip
        clear hi
        refine step_run (i := 4) (o := oqWRow6) rfl (by kernel_rfl) (exec_alloc 50 rfl (Mg.cells mgZ) zero50) (Fr.front (l := [(gk1, 23, Ky.cells k), (gk3, 35, Hd.cells a), (gk5, 35, Hd.cells b), (g7, 50, Mg.cells q)]) (m := [_]) (hH.alloc _ _)) (fun hH => ?_)
        try simp only [pS]
        have hgs : s0 ≤ wk31.heap.size := by rw [← HS0.out]; exact HK0.out.size
        have HK0 : Hid (Kept No wr (wk31.alloc (.cells (Mg.cells mgZ) 50))) := HK0.out.no ((Kept.refl No _).alloc _)
        have HT : Hid (LtAt (wk31.alloc (.cells (Mg.cells mgZ) 50)) bb b bbs bes bls bp gb ge gl gp) := HT.out.no ((Kept.refl No _).alloc _)
        have HF : Hid (Fr No w _ [(gk1, 23, Ky.cells k), (gk3, 35, Hd.cells a), (gk5, 35, Hd.cells b), (g7, 50, Mg.cells q), (wk31.heap.size, 50, Mg.cells mgZ)]) := HF.out.alloc _ _
        generalize wk31.alloc (.cells (Mg.cells mgZ) 50) = wk37 at HF HK0 HT hH ⊢
        generalize wk31.heap.size = gk36 at HF hgs ⊢
        refine any_call (i := 3) (o := oqWRow5) rfl (by kernel_rfl) (by kernel_rfl) 17 #[.agg (Mg.cells q), .agg (Hd.cells (lentH b gb ge gl gp))] (by kernel_rfl) _ (have_any q b bbs bes bls bp gb ge gl gp bb _ (HB.out.no HF.out.kept) HT.out HMb.out) ?_
        have hg9 : gk36 < wk37.heap.size := (HF.out.box 4 _ _ _ rfl).lt
        have hGd : ∀ k, (fun k => k = gk3 ∨ k = g7) k → k < wk37.heap.size := by
         rintro k (e | e)
         · rw [e]; exact (HF.out.box 1 _ _ _ rfl).lt
         · rw [e]; exact (HF.out.box 3 _ _ _ rfl).lt
        rintro e wk38 ⟨m, rfl, hm, hmn, hk⟩
        have hH2 : Fr No w wk38 [(gk1, 23, Ky.cells k), (gk3, 35, Hd.cells a), (gk5, 35, Hd.cells b), (g7, 50, Mg.cells q)] := hH.no hk
        have HK0 : Hid (Kept No wr (wk38)) := HK0.out.no hk
        have HF : Hid (Fr No w (wk38) [(gk1, 23, Ky.cells k), (gk3, 35, Hd.cells a), (gk5, 35, Hd.cells b), (g7, 50, Mg.cells q), (gk36, 50, Mg.cells mgZ)]) := HF.out.no hk
        have HMo : Hid (∀ k, (At m.bl.a k ∨ At m.bk.e.a k ∨ At m.bk.l.a k) → ¬ (fun k => k = gk3 ∨ k = g7) k) := show ∀ k, (At m.bl.a k ∨ At m.bk.e.a k ∨ At m.bk.l.a k) → ¬ (fun k => k = gk3 ∨ k = g7) k from fun k e f => by
         have h1 := hmn k (by rcases e with e | e | e; exact .inl e; exact .inr (.inl e); exact .inr (.inr (.inl e)))
         have h2 := hGd k f
         omega
        have HM6 : Hid (MgRd wk38 m (haveA q b bbs bes bls bp)) := hm
        have HN6 : Hid (MgNew wk37.heap.size m) := hmn
        clear hk hm hmn HT hGd
        generalize wk37.heap.size = dd at HN6 hg9
        have HMm : Hid (MgRd wk38 m (haveA q b bbs bes bls bp)) := HM6.out
        clear HM6
        refine ⟨.agg (Mg.cells m), rfl, hH2, fun hH => ?_⟩
        clear hH2
        try simp only [pS]
        refine any_store (i := 5) (o := oqWRow7) (w' := wk38.setRow gk36 (Mg.cells m)) rfl (by kernel_rfl) (by kernel_rfl) 50 _ _ rfl ⟨gk36, 0, none⟩ (.agg (Mg.cells m)) (by kernel_rfl) (by kernel_rfl) (run_store_to (cur := Mg.cs mgZ) (vs := Mg.cs m) (new := Mg.cs m) (HF.out.box 4 _ _ _ rfl) (by kernel_rfl) Try.size50 (Nat.le_of_ble_eq_true (by kernel_rfl)) (Mg.oneL _) (by kernel_rfl)) (Fr.front (l := [(gk1, 23, Ky.cells k), (gk3, 35, Hd.cells a), (gk5, 35, Hd.cells b), (g7, 50, Mg.cells q)]) (m := [(gk36, 50, Mg.cells m)]) (HF.out.set 4 rfl _)) (fun hH => ?_)
        try simp only [pS]
        have HK0 : Hid (Kept No wr (wk38.setRow gk36 (Mg.cells m))) := HK0.out.newRow (by rw [HS0.out]; exact hgs) _
        have HMm : Hid (MgRd (wk38.setRow gk36 (Mg.cells m)) m (haveA q b bbs bes bls bp)) := HMm.out.kept HN6.out (Kept.setRow _ _ _) (fun k e => by have e : k = gk36 := e; omega)
        have HF : Hid (Fr No w _ [(gk1, 23, Ky.cells k), (gk3, 35, Hd.cells a), (gk5, 35, Hd.cells b), (g7, 50, Mg.cells q), (gk36, 50, Mg.cells m)]) := HF.out.set 4 rfl _
        generalize wk38.setRow gk36 (Mg.cells m) = wk39 at HF HK0 HMm hH ⊢
        refine wpAnyH_done (by kernel_rfl) ?_ _
        try simp only [pS]
        clear hH
        have HH : Hid (HdAt wk39 a ab ae al ap) := HHs.out.no HK0.out
        refine hK0 _ _ (Met.intro (hJ0 _ _ ?_))
        (repeat apply Exists.intro)
        refine ⟨?_, rfl⟩
        exact ⟨gk36, m, rfl, HMm, HMo, HH, HF⟩
      ·skip
       clear hi
       refine step_run (i := 4) (o := oqWRow6) rfl (by kernel_rfl) (exec_alloc 50 rfl (Mg.cells mgZ) zero50) (Fr.front (l := [(gk1, 23, Ky.cells k), (gk3, 35, Hd.cells a), (gk5, 35, Hd.cells b), (g7, 50, Mg.cells q)]) (m := [_]) (hH.alloc _ _)) (fun hH => ?_)
       try simp only [pS]
       have hgs : s0 ≤ wk30.heap.size := by rw [← HS0.out]; exact HK0.out.size
       have HK0 : Hid (Kept No wr (wk30.alloc (.cells (Mg.cells mgZ) 50))) := HK0.out.no ((Kept.refl No _).alloc _)
       have HF : Hid (Fr No w _ [(gk1, 23, Ky.cells k), (gk3, 35, Hd.cells a), (gk5, 35, Hd.cells b), (g7, 50, Mg.cells q), (wk30.heap.size, 50, Mg.cells mgZ)]) := HF.out.alloc _ _
       generalize wk30.alloc (.cells (Mg.cells mgZ) 50) = wk41 at HF HK0 hH ⊢
       generalize wk30.heap.size = gk40 at HF hgs ⊢
       refine any_call (i := 2) (o := oqWRow4) rfl (by kernel_rfl) (by kernel_rfl) 11 #[.agg (Hd.cells b)] (by kernel_rfl) _ (lend_any b bbs bes bls bp _ (HB.out.no HF.out.kept)) ?_
       rintro e wk42 ⟨gb, ge, gl, gp, rfl, hT, hk⟩
       have hH2 : Fr No w wk42 [(gk1, 23, Ky.cells k), (gk3, 35, Hd.cells a), (gk5, 35, Hd.cells b), (g7, 50, Mg.cells q)] := hH.no hk
       have HK0 : Hid (Kept No wr (wk42)) := HK0.out.no hk
       have HF : Hid (Fr No w (wk42) [(gk1, 23, Ky.cells k), (gk3, 35, Hd.cells a), (gk5, 35, Hd.cells b), (g7, 50, Mg.cells q), (gk40, 50, Mg.cells mgZ)]) := HF.out.no hk
       have HT : Hid (LtAt wk42 wk41.heap.size b bbs bes bls bp gb ge gl gp) := hT
       clear hk hT
       generalize wk41.heap.size = bb at HT
       refine ⟨.agg (Hd.cells (lentH b gb ge gl gp)), rfl, hH2, fun hH => ?_⟩
       clear hH2
       try simp only [pS]
       refine any_call (i := 3) (o := oqWRow5) rfl (by kernel_rfl) (by kernel_rfl) 17 #[.agg (Mg.cells q), .agg (Hd.cells (lentH b gb ge gl gp))] (by kernel_rfl) _ (have_any q b bbs bes bls bp gb ge gl gp bb _ (HB.out.no HF.out.kept) HT.out HMb.out) ?_
       have hg9 : gk40 < wk42.heap.size := (HF.out.box 4 _ _ _ rfl).lt
       have hGd : ∀ k, (fun k => k = gk3 ∨ k = g7) k → k < wk42.heap.size := by
        rintro k (e | e)
        · rw [e]; exact (HF.out.box 1 _ _ _ rfl).lt
        · rw [e]; exact (HF.out.box 3 _ _ _ rfl).lt
       rintro e wk43 ⟨m, rfl, hm, hmn, hk⟩
       have hH2 : Fr No w wk43 [(gk1, 23, Ky.cells k), (gk3, 35, Hd.cells a), (gk5, 35, Hd.cells b), (g7, 50, Mg.cells q)] := hH.no hk
       have HK0 : Hid (Kept No wr (wk43)) := HK0.out.no hk
       have HF : Hid (Fr No w (wk43) [(gk1, 23, Ky.cells k), (gk3, 35, Hd.cells a), (gk5, 35, Hd.cells b), (g7, 50, Mg.cells q), (gk40, 50, Mg.cells mgZ)]) := HF.out.no hk
       have HMo : Hid (∀ k, (At m.bl.a k ∨ At m.bk.e.a k ∨ At m.bk.l.a k) → ¬ (fun k => k = gk3 ∨ k = g7) k) := show ∀ k, (At m.bl.a k ∨ At m.bk.e.a k ∨ At m.bk.l.a k) → ¬ (fun k => k = gk3 ∨ k = g7) k from fun k e f => by
        have h1 := hmn k (by rcases e with e | e | e; exact .inl e; exact .inr (.inl e); exact .inr (.inr (.inl e)))
        have h2 := hGd k f
        omega
       have HM6 : Hid (MgRd wk43 m (haveA q b bbs bes bls bp)) := hm
       have HN6 : Hid (MgNew wk42.heap.size m) := hmn
       clear hk hm hmn HT hGd
       generalize wk42.heap.size = dd at HN6 hg9
       have HMm : Hid (MgRd wk43 m (haveA q b bbs bes bls bp)) := HM6.out
       clear HM6
       refine ⟨.agg (Mg.cells m), rfl, hH2, fun hH => ?_⟩
       clear hH2
       try simp only [pS]
       refine any_store (i := 5) (o := oqWRow7) (w' := wk43.setRow gk40 (Mg.cells m)) rfl (by kernel_rfl) (by kernel_rfl) 50 _ _ rfl ⟨gk40, 0, none⟩ (.agg (Mg.cells m)) (by kernel_rfl) (by kernel_rfl) (run_store_to (cur := Mg.cs mgZ) (vs := Mg.cs m) (new := Mg.cs m) (HF.out.box 4 _ _ _ rfl) (by kernel_rfl) Try.size50 (Nat.le_of_ble_eq_true (by kernel_rfl)) (Mg.oneL _) (by kernel_rfl)) (Fr.front (l := [(gk1, 23, Ky.cells k), (gk3, 35, Hd.cells a), (gk5, 35, Hd.cells b), (g7, 50, Mg.cells q)]) (m := [(gk40, 50, Mg.cells m)]) (HF.out.set 4 rfl _)) (fun hH => ?_)
       try simp only [pS]
       have HK0 : Hid (Kept No wr (wk43.setRow gk40 (Mg.cells m))) := HK0.out.newRow (by rw [HS0.out]; exact hgs) _
       have HMm : Hid (MgRd (wk43.setRow gk40 (Mg.cells m)) m (haveA q b bbs bes bls bp)) := HMm.out.kept HN6.out (Kept.setRow _ _ _) (fun k e => by have e : k = gk40 := e; omega)
       have HF : Hid (Fr No w _ [(gk1, 23, Ky.cells k), (gk3, 35, Hd.cells a), (gk5, 35, Hd.cells b), (g7, 50, Mg.cells q), (gk40, 50, Mg.cells m)]) := HF.out.set 4 rfl _
       generalize wk43.setRow gk40 (Mg.cells m) = wk44 at HF HK0 HMm hH ⊢
       refine wpAnyH_done (by kernel_rfl) ?_ _
       try simp only [pS]
       clear hH
       have HH : Hid (HdAt wk44 a ab ae al ap) := HHs.out.no HK0.out
       refine hK0 _ _ (Met.intro (hJ0 _ _ ?_))
       (repeat apply Exists.intro)
       refine ⟨?_, rfl⟩
       exact ⟨gk40, m, rfl, HMm, HMo, HH, HF⟩
     case rest =>
      clear HF HH
      obtain ⟨g9, m, rfl, HMm, HMo, HH, HF⟩ := hcut
      go_upto_region 10 with fail
      refine wp_region_held_drew (S := fun w' => Fr No w w' [(gk1, 23, Ky.cells k), (gk3, 35, Hd.cells a), (gk5, 35, Hd.cells b), (g7, 50, Mg.cells q), (g9, 50, Mg.cells m)]) rfl (HF.out.drew) (fun hH => ?_)
      have HH : Hid (HdAt (wc.drew) a ab ae al ap) := HH.out.no (Kept.refl No _).drew
      have HMm : Hid (MgRd (wc.drew) m (haveA q b bbs bes bls bp)) := HMm.out.no (Kept.refl No _).drew
      have HF : Hid (Fr No w (wc.drew) [(gk1, 23, Ky.cells k), (gk3, 35, Hd.cells a), (gk5, 35, Hd.cells b), (g7, 50, Mg.cells q), (g9, 50, Mg.cells m)]) := HF.out.drew
      generalize wc.drew = wk45 at HF HH HMm hH ⊢
      refine aT (i := 0) (oi := { dst := some 48, op := Op.load 50 (Operand.tmp 9), type := 50, pos := "law.go:144", after := #[], guard := none }) (v := .agg (Mg.cells m)) (fun w' hw => eL 50 _ rfl ⟨g9, 0, none⟩ (run_load_part (cs := Mg.cs m) (sub := Mg.cs m) (hw.box 4 _ _ _ rfl) (Part.all _) Try.und50 rfl Try.size50)) hH ?_
      try simp only [pS]
      refine aT (i := 1) (oi := { dst := some 49, op := Op.load 50 (Operand.tmp 7), type := 50, pos := "law.go:144", after := #[], guard := none }) (v := .agg (Mg.cells q)) (fun w' hw => eL 50 _ rfl ⟨g7, 0, none⟩ (run_load_part (cs := Mg.cs q) (sub := Mg.cs q) (hw.box 3 _ _ _ rfl) (Part.all _) Try.und50 rfl Try.size50)) hH ?_
      try simp only [pS]
      refine aT (i := 2) (oi := { dst := some 50, op := Op.load 35 (Operand.tmp 5), type := 35, pos := "law.go:144", after := #[], guard := none }) (v := .agg (Hd.cells b)) (fun w' hw => eL 35 _ rfl ⟨gk5, 0, none⟩ (run_load_part (cs := Hd.cs b) (sub := Hd.cs b) (hw.box 2 _ _ _ rfl) (Part.all _) Try.und35 rfl Try.size35)) hH ?_
      try simp only [pS]
      refine any_call (i := 3) (o := { dst := some 51, op := Op.call { callee := Callee.value (Operand.func 20), args := #[Operand.tmp 49, Operand.tmp 50], argTypes := #[50, 35] }, type := 50, pos := "law.go:144", after := #[{ on := 1, ground := Ground.data }, { on := 2, ground := Ground.data }], guard := none }) rfl (by kernel_rfl) (by kernel_rfl) 20 #[.agg (Mg.cells q), .agg (Hd.cells b)] (by kernel_rfl) _ (refHave_any q b bbs bes bls bp _ (HB.out.no HF.out.kept) HMb.out) ?_
      rintro e wk46 ⟨n, rfl, hn, hk⟩
      have hH2 : Fr No w wk46 [(gk1, 23, Ky.cells k), (gk3, 35, Hd.cells a), (gk5, 35, Hd.cells b), (g7, 50, Mg.cells q), (g9, 50, Mg.cells m)] := hH.no hk
      have HH : Hid (HdAt (wk46) a ab ae al ap) := HH.out.no hk
      have HMm : Hid (MgRd (wk46) m (haveA q b bbs bes bls bp)) := HMm.out.no hk
      have HF : Hid (Fr No w (wk46) [(gk1, 23, Ky.cells k), (gk3, 35, Hd.cells a), (gk5, 35, Hd.cells b), (g7, 50, Mg.cells q), (g9, 50, Mg.cells m)]) := HF.out.no hk
      have HN2 : Hid (MgRd wk46 n (haveA q b bbs bes bls bp)) := hn
      clear hk hn
      refine ⟨.agg (Mg.cells n), rfl, hH2, fun hH => ?_⟩
      clear hH2
      try simp only [pS]
      refine any_call (i := 4) (o := { dst := some 52, op := Op.call { callee := Callee.value (Operand.func 14), args := #[Operand.tmp 48, Operand.tmp 51], argTypes := #[50, 50] }, type := 4, pos := "law.go:144", after := #[{ on := 0, ground := Ground.data }, { on := 3, ground := Ground.data }, { on := 3, ground := Ground.chain }], guard := none }) rfl (by kernel_rfl) (by kernel_rfl) 14 #[.agg (Mg.cells m), .agg (Mg.cells n)] (by kernel_rfl) _ (sameM2 m n (haveA q b bbs bes bls bp) _ HMm.out HN2.out (hv_len q b bbs bes bls bp (by omega) (by omega)).1 (hv_len q b bbs bes bls bp (by omega) (by omega)).2.1 (hv_len q b bbs bes bls bp (by omega) (by omega)).2.2) ?_
      rintro e wk47 ⟨rfl, hk⟩
      have hH2 : Fr No w wk47 [(gk1, 23, Ky.cells k), (gk3, 35, Hd.cells a), (gk5, 35, Hd.cells b), (g7, 50, Mg.cells q), (g9, 50, Mg.cells m)] := hH.no hk
      have HH : Hid (HdAt (wk47) a ab ae al ap) := HH.out.no hk
      have HMm : Hid (MgRd (wk47) m (haveA q b bbs bes bls bp)) := HMm.out.no hk
      have HN2 : Hid (MgRd (wk47) n (haveA q b bbs bes bls bp)) := HN2.out.no hk
      have HF : Hid (Fr No w (wk47) [(gk1, 23, Ky.cells k), (gk3, 35, Hd.cells a), (gk5, 35, Hd.cells b), (g7, 50, Mg.cells q), (g9, 50, Mg.cells m)]) := HF.out.no hk
      clear hk
      refine ⟨.bool true, rfl, hH2, fun hH => ?_⟩
      clear hH2
      try simp only [pS]
      refine aT (i := 5) (oi := { dst := some 53, op := Op.unOp UnOp.not 4 (Operand.tmp 52), type := 4, pos := "law.go:144", after := #[{ on := 4, ground := Ground.data }], guard := none }) (v := .bool false) (fun _ _ => by kernel_rfl) hH ?_
      try simp only [pS]
      refine wpAnyH_done (by kernel_rfl) ?_ _
      try simp only [pS]
      clear hH
      clear HN2
      have hvb := hv_b q b bbs bes bls bp
      go_upto_region 12 with fail
      go_cut [10, 11, 12] from 40 to 98 (fun v10 v11 v12 wc => ∃ (g11 : Nat) (s : Sl) (X : List Ch), v10 = s.v ∧ v11 = .pointer (some ⟨g11, 0, none⟩) ∧ v12 = .bool (takeA m a (haveA q b bbs bes bls bp).b (haveA q b bbs bes bls bp).e (haveA q b bbs bes bls bp).l (haveA q b bbs bes bls bp).c ap).o ∧ Hid (TkRd wc s (takeA m a (haveA q b bbs bes bls bp).b (haveA q b bbs bes bls bp).e (haveA q b bbs bes bls bp).l (haveA q b bbs bes bls bp).c ap).z (takeA m a (haveA q b bbs bes bls bp).b (haveA q b bbs bes bls bp).e (haveA q b bbs bes bls bp).l (haveA q b bbs bes bls bp).c ap).b (takeA m a (haveA q b bbs bes bls bp).b (haveA q b bbs bes bls bp).e (haveA q b bbs bes bls bp).l (haveA q b bbs bes bls bp).c ap).e (takeA m a (haveA q b bbs bes bls bp).b (haveA q b bbs bes bls bp).e (haveA q b bbs bes bls bp).l (haveA q b bbs bes bls bp).c ap).l X) ∧ Hid (MgRd wc m (haveA q b bbs bes bls bp)) ∧ Hid (HdAt wc a ab ae al ap) ∧ Hid (Fr No w wc [(gk1, 23, Ky.cells k), (gk3, 35, Hd.cells a), (gk5, 35, Hd.cells b), (g7, 50, Mg.cells q), (g9, 50, Mg.cells m), (g11, 50, Mg.cells ((takeA m a (haveA q b bbs bes bls bp).b (haveA q b bbs bes bls bp).e (haveA q b bbs bes bls bp).l (haveA q b bbs bes bls bp).c ap).m))]))
      case first =>
       rename_i J0 K0 hJ0 hK0
       have HHs : Hid (HdAt wk47 a ab ae al ap) := HH
       have HMs : Hid (MgRd wk47 m (haveA q b bbs bes bls bp)) := HMm
       clear HH HMm
       have HK0 : Hid (Kept No wk47 wk47) := Kept.refl _ _
       obtain ⟨s0, hs0⟩ : ∃ n, wk47.heap.size = n := ⟨_, rfl⟩
       have HS0 : Hid (wk47.heap.size = s0) := hs0
       clear hs0
       refine wp_region_held_drew (S := fun w' => Fr No w w' [(gk1, 23, Ky.cells k), (gk3, 35, Hd.cells a), (gk5, 35, Hd.cells b), (g7, 50, Mg.cells q), (g9, 50, Mg.cells m)]) rfl (HF.out.drew) (fun hH => ?_)
       have HK0 : Hid (Kept No wk47 (wk47.drew)) := HK0.out.no (Kept.refl No _).drew
       have HF : Hid (Fr No w (wk47.drew) [(gk1, 23, Ky.cells k), (gk3, 35, Hd.cells a), (gk5, 35, Hd.cells b), (g7, 50, Mg.cells q), (g9, 50, Mg.cells m)]) := HF.out.drew
       generalize wk47.drew = wk48 at HF HK0 hH ⊢
       refine aT (i := 0) (oi := { dst := some 55, op := Op.load 50 (Operand.tmp 9), type := 50, pos := "law.go:147", after := #[], guard := none }) (v := .agg (Mg.cells m)) (fun w' hw => eL 50 _ rfl ⟨g9, 0, none⟩ (run_load_part (cs := Mg.cs m) (sub := Mg.cs m) (hw.box 4 _ _ _ rfl) (Part.all _) Try.und50 rfl Try.size50)) hH ?_
       try simp only [pS]
       refine aT (i := 1) (oi := { dst := some 56, op := Op.load 35 (Operand.tmp 4), type := 35, pos := "law.go:147", after := #[], guard := none }) (v := .agg (Hd.cells a)) (fun w' hw => eL 35 _ rfl ⟨gk3, 0, none⟩ (run_load_part (cs := Hd.cs a) (sub := Hd.cs a) (hw.box 1 _ _ _ rfl) (Part.all _) Try.und35 rfl Try.size35)) hH ?_
       try simp only [pS]
       refine any_pick (rs := [2, 8]) (by kernel_rfl) (by simp) ?_
       intro i hi
       rcases pick2 hi with rfl | rfl
       ·skip
        clear hi
        refine step_call (i := 2) (o := oqWRow8) rfl (by kernel_rfl) 11 #[.agg (Hd.cells a)] (by kernel_rfl) _ (lend_any a ab ae al ap _ (HHs.out.no HK0.out)) ?_
        rintro e wk49 ⟨gb, ge, gl, gp, rfl, hT, hk⟩
        have hH2 : Fr No w wk49 [(gk1, 23, Ky.cells k), (gk3, 35, Hd.cells a), (gk5, 35, Hd.cells b), (g7, 50, Mg.cells q), (g9, 50, Mg.cells m)] := hH.no hk
        have HK0 : Hid (Kept No wk47 (wk49)) := HK0.out.no hk
        have HF : Hid (Fr No w (wk49) [(gk1, 23, Ky.cells k), (gk3, 35, Hd.cells a), (gk5, 35, Hd.cells b), (g7, 50, Mg.cells q), (g9, 50, Mg.cells m)]) := HF.out.no hk
        have HT : Hid (LtAt wk49 wk48.heap.size a ab ae al ap gb ge gl gp) := hT
        clear hk hT
        generalize wk48.heap.size = bb at HT
        refine ⟨.agg (Hd.cells (lentH a gb ge gl gp)), rfl, hH2, fun hH => ?_⟩
        clear hH2
        try simp only [pS]
        refine any_pick (rs := [3, 8]) (by kernel_rfl) (by simp) ?_
        intro i hi
        rcases pick2 hi with rfl | rfl
        ·skip
         clear hi
         refine step_call (i := 3) (o := oqWRow9) rfl (by kernel_rfl) 21 #[.agg (Mg.cells m), .agg (Hd.cells (lentH a gb ge gl gp))] (by kernel_rfl) _ (take_gen m a (haveA q b bbs bes bls bp).b (haveA q b bbs bes bls bp).e (haveA q b bbs bes bls bp).l (haveA q b bbs bes bls bp).c ab ae al ap gb ge gl gp bb _ ((HMs.out.no HK0.out).at (by omega) (by omega) (by omega) (by omega)) (HHs.out.no HK0.out) HT.out HMa.out) ?_
         rintro e wk50 ⟨s, X, rfl, hm, hmn, hk⟩
         have hH2 : Fr No w wk50 [(gk1, 23, Ky.cells k), (gk3, 35, Hd.cells a), (gk5, 35, Hd.cells b), (g7, 50, Mg.cells q), (g9, 50, Mg.cells m)] := hH.no hk
         have HK0 : Hid (Kept No wk47 (wk50)) := HK0.out.no hk
         have HF : Hid (Fr No w (wk50) [(gk1, 23, Ky.cells k), (gk3, 35, Hd.cells a), (gk5, 35, Hd.cells b), (g7, 50, Mg.cells q), (g9, 50, Mg.cells m)]) := HF.out.no hk
         have HK6 : Hid (TkRd wk50 s (takeA m a (haveA q b bbs bes bls bp).b (haveA q b bbs bes bls bp).e (haveA q b bbs bes bls bp).l (haveA q b bbs bes bls bp).c ap).z (takeA m a (haveA q b bbs bes bls bp).b (haveA q b bbs bes bls bp).e (haveA q b bbs bes bls bp).l (haveA q b bbs bes bls bp).c ap).b (takeA m a (haveA q b bbs bes bls bp).b (haveA q b bbs bes bls bp).e (haveA q b bbs bes bls bp).l (haveA q b bbs bes bls bp).c ap).e (takeA m a (haveA q b bbs bes bls bp).b (haveA q b bbs bes bls bp).e (haveA q b bbs bes bls bp).l (haveA q b bbs bes bls bp).c ap).l X) := hm
         have HN6 : Hid (TkNew wk49.heap.size s X) := hmn
         clear hk hm hmn HT
         generalize wk49.heap.size = dd at HN6
         have HS : Hid (Kept No wk50 wk50) := Kept.refl _ _
         obtain ⟨s6, hs6⟩ : ∃ n, wk50.heap.size = n := ⟨_, rfl⟩
         have HS6 : Hid (wk50.heap.size = s6) := hs6
         clear hs6
         refine ⟨.tuple #[s.v, .agg (Mg.cells (takeA m a (haveA q b bbs bes bls bp).b (haveA q b bbs bes bls bp).e (haveA q b bbs bes bls bp).l (haveA q b bbs bes bls bp).c ap).m), .bool (takeA m a (haveA q b bbs bes bls bp).b (haveA q b bbs bes bls bp).e (haveA q b bbs bes bls bp).l (haveA q b bbs bes bls bp).c ap).o], rfl, hH2, fun hH => ?_⟩
         clear hH2
         try simp only [pS]
         refine aT (i := 4) (oi := oqWRow10) (v := .tuple #[s.v, .agg (Mg.cells (takeA m a (haveA q b bbs bes bls bp).b (haveA q b bbs bes bls bp).e (haveA q b bbs bes bls bp).l (haveA q b bbs bes bls bp).c ap).m), .bool (takeA m a (haveA q b bbs bes bls bp).b (haveA q b bbs bes bls bp).e (haveA q b bbs bes bls bp).l (haveA q b bbs bes bls bp).c ap).o]) (fun _ _ => by kernel_rfl) hH ?_
         try simp only [pS]
         refine aT (i := 5) (oi := oqWRow11) (v := s.v) (fun _ _ => by kernel_rfl) hH ?_
         try simp only [pS]
         refine aT (i := 6) (oi := oqWRow12) (v := .agg (Mg.cells ((takeA m a (haveA q b bbs bes bls bp).b (haveA q b bbs bes bls bp).e (haveA q b bbs bes bls bp).l (haveA q b bbs bes bls bp).c ap).m))) (fun _ _ => by kernel_rfl) hH ?_
         try simp only [pS]
         refine aT (i := 7) (oi := oqWRow13) (v := .bool (takeA m a (haveA q b bbs bes bls bp).b (haveA q b bbs bes bls bp).e (haveA q b bbs bes bls bp).l (haveA q b bbs bes bls bp).c ap).o) (fun _ _ => by kernel_rfl) hH ?_
         try simp only [pS]
         refine any_step (i := 8) (o := oqWRow14) rfl (by kernel_rfl) (by kernel_rfl) (exec_alloc 50 rfl (Mg.cells mgZ) zero50) (Fr.front (l := [(gk1, 23, Ky.cells k), (gk3, 35, Hd.cells a), (gk5, 35, Hd.cells b), (g7, 50, Mg.cells q), (g9, 50, Mg.cells m)]) (m := [_]) (hH.alloc _ _)) (fun hH => ?_)
         try simp only [pS]
         have hg7 : s6 ≤ wk50.heap.size := by rw [← HS6.out]; exact HS.out.size
         have hgs : s0 ≤ wk50.heap.size := by rw [← HS0.out]; exact HK0.out.size
         have HK0 : Hid (Kept No wk47 (wk50.alloc (.cells (Mg.cells mgZ) 50))) := HK0.out.no ((Kept.refl No _).alloc _)
         have HS : Hid (Kept No wk50 (wk50.alloc (.cells (Mg.cells mgZ) 50))) := HS.out.no ((Kept.refl No _).alloc _)
         have HF : Hid (Fr No w _ [(gk1, 23, Ky.cells k), (gk3, 35, Hd.cells a), (gk5, 35, Hd.cells b), (g7, 50, Mg.cells q), (g9, 50, Mg.cells m), (wk50.heap.size, 50, Mg.cells mgZ)]) := HF.out.alloc _ _
         generalize wk50.alloc (.cells (Mg.cells mgZ) 50) = wk52 at HF HK0 HS hH ⊢
         generalize wk50.heap.size = gk51 at HF hg7 hgs ⊢
         refine aT (i := 9) (oi := oqWRow15) (v := s.v) (fun _ _ => by kernel_rfl) hH ?_
         try simp only [pS]
         refine any_store (i := 10) (o := oqWRow16) (w' := wk52.setRow gk51 (Mg.cells ((takeA m a (haveA q b bbs bes bls bp).b (haveA q b bbs bes bls bp).e (haveA q b bbs bes bls bp).l (haveA q b bbs bes bls bp).c ap).m))) rfl (by kernel_rfl) (by kernel_rfl) 50 _ _ rfl ⟨gk51, 0, none⟩ (.agg (Mg.cells ((takeA m a (haveA q b bbs bes bls bp).b (haveA q b bbs bes bls bp).e (haveA q b bbs bes bls bp).l (haveA q b bbs bes bls bp).c ap).m))) (by kernel_rfl) (by kernel_rfl) (run_store_to (cur := Mg.cs mgZ) (vs := Mg.cs ((takeA m a (haveA q b bbs bes bls bp).b (haveA q b bbs bes bls bp).e (haveA q b bbs bes bls bp).l (haveA q b bbs bes bls bp).c ap).m)) (new := Mg.cs ((takeA m a (haveA q b bbs bes bls bp).b (haveA q b bbs bes bls bp).e (haveA q b bbs bes bls bp).l (haveA q b bbs bes bls bp).c ap).m)) (HF.out.box 5 _ _ _ rfl) (by kernel_rfl) Try.size50 (Nat.le_of_ble_eq_true (by kernel_rfl)) (Mg.oneL _) (by kernel_rfl)) (Fr.front (l := [(gk1, 23, Ky.cells k), (gk3, 35, Hd.cells a), (gk5, 35, Hd.cells b), (g7, 50, Mg.cells q), (g9, 50, Mg.cells m)]) (m := [(gk51, 50, Mg.cells ((takeA m a (haveA q b bbs bes bls bp).b (haveA q b bbs bes bls bp).e (haveA q b bbs bes bls bp).l (haveA q b bbs bes bls bp).c ap).m))]) (HF.out.set 5 rfl _)) (fun hH => ?_)
         try simp only [pS]
         have HK0 : Hid (Kept No wk47 (wk52.setRow gk51 (Mg.cells ((takeA m a (haveA q b bbs bes bls bp).b (haveA q b bbs bes bls bp).e (haveA q b bbs bes bls bp).l (haveA q b bbs bes bls bp).c ap).m)))) := HK0.out.newRow (by rw [HS0.out]; exact hgs) _
         have HS : Hid (Kept No wk50 (wk52.setRow gk51 (Mg.cells ((takeA m a (haveA q b bbs bes bls bp).b (haveA q b bbs bes bls bp).e (haveA q b bbs bes bls bp).l (haveA q b bbs bes bls bp).c ap).m)))) := HS.out.newRow (by rw [HS6.out]; exact hg7) _
         have HF : Hid (Fr No w _ [(gk1, 23, Ky.cells k), (gk3, 35, Hd.cells a), (gk5, 35, Hd.cells b), (g7, 50, Mg.cells q), (g9, 50, Mg.cells m), (gk51, 50, Mg.cells ((takeA m a (haveA q b bbs bes bls bp).b (haveA q b bbs bes bls bp).e (haveA q b bbs bes bls bp).l (haveA q b bbs bes bls bp).c ap).m))]) := HF.out.set 5 rfl _
         generalize wk52.setRow gk51 (Mg.cells ((takeA m a (haveA q b bbs bes bls bp).b (haveA q b bbs bes bls bp).e (haveA q b bbs bes bls bp).l (haveA q b bbs bes bls bp).c ap).m)) = wk53 at HF HK0 HS hH ⊢
         refine aT (i := 11) (oi := oqWRow17) (v := .bool (takeA m a (haveA q b bbs bes bls bp).b (haveA q b bbs bes bls bp).e (haveA q b bbs bes bls bp).l (haveA q b bbs bes bls bp).c ap).o) (fun _ _ => by kernel_rfl) hH ?_
         try simp only [pS]
         refine wpAnyH_done (by kernel_rfl) ?_ _
         try simp only [pS]
         clear hH
         have HK : Hid (TkRd wk53 s (takeA m a (haveA q b bbs bes bls bp).b (haveA q b bbs bes bls bp).e (haveA q b bbs bes bls bp).l (haveA q b bbs bes bls bp).c ap).z (takeA m a (haveA q b bbs bes bls bp).b (haveA q b bbs bes bls bp).e (haveA q b bbs bes bls bp).l (haveA q b bbs bes bls bp).c ap).b (takeA m a (haveA q b bbs bes bls bp).b (haveA q b bbs bes bls bp).e (haveA q b bbs bes bls bp).l (haveA q b bbs bes bls bp).c ap).e (takeA m a (haveA q b bbs bes bls bp).b (haveA q b bbs bes bls bp).e (haveA q b bbs bes bls bp).l (haveA q b bbs bes bls bp).c ap).l X) := HK6.out.no HS.out
         have HH : Hid (HdAt wk53 a ab ae al ap) := HHs.out.no HK0.out
         have HMm : Hid (MgRd wk53 m (haveA q b bbs bes bls bp)) := HMs.out.no HK0.out
         refine hK0 _ _ (Met.intro (hJ0 _ _ ?_))
         (repeat apply Exists.intro)
         refine ⟨?_, rfl⟩
         exact ⟨gk51, s, X, rfl, rfl, rfl, HK, HMm, HH, HF⟩
        ·skip
         clear hi
         refine step_run (i := 8) (o := oqWRow14) rfl (by kernel_rfl) (exec_alloc 50 rfl (Mg.cells mgZ) zero50) (Fr.front (l := [(gk1, 23, Ky.cells k), (gk3, 35, Hd.cells a), (gk5, 35, Hd.cells b), (g7, 50, Mg.cells q), (g9, 50, Mg.cells m)]) (m := [_]) (hH.alloc _ _)) (fun hH => ?_)
         try simp only [pS]
         have hgs : s0 ≤ wk49.heap.size := by rw [← HS0.out]; exact HK0.out.size
         have HK0 : Hid (Kept No wk47 (wk49.alloc (.cells (Mg.cells mgZ) 50))) := HK0.out.no ((Kept.refl No _).alloc _)
         have HT : Hid (LtAt (wk49.alloc (.cells (Mg.cells mgZ) 50)) bb a ab ae al ap gb ge gl gp) := HT.out.no ((Kept.refl No _).alloc _)
         have HF : Hid (Fr No w _ [(gk1, 23, Ky.cells k), (gk3, 35, Hd.cells a), (gk5, 35, Hd.cells b), (g7, 50, Mg.cells q), (g9, 50, Mg.cells m), (wk49.heap.size, 50, Mg.cells mgZ)]) := HF.out.alloc _ _
         generalize wk49.alloc (.cells (Mg.cells mgZ) 50) = wk55 at HF HK0 HT hH ⊢
         generalize wk49.heap.size = gk54 at HF hgs ⊢
         refine any_call (i := 3) (o := oqWRow9) rfl (by kernel_rfl) (by kernel_rfl) 21 #[.agg (Mg.cells m), .agg (Hd.cells (lentH a gb ge gl gp))] (by kernel_rfl) _ (take_gen m a (haveA q b bbs bes bls bp).b (haveA q b bbs bes bls bp).e (haveA q b bbs bes bls bp).l (haveA q b bbs bes bls bp).c ab ae al ap gb ge gl gp bb _ ((HMs.out.no HK0.out).at (by omega) (by omega) (by omega) (by omega)) (HHs.out.no HK0.out) HT.out HMa.out) ?_
         have hg9 : gk54 < wk55.heap.size := (HF.out.box 5 _ _ _ rfl).lt
         rintro e wk56 ⟨s, X, rfl, hm, hmn, hk⟩
         have hH2 : Fr No w wk56 [(gk1, 23, Ky.cells k), (gk3, 35, Hd.cells a), (gk5, 35, Hd.cells b), (g7, 50, Mg.cells q), (g9, 50, Mg.cells m)] := hH.no hk
         have HK0 : Hid (Kept No wk47 (wk56)) := HK0.out.no hk
         have HF : Hid (Fr No w (wk56) [(gk1, 23, Ky.cells k), (gk3, 35, Hd.cells a), (gk5, 35, Hd.cells b), (g7, 50, Mg.cells q), (g9, 50, Mg.cells m), (gk54, 50, Mg.cells mgZ)]) := HF.out.no hk
         have HK6 : Hid (TkRd wk56 s (takeA m a (haveA q b bbs bes bls bp).b (haveA q b bbs bes bls bp).e (haveA q b bbs bes bls bp).l (haveA q b bbs bes bls bp).c ap).z (takeA m a (haveA q b bbs bes bls bp).b (haveA q b bbs bes bls bp).e (haveA q b bbs bes bls bp).l (haveA q b bbs bes bls bp).c ap).b (takeA m a (haveA q b bbs bes bls bp).b (haveA q b bbs bes bls bp).e (haveA q b bbs bes bls bp).l (haveA q b bbs bes bls bp).c ap).e (takeA m a (haveA q b bbs bes bls bp).b (haveA q b bbs bes bls bp).e (haveA q b bbs bes bls bp).l (haveA q b bbs bes bls bp).c ap).l X) := hm
         have HN6 : Hid (TkNew wk55.heap.size s X) := hmn
         clear hk hm hmn HT
         generalize wk55.heap.size = dd at HN6 hg9
         have HK : Hid (TkRd wk56 s (takeA m a (haveA q b bbs bes bls bp).b (haveA q b bbs bes bls bp).e (haveA q b bbs bes bls bp).l (haveA q b bbs bes bls bp).c ap).z (takeA m a (haveA q b bbs bes bls bp).b (haveA q b bbs bes bls bp).e (haveA q b bbs bes bls bp).l (haveA q b bbs bes bls bp).c ap).b (takeA m a (haveA q b bbs bes bls bp).b (haveA q b bbs bes bls bp).e (haveA q b bbs bes bls bp).l (haveA q b bbs bes bls bp).c ap).e (takeA m a (haveA q b bbs bes bls bp).b (haveA q b bbs bes bls bp).e (haveA q b bbs bes bls bp).l (haveA q b bbs bes bls bp).c ap).l X) := HK6.out
         clear HK6
         refine ⟨.tuple #[s.v, .agg (Mg.cells (takeA m a (haveA q b bbs bes bls bp).b (haveA q b bbs bes bls bp).e (haveA q b bbs bes bls bp).l (haveA q b bbs bes bls bp).c ap).m), .bool (takeA m a (haveA q b bbs bes bls bp).b (haveA q b bbs bes bls bp).e (haveA q b bbs bes bls bp).l (haveA q b bbs bes bls bp).c ap).o], rfl, hH2, fun hH => ?_⟩
         clear hH2
         try simp only [pS]
         refine aT (i := 4) (oi := oqWRow10) (v := .tuple #[s.v, .agg (Mg.cells (takeA m a (haveA q b bbs bes bls bp).b (haveA q b bbs bes bls bp).e (haveA q b bbs bes bls bp).l (haveA q b bbs bes bls bp).c ap).m), .bool (takeA m a (haveA q b bbs bes bls bp).b (haveA q b bbs bes bls bp).e (haveA q b bbs bes bls bp).l (haveA q b bbs bes bls bp).c ap).o]) (fun _ _ => by kernel_rfl) hH ?_
         try simp only [pS]
         refine aT (i := 5) (oi := oqWRow11) (v := s.v) (fun _ _ => by kernel_rfl) hH ?_
         try simp only [pS]
         refine aT (i := 6) (oi := oqWRow12) (v := .agg (Mg.cells ((takeA m a (haveA q b bbs bes bls bp).b (haveA q b bbs bes bls bp).e (haveA q b bbs bes bls bp).l (haveA q b bbs bes bls bp).c ap).m))) (fun _ _ => by kernel_rfl) hH ?_
         try simp only [pS]
         refine aT (i := 7) (oi := oqWRow13) (v := .bool (takeA m a (haveA q b bbs bes bls bp).b (haveA q b bbs bes bls bp).e (haveA q b bbs bes bls bp).l (haveA q b bbs bes bls bp).c ap).o) (fun _ _ => by kernel_rfl) hH ?_
         try simp only [pS]
         refine aT (i := 9) (oi := oqWRow15) (v := s.v) (fun _ _ => by kernel_rfl) hH ?_
         try simp only [pS]
         refine any_store (i := 10) (o := oqWRow16) (w' := wk56.setRow gk54 (Mg.cells ((takeA m a (haveA q b bbs bes bls bp).b (haveA q b bbs bes bls bp).e (haveA q b bbs bes bls bp).l (haveA q b bbs bes bls bp).c ap).m))) rfl (by kernel_rfl) (by kernel_rfl) 50 _ _ rfl ⟨gk54, 0, none⟩ (.agg (Mg.cells ((takeA m a (haveA q b bbs bes bls bp).b (haveA q b bbs bes bls bp).e (haveA q b bbs bes bls bp).l (haveA q b bbs bes bls bp).c ap).m))) (by kernel_rfl) (by kernel_rfl) (run_store_to (cur := Mg.cs mgZ) (vs := Mg.cs ((takeA m a (haveA q b bbs bes bls bp).b (haveA q b bbs bes bls bp).e (haveA q b bbs bes bls bp).l (haveA q b bbs bes bls bp).c ap).m)) (new := Mg.cs ((takeA m a (haveA q b bbs bes bls bp).b (haveA q b bbs bes bls bp).e (haveA q b bbs bes bls bp).l (haveA q b bbs bes bls bp).c ap).m)) (HF.out.box 5 _ _ _ rfl) (by kernel_rfl) Try.size50 (Nat.le_of_ble_eq_true (by kernel_rfl)) (Mg.oneL _) (by kernel_rfl)) (Fr.front (l := [(gk1, 23, Ky.cells k), (gk3, 35, Hd.cells a), (gk5, 35, Hd.cells b), (g7, 50, Mg.cells q), (g9, 50, Mg.cells m)]) (m := [(gk54, 50, Mg.cells ((takeA m a (haveA q b bbs bes bls bp).b (haveA q b bbs bes bls bp).e (haveA q b bbs bes bls bp).l (haveA q b bbs bes bls bp).c ap).m))]) (HF.out.set 5 rfl _)) (fun hH => ?_)
         try simp only [pS]
         have HK0 : Hid (Kept No wk47 (wk56.setRow gk54 (Mg.cells ((takeA m a (haveA q b bbs bes bls bp).b (haveA q b bbs bes bls bp).e (haveA q b bbs bes bls bp).l (haveA q b bbs bes bls bp).c ap).m)))) := HK0.out.newRow (by rw [HS0.out]; exact hgs) _
         have HK : Hid (TkRd (wk56.setRow gk54 (Mg.cells ((takeA m a (haveA q b bbs bes bls bp).b (haveA q b bbs bes bls bp).e (haveA q b bbs bes bls bp).l (haveA q b bbs bes bls bp).c ap).m))) s (takeA m a (haveA q b bbs bes bls bp).b (haveA q b bbs bes bls bp).e (haveA q b bbs bes bls bp).l (haveA q b bbs bes bls bp).c ap).z (takeA m a (haveA q b bbs bes bls bp).b (haveA q b bbs bes bls bp).e (haveA q b bbs bes bls bp).l (haveA q b bbs bes bls bp).c ap).b (takeA m a (haveA q b bbs bes bls bp).b (haveA q b bbs bes bls bp).e (haveA q b bbs bes bls bp).l (haveA q b bbs bes bls bp).c ap).e (takeA m a (haveA q b bbs bes bls bp).b (haveA q b bbs bes bls bp).e (haveA q b bbs bes bls bp).l (haveA q b bbs bes bls bp).c ap).l X) := HK.out.kept HN6.out (Kept.setRow _ _ _) (fun k e => by have e : k = gk54 := e; omega)
         have HF : Hid (Fr No w _ [(gk1, 23, Ky.cells k), (gk3, 35, Hd.cells a), (gk5, 35, Hd.cells b), (g7, 50, Mg.cells q), (g9, 50, Mg.cells m), (gk54, 50, Mg.cells ((takeA m a (haveA q b bbs bes bls bp).b (haveA q b bbs bes bls bp).e (haveA q b bbs bes bls bp).l (haveA q b bbs bes bls bp).c ap).m))]) := HF.out.set 5 rfl _
         generalize wk56.setRow gk54 (Mg.cells ((takeA m a (haveA q b bbs bes bls bp).b (haveA q b bbs bes bls bp).e (haveA q b bbs bes bls bp).l (haveA q b bbs bes bls bp).c ap).m)) = wk57 at HF HK0 HK hH ⊢
         refine aT (i := 11) (oi := oqWRow17) (v := .bool (takeA m a (haveA q b bbs bes bls bp).b (haveA q b bbs bes bls bp).e (haveA q b bbs bes bls bp).l (haveA q b bbs bes bls bp).c ap).o) (fun _ _ => by kernel_rfl) hH ?_
         try simp only [pS]
         refine wpAnyH_done (by kernel_rfl) ?_ _
         try simp only [pS]
         clear hH
         have HH : Hid (HdAt wk57 a ab ae al ap) := HHs.out.no HK0.out
         have HMm : Hid (MgRd wk57 m (haveA q b bbs bes bls bp)) := HMs.out.no HK0.out
         refine hK0 _ _ (Met.intro (hJ0 _ _ ?_))
         (repeat apply Exists.intro)
         refine ⟨?_, rfl⟩
         exact ⟨gk54, s, X, rfl, rfl, rfl, HK, HMm, HH, HF⟩
       ·skip
        clear hi
        refine step_run (i := 8) (o := oqWRow14) rfl (by kernel_rfl) (exec_alloc 50 rfl (Mg.cells mgZ) zero50) (Fr.front (l := [(gk1, 23, Ky.cells k), (gk3, 35, Hd.cells a), (gk5, 35, Hd.cells b), (g7, 50, Mg.cells q), (g9, 50, Mg.cells m)]) (m := [_]) (hH.alloc _ _)) (fun hH => ?_)
        try simp only [pS]
        have hgs : s0 ≤ wk48.heap.size := by rw [← HS0.out]; exact HK0.out.size
        have HK0 : Hid (Kept No wk47 (wk48.alloc (.cells (Mg.cells mgZ) 50))) := HK0.out.no ((Kept.refl No _).alloc _)
        have HF : Hid (Fr No w _ [(gk1, 23, Ky.cells k), (gk3, 35, Hd.cells a), (gk5, 35, Hd.cells b), (g7, 50, Mg.cells q), (g9, 50, Mg.cells m), (wk48.heap.size, 50, Mg.cells mgZ)]) := HF.out.alloc _ _
        generalize wk48.alloc (.cells (Mg.cells mgZ) 50) = wk59 at HF HK0 hH ⊢
        generalize wk48.heap.size = gk58 at HF hgs ⊢
        refine any_call (i := 2) (o := oqWRow8) rfl (by kernel_rfl) (by kernel_rfl) 11 #[.agg (Hd.cells a)] (by kernel_rfl) _ (lend_any a ab ae al ap _ (HHs.out.no HK0.out)) ?_
        rintro e wk60 ⟨gb, ge, gl, gp, rfl, hT, hk⟩
        have hH2 : Fr No w wk60 [(gk1, 23, Ky.cells k), (gk3, 35, Hd.cells a), (gk5, 35, Hd.cells b), (g7, 50, Mg.cells q), (g9, 50, Mg.cells m)] := hH.no hk
        have HK0 : Hid (Kept No wk47 (wk60)) := HK0.out.no hk
        have HF : Hid (Fr No w (wk60) [(gk1, 23, Ky.cells k), (gk3, 35, Hd.cells a), (gk5, 35, Hd.cells b), (g7, 50, Mg.cells q), (g9, 50, Mg.cells m), (gk58, 50, Mg.cells mgZ)]) := HF.out.no hk
        have HT : Hid (LtAt wk60 wk59.heap.size a ab ae al ap gb ge gl gp) := hT
        clear hk hT
        generalize wk59.heap.size = bb at HT
        refine ⟨.agg (Hd.cells (lentH a gb ge gl gp)), rfl, hH2, fun hH => ?_⟩
        clear hH2
        try simp only [pS]
        refine any_call (i := 3) (o := oqWRow9) rfl (by kernel_rfl) (by kernel_rfl) 21 #[.agg (Mg.cells m), .agg (Hd.cells (lentH a gb ge gl gp))] (by kernel_rfl) _ (take_gen m a (haveA q b bbs bes bls bp).b (haveA q b bbs bes bls bp).e (haveA q b bbs bes bls bp).l (haveA q b bbs bes bls bp).c ab ae al ap gb ge gl gp bb _ ((HMs.out.no HK0.out).at (by omega) (by omega) (by omega) (by omega)) (HHs.out.no HK0.out) HT.out HMa.out) ?_
        have hg9 : gk58 < wk60.heap.size := (HF.out.box 5 _ _ _ rfl).lt
        rintro e wk61 ⟨s, X, rfl, hm, hmn, hk⟩
        have hH2 : Fr No w wk61 [(gk1, 23, Ky.cells k), (gk3, 35, Hd.cells a), (gk5, 35, Hd.cells b), (g7, 50, Mg.cells q), (g9, 50, Mg.cells m)] := hH.no hk
        have HK0 : Hid (Kept No wk47 (wk61)) := HK0.out.no hk
        have HF : Hid (Fr No w (wk61) [(gk1, 23, Ky.cells k), (gk3, 35, Hd.cells a), (gk5, 35, Hd.cells b), (g7, 50, Mg.cells q), (g9, 50, Mg.cells m), (gk58, 50, Mg.cells mgZ)]) := HF.out.no hk
        have HK6 : Hid (TkRd wk61 s (takeA m a (haveA q b bbs bes bls bp).b (haveA q b bbs bes bls bp).e (haveA q b bbs bes bls bp).l (haveA q b bbs bes bls bp).c ap).z (takeA m a (haveA q b bbs bes bls bp).b (haveA q b bbs bes bls bp).e (haveA q b bbs bes bls bp).l (haveA q b bbs bes bls bp).c ap).b (takeA m a (haveA q b bbs bes bls bp).b (haveA q b bbs bes bls bp).e (haveA q b bbs bes bls bp).l (haveA q b bbs bes bls bp).c ap).e (takeA m a (haveA q b bbs bes bls bp).b (haveA q b bbs bes bls bp).e (haveA q b bbs bes bls bp).l (haveA q b bbs bes bls bp).c ap).l X) := hm
        have HN6 : Hid (TkNew wk60.heap.size s X) := hmn
        clear hk hm hmn HT
        generalize wk60.heap.size = dd at HN6 hg9
        have HK : Hid (TkRd wk61 s (takeA m a (haveA q b bbs bes bls bp).b (haveA q b bbs bes bls bp).e (haveA q b bbs bes bls bp).l (haveA q b bbs bes bls bp).c ap).z (takeA m a (haveA q b bbs bes bls bp).b (haveA q b bbs bes bls bp).e (haveA q b bbs bes bls bp).l (haveA q b bbs bes bls bp).c ap).b (takeA m a (haveA q b bbs bes bls bp).b (haveA q b bbs bes bls bp).e (haveA q b bbs bes bls bp).l (haveA q b bbs bes bls bp).c ap).e (takeA m a (haveA q b bbs bes bls bp).b (haveA q b bbs bes bls bp).e (haveA q b bbs bes bls bp).l (haveA q b bbs bes bls bp).c ap).l X) := HK6.out
        clear HK6
        refine ⟨.tuple #[s.v, .agg (Mg.cells (takeA m a (haveA q b bbs bes bls bp).b (haveA q b bbs bes bls bp).e (haveA q b bbs bes bls bp).l (haveA q b bbs bes bls bp).c ap).m), .bool (takeA m a (haveA q b bbs bes bls bp).b (haveA q b bbs bes bls bp).e (haveA q b bbs bes bls bp).l (haveA q b bbs bes bls bp).c ap).o], rfl, hH2, fun hH => ?_⟩
        clear hH2
        try simp only [pS]
        refine aT (i := 4) (oi := oqWRow10) (v := .tuple #[s.v, .agg (Mg.cells (takeA m a (haveA q b bbs bes bls bp).b (haveA q b bbs bes bls bp).e (haveA q b bbs bes bls bp).l (haveA q b bbs bes bls bp).c ap).m), .bool (takeA m a (haveA q b bbs bes bls bp).b (haveA q b bbs bes bls bp).e (haveA q b bbs bes bls bp).l (haveA q b bbs bes bls bp).c ap).o]) (fun _ _ => by kernel_rfl) hH ?_
        try simp only [pS]
        refine aT (i := 5) (oi := oqWRow11) (v := s.v) (fun _ _ => by kernel_rfl) hH ?_
        try simp only [pS]
        refine aT (i := 6) (oi := oqWRow12) (v := .agg (Mg.cells ((takeA m a (haveA q b bbs bes bls bp).b (haveA q b bbs bes bls bp).e (haveA q b bbs bes bls bp).l (haveA q b bbs bes bls bp).c ap).m))) (fun _ _ => by kernel_rfl) hH ?_
        try simp only [pS]
        refine aT (i := 7) (oi := oqWRow13) (v := .bool (takeA m a (haveA q b bbs bes bls bp).b (haveA q b bbs bes bls bp).e (haveA q b bbs bes bls bp).l (haveA q b bbs bes bls bp).c ap).o) (fun _ _ => by kernel_rfl) hH ?_
        try simp only [pS]
        refine aT (i := 9) (oi := oqWRow15) (v := s.v) (fun _ _ => by kernel_rfl) hH ?_
        try simp only [pS]
        refine any_store (i := 10) (o := oqWRow16) (w' := wk61.setRow gk58 (Mg.cells ((takeA m a (haveA q b bbs bes bls bp).b (haveA q b bbs bes bls bp).e (haveA q b bbs bes bls bp).l (haveA q b bbs bes bls bp).c ap).m))) rfl (by kernel_rfl) (by kernel_rfl) 50 _ _ rfl ⟨gk58, 0, none⟩ (.agg (Mg.cells ((takeA m a (haveA q b bbs bes bls bp).b (haveA q b bbs bes bls bp).e (haveA q b bbs bes bls bp).l (haveA q b bbs bes bls bp).c ap).m))) (by kernel_rfl) (by kernel_rfl) (run_store_to (cur := Mg.cs mgZ) (vs := Mg.cs ((takeA m a (haveA q b bbs bes bls bp).b (haveA q b bbs bes bls bp).e (haveA q b bbs bes bls bp).l (haveA q b bbs bes bls bp).c ap).m)) (new := Mg.cs ((takeA m a (haveA q b bbs bes bls bp).b (haveA q b bbs bes bls bp).e (haveA q b bbs bes bls bp).l (haveA q b bbs bes bls bp).c ap).m)) (HF.out.box 5 _ _ _ rfl) (by kernel_rfl) Try.size50 (Nat.le_of_ble_eq_true (by kernel_rfl)) (Mg.oneL _) (by kernel_rfl)) (Fr.front (l := [(gk1, 23, Ky.cells k), (gk3, 35, Hd.cells a), (gk5, 35, Hd.cells b), (g7, 50, Mg.cells q), (g9, 50, Mg.cells m)]) (m := [(gk58, 50, Mg.cells ((takeA m a (haveA q b bbs bes bls bp).b (haveA q b bbs bes bls bp).e (haveA q b bbs bes bls bp).l (haveA q b bbs bes bls bp).c ap).m))]) (HF.out.set 5 rfl _)) (fun hH => ?_)
        try simp only [pS]
        have HK0 : Hid (Kept No wk47 (wk61.setRow gk58 (Mg.cells ((takeA m a (haveA q b bbs bes bls bp).b (haveA q b bbs bes bls bp).e (haveA q b bbs bes bls bp).l (haveA q b bbs bes bls bp).c ap).m)))) := HK0.out.newRow (by rw [HS0.out]; exact hgs) _
        have HK : Hid (TkRd (wk61.setRow gk58 (Mg.cells ((takeA m a (haveA q b bbs bes bls bp).b (haveA q b bbs bes bls bp).e (haveA q b bbs bes bls bp).l (haveA q b bbs bes bls bp).c ap).m))) s (takeA m a (haveA q b bbs bes bls bp).b (haveA q b bbs bes bls bp).e (haveA q b bbs bes bls bp).l (haveA q b bbs bes bls bp).c ap).z (takeA m a (haveA q b bbs bes bls bp).b (haveA q b bbs bes bls bp).e (haveA q b bbs bes bls bp).l (haveA q b bbs bes bls bp).c ap).b (takeA m a (haveA q b bbs bes bls bp).b (haveA q b bbs bes bls bp).e (haveA q b bbs bes bls bp).l (haveA q b bbs bes bls bp).c ap).e (takeA m a (haveA q b bbs bes bls bp).b (haveA q b bbs bes bls bp).e (haveA q b bbs bes bls bp).l (haveA q b bbs bes bls bp).c ap).l X) := HK.out.kept HN6.out (Kept.setRow _ _ _) (fun k e => by have e : k = gk58 := e; omega)
        have HF : Hid (Fr No w _ [(gk1, 23, Ky.cells k), (gk3, 35, Hd.cells a), (gk5, 35, Hd.cells b), (g7, 50, Mg.cells q), (g9, 50, Mg.cells m), (gk58, 50, Mg.cells ((takeA m a (haveA q b bbs bes bls bp).b (haveA q b bbs bes bls bp).e (haveA q b bbs bes bls bp).l (haveA q b bbs bes bls bp).c ap).m))]) := HF.out.set 5 rfl _
        generalize wk61.setRow gk58 (Mg.cells ((takeA m a (haveA q b bbs bes bls bp).b (haveA q b bbs bes bls bp).e (haveA q b bbs bes bls bp).l (haveA q b bbs bes bls bp).c ap).m)) = wk62 at HF HK0 HK hH ⊢
        refine aT (i := 11) (oi := oqWRow17) (v := .bool (takeA m a (haveA q b bbs bes bls bp).b (haveA q b bbs bes bls bp).e (haveA q b bbs bes bls bp).l (haveA q b bbs bes bls bp).c ap).o) (fun _ _ => by kernel_rfl) hH ?_
        try simp only [pS]
        refine wpAnyH_done (by kernel_rfl) ?_ _
        try simp only [pS]
        clear hH
        have HH : Hid (HdAt wk62 a ab ae al ap) := HHs.out.no HK0.out
        have HMm : Hid (MgRd wk62 m (haveA q b bbs bes bls bp)) := HMs.out.no HK0.out
        refine hK0 _ _ (Met.intro (hJ0 _ _ ?_))
        (repeat apply Exists.intro)
        refine ⟨?_, rfl⟩
        exact ⟨gk58, s, X, rfl, rfl, rfl, HK, HMm, HH, HF⟩
      case rest =>
       clear HF HH
       obtain ⟨g11, s, X, rfl, rfl, rfl, HK, HMm, HH, HF⟩ := hcut
       have hLn := tk_len m a (haveA q b bbs bes bls bp).b (haveA q b bbs bes bls bp).e (haveA q b bbs bes bls bp).l (haveA q b bbs bes bls bp).c ap (by rw [← HMm.out.c.len]; omega) (by omega) (by omega)
       go_upto_region 13 with fail
       refine WL.start ?_
       refine tW (.agg (Mg.cells m)) (eL 50 _ rfl ⟨g9, 0, none⟩ (run_load_part (cs := Mg.cs m) (sub := Mg.cs m) (HF.out.box 4 _ _ _ rfl) (Part.all _) Try.und50 rfl Try.size50)) ?_
       refine tW (.agg (Hd.cells a)) (eL 35 _ rfl ⟨gk3, 0, none⟩ (run_load_part (cs := Hd.cs a) (sub := Hd.cs a) (HF.out.box 1 _ _ _ rfl) (Part.all _) Try.und35 rfl Try.size35)) ?_
       try simp only [pS]
       refine wp_callW 22 #[.agg (Mg.cells m), .agg (Hd.cells a)] (by kernel_rfl) _ (refTake_off (fun k => k = gk3 ∨ k = g7) m a (haveA q b bbs bes bls bp).b (haveA q b bbs bes bls bp).e (haveA q b bbs bes bls bp).l (haveA q b bbs bes bls bp).c ab ae al ap _ (HMm.out.at (by omega) (by omega) (by omega) (by omega)) HH.out HMa.out (by rintro k (e | e); rw [e]; exact (HF.out.box 1 _ _ _ rfl).lt; rw [e]; exact (HF.out.box 3 _ _ _ rfl).lt) HMo.out) (by kernel_rfl) ?_
       rintro e wk63 ⟨⟨ya, yl, yk⟩, Y, rfl, hn, hto, hk⟩
       obtain rfl : yl = s.l := by rw [← show _ = yl from hn.zl, HK.out.zl]
       have HH : Hid (HdAt (wk63) a ab ae al ap) := HH.out.no hk
       have HMm : Hid (MgRd (wk63) m (haveA q b bbs bes bls bp)) := HMm.out.no hk
       have HK : Hid (TkRd (wk63) s (takeA m a (haveA q b bbs bes bls bp).b (haveA q b bbs bes bls bp).e (haveA q b bbs bes bls bp).l (haveA q b bbs bes bls bp).c ap).z (takeA m a (haveA q b bbs bes bls bp).b (haveA q b bbs bes bls bp).e (haveA q b bbs bes bls bp).l (haveA q b bbs bes bls bp).c ap).b (takeA m a (haveA q b bbs bes bls bp).b (haveA q b bbs bes bls bp).e (haveA q b bbs bes bls bp).l (haveA q b bbs bes bls bp).c ap).e (takeA m a (haveA q b bbs bes bls bp).b (haveA q b bbs bes bls bp).e (haveA q b bbs bes bls bp).l (haveA q b bbs bes bls bp).c ap).l X) := HK.out.no hk
       have HF : Hid (Fr No w (wk63) [(gk1, 23, Ky.cells k), (gk3, 35, Hd.cells a), (gk5, 35, Hd.cells b), (g7, 50, Mg.cells q), (g9, 50, Mg.cells m), (g11, 50, Mg.cells ((takeA m a (haveA q b bbs bes bls bp).b (haveA q b bbs bes bls bp).e (haveA q b bbs bes bls bp).l (haveA q b bbs bes bls bp).c ap).m))]) := HF.out.no hk
       have HKk : Hid (TkRd wk63 s (takeA m a (haveA q b bbs bes bls bp).b (haveA q b bbs bes bls bp).e (haveA q b bbs bes bls bp).l (haveA q b bbs bes bls bp).c ap).z (takeA m a (haveA q b bbs bes bls bp).b (haveA q b bbs bes bls bp).e (haveA q b bbs bes bls bp).l (haveA q b bbs bes bls bp).c ap).b (takeA m a (haveA q b bbs bes bls bp).b (haveA q b bbs bes bls bp).e (haveA q b bbs bes bls bp).l (haveA q b bbs bes bls bp).c ap).e (takeA m a (haveA q b bbs bes bls bp).b (haveA q b bbs bes bls bp).e (haveA q b bbs bes bls bp).l (haveA q b bbs bes bls bp).c ap).l X) := HK.out
       have HMk : Hid (MgRd wk63 m (haveA q b bbs bes bls bp)) := HMm.out
       have HHk : Hid (HdAt wk63 a ab ae al ap) := HH.out
       have HN9 : Hid (TkRd wk63 ⟨ya, s.l, yk⟩ (takeA m a (haveA q b bbs bes bls bp).b (haveA q b bbs bes bls bp).e (haveA q b bbs bes bls bp).l (haveA q b bbs bes bls bp).c ap).z (takeA m a (haveA q b bbs bes bls bp).b (haveA q b bbs bes bls bp).e (haveA q b bbs bes bls bp).l (haveA q b bbs bes bls bp).c ap).b (takeA m a (haveA q b bbs bes bls bp).b (haveA q b bbs bes bls bp).e (haveA q b bbs bes bls bp).l (haveA q b bbs bes bls bp).c ap).e (takeA m a (haveA q b bbs bes bls bp).b (haveA q b bbs bes bls bp).e (haveA q b bbs bes bls bp).l (haveA q b bbs bes bls bp).c ap).l Y) := hn
       have HTO : Hid (TkOff (fun k => k = gk3 ∨ k = g7) ⟨ya, s.l, yk⟩ Y) := hto
       clear hk hn HK HMm HH hto
       have HS : Hid (Kept No wk63 wk63) := Kept.refl _ _
       obtain ⟨s6, hs6⟩ : ∃ n, wk63.heap.size = n := ⟨_, rfl⟩
       have HS6 : Hid (wk63.heap.size = s6) := hs6
       clear hs6
       refine ⟨.tuple #[.slice ya s.l yk, .agg (Mg.cells (takeA m a (haveA q b bbs bes bls bp).b (haveA q b bbs bes bls bp).e (haveA q b bbs bes bls bp).l (haveA q b bbs bes bls bp).c ap).m), .bool (takeA m a (haveA q b bbs bes bls bp).b (haveA q b bbs bes bls bp).e (haveA q b bbs bes bls bp).l (haveA q b bbs bes bls bp).c ap).o], rfl, ?_⟩
       try simp only [pS]
       refine tK (.tuple #[.slice ya s.l yk, .agg (Mg.cells (takeA m a (haveA q b bbs bes bls bp).b (haveA q b bbs bes bls bp).e (haveA q b bbs bes bls bp).l (haveA q b bbs bes bls bp).c ap).m), .bool (takeA m a (haveA q b bbs bes bls bp).b (haveA q b bbs bes bls bp).e (haveA q b bbs bes bls bp).l (haveA q b bbs bes bls bp).c ap).o]) ?_
       refine tK (.slice ya s.l yk) ?_
       refine tK (.agg (Mg.cells ((takeA m a (haveA q b bbs bes bls bp).b (haveA q b bbs bes bls bp).e (haveA q b bbs bes bls bp).l (haveA q b bbs bes bls bp).c ap).m))) ?_
       refine tK (.bool (takeA m a (haveA q b bbs bes bls bp).b (haveA q b bbs bes bls bp).e (haveA q b bbs bes bls bp).l (haveA q b bbs bes bls bp).c ap).o) ?_
       try simp only [pS]
       refine wp_runW (.pointer (some ⟨wk63.heap.size, 0, none⟩)) (wk63.alloc (.cells (Mg.cells mgZ) 50)) (exec_alloc 50 rfl (Mg.cells mgZ) zero50) (by kernel_rfl) ?_
       try simp only [pS]
       have hg7 : s6 ≤ wk63.heap.size := by rw [← HS6.out]; exact HS.out.size
       have HS : Hid (Kept No wk63 (wk63.alloc (.cells (Mg.cells mgZ) 50))) := HS.out.no ((Kept.refl No _).alloc _)
       have HF : Hid (Fr No w _ [(gk1, 23, Ky.cells k), (gk3, 35, Hd.cells a), (gk5, 35, Hd.cells b), (g7, 50, Mg.cells q), (g9, 50, Mg.cells m), (g11, 50, Mg.cells ((takeA m a (haveA q b bbs bes bls bp).b (haveA q b bbs bes bls bp).e (haveA q b bbs bes bls bp).l (haveA q b bbs bes bls bp).c ap).m)), (wk63.heap.size, 50, Mg.cells mgZ)]) := HF.out.alloc _ _
       generalize wk63.alloc (.cells (Mg.cells mgZ) 50) = wk65 at HF HS ⊢
       generalize wk63.heap.size = gk64 at HF hg7 ⊢
       refine tK (.slice ya s.l yk) ?_
       try simp only [pS]
       refine wp_storeW 50 _ _ rfl ⟨gk64, 0, none⟩ (.agg (Mg.cells ((takeA m a (haveA q b bbs bes bls bp).b (haveA q b bbs bes bls bp).e (haveA q b bbs bes bls bp).l (haveA q b bbs bes bls bp).c ap).m))) (by kernel_rfl) (by kernel_rfl) (wk65.setRow gk64 (Mg.cells ((takeA m a (haveA q b bbs bes bls bp).b (haveA q b bbs bes bls bp).e (haveA q b bbs bes bls bp).l (haveA q b bbs bes bls bp).c ap).m))) (run_store_to (cur := Mg.cs mgZ) (vs := Mg.cs ((takeA m a (haveA q b bbs bes bls bp).b (haveA q b bbs bes bls bp).e (haveA q b bbs bes bls bp).l (haveA q b bbs bes bls bp).c ap).m)) (new := Mg.cs ((takeA m a (haveA q b bbs bes bls bp).b (haveA q b bbs bes bls bp).e (haveA q b bbs bes bls bp).l (haveA q b bbs bes bls bp).c ap).m)) (HF.out.box 6 _ _ _ rfl) (by kernel_rfl) Try.size50 (Nat.le_of_ble_eq_true (by kernel_rfl)) (Mg.oneL _) (by kernel_rfl)) (by kernel_rfl) ?_
       try simp only [pS]
       have HS : Hid (Kept No wk63 (wk65.setRow gk64 (Mg.cells ((takeA m a (haveA q b bbs bes bls bp).b (haveA q b bbs bes bls bp).e (haveA q b bbs bes bls bp).l (haveA q b bbs bes bls bp).c ap).m)))) := HS.out.newRow (by rw [HS6.out]; exact hg7) _
       have HF : Hid (Fr No w _ [(gk1, 23, Ky.cells k), (gk3, 35, Hd.cells a), (gk5, 35, Hd.cells b), (g7, 50, Mg.cells q), (g9, 50, Mg.cells m), (g11, 50, Mg.cells ((takeA m a (haveA q b bbs bes bls bp).b (haveA q b bbs bes bls bp).e (haveA q b bbs bes bls bp).l (haveA q b bbs bes bls bp).c ap).m)), (gk64, 50, Mg.cells ((takeA m a (haveA q b bbs bes bls bp).b (haveA q b bbs bes bls bp).e (haveA q b bbs bes bls bp).l (haveA q b bbs bes bls bp).c ap).m))]) := HF.out.set 6 rfl _
       generalize wk65.setRow gk64 (Mg.cells ((takeA m a (haveA q b bbs bes bls bp).b (haveA q b bbs bes bls bp).e (haveA q b bbs bes bls bp).l (haveA q b bbs bes bls bp).c ap).m)) = wk66 at HF HS ⊢
       refine tK (.bool (takeA m a (haveA q b bbs bes bls bp).b (haveA q b bbs bes bls bp).e (haveA q b bbs bes bls bp).l (haveA q b bbs bes bls bp).c ap).o) ?_
       try simp only [pS]
       refine WL.nil ?_
       try simp only [pS]
       have HK : Hid (TkRd wk66 s (takeA m a (haveA q b bbs bes bls bp).b (haveA q b bbs bes bls bp).e (haveA q b bbs bes bls bp).l (haveA q b bbs bes bls bp).c ap).z (takeA m a (haveA q b bbs bes bls bp).b (haveA q b bbs bes bls bp).e (haveA q b bbs bes bls bp).l (haveA q b bbs bes bls bp).c ap).b (takeA m a (haveA q b bbs bes bls bp).b (haveA q b bbs bes bls bp).e (haveA q b bbs bes bls bp).l (haveA q b bbs bes bls bp).c ap).e (takeA m a (haveA q b bbs bes bls bp).b (haveA q b bbs bes bls bp).e (haveA q b bbs bes bls bp).l (haveA q b bbs bes bls bp).c ap).l X) := HKk.out.no HS.out
       have HMm : Hid (MgRd wk66 m (haveA q b bbs bes bls bp)) := HMk.out.no HS.out
       have HH : Hid (HdAt wk66 a ab ae al ap) := HHk.out.no HS.out
       have HN : Hid (TkRd wk66 ⟨ya, s.l, yk⟩ (takeA m a (haveA q b bbs bes bls bp).b (haveA q b bbs bes bls bp).e (haveA q b bbs bes bls bp).l (haveA q b bbs bes bls bp).c ap).z (takeA m a (haveA q b bbs bes bls bp).b (haveA q b bbs bes bls bp).e (haveA q b bbs bes bls bp).l (haveA q b bbs bes bls bp).c ap).b (takeA m a (haveA q b bbs bes bls bp).b (haveA q b bbs bes bls bp).e (haveA q b bbs bes bls bp).l (haveA q b bbs bes bls bp).c ap).e (takeA m a (haveA q b bbs bes bls bp).b (haveA q b bbs bes bls bp).e (haveA q b bbs bes bls bp).l (haveA q b bbs bes bls bp).c ap).l Y) := HN9.out.no HS.out
       clear HS HKk HMk HHk HN9 hg7 HS6
       go_upto_region 14 with fail
       refine WL.start ?_
       refine tK (s.v) ?_
       refine tK (.slice ya s.l yk) ?_
       try simp only [pS]
       refine wp_callW 23 #[s.v, .slice ya s.l yk] (by kernel_rfl) _ (sameH_any s.a ya s.l s.k yk (takeA m a (haveA q b bbs bes bls bp).b (haveA q b bbs bes bls bp).e (haveA q b bbs bes bls bp).l (haveA q b bbs bes bls bp).c ap).z (takeA m a (haveA q b bbs bes bls bp).b (haveA q b bbs bes bls bp).e (haveA q b bbs bes bls bp).l (haveA q b bbs bes bls bp).c ap).b (takeA m a (haveA q b bbs bes bls bp).b (haveA q b bbs bes bls bp).e (haveA q b bbs bes bls bp).l (haveA q b bbs bes bls bp).c ap).e (takeA m a (haveA q b bbs bes bls bp).b (haveA q b bbs bes bls bp).e (haveA q b bbs bes bls bp).l (haveA q b bbs bes bls bp).c ap).l X Y _ HK.out HN.out (by rw [← HK.out.zl]; exact hLn.1) hLn.2.1 hLn.2.2) (by kernel_rfl) ?_
       rintro e wk67 ⟨rfl, hk⟩
       have HH : Hid (HdAt (wk67) a ab ae al ap) := HH.out.no hk
       have HMm : Hid (MgRd (wk67) m (haveA q b bbs bes bls bp)) := HMm.out.no hk
       have HK : Hid (TkRd (wk67) s (takeA m a (haveA q b bbs bes bls bp).b (haveA q b bbs bes bls bp).e (haveA q b bbs bes bls bp).l (haveA q b bbs bes bls bp).c ap).z (takeA m a (haveA q b bbs bes bls bp).b (haveA q b bbs bes bls bp).e (haveA q b bbs bes bls bp).l (haveA q b bbs bes bls bp).c ap).b (takeA m a (haveA q b bbs bes bls bp).b (haveA q b bbs bes bls bp).e (haveA q b bbs bes bls bp).l (haveA q b bbs bes bls bp).c ap).e (takeA m a (haveA q b bbs bes bls bp).b (haveA q b bbs bes bls bp).e (haveA q b bbs bes bls bp).l (haveA q b bbs bes bls bp).c ap).l X) := HK.out.no hk
       have HN : Hid (TkRd (wk67) ⟨ya, s.l, yk⟩ (takeA m a (haveA q b bbs bes bls bp).b (haveA q b bbs bes bls bp).e (haveA q b bbs bes bls bp).l (haveA q b bbs bes bls bp).c ap).z (takeA m a (haveA q b bbs bes bls bp).b (haveA q b bbs bes bls bp).e (haveA q b bbs bes bls bp).l (haveA q b bbs bes bls bp).c ap).b (takeA m a (haveA q b bbs bes bls bp).b (haveA q b bbs bes bls bp).e (haveA q b bbs bes bls bp).l (haveA q b bbs bes bls bp).c ap).e (takeA m a (haveA q b bbs bes bls bp).b (haveA q b bbs bes bls bp).e (haveA q b bbs bes bls bp).l (haveA q b bbs bes bls bp).c ap).l Y) := HN.out.no hk
       have HF : Hid (Fr No w (wk67) [(gk1, 23, Ky.cells k), (gk3, 35, Hd.cells a), (gk5, 35, Hd.cells b), (g7, 50, Mg.cells q), (g9, 50, Mg.cells m), (g11, 50, Mg.cells ((takeA m a (haveA q b bbs bes bls bp).b (haveA q b bbs bes bls bp).e (haveA q b bbs bes bls bp).l (haveA q b bbs bes bls bp).c ap).m)), (gk64, 50, Mg.cells ((takeA m a (haveA q b bbs bes bls bp).b (haveA q b bbs bes bls bp).e (haveA q b bbs bes bls bp).l (haveA q b bbs bes bls bp).c ap).m))]) := HF.out.no hk
       clear hk
       refine ⟨.bool true, rfl, ?_⟩
       try simp only [pS]
       refine tK (.bool false) ?_
       refine tK (.bool false) ?_
       refine tK (.bool (takeA m a (haveA q b bbs bes bls bp).b (haveA q b bbs bes bls bp).e (haveA q b bbs bes bls bp).l (haveA q b bbs bes bls bp).c ap).o) ?_
       refine tK (.bool (takeA m a (haveA q b bbs bes bls bp).b (haveA q b bbs bes bls bp).e (haveA q b bbs bes bls bp).l (haveA q b bbs bes bls bp).c ap).o) ?_
       refine tW (.bool false) (eB .neq 4 _ _ _ rfl (.bool (takeA m a (haveA q b bbs bes bls bp).b (haveA q b bbs bes bls bp).e (haveA q b bbs bes bls bp).l (haveA q b bbs bes bls bp).c ap).o) (.bool (takeA m a (haveA q b bbs bes bls bp).b (haveA q b bbs bes bls bp).e (haveA q b bbs bes bls bp).l (haveA q b bbs bes bls bp).c ap).o) _ (by rw [b_neqB]; simp)) ?_
       refine tK (.bool false) ?_
       refine tK (.bool false) ?_
       refine tW (.agg (Mg.cells ((takeA m a (haveA q b bbs bes bls bp).b (haveA q b bbs bes bls bp).e (haveA q b bbs bes bls bp).l (haveA q b bbs bes bls bp).c ap).m))) (eL 50 _ rfl ⟨g11, 0, none⟩ (run_load_part (cs := Mg.cs ((takeA m a (haveA q b bbs bes bls bp).b (haveA q b bbs bes bls bp).e (haveA q b bbs bes bls bp).l (haveA q b bbs bes bls bp).c ap).m)) (sub := Mg.cs ((takeA m a (haveA q b bbs bes bls bp).b (haveA q b bbs bes bls bp).e (haveA q b bbs bes bls bp).l (haveA q b bbs bes bls bp).c ap).m)) (HF.out.box 5 _ _ _ rfl) (Part.all _) Try.und50 rfl Try.size50)) ?_
       refine tW (.agg (Mg.cells ((takeA m a (haveA q b bbs bes bls bp).b (haveA q b bbs bes bls bp).e (haveA q b bbs bes bls bp).l (haveA q b bbs bes bls bp).c ap).m))) (eL 50 _ rfl ⟨gk64, 0, none⟩ (run_load_part (cs := Mg.cs ((takeA m a (haveA q b bbs bes bls bp).b (haveA q b bbs bes bls bp).e (haveA q b bbs bes bls bp).l (haveA q b bbs bes bls bp).c ap).m)) (sub := Mg.cs ((takeA m a (haveA q b bbs bes bls bp).b (haveA q b bbs bes bls bp).e (haveA q b bbs bes bls bp).l (haveA q b bbs bes bls bp).c ap).m)) (HF.out.box 6 _ _ _ rfl) (Part.all _) Try.und50 rfl Try.size50)) ?_
       try simp only [pS]
       refine wp_callW 14 #[.agg (Mg.cells ((takeA m a (haveA q b bbs bes bls bp).b (haveA q b bbs bes bls bp).e (haveA q b bbs bes bls bp).l (haveA q b bbs bes bls bp).c ap).m)), .agg (Mg.cells ((takeA m a (haveA q b bbs bes bls bp).b (haveA q b bbs bes bls bp).e (haveA q b bbs bes bls bp).l (haveA q b bbs bes bls bp).c ap).m))] (by kernel_rfl) _ (sameM_nil (takeA m a (haveA q b bbs bes bls bp).b (haveA q b bbs bes bls bp).e (haveA q b bbs bes bls bp).l (haveA q b bbs bes bls bp).c ap).m _ (tk_nil m a (haveA q b bbs bes bls bp).b (haveA q b bbs bes bls bp).e (haveA q b bbs bes bls bp).l (haveA q b bbs bes bls bp).c ap)) (by kernel_rfl) ?_
       rintro e wk68 ⟨rfl, hk⟩
       have HH : Hid (HdAt (wk68) a ab ae al ap) := HH.out.no hk
       have HMm : Hid (MgRd (wk68) m (haveA q b bbs bes bls bp)) := HMm.out.no hk
       have HK : Hid (TkRd (wk68) s (takeA m a (haveA q b bbs bes bls bp).b (haveA q b bbs bes bls bp).e (haveA q b bbs bes bls bp).l (haveA q b bbs bes bls bp).c ap).z (takeA m a (haveA q b bbs bes bls bp).b (haveA q b bbs bes bls bp).e (haveA q b bbs bes bls bp).l (haveA q b bbs bes bls bp).c ap).b (takeA m a (haveA q b bbs bes bls bp).b (haveA q b bbs bes bls bp).e (haveA q b bbs bes bls bp).l (haveA q b bbs bes bls bp).c ap).e (takeA m a (haveA q b bbs bes bls bp).b (haveA q b bbs bes bls bp).e (haveA q b bbs bes bls bp).l (haveA q b bbs bes bls bp).c ap).l X) := HK.out.no hk
       have HN : Hid (TkRd (wk68) ⟨ya, s.l, yk⟩ (takeA m a (haveA q b bbs bes bls bp).b (haveA q b bbs bes bls bp).e (haveA q b bbs bes bls bp).l (haveA q b bbs bes bls bp).c ap).z (takeA m a (haveA q b bbs bes bls bp).b (haveA q b bbs bes bls bp).e (haveA q b bbs bes bls bp).l (haveA q b bbs bes bls bp).c ap).b (takeA m a (haveA q b bbs bes bls bp).b (haveA q b bbs bes bls bp).e (haveA q b bbs bes bls bp).l (haveA q b bbs bes bls bp).c ap).e (takeA m a (haveA q b bbs bes bls bp).b (haveA q b bbs bes bls bp).e (haveA q b bbs bes bls bp).l (haveA q b bbs bes bls bp).c ap).l Y) := HN.out.no hk
       have HF : Hid (Fr No w (wk68) [(gk1, 23, Ky.cells k), (gk3, 35, Hd.cells a), (gk5, 35, Hd.cells b), (g7, 50, Mg.cells q), (g9, 50, Mg.cells m), (g11, 50, Mg.cells ((takeA m a (haveA q b bbs bes bls bp).b (haveA q b bbs bes bls bp).e (haveA q b bbs bes bls bp).l (haveA q b bbs bes bls bp).c ap).m)), (gk64, 50, Mg.cells ((takeA m a (haveA q b bbs bes bls bp).b (haveA q b bbs bes bls bp).e (haveA q b bbs bes bls bp).l (haveA q b bbs bes bls bp).c ap).m))]) := HF.out.no hk
       clear hk
       refine ⟨.bool true, rfl, ?_⟩
       try simp only [pS]
       refine tK (.bool false) ?_
       refine tK (.bool false) ?_
       try simp only [pS]
       refine WL.nil ?_
       try simp only [pS]
       go_upto_region 16 with fail
       refine WL.start ?_
       refine tK (.int .i64 0) ?_
       try simp only [pS]
       refine WL.nil ?_
       try simp only [pS]
       obtain ⟨hOk, hQn⟩ := step_ok q a b bbs bes bls ap bp t m _ _ ⟨ya, s.l, yk⟩ Y (haveA q b bbs bes bls bp) (takeA m a (haveA q b bbs bes bls bp).b (haveA q b bbs bes bls bp).e (haveA q b bbs bes bls bp).l (haveA q b bbs bes bls bp).c ap) HMb.out HQ.out rfl rfl HMm.out HN.out
       have hOk1 : ∀ i, 0 ≤ i → i < s.l → ChOk a.k.up (hAt Y i) := fun i _ hi => hOk.1 i hi
       have HOk2 : Hid ((∃ i, i < s.l ∧ ((hAt Y i).ky.k == 1) = false ∧ ((hAt Y i).ky.k == 2) = true) → s.l = 1) := hOk.2
       have HQn : Hid ((takeA m a (haveA q b bbs bes bls bp).b (haveA q b bbs bes bls bp).e (haveA q b bbs bes bls bp).l (haveA q b bbs bes bls bp).c ap).o = true → QOk (takeA m a (haveA q b bbs bes bls bp).b (haveA q b bbs bes bls bp).e (haveA q b bbs bes bls bp).l (haveA q b bbs bes bls bp).c ap).m b (t + 1)) := hQn
       have hsl4 : s.l ≤ 4000000000000 := by rw [← HK.out.zl]; exact hLn.1
       have hBd : (takeA m a (haveA q b bbs bes bls bp).b (haveA q b bbs bes bls bp).e (haveA q b bbs bes bls bp).l (haveA q b bbs bes bls bp).c ap).b.length ≤ 140737488351232 ∧ (takeA m a (haveA q b bbs bes bls bp).b (haveA q b bbs bes bls bp).e (haveA q b bbs bes bls bp).l (haveA q b bbs bes bls bp).c ap).e.length ≤ 3518437208780 ∧ (takeA m a (haveA q b bbs bes bls bp).b (haveA q b bbs bes bls bp).e (haveA q b bbs bes bls bp).l (haveA q b bbs bes bls bp).c ap).l.length ≤ 2513169434843 := tk_b m a (haveA q b bbs bes bls bp).b (haveA q b bbs bes bls bp).e (haveA q b bbs bes bls bp).l (haveA q b bbs bes bls bp).c ap (by omega) (by omega) (by omega)
       clear hOk hQn
       go_wp2
       go_loopw [16] (fun v16 wr => ∃ (j : Nat) (a2 : Hd) (ab2 : List Int) (ae2 : List En) (al2 : List La) (ap2 : List Pl), v16 = .int .i64 ((j : Nat) : Int) ∧ j ≤ s.l ∧ Hid (HdAt wr a2 ab2 ae2 al2 ap2) ∧ Hid (MayP a2 ap2) ∧ Hid (HdOff (fun k => k = gk3 ∨ k = g7) a2 ab2 ae2 al2 ap2) ∧ Hid (∀ i, j ≤ i → i < s.l → ChOk a2.k.up (hAt Y i)) ∧ Hid (TkRd wr ⟨ya, s.l, yk⟩ (takeA m a (haveA q b bbs bes bls bp).b (haveA q b bbs bes bls bp).e (haveA q b bbs bes bls bp).l (haveA q b bbs bes bls bp).c ap).z (takeA m a (haveA q b bbs bes bls bp).b (haveA q b bbs bes bls bp).e (haveA q b bbs bes bls bp).l (haveA q b bbs bes bls bp).c ap).b (takeA m a (haveA q b bbs bes bls bp).b (haveA q b bbs bes bls bp).e (haveA q b bbs bes bls bp).l (haveA q b bbs bes bls bp).c ap).e (takeA m a (haveA q b bbs bes bls bp).b (haveA q b bbs bes bls bp).e (haveA q b bbs bes bls bp).l (haveA q b bbs bes bls bp).c ap).l Y) ∧ Hid (Fr No w wr [(gk1, 23, Ky.cells k), (gk3, 35, Hd.cells a2), (gk5, 35, Hd.cells b), (g7, 50, Mg.cells q), (g9, 50, Mg.cells m), (g11, 50, Mg.cells ((takeA m a (haveA q b bbs bes bls bp).b (haveA q b bbs bes bls bp).e (haveA q b bbs bes bls bp).l (haveA q b bbs bes bls bp).c ap).m)), (gk64, 50, Mg.cells ((takeA m a (haveA q b bbs bes bls bp).b (haveA q b bbs bes bls bp).e (haveA q b bbs bes bls bp).l (haveA q b bbs bes bls bp).c ap).m))])) (fun i _ => s.l - (intOf i).toNat)
       case atStart => exact ⟨0, a, ab, ae, al, ap, by go_num, by omega, HH, HMa, HOf, hOk1, HN, HF⟩
       case round =>
        clear HF HH HN hOk1
        obtain ⟨j, a2, ab2, ae2, al2, ap2, rfl, hj, HH2, HM2, HOf2, HOk, HN, HF⟩ := hrel
        by_cases hlt : j < s.l
        · skip
          obtain ⟨pb, po, hcx⟩ := HN.out.at (i := j) hlt
          have hca : Hid (ya = some ⟨pb, po, none⟩) := hcx.1
          have hsl : Hid (Value.slice ya s.l yk = .slice (some ⟨pb, po, none⟩) s.l yk) := congrArg (fun x => Value.slice x s.l yk) hcx.1
          clear hcx
          go_upto_region 17 with fail
          refine WL.start ?_
          refine tK (.int .i64 ((j : Nat) : Int)) ?_
          refine tK (.slice ya s.l yk) ?_
          refine tK (.int .i64 ((s.l : Nat) : Int)) ?_
          refine tW (.bool true) (eB .lss 3 _ _ _ rfl (.int .i64 ((j : Nat) : Int)) (.int .i64 ((s.l : Nat) : Int)) _ (by rw [b_lss, decide_eq_true (by omega)])) ?_
          try simp only [pS]
          refine WL.nil ?_
          try simp only [pS]
          go_upto_region 19 with fail
          refine wp_region_held_drew (S := fun w' => TkRd w' ⟨ya, s.l, yk⟩ (takeA m a (haveA q b bbs bes bls bp).b (haveA q b bbs bes bls bp).e (haveA q b bbs bes bls bp).l (haveA q b bbs bes bls bp).c ap).z (takeA m a (haveA q b bbs bes bls bp).b (haveA q b bbs bes bls bp).e (haveA q b bbs bes bls bp).l (haveA q b bbs bes bls bp).c ap).b (takeA m a (haveA q b bbs bes bls bp).b (haveA q b bbs bes bls bp).e (haveA q b bbs bes bls bp).l (haveA q b bbs bes bls bp).c ap).e (takeA m a (haveA q b bbs bes bls bp).b (haveA q b bbs bes bls bp).e (haveA q b bbs bes bls bp).l (haveA q b bbs bes bls bp).c ap).l Y) rfl (HN.out.no (Kept.refl No _).drew) (fun hH => ?_)
          have HH2 : Hid (HdAt (wr.drew) a2 ab2 ae2 al2 ap2) := HH2.out.no (Kept.refl No _).drew
          have HN : Hid (TkRd (wr.drew) ⟨ya, s.l, yk⟩ (takeA m a (haveA q b bbs bes bls bp).b (haveA q b bbs bes bls bp).e (haveA q b bbs bes bls bp).l (haveA q b bbs bes bls bp).c ap).z (takeA m a (haveA q b bbs bes bls bp).b (haveA q b bbs bes bls bp).e (haveA q b bbs bes bls bp).l (haveA q b bbs bes bls bp).c ap).b (takeA m a (haveA q b bbs bes bls bp).b (haveA q b bbs bes bls bp).e (haveA q b bbs bes bls bp).l (haveA q b bbs bes bls bp).c ap).e (takeA m a (haveA q b bbs bes bls bp).b (haveA q b bbs bes bls bp).e (haveA q b bbs bes bls bp).l (haveA q b bbs bes bls bp).c ap).l Y) := HN.out.no (Kept.refl No _).drew
          have HF : Hid (Fr No w (wr.drew) [(gk1, 23, Ky.cells k), (gk3, 35, Hd.cells a2), (gk5, 35, Hd.cells b), (g7, 50, Mg.cells q), (g9, 50, Mg.cells m), (g11, 50, Mg.cells ((takeA m a (haveA q b bbs bes bls bp).b (haveA q b bbs bes bls bp).e (haveA q b bbs bes bls bp).l (haveA q b bbs bes bls bp).c ap).m)), (gk64, 50, Mg.cells ((takeA m a (haveA q b bbs bes bls bp).b (haveA q b bbs bes bls bp).e (haveA q b bbs bes bls bp).l (haveA q b bbs bes bls bp).c ap).m))]) := HF.out.drew
          generalize wr.drew = wk69 at HF HH2 HN hH ⊢
          refine aT (i := 1) (oi := { dst := some 91, op := Op.move (Operand.tmp 13), type := 64, pos := "law.go:153", after := #[], guard := none }) (v := .slice ya s.l yk) (fun _ _ => by kernel_rfl) hH ?_
          try simp only [pS]
          refine aT (i := 2) (oi := { dst := some 92, op := Op.move (Operand.tmp 16), type := 3, pos := "law.go:153", after := #[], guard := none }) (v := .int .i64 ((j : Nat) : Int)) (fun _ _ => by kernel_rfl) hH ?_
          try simp only [pS]
          refine aT (i := 3) (oi := { dst := some 93, op := Op.indexAddr 64 (Operand.tmp 91) (Operand.tmp 92), type := 0, pos := "law.go:153", after := #[{ on := 1, ground := Ground.data }, { on := 2, ground := Ground.data }], guard := none }) (v := .pointer (some ⟨pb, po + j * 24, none⟩)) (fun w' hw => exec_ixA 64 24 Try.und64e Try.size64e _ _ rfl pb po s.l yk j (Eq.trans (b := .slice ya s.l yk) (by kernel_rfl) hsl.out) (by kernel_rfl) hlt) hH ?_
          try simp only [pS]
          refine aT (i := 4) (oi := { dst := some 94, op := Op.load 72 (Operand.tmp 93), type := 72, pos := "law.go:153", after := #[{ on := 3, ground := Ground.data }], guard := none }) (v := .agg (Ch.cells (hAt Y j))) (fun w' hw => eL 72 _ rfl ⟨pb, po + j * 24, none⟩ (load_cells (it := Ch.cs (hAt Y j)) (fun i v hv => hw.cells hlt hca.out i v hv) Try.und72 rfl Try.size72)) hH ?_
          try simp only [pS]
          refine any_step (i := 0) (o := { dst := some 90, op := Op.load 35 (Operand.tmp 4), type := 35, pos := "law.go:153", after := #[], guard := none }) (w' := wk69) rfl (by kernel_rfl) (by kernel_rfl) (exec_load 35 _ rfl ⟨gk3, 0, none⟩ (by kernel_rfl) (.agg (Hd.cells a2)) (run_load_part (cs := Hd.cs a2) (sub := Hd.cs a2) (HF.out.box 1 _ _ _ rfl) (Part.all _) Try.und35 rfl Try.size35)) hH (fun hH => ?_)
          try simp only [pS]
          refine any_call (i := 5) (o := { dst := some 95, op := Op.call { callee := Callee.value (Operand.func 24), args := #[Operand.tmp 90, Operand.tmp 94], argTypes := #[35, 72] }, type := 35, pos := "law.go:153", after := #[{ on := 0, ground := Ground.data }, { on := 4, ground := Ground.data }], guard := none }) rfl (by kernel_rfl) (by kernel_rfl) 24 #[.agg (Hd.cells a2), .agg (Ch.cells (hAt Y j))] (by kernel_rfl) _ (laid_off (fun k => k = gk3 ∨ k = g7) a2 (hAt Y j) (hAt (takeA m a (haveA q b bbs bes bls bp).b (haveA q b bbs bes bls bp).e (haveA q b bbs bes bls bp).l (haveA q b bbs bes bls bp).c ap).z j) ab2 ae2 al2 ap2 (takeA m a (haveA q b bbs bes bls bp).b (haveA q b bbs bes bls bp).e (haveA q b bbs bes bls bp).l (haveA q b bbs bes bls bp).c ap).b (takeA m a (haveA q b bbs bes bls bp).b (haveA q b bbs bes bls bp).e (haveA q b bbs bes bls bp).l (haveA q b bbs bes bls bp).c ap).e (takeA m a (haveA q b bbs bes bls bp).b (haveA q b bbs bes bls bp).e (haveA q b bbs bes bls bp).l (haveA q b bbs bes bls bp).c ap).l _ HH2.out HM2.out (HOk.out j (Nat.le_refl _) hlt) (HN.out.el j hlt) hBd.1 hBd.2.1 hBd.2.2 (by rintro k (e | e); rw [e]; exact (HF.out.box 1 _ _ _ rfl).lt; rw [e]; exact (HF.out.box 3 _ _ _ rfl).lt) HOf2.out (HTO.out.2 j hlt)) ?_
          rintro e wk70 ⟨a3, ab3, ae3, al3, ap3, rfl, hh3, hm3, ho3, hu3, hk⟩
          have hH2 : TkRd wk70 ⟨ya, s.l, yk⟩ (takeA m a (haveA q b bbs bes bls bp).b (haveA q b bbs bes bls bp).e (haveA q b bbs bes bls bp).l (haveA q b bbs bes bls bp).c ap).z (takeA m a (haveA q b bbs bes bls bp).b (haveA q b bbs bes bls bp).e (haveA q b bbs bes bls bp).l (haveA q b bbs bes bls bp).c ap).b (takeA m a (haveA q b bbs bes bls bp).b (haveA q b bbs bes bls bp).e (haveA q b bbs bes bls bp).l (haveA q b bbs bes bls bp).c ap).e (takeA m a (haveA q b bbs bes bls bp).b (haveA q b bbs bes bls bp).e (haveA q b bbs bes bls bp).l (haveA q b bbs bes bls bp).c ap).l Y := hH.no hk
          have HH2 : Hid (HdAt (wk70) a2 ab2 ae2 al2 ap2) := HH2.out.no hk
          have HN : Hid (TkRd (wk70) ⟨ya, s.l, yk⟩ (takeA m a (haveA q b bbs bes bls bp).b (haveA q b bbs bes bls bp).e (haveA q b bbs bes bls bp).l (haveA q b bbs bes bls bp).c ap).z (takeA m a (haveA q b bbs bes bls bp).b (haveA q b bbs bes bls bp).e (haveA q b bbs bes bls bp).l (haveA q b bbs bes bls bp).c ap).b (takeA m a (haveA q b bbs bes bls bp).b (haveA q b bbs bes bls bp).e (haveA q b bbs bes bls bp).l (haveA q b bbs bes bls bp).c ap).e (takeA m a (haveA q b bbs bes bls bp).b (haveA q b bbs bes bls bp).e (haveA q b bbs bes bls bp).l (haveA q b bbs bes bls bp).c ap).l Y) := HN.out.no hk
          have HF : Hid (Fr No w (wk70) [(gk1, 23, Ky.cells k), (gk3, 35, Hd.cells a2), (gk5, 35, Hd.cells b), (g7, 50, Mg.cells q), (g9, 50, Mg.cells m), (g11, 50, Mg.cells ((takeA m a (haveA q b bbs bes bls bp).b (haveA q b bbs bes bls bp).e (haveA q b bbs bes bls bp).l (haveA q b bbs bes bls bp).c ap).m)), (gk64, 50, Mg.cells ((takeA m a (haveA q b bbs bes bls bp).b (haveA q b bbs bes bls bp).e (haveA q b bbs bes bls bp).l (haveA q b bbs bes bls bp).c ap).m))]) := HF.out.no hk
          have HH3 : Hid (HdAt wk70 a3 ab3 ae3 al3 ap3) := hh3
          have HM3 : Hid (MayP a3 ap3) := hm3
          have HF3 : Hid (HdOff (fun k => k = gk3 ∨ k = g7) a3 ab3 ae3 al3 ap3) := ho3
          have HU3 : Hid ((((hAt Y j).ky.k == 1) = false ∧ ((hAt Y j).ky.k == 2) = true) ∨ a3.k.up = a2.k.up) := hu3
          clear hk hh3 hm3 hu3 ho3
          refine ⟨.agg (Hd.cells a3), rfl, hH2, fun hH => ?_⟩
          clear hH2
          try simp only [pS]
          refine any_store (i := 6) (o := { dst := none, op := Op.store 35 (Operand.tmp 4) (Operand.tmp 95), type := 0, pos := "law.go:153", after := #[{ on := 5, ground := Ground.data }, { on := 5, ground := Ground.chain }, { on := 0, ground := Ground.phase }, { on := 1, ground := Ground.phase }, { on := 2, ground := Ground.phase }, { on := 3, ground := Ground.phase }, { on := 4, ground := Ground.phase }, { on := 5, ground := Ground.phase }], guard := none }) (w' := wk70.setRow gk3 (Hd.cells a3)) rfl (by kernel_rfl) (by kernel_rfl) 35 _ _ rfl ⟨gk3, 0, none⟩ (.agg (Hd.cells a3)) (by kernel_rfl) (by kernel_rfl) (run_store_to (cur := Hd.cs a2) (vs := Hd.cs a3) (new := Hd.cs a3) (HF.out.box 1 _ _ _ rfl) (by kernel_rfl) Try.size35 (Nat.le_of_ble_eq_true (by kernel_rfl)) (Hd.oneL _) (by kernel_rfl)) (hH.keptG HTO.out (Kept.setRow _ _ _) (fun k e => .inl e)) (fun hH => ?_)
          try simp only [pS]
          have HH2 : Hid (HdAt (wk70.setRow gk3 (Hd.cells a3)) a2 ab2 ae2 al2 ap2) := HH2.out.keptG HOf2.out (Kept.setRow _ _ _) (fun k e => .inl e)
          have HN : Hid (TkRd (wk70.setRow gk3 (Hd.cells a3)) ⟨ya, s.l, yk⟩ (takeA m a (haveA q b bbs bes bls bp).b (haveA q b bbs bes bls bp).e (haveA q b bbs bes bls bp).l (haveA q b bbs bes bls bp).c ap).z (takeA m a (haveA q b bbs bes bls bp).b (haveA q b bbs bes bls bp).e (haveA q b bbs bes bls bp).l (haveA q b bbs bes bls bp).c ap).b (takeA m a (haveA q b bbs bes bls bp).b (haveA q b bbs bes bls bp).e (haveA q b bbs bes bls bp).l (haveA q b bbs bes bls bp).c ap).e (takeA m a (haveA q b bbs bes bls bp).b (haveA q b bbs bes bls bp).e (haveA q b bbs bes bls bp).l (haveA q b bbs bes bls bp).c ap).l Y) := HN.out.keptG HTO.out (Kept.setRow _ _ _) (fun k e => .inl e)
          have HH3 : Hid (HdAt (wk70.setRow gk3 (Hd.cells a3)) a3 ab3 ae3 al3 ap3) := HH3.out.keptG HF3.out (Kept.setRow _ _ _) (fun k e => .inl e)
          have HF : Hid (Fr No w _ [(gk1, 23, Ky.cells k), (gk3, 35, Hd.cells a3), (gk5, 35, Hd.cells b), (g7, 50, Mg.cells q), (g9, 50, Mg.cells m), (g11, 50, Mg.cells ((takeA m a (haveA q b bbs bes bls bp).b (haveA q b bbs bes bls bp).e (haveA q b bbs bes bls bp).l (haveA q b bbs bes bls bp).c ap).m)), (gk64, 50, Mg.cells ((takeA m a (haveA q b bbs bes bls bp).b (haveA q b bbs bes bls bp).e (haveA q b bbs bes bls bp).l (haveA q b bbs bes bls bp).c ap).m))]) := HF.out.set 1 rfl _
          generalize wk70.setRow gk3 (Hd.cells a3) = wk71 at HF HH2 HN HH3 hH ⊢
          refine wpAnyH_done (by kernel_rfl) ?_ _
          try simp only [pS]
          clear hH
          have HOk3 : Hid (∀ i, j + 1 ≤ i → i < s.l → ChOk a3.k.up (hAt Y i)) := show ∀ i, j + 1 ≤ i → i < s.l → ChOk a3.k.up (hAt Y i) from LsOk.next HOk.out HOk2.out hlt HU3.out
          go_upto_region 18 with fail
          refine WL.start ?_
          refine tK (.int .i64 ((j : Nat) : Int)) ?_
          refine tW (.int .i64 (((j + 1) : Nat) : Int)) (eB .add 3 _ _ _ rfl (.int .i64 ((j : Nat) : Int)) (.int .i64 1) _ (b_addw _ _ _ (by rw [IntKind.wrap_i64]; omega) _)) ?_
          refine tK (.int .i64 (((j + 1) : Nat) : Int)) ?_
          try simp only [pS]
          refine WL.nil ?_
          try simp only [pS]
          go_wp2
          go_roundw
          case rel => exact ⟨j + 1, a3, ab3, ae3, al3, ap3, by go_num, by omega, HH3, HM3, HF3, HOk3, HN, HF⟩
          case measure => simp [intOf]; omega
        · skip
          go_upto_region 17 with fail
          refine WL.start ?_
          refine tK (.int .i64 ((j : Nat) : Int)) ?_
          refine tK (.slice ya s.l yk) ?_
          refine tK (.int .i64 ((s.l : Nat) : Int)) ?_
          refine tW (.bool false) (eB .lss 3 _ _ _ rfl (.int .i64 ((j : Nat) : Int)) (.int .i64 ((s.l : Nat) : Int)) _ (by rw [b_lss, decide_eq_false (by omega)])) ?_
          try simp only [pS]
          refine WL.nil ?_
          try simp only [pS]
          cases ho : (takeA m a (haveA q b bbs bes bls bp).b (haveA q b bbs bes bls bp).e (haveA q b bbs bes bls bp).l (haveA q b bbs bes bls bp).c ap).o
          ·skip
           try simp only [ho]
           go_upto_region 20 with fail
           refine WL.start ?_
           refine tK (.bool false) ?_
           refine tK (.bool true) ?_
           try simp only [pS]
           refine WL.nil ?_
           try simp only [pS]
           go_upto_region 21 with fail
           refine WL.start ?_
           refine tK (.bool true) ?_
           try simp only [pS]
           refine WL.nil ?_
           try simp only [pS]
           go_wp2
           rw [HC.out]
           exact ⟨rfl, HF.out.kept⟩
          ·skip
           try simp only [ho]
           have HQ2 : Hid (QOk (takeA m a (haveA q b bbs bes bls bp).b (haveA q b bbs bes bls bp).e (haveA q b bbs bes bls bp).l (haveA q b bbs bes bls bp).c ap).m b (t + 1)) := HQn.out ho
           go_upto_region 20 with fail
           refine WL.start ?_
           refine tK (.bool true) ?_
           refine tK (.bool false) ?_
           try simp only [pS]
           refine WL.nil ?_
           try simp only [pS]
           go_upto_region 22 with fail
           refine WL.start ?_
           refine tW (.agg (Mg.cells ((takeA m a (haveA q b bbs bes bls bp).b (haveA q b bbs bes bls bp).e (haveA q b bbs bes bls bp).l (haveA q b bbs bes bls bp).c ap).m))) (eL 50 _ rfl ⟨g11, 0, none⟩ (run_load_part (cs := Mg.cs ((takeA m a (haveA q b bbs bes bls bp).b (haveA q b bbs bes bls bp).e (haveA q b bbs bes bls bp).l (haveA q b bbs bes bls bp).c ap).m)) (sub := Mg.cs ((takeA m a (haveA q b bbs bes bls bp).b (haveA q b bbs bes bls bp).e (haveA q b bbs bes bls bp).l (haveA q b bbs bes bls bp).c ap).m)) (HF.out.box 5 _ _ _ rfl) (Part.all _) Try.und50 rfl Try.size50)) ?_
           try simp only [pS]
           refine wp_storeW 50 _ _ rfl ⟨g7, 0, none⟩ (.agg (Mg.cells ((takeA m a (haveA q b bbs bes bls bp).b (haveA q b bbs bes bls bp).e (haveA q b bbs bes bls bp).l (haveA q b bbs bes bls bp).c ap).m))) (by kernel_rfl) (by kernel_rfl) (wr.setRow g7 (Mg.cells ((takeA m a (haveA q b bbs bes bls bp).b (haveA q b bbs bes bls bp).e (haveA q b bbs bes bls bp).l (haveA q b bbs bes bls bp).c ap).m))) (run_store_to (cur := Mg.cs q) (vs := Mg.cs ((takeA m a (haveA q b bbs bes bls bp).b (haveA q b bbs bes bls bp).e (haveA q b bbs bes bls bp).l (haveA q b bbs bes bls bp).c ap).m)) (new := Mg.cs ((takeA m a (haveA q b bbs bes bls bp).b (haveA q b bbs bes bls bp).e (haveA q b bbs bes bls bp).l (haveA q b bbs bes bls bp).c ap).m)) (HF.out.box 3 _ _ _ rfl) (by kernel_rfl) Try.size50 (Nat.le_of_ble_eq_true (by kernel_rfl)) (Mg.oneL _) (by kernel_rfl)) (by kernel_rfl) ?_
           try simp only [pS]
           have HH2 : Hid (HdAt (wr.setRow g7 (Mg.cells ((takeA m a (haveA q b bbs bes bls bp).b (haveA q b bbs bes bls bp).e (haveA q b bbs bes bls bp).l (haveA q b bbs bes bls bp).c ap).m))) a2 ab2 ae2 al2 ap2) := HH2.out.keptG HOf2.out (Kept.setRow _ _ _) (fun k e => .inr e)
           have HF : Hid (Fr No w _ [(gk1, 23, Ky.cells k), (gk3, 35, Hd.cells a2), (gk5, 35, Hd.cells b), (g7, 50, Mg.cells ((takeA m a (haveA q b bbs bes bls bp).b (haveA q b bbs bes bls bp).e (haveA q b bbs bes bls bp).l (haveA q b bbs bes bls bp).c ap).m)), (g9, 50, Mg.cells m), (g11, 50, Mg.cells ((takeA m a (haveA q b bbs bes bls bp).b (haveA q b bbs bes bls bp).e (haveA q b bbs bes bls bp).l (haveA q b bbs bes bls bp).c ap).m)), (gk64, 50, Mg.cells ((takeA m a (haveA q b bbs bes bls bp).b (haveA q b bbs bes bls bp).e (haveA q b bbs bes bls bp).l (haveA q b bbs bes bls bp).c ap).m))]) := HF.out.set 3 rfl _
           generalize wr.setRow g7 (Mg.cells ((takeA m a (haveA q b bbs bes bls bp).b (haveA q b bbs bes bls bp).e (haveA q b bbs bes bls bp).l (haveA q b bbs bes bls bp).c ap).m)) = wk72 at HF HH2 ⊢
           refine WL.nil ?_
           try simp only [pS]
           go_upto_region 8 with fail
           refine WL.start ?_
           refine tK (.int .i64 ((t : Nat) : Int)) ?_
           refine tW (.int .i64 (((t + 1) : Nat) : Int)) (eB .add 3 _ _ _ rfl (.int .i64 ((t : Nat) : Int)) (.int .i64 1) _ (b_addw _ _ _ (by rw [IntKind.wrap_i64]; omega) _)) ?_
           refine tK (.int .i64 (((t + 1) : Nat) : Int)) ?_
           try simp only [pS]
           refine WL.nil ?_
           try simp only [pS]
           have HF : Hid (Fr No w wk72 [(gk1, 23, Ky.cells k), (gk3, 35, Hd.cells a2), (gk5, 35, Hd.cells b), (g7, 50, Mg.cells ((takeA m a (haveA q b bbs bes bls bp).b (haveA q b bbs bes bls bp).e (haveA q b bbs bes bls bp).l (haveA q b bbs bes bls bp).c ap).m))]) := (show Fr No w wk72 ([(gk1, 23, Ky.cells k), (gk3, 35, Hd.cells a2), (gk5, 35, Hd.cells b), (g7, 50, Mg.cells ((takeA m a (haveA q b bbs bes bls bp).b (haveA q b bbs bes bls bp).e (haveA q b bbs bes bls bp).l (haveA q b bbs bes bls bp).c ap).m))] ++ [(g9, 50, Mg.cells m), (g11, 50, Mg.cells ((takeA m a (haveA q b bbs bes bls bp).b (haveA q b bbs bes bls bp).e (haveA q b bbs bes bls bp).l (haveA q b bbs bes bls bp).c ap).m)), (gk64, 50, Mg.cells ((takeA m a (haveA q b bbs bes bls bp).b (haveA q b bbs bes bls bp).e (haveA q b bbs bes bls bp).l (haveA q b bbs bes bls bp).c ap).m))]) from HF.out).front
           go_wp2
           go_roundw
           case rel => exact ⟨t + 1, a2, ab2, ae2, al2, ap2, (takeA m a (haveA q b bbs bes bls bp).b (haveA q b bbs bes bls bp).e (haveA q b bbs bes bls bp).l (haveA q b bbs bes bls bp).c ap).m, by go_num, HQ2, HH2, HM2, HOf2, HF⟩
           case measure => simp [intOf]; omega

end Go.Proofs.Ytcgnbpaaalmkoaa
