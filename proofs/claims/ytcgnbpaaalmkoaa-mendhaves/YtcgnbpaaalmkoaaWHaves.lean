import Derived.Test.YtcgnbpaaalmkoaaCe
namespace Go.Proofs.Ytcgnbpaaalmkoaa
open Go.RowKit
set_option linter.unusedVariables false
set_option linter.unusedSimpArgs false

theorem Fr.lent {S : Nat → Prop} {w0 w w' : World} {l : List (Nat × TypeId × Array Value)} (h : Fr No w0 w l) (hk : Kept S w w') (hlow : ∀ k, S k → w0.heap.size ≤ k) (hne : ∀ x ∈ l, ¬ S x.1) : Fr No w0 w' l :=
  ⟨h.kept.trans hk (fun _ e => e) (fun i hi e => absurd (hlow i e) (by omega)), fun i g T cs hi => (h.box i g T cs hi).kept hk (hne _ (List.mem_of_getElem? hi)), h.low, h.inj⟩
def LS (gb ge gl gp : Nat) : Nat → Prop := fun k => k = gb ∨ k = ge ∨ k = gl ∨ k = gp
theorem LtAt.low {W : World} {base : Nat} {h : Hd} {bs : List Int} {es : List En} {ls : List La} {ps : List Pl} {gb ge gl gp : Nat} (H : LtAt W base h bs es ls ps gb ge gl gp) {n : Nat} (hn : n ≤ base) : ∀ k, LS gb ge gl gp k → n ≤ k := by
  rintro k (e | e | e | e) <;> subst e
  · exact Nat.le_trans hn H.lb
  · exact Nat.le_trans hn H.le
  · exact Nat.le_trans hn H.ll
  · exact Nat.le_trans hn H.lp
theorem LtAt.out {W : World} {base : Nat} {h : Hd} {bs : List Int} {es : List En} {ls : List La} {ps : List Pl} {gb ge gl gp : Nat} (H : LtAt W base h bs es ls ps gb ge gl gp) {g : Nat} {T : TypeId} {cs : Array Value} (hb : Box W g T cs) (hT : T ≠ 5 ∧ T ≠ 110 ∧ T ≠ 113 ∧ T ≠ 87) : ¬ LS gb ge gl gp g := by
  rintro (e | e | e | e)
  · exact hb.ne H.b hT.1 e
  · exact hb.ne H.e hT.2.1 e
  · exact hb.ne H.l hT.2.2.1 e
  · exact hb.ne H.p hT.2.2.2 e
theorem LtAt.row {W : World} {base : Nat} {h : Hd} {bs : List Int} {es : List En} {ls : List La} {ps : List Pl} {gb ge gl gp : Nat} (H : LtAt W base h bs es ls ps gb ge gl gp) {g : Nat} {T : TypeId} {cs : Array Value} (hb : Box W g T cs) (hT : T ≠ 5 ∧ T ≠ 110 ∧ T ≠ 113 ∧ T ≠ 87) (cs' : Array Value) : LtAt (W.setRow g cs') base h bs es ls ps gb ge gl gp :=
  ⟨H.b.rowNe (fun e => hb.ne H.b hT.1 e.symm) _, H.e.rowNe (fun e => hb.ne H.e hT.2.1 e.symm) _, H.l.rowNe (fun e => hb.ne H.l hT.2.2.1 e.symm) _, H.p.rowNe (fun e => hb.ne H.p hT.2.2.2 e.symm) _, H.lb, H.le, H.ll, H.lp⟩
theorem Fr.back {w0 w w' : World} {l : List (Nat × TypeId × Array Value)} {base : Nat} {h : Hd} {bs : List Int} {es : List En} {ls : List La} {ps : List Pl} {gb ge gl gp : Nat} (hF : Fr No w0 w l) (H : LtAt w base h bs es ls ps gb ge gl gp) (hk : Kept (LS gb ge gl gp) w w') (hb : w0.heap.size ≤ base) (hT : ∀ x ∈ l, x.2.1 ≠ 5 ∧ x.2.1 ≠ 110 ∧ x.2.1 ≠ 113 ∧ x.2.1 ≠ 87) : Fr No w0 w' l :=
  hF.lent hk (H.low hb) (fun x hx => by obtain ⟨i, hi⟩ := List.mem_iff_getElem?.1 hx; exact H.out (hF.box i x.1 x.2.1 x.2.2 hi) (hT x hx))
theorem Kept.no {a b c : World} (h : Kept No a b) (hk : Kept No b c) : Kept No a c := h.then hk
def LM (gb ge gl gc : Nat) : Nat → Prop := fun k => k = gb ∨ k = ge ∨ k = gl ∨ k = gc
theorem LtAt.lt {W : World} {base : Nat} {h : Hd} {bs : List Int} {es : List En} {ls : List La} {ps : List Pl} {gb ge gl gp : Nat} (H : LtAt W base h bs es ls ps gb ge gl gp) : ∀ k, LS gb ge gl gp k → k < W.heap.size := by
  rintro k (e | e | e | e) <;> subst e
  · exact H.b.lt
  · exact H.e.lt
  · exact H.l.lt
  · exact H.p.lt
theorem LmAt.lt {W : World} {base : Nat} {m : Mg} {bs : List Int} {es : List En} {ls : List La} {cs : List Cm} {gb ge gl gc : Nat} (H : LmAt W base m bs es ls cs gb ge gl gc) : ∀ k, LM gb ge gl gc k → k < W.heap.size := by
  rintro k (e | e | e | e) <;> subst e
  · exact H.b.lt
  · exact H.e.lt
  · exact H.l.lt
  · exact H.c.lt
theorem LmAt.low {W : World} {base : Nat} {m : Mg} {bs : List Int} {es : List En} {ls : List La} {cs : List Cm} {gb ge gl gc : Nat} (H : LmAt W base m bs es ls cs gb ge gl gc) {n : Nat} (hn : n ≤ base) : ∀ k, LM gb ge gl gc k → n ≤ k := by
  rintro k (e | e | e | e) <;> subst e
  · exact Nat.le_trans hn H.lb
  · exact Nat.le_trans hn H.le
  · exact Nat.le_trans hn H.ll
  · exact Nat.le_trans hn H.lc
theorem LmAt.out {W : World} {base : Nat} {m : Mg} {bs : List Int} {es : List En} {ls : List La} {cs : List Cm} {gb ge gl gc : Nat} (H : LmAt W base m bs es ls cs gb ge gl gc) {g : Nat} {T : TypeId} {cs' : Array Value} (hb : Box W g T cs') (hT : T ≠ 5 ∧ T ≠ 110 ∧ T ≠ 113 ∧ T ≠ 47) : ¬ LM gb ge gl gc g := by
  rintro (e | e | e | e)
  · exact hb.ne H.b hT.1 e
  · exact hb.ne H.e hT.2.1 e
  · exact hb.ne H.l hT.2.2.1 e
  · exact hb.ne H.c hT.2.2.2 e
theorem LmAt.row {W : World} {base : Nat} {m : Mg} {bs : List Int} {es : List En} {ls : List La} {cs : List Cm} {gb ge gl gc : Nat} (H : LmAt W base m bs es ls cs gb ge gl gc) {g : Nat} {T : TypeId} {cs' : Array Value} (hb : Box W g T cs') (hT : T ≠ 5 ∧ T ≠ 110 ∧ T ≠ 113 ∧ T ≠ 47) (ds : Array Value) : LmAt (W.setRow g ds) base m bs es ls cs gb ge gl gc :=
  ⟨H.b.rowNe (fun e => hb.ne H.b hT.1 e.symm) _, H.e.rowNe (fun e => hb.ne H.e hT.2.1 e.symm) _, H.l.rowNe (fun e => hb.ne H.l hT.2.2.1 e.symm) _, H.c.rowNe (fun e => hb.ne H.c hT.2.2.2 e.symm) _, H.lb, H.le, H.ll, H.lc⟩
theorem LmAt.kept {S : Nat → Prop} {W W' : World} {base : Nat} {m : Mg} {bs : List Int} {es : List En} {ls : List La} {cs : List Cm} {gb ge gl gc : Nat} (H : LmAt W base m bs es ls cs gb ge gl gc) (hk : Kept S W W') (hS : ∀ k, S k → k < base) : LmAt W' base m bs es ls cs gb ge gl gc :=
  ⟨H.b.kept hk (fun e => by have := hS _ e; have := H.lb; omega), H.e.kept hk (fun e => by have := hS _ e; have := H.le; omega), H.l.kept hk (fun e => by have := hS _ e; have := H.ll; omega), H.c.kept hk (fun e => by have := hS _ e; have := H.lc; omega), H.lb, H.le, H.ll, H.lc⟩
theorem Fr.spoil {w0 w w' : World} {l : List (Nat × TypeId × Array Value)} {base : Nat} {m : Mg} {bs : List Int} {es : List En} {ls : List La} {cs : List Cm} {gb ge gl gc : Nat} (hF : Fr No w0 w l) (H : LmAt w base m bs es ls cs gb ge gl gc) (hk : Kept (LM gb ge gl gc) w w') (hb : w0.heap.size ≤ base) (hT : ∀ x ∈ l, x.2.1 ≠ 5 ∧ x.2.1 ≠ 110 ∧ x.2.1 ≠ 113 ∧ x.2.1 ≠ 47) : Fr No w0 w' l :=
  hF.lent hk (H.low hb) (fun x hx => by obtain ⟨i, hi⟩ := List.mem_iff_getElem?.1 hx; exact H.out (hF.box i x.1 x.2.1 x.2.2 hi) (hT x hx))
set_option maxRecDepth 100000 in
set_option maxHeartbeats 4000000 in
theorem havesWalk (a : Mg) (h : Hd) (mbs : List Int) (mes : List En) (mls : List La) (mcs : List Cm) (bs : List Int) (es : List En) (ls : List La) (ps : List Pl) (w : World) (ha : MgAt w a mbs mes mls mcs) (hh : HdAt w h bs es ls ps) : Calls Try.prog 4 #[.agg (Mg.cells a), .agg (Hd.cells h)] w (fun e w' => e = .returned (.bool true) ∧ Kept No w w') := by
  obtain ⟨C, hC⟩ : ∃ C : Ending → World → Prop, C = (fun e w' => e = .returned (.bool true) ∧ Kept No w w') := ⟨_, rfl⟩
  have HC : Hid (C = (fun e w' => e = .returned (.bool true) ∧ Kept No w w')) := hC
  rw [← hC]
  clear hC
  have HH : Hid (HdAt w h bs es ls ps) := hh
  have HA : Hid (MgAt w a mbs mes mls mcs) := ha
  have hel : es.length ≤ 4000000000000 := by rw [hh.e.len]; have := hh.ne; omega
  have hll : ls.length ≤ 4000000000000 := by rw [hh.l.len]; have := hh.nl; omega
  clear hh ha
  have HF : Hid (Fr No w w []) := Fr.start _ _
  go_enter Try.func4, Try.ntmps4
  go_upto_region 0 with fail
  refine WL.start ?_
  refine wp_runW (.pointer (some ⟨w.heap.size, 0, none⟩)) (w.alloc (.cells (Mg.cells a) 50)) (exec_box 50 _ rfl (Mg.cells a) (by kernel_rfl)) (by kernel_rfl) ?_
  try simp only [pA, pB, p1, p2, p3]
  have HF : Hid (Fr No w (w.alloc (.cells (Mg.cells a) 50)) [(w.heap.size, 50, Mg.cells a)]) := HF.out.alloc _ _
  generalize w.alloc (.cells (Mg.cells a) 50) = wk2 at HF ⊢
  generalize w.heap.size = gk1 at HF ⊢
  refine wp_runW (.pointer (some ⟨wk2.heap.size, 0, none⟩)) (wk2.alloc (.cells (Hd.cells h) 35)) (exec_box 35 _ rfl (Hd.cells h) (by kernel_rfl)) (by kernel_rfl) ?_
  try simp only [pA, pB, p1, p2, p3]
  have HF : Hid (Fr No w (wk2.alloc (.cells (Hd.cells h) 35)) [(gk1, 50, Mg.cells a), (wk2.heap.size, 35, Hd.cells h)]) := HF.out.alloc _ _
  generalize wk2.alloc (.cells (Hd.cells h) 35) = wk4 at HF ⊢
  generalize wk2.heap.size = gk3 at HF ⊢
  refine tK (.bool false) ?_
  try simp only [pA, pB, p1, p2, p3]
  refine WL.nil ?_
  try simp only [pA, pB, p1, p2, p3]
  go_upto_region 1 with fail
  refine WL.start ?_
  refine wp_callW 9 #[] (by kernel_rfl) _ (known_any _) (by kernel_rfl) ?_
  rintro e wk5 ⟨rfl, hk⟩
  have HF : Hid (Fr No w (wk5) [(gk1, 50, Mg.cells a), (gk3, 35, Hd.cells h)]) := HF.out.no hk
  clear hk
  refine ⟨.bool true, rfl, ?_⟩
  try simp only [pA, pB, p1, p2, p3]
  refine tK (.bool false) ?_
  try simp only [pA, pB, p1, p2, p3]
  refine tK (.bool false) ?_
  try simp only [pA, pB, p1, p2, p3]
  refine tW (.agg (Hd.cells h)) (exec_load 35 _ rfl ⟨gk3, 0, none⟩ (by kernel_rfl) (.agg (Hd.cells h)) (run_load_part (cs := Hd.cs h) (sub := Hd.cs h) (HF.out.box 1 _ _ _ rfl) (Part.all _) Try.und35 rfl Try.size35)) ?_
  try simp only [pA, pB, p1, p2, p3]
  refine wp_callW 10 #[.agg (Hd.cells h)] (by kernel_rfl) _ (may_any h bs es ls ps _ (HH.out.no HF.out.kept)) (by kernel_rfl) ?_
  rintro e wk6 ⟨b, rfl, hb, hk⟩
  have HF : Hid (Fr No w (wk6) [(gk1, 50, Mg.cells a), (gk3, 35, Hd.cells h)]) := HF.out.no hk
  clear hk
  refine ⟨.bool b, rfl, ?_⟩
  try simp only [pA, pB, p1, p2, p3]
  cases q1 : (b)
  ·skip
   try simp only [q1]
   refine tK (.bool true) ?_
   try simp only [pA, pB, p1, p2, p3]
   refine tK (.bool true) ?_
   try simp only [pA, pB, p1, p2, p3]
   refine WL.nil ?_
   try simp only [pA, pB, p1, p2, p3]
   go_upto_region 2 with fail
   refine WL.start ?_
   refine wp_callW 9 #[] (by kernel_rfl) _ (known_any _) (by kernel_rfl) ?_
   rintro e wk7 ⟨rfl, hk⟩
   have HF : Hid (Fr No w (wk7) [(gk1, 50, Mg.cells a), (gk3, 35, Hd.cells h)]) := HF.out.no hk
   clear hk
   refine ⟨.bool true, rfl, ?_⟩
   try simp only [pA, pB, p1, p2, p3]
   refine tK (.bool true) ?_
   try simp only [pA, pB, p1, p2, p3]
   refine WL.nil ?_
   try simp only [pA, pB, p1, p2, p3]
   go_wp2
   rw [HC.out]
   exact ⟨rfl, HF.out.kept⟩
  ·skip
   try simp only [q1]
   refine tK (.bool false) ?_
   try simp only [pA, pB, p1, p2, p3]
   refine tK (.bool false) ?_
   try simp only [pA, pB, p1, p2, p3]
   refine WL.nil ?_
   try simp only [pA, pB, p1, p2, p3]
   have HM : Hid (MayP h ps) := hb (by simpa using q1)
   clear hb
   go_upto_region 3 with fail
   refine WL.start ?_
   refine tW (.agg (Hd.cells h)) (exec_load 35 _ rfl ⟨gk3, 0, none⟩ (by kernel_rfl) (.agg (Hd.cells h)) (run_load_part (cs := Hd.cs h) (sub := Hd.cs h) (HF.out.box 1 _ _ _ rfl) (Part.all _) Try.und35 rfl Try.size35)) ?_
   try simp only [pA, pB, p1, p2, p3]
   refine wp_callW 11 #[.agg (Hd.cells h)] (by kernel_rfl) _ (lend_any h bs es ls ps _ (HH.out.no HF.out.kept)) (by kernel_rfl) ?_
   have hbb : w.heap.size ≤ wk6.heap.size := HF.out.kept.size
   rintro e wk8 ⟨gb, ge, gl, gp, rfl, hT, hk⟩
   have HF : Hid (Fr No w (wk8) [(gk1, 50, Mg.cells a), (gk3, 35, Hd.cells h)]) := HF.out.no hk
   have HT : Hid (LtAt wk8 wk6.heap.size h bs es ls ps gb ge gl gp) := hT
   clear hk hT
   generalize wk6.heap.size = bb at hbb HT
   refine ⟨.agg (Hd.cells (lentH h gb ge gl gp)), rfl, ?_⟩
   try simp only [pA, pB, p1, p2, p3]
   refine wp_runW (.pointer (some ⟨wk8.heap.size, 0, none⟩)) (wk8.alloc (.cells (Hd.cells hdZ) 40)) (exec_alloc 40 rfl (Hd.cells hdZ) zero40) (by kernel_rfl) ?_
   try simp only [pA, pB, p1, p2, p3]
   have HT : Hid (LtAt (wk8.alloc (.cells (Hd.cells hdZ) 40)) bb h bs es ls ps gb ge gl gp) := HT.out.no ((Kept.refl No _).alloc _)
   have HF : Hid (Fr No w (wk8.alloc (.cells (Hd.cells hdZ) 40)) [(gk1, 50, Mg.cells a), (gk3, 35, Hd.cells h), (wk8.heap.size, 40, Hd.cells hdZ)]) := HF.out.alloc _ _
   generalize wk8.alloc (.cells (Hd.cells hdZ) 40) = wk10 at HF HT ⊢
   generalize wk8.heap.size = gk9 at HF ⊢
   refine wp_storeW 40 _ _ rfl ⟨gk9, 0, none⟩ (.agg (Hd.cells (lentH h gb ge gl gp))) (by kernel_rfl) (by kernel_rfl) (wk10.setRow gk9 (Hd.cells (lentH h gb ge gl gp))) (run_store_to (cur := Hd.cs hdZ) (vs := Hd.cs (lentH h gb ge gl gp)) (new := Hd.cs (lentH h gb ge gl gp)) (HF.out.box 2 _ _ _ rfl) (by kernel_rfl) Try.size40 (Nat.le_of_ble_eq_true (by kernel_rfl)) (Hd.oneL _) (by kernel_rfl)) (by kernel_rfl) ?_
   try simp only [pA, pB, p1, p2, p3]
   have HT : Hid (LtAt (wk10.setRow gk9 (Hd.cells (lentH h gb ge gl gp))) bb h bs es ls ps gb ge gl gp) := HT.out.row (HF.out.box 2 _ _ _ rfl) (by decide) _
   have HF : Hid (Fr No w (wk10.setRow gk9 (Hd.cells (lentH h gb ge gl gp))) [(gk1, 50, Mg.cells a), (gk3, 35, Hd.cells h), (gk9, 40, Hd.cells (lentH h gb ge gl gp))]) := HF.out.set 2 rfl _
   generalize wk10.setRow gk9 (Hd.cells (lentH h gb ge gl gp)) = wk11 at HF HT ⊢
   refine WL.nil ?_
   try simp only [pA, pB, p1, p2, p3]
   go_upto_region 4 with fail
   refine WL.start ?_
   refine tW (.agg (Mg.cells a)) (exec_load 50 _ rfl ⟨gk1, 0, none⟩ (by kernel_rfl) (.agg (Mg.cells a)) (run_load_part (cs := Mg.cs a) (sub := Mg.cs a) (HF.out.box 0 _ _ _ rfl) (Part.all _) Try.und50 rfl Try.size50)) ?_
   try simp only [pA, pB, p1, p2, p3]
   refine wp_callW 16 #[.agg (Mg.cells a)] (by kernel_rfl) _ (lendM_any a mbs mes mls mcs _ (HA.out.no HF.out.kept)) (by kernel_rfl) ?_
   have hcc : w.heap.size ≤ wk11.heap.size := HF.out.kept.size
   have hgc : ∀ k, LS gb ge gl gp k → k < wk11.heap.size := HT.out.lt
   rintro e wk12 ⟨mb, me, ml, mc, rfl, hQ, hk⟩
   have HT : Hid (LtAt (wk12) bb h bs es ls ps gb ge gl gp) := HT.out.no hk
   have HF : Hid (Fr No w (wk12) [(gk1, 50, Mg.cells a), (gk3, 35, Hd.cells h), (gk9, 40, Hd.cells (lentH h gb ge gl gp))]) := HF.out.no hk
   have HQ : Hid (LmAt wk12 wk11.heap.size a mbs mes mls mcs mb me ml mc) := hQ
   clear hk hQ
   generalize wk11.heap.size = cc at hcc hgc HQ
   refine ⟨.agg (Mg.cells (lentM a mb me ml mc)), rfl, ?_⟩
   try simp only [pA, pB, p1, p2, p3]
   refine wp_runW (.pointer (some ⟨wk12.heap.size, 0, none⟩)) (wk12.alloc (.cells (Mg.cells mgZ) 50)) (exec_alloc 50 rfl (Mg.cells mgZ) zero50) (by kernel_rfl) ?_
   try simp only [pA, pB, p1, p2, p3]
   have HT : Hid (LtAt (wk12.alloc (.cells (Mg.cells mgZ) 50)) bb h bs es ls ps gb ge gl gp) := HT.out.no ((Kept.refl No _).alloc _)
   have HQ : Hid (LmAt (wk12.alloc (.cells (Mg.cells mgZ) 50)) cc a mbs mes mls mcs mb me ml mc) := HQ.out.no ((Kept.refl No _).alloc _)
   have HF : Hid (Fr No w (wk12.alloc (.cells (Mg.cells mgZ) 50)) [(gk1, 50, Mg.cells a), (gk3, 35, Hd.cells h), (gk9, 40, Hd.cells (lentH h gb ge gl gp)), (wk12.heap.size, 50, Mg.cells mgZ)]) := HF.out.alloc _ _
   generalize wk12.alloc (.cells (Mg.cells mgZ) 50) = wk14 at HF HT HQ ⊢
   generalize wk12.heap.size = gk13 at HF ⊢
   refine wp_storeW 50 _ _ rfl ⟨gk13, 0, none⟩ (.agg (Mg.cells (lentM a mb me ml mc))) (by kernel_rfl) (by kernel_rfl) (wk14.setRow gk13 (Mg.cells (lentM a mb me ml mc))) (run_store_to (cur := Mg.cs mgZ) (vs := Mg.cs (lentM a mb me ml mc)) (new := Mg.cs (lentM a mb me ml mc)) (HF.out.box 3 _ _ _ rfl) (by kernel_rfl) Try.size50 (Nat.le_of_ble_eq_true (by kernel_rfl)) (Mg.oneL _) (by kernel_rfl)) (by kernel_rfl) ?_
   try simp only [pA, pB, p1, p2, p3]
   have HT : Hid (LtAt (wk14.setRow gk13 (Mg.cells (lentM a mb me ml mc))) bb h bs es ls ps gb ge gl gp) := HT.out.row (HF.out.box 3 _ _ _ rfl) (by decide) _
   have HQ : Hid (LmAt (wk14.setRow gk13 (Mg.cells (lentM a mb me ml mc))) cc a mbs mes mls mcs mb me ml mc) := HQ.out.row (HF.out.box 3 _ _ _ rfl) (by decide) _
   have HF : Hid (Fr No w (wk14.setRow gk13 (Mg.cells (lentM a mb me ml mc))) [(gk1, 50, Mg.cells a), (gk3, 35, Hd.cells h), (gk9, 40, Hd.cells (lentH h gb ge gl gp)), (gk13, 50, Mg.cells (lentM a mb me ml mc))]) := HF.out.set 3 rfl _
   generalize wk14.setRow gk13 (Mg.cells (lentM a mb me ml mc)) = wk15 at HF HT HQ ⊢
   refine WL.nil ?_
   try simp only [pA, pB, p1, p2, p3]
   go_upto_region 5 with fail
   refine WL.start ?_
   refine tW (.agg (Mg.cells (lentM a mb me ml mc))) (exec_load 50 _ rfl ⟨gk13, 0, none⟩ (by kernel_rfl) (.agg (Mg.cells (lentM a mb me ml mc))) (run_load_part (cs := Mg.cs (lentM a mb me ml mc)) (sub := Mg.cs (lentM a mb me ml mc)) (HF.out.box 3 _ _ _ rfl) (Part.all _) Try.und50 rfl Try.size50)) ?_
   try simp only [pA, pB, p1, p2, p3]
   refine tW (.agg (Hd.cells (lentH h gb ge gl gp))) (exec_load 40 _ rfl ⟨gk9, 0, none⟩ (by kernel_rfl) (.agg (Hd.cells (lentH h gb ge gl gp))) (run_load_part (cs := Hd.cs (lentH h gb ge gl gp)) (sub := Hd.cs (lentH h gb ge gl gp)) (HF.out.box 2 _ _ _ rfl) (Part.all _) Try.und40 rfl Try.size40)) ?_
   try simp only [pA, pB, p1, p2, p3]
   refine wp_callW 17 #[.agg (Mg.cells (lentM a mb me ml mc)), .agg (Hd.cells (lentH h gb ge gl gp))] (by kernel_rfl) _ (have_any (lentM a mb me ml mc) h bs es ls ps gb ge gl gp bb _ (HH.out.no HF.out.kept) HT.out HM.out) (by kernel_rfl) ?_
   have hgd : ∀ k, LS gb ge gl gp k → k < wk15.heap.size := HT.out.lt
   have hmd : ∀ k, LM mb me ml mc k → k < wk15.heap.size := HQ.out.lt
   rintro e wk16 ⟨m, rfl, hm, hmn, hk⟩
   have HT : Hid (LtAt (wk16) bb h bs es ls ps gb ge gl gp) := HT.out.no hk
   have HQ : Hid (LmAt (wk16) cc a mbs mes mls mcs mb me ml mc) := HQ.out.no hk
   have HF : Hid (Fr No w (wk16) [(gk1, 50, Mg.cells a), (gk3, 35, Hd.cells h), (gk9, 40, Hd.cells (lentH h gb ge gl gp)), (gk13, 50, Mg.cells (lentM a mb me ml mc))]) := HF.out.no hk
   have HM6 : Hid (MgRd wk16 m (haveA a h bs es ls ps)) := hm
   have HN6 : Hid (MgNew wk15.heap.size m) := hmn
   have HS : Hid (Kept No wk16 wk16) := Kept.refl _ _
   obtain ⟨s6, hs6⟩ : ∃ n, wk16.heap.size = n := ⟨_, rfl⟩
   have HS6 : Hid (wk16.heap.size = s6) := hs6
   clear hk hm hmn hs6
   generalize wk15.heap.size = dd at hgd hmd HN6
   refine ⟨.agg (Mg.cells m), rfl, ?_⟩
   try simp only [pA, pB, p1, p2, p3]
   refine wp_runW (.pointer (some ⟨wk16.heap.size, 0, none⟩)) (wk16.alloc (.cells (Mg.cells mgZ) 50)) (exec_alloc 50 rfl (Mg.cells mgZ) zero50) (by kernel_rfl) ?_
   try simp only [pA, pB, p1, p2, p3]
   have hg7 : s6 ≤ wk16.heap.size := by rw [← HS6.out]; exact HS.out.size
   have HT : Hid (LtAt (wk16.alloc (.cells (Mg.cells mgZ) 50)) bb h bs es ls ps gb ge gl gp) := HT.out.no ((Kept.refl No _).alloc _)
   have HQ : Hid (LmAt (wk16.alloc (.cells (Mg.cells mgZ) 50)) cc a mbs mes mls mcs mb me ml mc) := HQ.out.no ((Kept.refl No _).alloc _)
   have HS : Hid (Kept No wk16 (wk16.alloc (.cells (Mg.cells mgZ) 50))) := HS.out.no ((Kept.refl No _).alloc _)
   have HF : Hid (Fr No w (wk16.alloc (.cells (Mg.cells mgZ) 50)) [(gk1, 50, Mg.cells a), (gk3, 35, Hd.cells h), (gk9, 40, Hd.cells (lentH h gb ge gl gp)), (gk13, 50, Mg.cells (lentM a mb me ml mc)), (wk16.heap.size, 50, Mg.cells mgZ)]) := HF.out.alloc _ _
   generalize wk16.alloc (.cells (Mg.cells mgZ) 50) = wk18 at HF HT HQ HS ⊢
   generalize wk16.heap.size = gk17 at HF hg7 ⊢
   refine wp_storeW 50 _ _ rfl ⟨gk17, 0, none⟩ (.agg (Mg.cells m)) (by kernel_rfl) (by kernel_rfl) (wk18.setRow gk17 (Mg.cells m)) (run_store_to (cur := Mg.cs mgZ) (vs := Mg.cs m) (new := Mg.cs m) (HF.out.box 4 _ _ _ rfl) (by kernel_rfl) Try.size50 (Nat.le_of_ble_eq_true (by kernel_rfl)) (Mg.oneL _) (by kernel_rfl)) (by kernel_rfl) ?_
   try simp only [pA, pB, p1, p2, p3]
   have HT : Hid (LtAt (wk18.setRow gk17 (Mg.cells m)) bb h bs es ls ps gb ge gl gp) := HT.out.row (HF.out.box 4 _ _ _ rfl) (by decide) _
   have HQ : Hid (LmAt (wk18.setRow gk17 (Mg.cells m)) cc a mbs mes mls mcs mb me ml mc) := HQ.out.row (HF.out.box 4 _ _ _ rfl) (by decide) _
   have HS : Hid (Kept No wk16 (wk18.setRow gk17 (Mg.cells m))) := HS.out.newRow (by rw [HS6.out]; exact hg7) _
   have HF : Hid (Fr No w (wk18.setRow gk17 (Mg.cells m)) [(gk1, 50, Mg.cells a), (gk3, 35, Hd.cells h), (gk9, 40, Hd.cells (lentH h gb ge gl gp)), (gk13, 50, Mg.cells (lentM a mb me ml mc)), (gk17, 50, Mg.cells m)]) := HF.out.set 4 rfl _
   generalize wk18.setRow gk17 (Mg.cells m) = wk19 at HF HT HQ HS ⊢
   refine WL.nil ?_
   try simp only [pA, pB, p1, p2, p3]
   have HMm : Hid (MgRd wk19 m (haveA a h bs es ls ps)) := HM6.out.no HS.out
   clear HS HM6 hg7 HS6
   go_upto_region 6 with fail
   refine WL.start ?_
   refine tW (.agg (Mg.cells (lentM a mb me ml mc))) (exec_load 50 _ rfl ⟨gk13, 0, none⟩ (by kernel_rfl) (.agg (Mg.cells (lentM a mb me ml mc))) (run_load_part (cs := Mg.cs (lentM a mb me ml mc)) (sub := Mg.cs (lentM a mb me ml mc)) (HF.out.box 3 _ _ _ rfl) (Part.all _) Try.und50 rfl Try.size50)) ?_
   try simp only [pA, pB, p1, p2, p3]
   refine tW (.agg (Mg.cells a)) (exec_load 50 _ rfl ⟨gk1, 0, none⟩ (by kernel_rfl) (.agg (Mg.cells a)) (run_load_part (cs := Mg.cs a) (sub := Mg.cs a) (HF.out.box 0 _ _ _ rfl) (Part.all _) Try.und50 rfl Try.size50)) ?_
   try simp only [pA, pB, p1, p2, p3]
   refine wp_callW 18 #[.agg (Mg.cells (lentM a mb me ml mc)), .agg (Mg.cells a)] (by kernel_rfl) _ (backM_any a mb me ml mc cc mbs mes mls mcs _ (HA.out.no HF.out.kept) HQ.out) (by kernel_rfl) ?_
   rintro e wk20 ⟨rfl, hk⟩
   have HT : Hid (LtAt (wk20) bb h bs es ls ps gb ge gl gp) := HT.out.no hk
   have HQ : Hid (LmAt (wk20) cc a mbs mes mls mcs mb me ml mc) := HQ.out.no hk
   have HMm : Hid (MgRd (wk20) m (haveA a h bs es ls ps)) := HMm.out.no hk
   have HF : Hid (Fr No w (wk20) [(gk1, 50, Mg.cells a), (gk3, 35, Hd.cells h), (gk9, 40, Hd.cells (lentH h gb ge gl gp)), (gk13, 50, Mg.cells (lentM a mb me ml mc)), (gk17, 50, Mg.cells m)]) := HF.out.no hk
   clear hk
   refine ⟨.bool true, rfl, ?_⟩
   try simp only [pA, pB, p1, p2, p3]
   refine tK (.bool false) ?_
   try simp only [pA, pB, p1, p2, p3]
   refine tK (.bool false) ?_
   try simp only [pA, pB, p1, p2, p3]
   refine tW (.agg (Hd.cells (lentH h gb ge gl gp))) (exec_load 40 _ rfl ⟨gk9, 0, none⟩ (by kernel_rfl) (.agg (Hd.cells (lentH h gb ge gl gp))) (run_load_part (cs := Hd.cs (lentH h gb ge gl gp)) (sub := Hd.cs (lentH h gb ge gl gp)) (HF.out.box 2 _ _ _ rfl) (Part.all _) Try.und40 rfl Try.size40)) ?_
   try simp only [pA, pB, p1, p2, p3]
   refine tW (.agg (Hd.cells h)) (exec_load 35 _ rfl ⟨gk3, 0, none⟩ (by kernel_rfl) (.agg (Hd.cells h)) (run_load_part (cs := Hd.cs h) (sub := Hd.cs h) (HF.out.box 1 _ _ _ rfl) (Part.all _) Try.und35 rfl Try.size35)) ?_
   try simp only [pA, pB, p1, p2, p3]
   refine wp_callW 13 #[.agg (Hd.cells (lentH h gb ge gl gp)), .agg (Hd.cells h)] (by kernel_rfl) _ (back_any h gb ge gl gp bb bs es ls ps _ (HH.out.no HF.out.kept) HT.out) (by kernel_rfl) ?_
   rintro e wk21 ⟨rfl, hk⟩
   have HF : Hid (Fr No w (wk21) [(gk1, 50, Mg.cells a), (gk3, 35, Hd.cells h), (gk9, 40, Hd.cells (lentH h gb ge gl gp)), (gk13, 50, Mg.cells (lentM a mb me ml mc)), (gk17, 50, Mg.cells m)]) := HF.out.back HT.out hk hbb (by simp)
   have HQ : Hid (LmAt wk21 cc a mbs mes mls mcs mb me ml mc) := HQ.out.kept hk hgc
   have HMm : Hid (MgRd wk21 m (haveA a h bs es ls ps)) := HMm.out.kept HN6.out hk hgd
   clear hk HT
   refine ⟨.bool true, rfl, ?_⟩
   try simp only [pA, pB, p1, p2, p3]
   refine tK (.bool false) ?_
   try simp only [pA, pB, p1, p2, p3]
   refine tK (.bool false) ?_
   try simp only [pA, pB, p1, p2, p3]
   refine WL.nil ?_
   try simp only [pA, pB, p1, p2, p3]
   go_upto_region 8 with fail
   refine WL.start ?_
   refine tW (.agg (Mg.cells (lentM a mb me ml mc))) (exec_load 50 _ rfl ⟨gk13, 0, none⟩ (by kernel_rfl) (.agg (Mg.cells (lentM a mb me ml mc))) (run_load_part (cs := Mg.cs (lentM a mb me ml mc)) (sub := Mg.cs (lentM a mb me ml mc)) (HF.out.box 3 _ _ _ rfl) (Part.all _) Try.und50 rfl Try.size50)) ?_
   try simp only [pA, pB, p1, p2, p3]
   refine wp_callW 19 #[.agg (Mg.cells (lentM a mb me ml mc))] (by kernel_rfl) _ (spoil_any a mb me ml mc cc mbs mes mls mcs _ HQ.out HA.out.nb HA.out.ne HA.out.nl HA.out.nc) (by kernel_rfl) ?_
   rintro e wk22 ⟨rfl, hk⟩
   have HF : Hid (Fr No w (wk22) [(gk1, 50, Mg.cells a), (gk3, 35, Hd.cells h), (gk9, 40, Hd.cells (lentH h gb ge gl gp)), (gk13, 50, Mg.cells (lentM a mb me ml mc)), (gk17, 50, Mg.cells m)]) := HF.out.spoil HQ.out hk hcc (by simp)
   have HMm : Hid (MgRd wk22 m (haveA a h bs es ls ps)) := HMm.out.kept HN6.out hk hmd
   clear hk HQ
   refine ⟨.tuple #[], rfl, ?_⟩
   try simp only [pA, pB, p1, p2, p3]
   refine WL.nil ?_
   try simp only [pA, pB, p1, p2, p3]
   go_upto_region 9 with fail
   refine wp_region_held_drew (S := fun w' => Fr No w w' [(gk1, 50, Mg.cells a), (gk3, 35, Hd.cells h), (gk9, 40, Hd.cells (lentH h gb ge gl gp)), (gk13, 50, Mg.cells (lentM a mb me ml mc)), (gk17, 50, Mg.cells m)]) rfl (HF.out.drew) (fun hH => ?_)
   have HMm : Hid (MgRd (wk22.drew) m (haveA a h bs es ls ps)) := HMm.out.no (Kept.refl No _).drew
   have HF : Hid (Fr No w (wk22.drew) [(gk1, 50, Mg.cells a), (gk3, 35, Hd.cells h), (gk9, 40, Hd.cells (lentH h gb ge gl gp)), (gk13, 50, Mg.cells (lentM a mb me ml mc)), (gk17, 50, Mg.cells m)]) := HF.out.drew
   generalize wk22.drew = wk23 at HF HMm hH ⊢
   refine aT (i := 0) (oi := { dst := some 35, op := Op.load 50 (Operand.tmp 7), type := 50, pos := "law.go:114", after := #[], guard := none }) (v := .agg (Mg.cells m)) (fun w' hw => exec_load 50 _ rfl ⟨gk17, 0, none⟩ (by kernel_rfl) (.agg (Mg.cells m)) (run_load_part (cs := Mg.cs m) (sub := Mg.cs m) (hw.box 4 _ _ _ rfl) (Part.all _) Try.und50 rfl Try.size50)) hH ?_
   try simp only [pA, pB, p1, p2, p3]
   refine aT (i := 1) (oi := { dst := some 36, op := Op.load 50 (Operand.tmp 2), type := 50, pos := "law.go:114", after := #[], guard := none }) (v := .agg (Mg.cells a)) (fun w' hw => exec_load 50 _ rfl ⟨gk1, 0, none⟩ (by kernel_rfl) (.agg (Mg.cells a)) (run_load_part (cs := Mg.cs a) (sub := Mg.cs a) (hw.box 0 _ _ _ rfl) (Part.all _) Try.und50 rfl Try.size50)) hH ?_
   try simp only [pA, pB, p1, p2, p3]
   refine aT (i := 2) (oi := { dst := some 37, op := Op.load 35 (Operand.tmp 3), type := 35, pos := "law.go:114", after := #[], guard := none }) (v := .agg (Hd.cells h)) (fun w' hw => exec_load 35 _ rfl ⟨gk3, 0, none⟩ (by kernel_rfl) (.agg (Hd.cells h)) (run_load_part (cs := Hd.cs h) (sub := Hd.cs h) (hw.box 1 _ _ _ rfl) (Part.all _) Try.und35 rfl Try.size35)) hH ?_
   try simp only [pA, pB, p1, p2, p3]
   refine any_call (i := 3) (o := { dst := some 38, op := Op.call { callee := Callee.value (Operand.func 20), args := #[Operand.tmp 36, Operand.tmp 37], argTypes := #[50, 35] }, type := 50, pos := "law.go:114", after := #[{ on := 1, ground := Ground.data }, { on := 2, ground := Ground.data }], guard := none }) rfl (by kernel_rfl) (by kernel_rfl) 20 #[.agg (Mg.cells a), .agg (Hd.cells h)] (by kernel_rfl) _ (refHave_any a h bs es ls ps _ (HH.out.no HF.out.kept) HM.out) ?_
   rintro e wk24 ⟨n, rfl, hn, hk⟩
   have hH2 : Fr No w wk24 [(gk1, 50, Mg.cells a), (gk3, 35, Hd.cells h), (gk9, 40, Hd.cells (lentH h gb ge gl gp)), (gk13, 50, Mg.cells (lentM a mb me ml mc)), (gk17, 50, Mg.cells m)] := hH.no hk
   have HMm : Hid (MgRd (wk24) m (haveA a h bs es ls ps)) := HMm.out.no hk
   have HF : Hid (Fr No w (wk24) [(gk1, 50, Mg.cells a), (gk3, 35, Hd.cells h), (gk9, 40, Hd.cells (lentH h gb ge gl gp)), (gk13, 50, Mg.cells (lentM a mb me ml mc)), (gk17, 50, Mg.cells m)]) := HF.out.no hk
   have HN2 : Hid (MgRd wk24 n (haveA a h bs es ls ps)) := hn
   clear hk hn
   refine ⟨.agg (Mg.cells n), rfl, hH2, fun hH => ?_⟩
   clear hH2
   try simp only [pA, pB, p1, p2, p3]
   refine any_call (i := 4) (o := { dst := some 39, op := Op.call { callee := Callee.value (Operand.func 14), args := #[Operand.tmp 35, Operand.tmp 38], argTypes := #[50, 50] }, type := 4, pos := "law.go:114", after := #[{ on := 0, ground := Ground.data }, { on := 3, ground := Ground.data }, { on := 3, ground := Ground.chain }], guard := none }) rfl (by kernel_rfl) (by kernel_rfl) 14 #[.agg (Mg.cells m), .agg (Mg.cells n)] (by kernel_rfl) _ (sameM2 m n (haveA a h bs es ls ps) _ HMm.out HN2.out (hv_len a h bs es ls ps hel hll).1 (hv_len a h bs es ls ps hel hll).2.1 (hv_len a h bs es ls ps hel hll).2.2) ?_
   rintro e wk25 ⟨rfl, hk⟩
   have hH2 : Fr No w wk25 [(gk1, 50, Mg.cells a), (gk3, 35, Hd.cells h), (gk9, 40, Hd.cells (lentH h gb ge gl gp)), (gk13, 50, Mg.cells (lentM a mb me ml mc)), (gk17, 50, Mg.cells m)] := hH.no hk
   have HMm : Hid (MgRd (wk25) m (haveA a h bs es ls ps)) := HMm.out.no hk
   have HN2 : Hid (MgRd (wk25) n (haveA a h bs es ls ps)) := HN2.out.no hk
   have HF : Hid (Fr No w (wk25) [(gk1, 50, Mg.cells a), (gk3, 35, Hd.cells h), (gk9, 40, Hd.cells (lentH h gb ge gl gp)), (gk13, 50, Mg.cells (lentM a mb me ml mc)), (gk17, 50, Mg.cells m)]) := HF.out.no hk
   clear hk
   refine ⟨.bool true, rfl, hH2, fun hH => ?_⟩
   clear hH2
   try simp only [pA, pB, p1, p2, p3]
   refine aT (i := 5) (oi := { dst := some 4, op := Op.assign (Operand.tmp 39), type := 4, pos := "law.go:114", after := #[{ on := 4, ground := Ground.data }, { on := 4, ground := Ground.chain }, { on := 0, ground := Ground.phase }, { on := 1, ground := Ground.phase }, { on := 2, ground := Ground.phase }, { on := 3, ground := Ground.phase }, { on := 4, ground := Ground.phase }], guard := none }) (v := .bool true) (fun _ _ => by kernel_rfl) hH ?_
   try simp only [pA, pB, p1, p2, p3]
   refine wpAnyH_done (by kernel_rfl) ?_ _
   try simp only [pA, pB, p1, p2, p3]
   clear hH
   go_wp2
   rw [HC.out]
   exact ⟨rfl, HF.out.kept⟩

end Go.Proofs.Ytcgnbpaaalmkoaa
