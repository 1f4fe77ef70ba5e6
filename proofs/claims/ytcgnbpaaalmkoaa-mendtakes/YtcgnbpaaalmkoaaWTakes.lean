import Derived.Test.YtcgnbpaaalmkoaaDc
import Derived.Test.YtcgnbpaaalmkoaaLw
namespace Go.Proofs.Ytcgnbpaaalmkoaa
open Go.RowKit
set_option linter.unusedVariables false
set_option linter.unusedSimpArgs false

theorem TkRd.of {W : World} {s : Sl} {A : Tw} {X : List Ch} (h : TkRd W s A.z A.b A.e A.l X) : A.z.length = s.l := h.zl
theorem sameM_nil (m : Mg) (w : World) (h1 : m.bl = slZ) (h2 : m.bk.e = slZ) (h3 : m.bk.l = slZ) (h4 : m.cm = slZ) : Calls Try.prog 14 #[.agg (Mg.cells m), .agg (Mg.cells m)] w (fun e w' => e = .returned (.bool true) ∧ Kept No w w') :=
  sameM2 m m ⟨scal m, [], [], [], []⟩ w ⟨rfl, h1 ▸ RdB.nil w, h2 ▸ RdE.nil w, h3 ▸ RdL.nil w, h4 ▸ RdC.nil w⟩ ⟨rfl, h1 ▸ RdB.nil w, h2 ▸ RdE.nil w, h3 ▸ RdL.nil w, h4 ▸ RdC.nil w⟩ (Nat.zero_le _) (Nat.zero_le _) (Nat.zero_le _)
set_option maxRecDepth 100000 in
set_option maxHeartbeats 4000000 in
theorem takesWalk (a : Mg) (h : Hd) (mbs : List Int) (mes : List En) (mls : List La) (mcs : List Cm) (bs : List Int) (es : List En) (ls : List La) (ps : List Pl) (w : World) (ha : MgAt w a mbs mes mls mcs) (hh : HdAt w h bs es ls ps) : Calls Try.prog 5 #[.agg (Mg.cells a), .agg (Hd.cells h)] w (fun e w' => e = .returned (.bool true) ∧ Kept No w w') := by
  obtain ⟨C, hC⟩ : ∃ C : Ending → World → Prop, C = (fun e w' => e = .returned (.bool true) ∧ Kept No w w') := ⟨_, rfl⟩
  have HC : Hid (C = (fun e w' => e = .returned (.bool true) ∧ Kept No w w')) := hC
  rw [← hC]
  clear hC
  have HH : Hid (HdAt w h bs es ls ps) := hh
  have HA : Hid (MgAt w a mbs mes mls mcs) := ha
  have hLn := tk_len a h mbs mes mls mcs ps (by have := ha.nc; omega) (by rw [ha.e.len]; have := ha.ne; omega) (by rw [ha.l.len]; have := ha.nl; omega)
  clear hh ha
  have HF : Hid (Fr No w w []) := Fr.start _ _
  go_enter Try.func5, Try.ntmps5
  go_upto_region 0 with fail
  refine WL.start ?_
  refine wp_runW (.pointer (some ⟨w.heap.size, 0, none⟩)) (w.alloc (.cells (Mg.cells a) 50)) (exec_box 50 _ rfl (Mg.cells a) (by kernel_rfl)) (by kernel_rfl) ?_
  try simp only [pA, pB, p1, p2, p3]
  have HF : Hid (Fr No w (w.alloc (.cells (Mg.cells a) 50)) [(w.heap.size, 50, Mg.cells a)]) := HF.out.alloc _ _
  generalize w.alloc (.cells (Mg.cells a) 50) = wk2 at HF ⊢
  generalize w.heap.size = gk1 at HF ⊢
  refine wp_runW (.pointer (some ⟨wk2.heap.size, 0, none⟩)) (wk2.alloc (.cells (Hd.cells h) 35)) (exec_box 35 _ rfl (Hd.cells h) (by kernel_rfl)) (by kernel_rfl) ?_
  try simp only [pA, pB, p1, p2, p3]
  have HF : Hid (Fr No w (wk2.alloc (.cells (Hd.cells h) 35)) [(gk1, 50, Mg.cells a), (wk2.heap.size, 35, Hd.cells h)]) := HF.out.alloc _ _
  generalize wk2.alloc (.cells (Hd.cells h) 35) = wk4 at HF ⊢
  generalize wk2.heap.size = gk3 at HF ⊢
  refine tK (.bool false) ?_
  try simp only [pA, pB, p1, p2, p3]
  refine WL.nil ?_
  try simp only [pA, pB, p1, p2, p3]
  go_upto_region 1 with fail
  refine WL.start ?_
  refine wp_callW 9 #[] (by kernel_rfl) _ (known_any _) (by kernel_rfl) ?_
  rintro e wk5 ⟨rfl, hk⟩
  have HF : Hid (Fr No w (wk5) [(gk1, 50, Mg.cells a), (gk3, 35, Hd.cells h)]) := HF.out.no hk
  clear hk
  refine ⟨.bool true, rfl, ?_⟩
  try simp only [pA, pB, p1, p2, p3]
  refine tK (.bool false) ?_
  try simp only [pA, pB, p1, p2, p3]
  refine tK (.bool false) ?_
  try simp only [pA, pB, p1, p2, p3]
  refine tW (.agg (Hd.cells h)) (exec_load 35 _ rfl ⟨gk3, 0, none⟩ (by kernel_rfl) (.agg (Hd.cells h)) (run_load_part (cs := Hd.cs h) (sub := Hd.cs h) (HF.out.box 1 _ _ _ rfl) (Part.all _) Try.und35 rfl Try.size35)) ?_
  try simp only [pA, pB, p1, p2, p3]
  refine wp_callW 10 #[.agg (Hd.cells h)] (by kernel_rfl) _ (may_any h bs es ls ps _ (HH.out.no HF.out.kept)) (by kernel_rfl) ?_
  rintro e wk6 ⟨b, rfl, hb, hk⟩
  have HF : Hid (Fr No w (wk6) [(gk1, 50, Mg.cells a), (gk3, 35, Hd.cells h)]) := HF.out.no hk
  clear hk
  refine ⟨.bool b, rfl, ?_⟩
  try simp only [pA, pB, p1, p2, p3]
  cases q1 : (b)
  ·skip
   try simp only [q1]
   refine tK (.bool true) ?_
   try simp only [pA, pB, p1, p2, p3]
   refine tK (.bool true) ?_
   try simp only [pA, pB, p1, p2, p3]
   refine WL.nil ?_
   try simp only [pA, pB, p1, p2, p3]
   go_upto_region 2 with fail
   refine WL.start ?_
   refine wp_callW 9 #[] (by kernel_rfl) _ (known_any _) (by kernel_rfl) ?_
   rintro e wk7 ⟨rfl, hk⟩
   have HF : Hid (Fr No w (wk7) [(gk1, 50, Mg.cells a), (gk3, 35, Hd.cells h)]) := HF.out.no hk
   clear hk
   refine ⟨.bool true, rfl, ?_⟩
   try simp only [pA, pB, p1, p2, p3]
   refine tK (.bool true) ?_
   try simp only [pA, pB, p1, p2, p3]
   refine WL.nil ?_
   try simp only [pA, pB, p1, p2, p3]
   go_wp2
   rw [HC.out]
   exact ⟨rfl, HF.out.kept⟩
  ·skip
   try simp only [q1]
   refine tK (.bool false) ?_
   try simp only [pA, pB, p1, p2, p3]
   refine tK (.bool false) ?_
   try simp only [pA, pB, p1, p2, p3]
   refine WL.nil ?_
   try simp only [pA, pB, p1, p2, p3]
   have HM : Hid (MayP h ps) := hb (by simpa using q1)
   clear hb
   go_upto_region 3 with fail
   refine WL.start ?_
   refine tW (.agg (Hd.cells h)) (exec_load 35 _ rfl ⟨gk3, 0, none⟩ (by kernel_rfl) (.agg (Hd.cells h)) (run_load_part (cs := Hd.cs h) (sub := Hd.cs h) (HF.out.box 1 _ _ _ rfl) (Part.all _) Try.und35 rfl Try.size35)) ?_
   try simp only [pA, pB, p1, p2, p3]
   refine wp_callW 11 #[.agg (Hd.cells h)] (by kernel_rfl) _ (lend_any h bs es ls ps _ (HH.out.no HF.out.kept)) (by kernel_rfl) ?_
   have hbb : w.heap.size ≤ wk6.heap.size := HF.out.kept.size
   rintro e wk8 ⟨gb, ge, gl, gp, rfl, hT, hk⟩
   have HF : Hid (Fr No w (wk8) [(gk1, 50, Mg.cells a), (gk3, 35, Hd.cells h)]) := HF.out.no hk
   have HT : Hid (LtAt wk8 wk6.heap.size h bs es ls ps gb ge gl gp) := hT
   clear hk hT
   generalize wk6.heap.size = bb at hbb HT
   refine ⟨.agg (Hd.cells (lentH h gb ge gl gp)), rfl, ?_⟩
   try simp only [pA, pB, p1, p2, p3]
   refine wp_runW (.pointer (some ⟨wk8.heap.size, 0, none⟩)) (wk8.alloc (.cells (Hd.cells hdZ) 40)) (exec_alloc 40 rfl (Hd.cells hdZ) zero40) (by kernel_rfl) ?_
   try simp only [pA, pB, p1, p2, p3]
   have HT : Hid (LtAt (wk8.alloc (.cells (Hd.cells hdZ) 40)) bb h bs es ls ps gb ge gl gp) := HT.out.no ((Kept.refl No _).alloc _)
   have HF : Hid (Fr No w (wk8.alloc (.cells (Hd.cells hdZ) 40)) [(gk1, 50, Mg.cells a), (gk3, 35, Hd.cells h), (wk8.heap.size, 40, Hd.cells hdZ)]) := HF.out.alloc _ _
   generalize wk8.alloc (.cells (Hd.cells hdZ) 40) = wk10 at HF HT ⊢
   generalize wk8.heap.size = gk9 at HF ⊢
   refine wp_storeW 40 _ _ rfl ⟨gk9, 0, none⟩ (.agg (Hd.cells (lentH h gb ge gl gp))) (by kernel_rfl) (by kernel_rfl) (wk10.setRow gk9 (Hd.cells (lentH h gb ge gl gp))) (run_store_to (cur := Hd.cs hdZ) (vs := Hd.cs (lentH h gb ge gl gp)) (new := Hd.cs (lentH h gb ge gl gp)) (HF.out.box 2 _ _ _ rfl) (by kernel_rfl) Try.size40 (Nat.le_of_ble_eq_true (by kernel_rfl)) (Hd.oneL _) (by kernel_rfl)) (by kernel_rfl) ?_
   try simp only [pA, pB, p1, p2, p3]
   have HT : Hid (LtAt (wk10.setRow gk9 (Hd.cells (lentH h gb ge gl gp))) bb h bs es ls ps gb ge gl gp) := HT.out.row (HF.out.box 2 _ _ _ rfl) (by decide) _
   have HF : Hid (Fr No w (wk10.setRow gk9 (Hd.cells (lentH h gb ge gl gp))) [(gk1, 50, Mg.cells a), (gk3, 35, Hd.cells h), (gk9, 40, Hd.cells (lentH h gb ge gl gp))]) := HF.out.set 2 rfl _
   generalize wk10.setRow gk9 (Hd.cells (lentH h gb ge gl gp)) = wk11 at HF HT ⊢
   refine WL.nil ?_
   try simp only [pA, pB, p1, p2, p3]
   go_upto_region 4 with fail
   refine WL.start ?_
   refine tW (.agg (Mg.cells a)) (exec_load 50 _ rfl ⟨gk1, 0, none⟩ (by kernel_rfl) (.agg (Mg.cells a)) (run_load_part (cs := Mg.cs a) (sub := Mg.cs a) (HF.out.box 0 _ _ _ rfl) (Part.all _) Try.und50 rfl Try.size50)) ?_
   try simp only [pA, pB, p1, p2, p3]
   refine wp_callW 16 #[.agg (Mg.cells a)] (by kernel_rfl) _ (lendM_any a mbs mes mls mcs _ (HA.out.no HF.out.kept)) (by kernel_rfl) ?_
   have hcc : w.heap.size ≤ wk11.heap.size := HF.out.kept.size
   have hgc : ∀ k, LS gb ge gl gp k → k < wk11.heap.size := HT.out.lt
   rintro e wk12 ⟨mb, me, ml, mc, rfl, hQ, hk⟩
   have HT : Hid (LtAt (wk12) bb h bs es ls ps gb ge gl gp) := HT.out.no hk
   have HF : Hid (Fr No w (wk12) [(gk1, 50, Mg.cells a), (gk3, 35, Hd.cells h), (gk9, 40, Hd.cells (lentH h gb ge gl gp))]) := HF.out.no hk
   have HQ : Hid (LmAt wk12 wk11.heap.size a mbs mes mls mcs mb me ml mc) := hQ
   clear hk hQ
   generalize wk11.heap.size = cc at hcc hgc HQ
   refine ⟨.agg (Mg.cells (lentM a mb me ml mc)), rfl, ?_⟩
   try simp only [pA, pB, p1, p2, p3]
   refine wp_runW (.pointer (some ⟨wk12.heap.size, 0, none⟩)) (wk12.alloc (.cells (Mg.cells mgZ) 50)) (exec_alloc 50 rfl (Mg.cells mgZ) zero50) (by kernel_rfl) ?_
   try simp only [pA, pB, p1, p2, p3]
   have HT : Hid (LtAt (wk12.alloc (.cells (Mg.cells mgZ) 50)) bb h bs es ls ps gb ge gl gp) := HT.out.no ((Kept.refl No _).alloc _)
   have HQ : Hid (LmAt (wk12.alloc (.cells (Mg.cells mgZ) 50)) cc a mbs mes mls mcs mb me ml mc) := HQ.out.no ((Kept.refl No _).alloc _)
   have HF : Hid (Fr No w (wk12.alloc (.cells (Mg.cells mgZ) 50)) [(gk1, 50, Mg.cells a), (gk3, 35, Hd.cells h), (gk9, 40, Hd.cells (lentH h gb ge gl gp)), (wk12.heap.size, 50, Mg.cells mgZ)]) := HF.out.alloc _ _
   generalize wk12.alloc (.cells (Mg.cells mgZ) 50) = wk14 at HF HT HQ ⊢
   generalize wk12.heap.size = gk13 at HF ⊢
   refine wp_storeW 50 _ _ rfl ⟨gk13, 0, none⟩ (.agg (Mg.cells (lentM a mb me ml mc))) (by kernel_rfl) (by kernel_rfl) (wk14.setRow gk13 (Mg.cells (lentM a mb me ml mc))) (run_store_to (cur := Mg.cs mgZ) (vs := Mg.cs (lentM a mb me ml mc)) (new := Mg.cs (lentM a mb me ml mc)) (HF.out.box 3 _ _ _ rfl) (by kernel_rfl) Try.size50 (Nat.le_of_ble_eq_true (by kernel_rfl)) (Mg.oneL _) (by kernel_rfl)) (by kernel_rfl) ?_
   try simp only [pA, pB, p1, p2, p3]
   have HT : Hid (LtAt (wk14.setRow gk13 (Mg.cells (lentM a mb me ml mc))) bb h bs es ls ps gb ge gl gp) := HT.out.row (HF.out.box 3 _ _ _ rfl) (by decide) _
   have HQ : Hid (LmAt (wk14.setRow gk13 (Mg.cells (lentM a mb me ml mc))) cc a mbs mes mls mcs mb me ml mc) := HQ.out.row (HF.out.box 3 _ _ _ rfl) (by decide) _
   have HF : Hid (Fr No w (wk14.setRow gk13 (Mg.cells (lentM a mb me ml mc))) [(gk1, 50, Mg.cells a), (gk3, 35, Hd.cells h), (gk9, 40, Hd.cells (lentH h gb ge gl gp)), (gk13, 50, Mg.cells (lentM a mb me ml mc))]) := HF.out.set 3 rfl _
   generalize wk14.setRow gk13 (Mg.cells (lentM a mb me ml mc)) = wk15 at HF HT HQ ⊢
   refine WL.nil ?_
   try simp only [pA, pB, p1, p2, p3]
   go_upto_region 5 with fail
   refine WL.start ?_
   refine tW (.agg (Mg.cells (lentM a mb me ml mc))) (exec_load 50 _ rfl ⟨gk13, 0, none⟩ (by kernel_rfl) (.agg (Mg.cells (lentM a mb me ml mc))) (run_load_part (cs := Mg.cs (lentM a mb me ml mc)) (sub := Mg.cs (lentM a mb me ml mc)) (HF.out.box 3 _ _ _ rfl) (Part.all _) Try.und50 rfl Try.size50)) ?_
   try simp only [pA, pB, p1, p2, p3]
   refine tW (.agg (Hd.cells (lentH h gb ge gl gp))) (exec_load 40 _ rfl ⟨gk9, 0, none⟩ (by kernel_rfl) (.agg (Hd.cells (lentH h gb ge gl gp))) (run_load_part (cs := Hd.cs (lentH h gb ge gl gp)) (sub := Hd.cs (lentH h gb ge gl gp)) (HF.out.box 2 _ _ _ rfl) (Part.all _) Try.und40 rfl Try.size40)) ?_
   try simp only [pA, pB, p1, p2, p3]
   refine wp_callW 21 #[.agg (Mg.cells (lentM a mb me ml mc)), .agg (Hd.cells (lentH h gb ge gl gp))] (by kernel_rfl) _ (take_any a h mbs mes mls mcs bs es ls ps mb me ml mc cc gb ge gl gp bb _ (HA.out.no HF.out.kept) HQ.out (HH.out.no HF.out.kept) HT.out HM.out) (by kernel_rfl) ?_
   have hgd : ∀ k, LS gb ge gl gp k → k < wk15.heap.size := HT.out.lt
   have hmd : ∀ k, LM mb me ml mc k → k < wk15.heap.size := HQ.out.lt
   rintro e wk16 ⟨s, X, rfl, hm, hmn, hk⟩
   have HT : Hid (LtAt (wk16) bb h bs es ls ps gb ge gl gp) := HT.out.no hk
   have HQ : Hid (LmAt (wk16) cc a mbs mes mls mcs mb me ml mc) := HQ.out.no hk
   have HF : Hid (Fr No w (wk16) [(gk1, 50, Mg.cells a), (gk3, 35, Hd.cells h), (gk9, 40, Hd.cells (lentH h gb ge gl gp)), (gk13, 50, Mg.cells (lentM a mb me ml mc))]) := HF.out.no hk
   have HM6 : Hid (TkRd wk16 s (takeA a h mbs mes mls mcs ps).z (takeA a h mbs mes mls mcs ps).b (takeA a h mbs mes mls mcs ps).e (takeA a h mbs mes mls mcs ps).l X) := hm
   have HN6 : Hid (TkNew wk15.heap.size s X) := hmn
   clear hk hm hmn
   generalize wk15.heap.size = dd at hgd hmd HN6
   have HS : Hid (Kept No wk16 wk16) := Kept.refl _ _
   obtain ⟨s6, hs6⟩ : ∃ n, wk16.heap.size = n := ⟨_, rfl⟩
   have HS6 : Hid (wk16.heap.size = s6) := hs6
   clear hs6
   refine ⟨.tuple #[s.v, .agg (Mg.cells (takeA a h mbs mes mls mcs ps).m), .bool (takeA a h mbs mes mls mcs ps).o], rfl, ?_⟩
   try simp only [pA, pB, p1, p2, p3]
   refine tK (.tuple #[s.v, .agg (Mg.cells (takeA a h mbs mes mls mcs ps).m), .bool (takeA a h mbs mes mls mcs ps).o]) ?_
   try simp only [pA, pB, p1, p2, p3]
   refine tK (s.v) ?_
   try simp only [pA, pB, p1, p2, p3]
   refine tK (.agg (Mg.cells ((takeA a h mbs mes mls mcs ps).m))) ?_
   try simp only [pA, pB, p1, p2, p3]
   refine tK (.bool (takeA a h mbs mes mls mcs ps).o) ?_
   try simp only [pA, pB, p1, p2, p3]
   refine wp_runW (.pointer (some ⟨wk16.heap.size, 0, none⟩)) (wk16.alloc (.cells (Mg.cells mgZ) 50)) (exec_alloc 50 rfl (Mg.cells mgZ) zero50) (by kernel_rfl) ?_
   try simp only [pA, pB, p1, p2, p3]
   have hg7 : s6 ≤ wk16.heap.size := by rw [← HS6.out]; exact HS.out.size
   have HT : Hid (LtAt (wk16.alloc (.cells (Mg.cells mgZ) 50)) bb h bs es ls ps gb ge gl gp) := HT.out.no ((Kept.refl No _).alloc _)
   have HQ : Hid (LmAt (wk16.alloc (.cells (Mg.cells mgZ) 50)) cc a mbs mes mls mcs mb me ml mc) := HQ.out.no ((Kept.refl No _).alloc _)
   have HS : Hid (Kept No wk16 (wk16.alloc (.cells (Mg.cells mgZ) 50))) := HS.out.no ((Kept.refl No _).alloc _)
   have HF : Hid (Fr No w (wk16.alloc (.cells (Mg.cells mgZ) 50)) [(gk1, 50, Mg.cells a), (gk3, 35, Hd.cells h), (gk9, 40, Hd.cells (lentH h gb ge gl gp)), (gk13, 50, Mg.cells (lentM a mb me ml mc)), (wk16.heap.size, 50, Mg.cells mgZ)]) := HF.out.alloc _ _
   generalize wk16.alloc (.cells (Mg.cells mgZ) 50) = wk18 at HF HT HQ HS ⊢
   generalize wk16.heap.size = gk17 at HF hg7 ⊢
   refine tK (s.v) ?_
   try simp only [pA, pB, p1, p2, p3]
   refine wp_storeW 50 _ _ rfl ⟨gk17, 0, none⟩ (.agg (Mg.cells ((takeA a h mbs mes mls mcs ps).m))) (by kernel_rfl) (by kernel_rfl) (wk18.setRow gk17 (Mg.cells ((takeA a h mbs mes mls mcs ps).m))) (run_store_to (cur := Mg.cs mgZ) (vs := Mg.cs ((takeA a h mbs mes mls mcs ps).m)) (new := Mg.cs ((takeA a h mbs mes mls mcs ps).m)) (HF.out.box 4 _ _ _ rfl) (by kernel_rfl) Try.size50 (Nat.le_of_ble_eq_true (by kernel_rfl)) (Mg.oneL _) (by kernel_rfl)) (by kernel_rfl) ?_
   try simp only [pA, pB, p1, p2, p3]
   have HT : Hid (LtAt (wk18.setRow gk17 (Mg.cells ((takeA a h mbs mes mls mcs ps).m))) bb h bs es ls ps gb ge gl gp) := HT.out.row (HF.out.box 4 _ _ _ rfl) (by decide) _
   have HQ : Hid (LmAt (wk18.setRow gk17 (Mg.cells ((takeA a h mbs mes mls mcs ps).m))) cc a mbs mes mls mcs mb me ml mc) := HQ.out.row (HF.out.box 4 _ _ _ rfl) (by decide) _
   have HS : Hid (Kept No wk16 (wk18.setRow gk17 (Mg.cells ((takeA a h mbs mes mls mcs ps).m)))) := HS.out.newRow (by rw [HS6.out]; exact hg7) _
   have HF : Hid (Fr No w (wk18.setRow gk17 (Mg.cells ((takeA a h mbs mes mls mcs ps).m))) [(gk1, 50, Mg.cells a), (gk3, 35, Hd.cells h), (gk9, 40, Hd.cells (lentH h gb ge gl gp)), (gk13, 50, Mg.cells (lentM a mb me ml mc)), (gk17, 50, Mg.cells ((takeA a h mbs mes mls mcs ps).m))]) := HF.out.set 4 rfl _
   generalize wk18.setRow gk17 (Mg.cells ((takeA a h mbs mes mls mcs ps).m)) = wk19 at HF HT HQ HS ⊢
   refine tK (.bool (takeA a h mbs mes mls mcs ps).o) ?_
   try simp only [pA, pB, p1, p2, p3]
   refine WL.nil ?_
   try simp only [pA, pB, p1, p2, p3]
   have HMm : Hid (TkRd wk19 s (takeA a h mbs mes mls mcs ps).z (takeA a h mbs mes mls mcs ps).b (takeA a h mbs mes mls mcs ps).e (takeA a h mbs mes mls mcs ps).l X) := HM6.out.no HS.out
   clear HS HM6 hg7 HS6
   go_upto_region 6 with fail
   refine WL.start ?_
   refine tW (.agg (Mg.cells (lentM a mb me ml mc))) (exec_load 50 _ rfl ⟨gk13, 0, none⟩ (by kernel_rfl) (.agg (Mg.cells (lentM a mb me ml mc))) (run_load_part (cs := Mg.cs (lentM a mb me ml mc)) (sub := Mg.cs (lentM a mb me ml mc)) (HF.out.box 3 _ _ _ rfl) (Part.all _) Try.und50 rfl Try.size50)) ?_
   try simp only [pA, pB, p1, p2, p3]
   refine tW (.agg (Mg.cells a)) (exec_load 50 _ rfl ⟨gk1, 0, none⟩ (by kernel_rfl) (.agg (Mg.cells a)) (run_load_part (cs := Mg.cs a) (sub := Mg.cs a) (HF.out.box 0 _ _ _ rfl) (Part.all _) Try.und50 rfl Try.size50)) ?_
   try simp only [pA, pB, p1, p2, p3]
   refine wp_callW 18 #[.agg (Mg.cells (lentM a mb me ml mc)), .agg (Mg.cells a)] (by kernel_rfl) _ (backM_any a mb me ml mc cc mbs mes mls mcs _ (HA.out.no HF.out.kept) HQ.out) (by kernel_rfl) ?_
   rintro e wk20 ⟨rfl, hk⟩
   have HT : Hid (LtAt (wk20) bb h bs es ls ps gb ge gl gp) := HT.out.no hk
   have HQ : Hid (LmAt (wk20) cc a mbs mes mls mcs mb me ml mc) := HQ.out.no hk
   have HMm : Hid (TkRd (wk20) s (takeA a h mbs mes mls mcs ps).z (takeA a h mbs mes mls mcs ps).b (takeA a h mbs mes mls mcs ps).e (takeA a h mbs mes mls mcs ps).l X) := HMm.out.no hk
   have HF : Hid (Fr No w (wk20) [(gk1, 50, Mg.cells a), (gk3, 35, Hd.cells h), (gk9, 40, Hd.cells (lentH h gb ge gl gp)), (gk13, 50, Mg.cells (lentM a mb me ml mc)), (gk17, 50, Mg.cells ((takeA a h mbs mes mls mcs ps).m))]) := HF.out.no hk
   clear hk
   refine ⟨.bool true, rfl, ?_⟩
   try simp only [pA, pB, p1, p2, p3]
   refine tK (.bool false) ?_
   try simp only [pA, pB, p1, p2, p3]
   refine tK (.bool false) ?_
   try simp only [pA, pB, p1, p2, p3]
   refine tW (.agg (Hd.cells (lentH h gb ge gl gp))) (exec_load 40 _ rfl ⟨gk9, 0, none⟩ (by kernel_rfl) (.agg (Hd.cells (lentH h gb ge gl gp))) (run_load_part (cs := Hd.cs (lentH h gb ge gl gp)) (sub := Hd.cs (lentH h gb ge gl gp)) (HF.out.box 2 _ _ _ rfl) (Part.all _) Try.und40 rfl Try.size40)) ?_
   try simp only [pA, pB, p1, p2, p3]
   refine tW (.agg (Hd.cells h)) (exec_load 35 _ rfl ⟨gk3, 0, none⟩ (by kernel_rfl) (.agg (Hd.cells h)) (run_load_part (cs := Hd.cs h) (sub := Hd.cs h) (HF.out.box 1 _ _ _ rfl) (Part.all _) Try.und35 rfl Try.size35)) ?_
   try simp only [pA, pB, p1, p2, p3]
   refine wp_callW 13 #[.agg (Hd.cells (lentH h gb ge gl gp)), .agg (Hd.cells h)] (by kernel_rfl) _ (back_any h gb ge gl gp bb bs es ls ps _ (HH.out.no HF.out.kept) HT.out) (by kernel_rfl) ?_
   rintro e wk21 ⟨rfl, hk⟩
   have HF : Hid (Fr No w (wk21) [(gk1, 50, Mg.cells a), (gk3, 35, Hd.cells h), (gk9, 40, Hd.cells (lentH h gb ge gl gp)), (gk13, 50, Mg.cells (lentM a mb me ml mc)), (gk17, 50, Mg.cells ((takeA a h mbs mes mls mcs ps).m))]) := HF.out.back HT.out hk hbb (by simp)
   have HQ : Hid (LmAt wk21 cc a mbs mes mls mcs mb me ml mc) := HQ.out.kept hk hgc
   have HMm : Hid (TkRd wk21 s (takeA a h mbs mes mls mcs ps).z (takeA a h mbs mes mls mcs ps).b (takeA a h mbs mes mls mcs ps).e (takeA a h mbs mes mls mcs ps).l X) := HMm.out.kept HN6.out hk hgd
   clear hk HT
   refine ⟨.bool true, rfl, ?_⟩
   try simp only [pA, pB, p1, p2, p3]
   refine tK (.bool false) ?_
   try simp only [pA, pB, p1, p2, p3]
   refine tK (.bool false) ?_
   try simp only [pA, pB, p1, p2, p3]
   refine WL.nil ?_
   try simp only [pA, pB, p1, p2, p3]
   go_upto_region 8 with fail
   refine WL.start ?_
   refine tW (.agg (Mg.cells (lentM a mb me ml mc))) (exec_load 50 _ rfl ⟨gk13, 0, none⟩ (by kernel_rfl) (.agg (Mg.cells (lentM a mb me ml mc))) (run_load_part (cs := Mg.cs (lentM a mb me ml mc)) (sub := Mg.cs (lentM a mb me ml mc)) (HF.out.box 3 _ _ _ rfl) (Part.all _) Try.und50 rfl Try.size50)) ?_
   try simp only [pA, pB, p1, p2, p3]
   refine wp_callW 19 #[.agg (Mg.cells (lentM a mb me ml mc))] (by kernel_rfl) _ (spoil_any a mb me ml mc cc mbs mes mls mcs _ HQ.out HA.out.nb HA.out.ne HA.out.nl HA.out.nc) (by kernel_rfl) ?_
   rintro e wk22 ⟨rfl, hk⟩
   have HF : Hid (Fr No w (wk22) [(gk1, 50, Mg.cells a), (gk3, 35, Hd.cells h), (gk9, 40, Hd.cells (lentH h gb ge gl gp)), (gk13, 50, Mg.cells (lentM a mb me ml mc)), (gk17, 50, Mg.cells ((takeA a h mbs mes mls mcs ps).m))]) := HF.out.spoil HQ.out hk hcc (by simp)
   have HMm : Hid (TkRd wk22 s (takeA a h mbs mes mls mcs ps).z (takeA a h mbs mes mls mcs ps).b (takeA a h mbs mes mls mcs ps).e (takeA a h mbs mes mls mcs ps).l X) := HMm.out.kept HN6.out hk hmd
   clear hk HQ
   refine ⟨.tuple #[], rfl, ?_⟩
   try simp only [pA, pB, p1, p2, p3]
   refine WL.nil ?_
   try simp only [pA, pB, p1, p2, p3]
   go_upto_region 9 with fail
   refine WL.start ?_
   refine tW (.agg (Mg.cells a)) (exec_load 50 _ rfl ⟨gk1, 0, none⟩ (by kernel_rfl) (.agg (Mg.cells a)) (run_load_part (cs := Mg.cs a) (sub := Mg.cs a) (HF.out.box 0 _ _ _ rfl) (Part.all _) Try.und50 rfl Try.size50)) ?_
   try simp only [pA, pB, p1, p2, p3]
   refine tW (.agg (Hd.cells h)) (exec_load 35 _ rfl ⟨gk3, 0, none⟩ (by kernel_rfl) (.agg (Hd.cells h)) (run_load_part (cs := Hd.cs h) (sub := Hd.cs h) (HF.out.box 1 _ _ _ rfl) (Part.all _) Try.und35 rfl Try.size35)) ?_
   try simp only [pA, pB, p1, p2, p3]
   refine wp_callW 22 #[.agg (Mg.cells a), .agg (Hd.cells h)] (by kernel_rfl) _ (refTake_any a h mbs mes mls mcs bs es ls ps _ (HA.out.no HF.out.kept) (HH.out.no HF.out.kept) HM.out) (by kernel_rfl) ?_
   rintro e wk23 ⟨⟨ya, yl, yk⟩, Y, rfl, hn, hk⟩
   obtain rfl : yl = s.l := by rw [← show _ = yl from hn.zl, HMm.out.zl]
   have HMm : Hid (TkRd (wk23) s (takeA a h mbs mes mls mcs ps).z (takeA a h mbs mes mls mcs ps).b (takeA a h mbs mes mls mcs ps).e (takeA a h mbs mes mls mcs ps).l X) := HMm.out.no hk
   have HF : Hid (Fr No w (wk23) [(gk1, 50, Mg.cells a), (gk3, 35, Hd.cells h), (gk9, 40, Hd.cells (lentH h gb ge gl gp)), (gk13, 50, Mg.cells (lentM a mb me ml mc)), (gk17, 50, Mg.cells ((takeA a h mbs mes mls mcs ps).m))]) := HF.out.no hk
   have HMk : Hid (TkRd wk23 s (takeA a h mbs mes mls mcs ps).z (takeA a h mbs mes mls mcs ps).b (takeA a h mbs mes mls mcs ps).e (takeA a h mbs mes mls mcs ps).l X) := HMm.out
   have HN9 : Hid (TkRd wk23 ⟨ya, s.l, yk⟩ (takeA a h mbs mes mls mcs ps).z (takeA a h mbs mes mls mcs ps).b (takeA a h mbs mes mls mcs ps).e (takeA a h mbs mes mls mcs ps).l Y) := hn
   clear hk hn HMm
   have HS : Hid (Kept No wk23 wk23) := Kept.refl _ _
   obtain ⟨s6, hs6⟩ : ∃ n, wk23.heap.size = n := ⟨_, rfl⟩
   have HS6 : Hid (wk23.heap.size = s6) := hs6
   clear hs6
   refine ⟨.tuple #[.slice ya s.l yk, .agg (Mg.cells (takeA a h mbs mes mls mcs ps).m), .bool (takeA a h mbs mes mls mcs ps).o], rfl, ?_⟩
   try simp only [pA, pB, p1, p2, p3]
   refine tK (.tuple #[.slice ya s.l yk, .agg (Mg.cells (takeA a h mbs mes mls mcs ps).m), .bool (takeA a h mbs mes mls mcs ps).o]) ?_
   try simp only [pA, pB, p1, p2, p3]
   refine tK (.slice ya s.l yk) ?_
   try simp only [pA, pB, p1, p2, p3]
   refine tK (.agg (Mg.cells ((takeA a h mbs mes mls mcs ps).m))) ?_
   try simp only [pA, pB, p1, p2, p3]
   refine tK (.bool (takeA a h mbs mes mls mcs ps).o) ?_
   try simp only [pA, pB, p1, p2, p3]
   refine wp_runW (.pointer (some ⟨wk23.heap.size, 0, none⟩)) (wk23.alloc (.cells (Mg.cells mgZ) 50)) (exec_alloc 50 rfl (Mg.cells mgZ) zero50) (by kernel_rfl) ?_
   try simp only [pA, pB, p1, p2, p3]
   have hg7 : s6 ≤ wk23.heap.size := by rw [← HS6.out]; exact HS.out.size
   have HS : Hid (Kept No wk23 (wk23.alloc (.cells (Mg.cells mgZ) 50))) := HS.out.no ((Kept.refl No _).alloc _)
   have HF : Hid (Fr No w (wk23.alloc (.cells (Mg.cells mgZ) 50)) [(gk1, 50, Mg.cells a), (gk3, 35, Hd.cells h), (gk9, 40, Hd.cells (lentH h gb ge gl gp)), (gk13, 50, Mg.cells (lentM a mb me ml mc)), (gk17, 50, Mg.cells ((takeA a h mbs mes mls mcs ps).m)), (wk23.heap.size, 50, Mg.cells mgZ)]) := HF.out.alloc _ _
   generalize wk23.alloc (.cells (Mg.cells mgZ) 50) = wk25 at HF HS ⊢
   generalize wk23.heap.size = gk24 at HF hg7 ⊢
   refine tK (.slice ya s.l yk) ?_
   try simp only [pA, pB, p1, p2, p3]
   refine wp_storeW 50 _ _ rfl ⟨gk24, 0, none⟩ (.agg (Mg.cells ((takeA a h mbs mes mls mcs ps).m))) (by kernel_rfl) (by kernel_rfl) (wk25.setRow gk24 (Mg.cells ((takeA a h mbs mes mls mcs ps).m))) (run_store_to (cur := Mg.cs mgZ) (vs := Mg.cs ((takeA a h mbs mes mls mcs ps).m)) (new := Mg.cs ((takeA a h mbs mes mls mcs ps).m)) (HF.out.box 5 _ _ _ rfl) (by kernel_rfl) Try.size50 (Nat.le_of_ble_eq_true (by kernel_rfl)) (Mg.oneL _) (by kernel_rfl)) (by kernel_rfl) ?_
   try simp only [pA, pB, p1, p2, p3]
   have HS : Hid (Kept No wk23 (wk25.setRow gk24 (Mg.cells ((takeA a h mbs mes mls mcs ps).m)))) := HS.out.newRow (by rw [HS6.out]; exact hg7) _
   have HF : Hid (Fr No w (wk25.setRow gk24 (Mg.cells ((takeA a h mbs mes mls mcs ps).m))) [(gk1, 50, Mg.cells a), (gk3, 35, Hd.cells h), (gk9, 40, Hd.cells (lentH h gb ge gl gp)), (gk13, 50, Mg.cells (lentM a mb me ml mc)), (gk17, 50, Mg.cells ((takeA a h mbs mes mls mcs ps).m)), (gk24, 50, Mg.cells ((takeA a h mbs mes mls mcs ps).m))]) := HF.out.set 5 rfl _
   generalize wk25.setRow gk24 (Mg.cells ((takeA a h mbs mes mls mcs ps).m)) = wk26 at HF HS ⊢
   refine tK (.bool (takeA a h mbs mes mls mcs ps).o) ?_
   try simp only [pA, pB, p1, p2, p3]
   refine WL.nil ?_
   try simp only [pA, pB, p1, p2, p3]
   have HMm : Hid (TkRd wk26 s (takeA a h mbs mes mls mcs ps).z (takeA a h mbs mes mls mcs ps).b (takeA a h mbs mes mls mcs ps).e (takeA a h mbs mes mls mcs ps).l X) := HMk.out.no HS.out
   have HN2 : Hid (TkRd wk26 ⟨ya, s.l, yk⟩ (takeA a h mbs mes mls mcs ps).z (takeA a h mbs mes mls mcs ps).b (takeA a h mbs mes mls mcs ps).e (takeA a h mbs mes mls mcs ps).l Y) := HN9.out.no HS.out
   clear HS HMk HN9 hg7 HS6
   go_upto_region 10 with fail
   refine WL.start ?_
   refine tK (s.v) ?_
   try simp only [pA, pB, p1, p2, p3]
   refine tK (.slice ya s.l yk) ?_
   try simp only [pA, pB, p1, p2, p3]
   refine wp_callW 23 #[s.v, .slice ya s.l yk] (by kernel_rfl) _ (sameH_any s.a ya s.l s.k yk (takeA a h mbs mes mls mcs ps).z (takeA a h mbs mes mls mcs ps).b (takeA a h mbs mes mls mcs ps).e (takeA a h mbs mes mls mcs ps).l X Y _ HMm.out HN2.out (by rw [← HMm.out.zl]; exact hLn.1) hLn.2.1 hLn.2.2) (by kernel_rfl) ?_
   rintro e wk27 ⟨rfl, hk⟩
   have HMm : Hid (TkRd (wk27) s (takeA a h mbs mes mls mcs ps).z (takeA a h mbs mes mls mcs ps).b (takeA a h mbs mes mls mcs ps).e (takeA a h mbs mes mls mcs ps).l X) := HMm.out.no hk
   have HN2 : Hid (TkRd (wk27) ⟨ya, s.l, yk⟩ (takeA a h mbs mes mls mcs ps).z (takeA a h mbs mes mls mcs ps).b (takeA a h mbs mes mls mcs ps).e (takeA a h mbs mes mls mcs ps).l Y) := HN2.out.no hk
   have HF : Hid (Fr No w (wk27) [(gk1, 50, Mg.cells a), (gk3, 35, Hd.cells h), (gk9, 40, Hd.cells (lentH h gb ge gl gp)), (gk13, 50, Mg.cells (lentM a mb me ml mc)), (gk17, 50, Mg.cells ((takeA a h mbs mes mls mcs ps).m)), (gk24, 50, Mg.cells ((takeA a h mbs mes mls mcs ps).m))]) := HF.out.no hk
   clear hk
   refine ⟨.bool true, rfl, ?_⟩
   try simp only [pA, pB, p1, p2, p3]
   refine tK (.bool true) ?_
   try simp only [pA, pB, p1, p2, p3]
   refine tK (.bool (takeA a h mbs mes mls mcs ps).o) ?_
   try simp only [pA, pB, p1, p2, p3]
   refine tK (.bool (takeA a h mbs mes mls mcs ps).o) ?_
   try simp only [pA, pB, p1, p2, p3]
   refine tW (.bool true) (exec_bin .eql 4 _ _ _ rfl (.bool (takeA a h mbs mes mls mcs ps).o) (.bool (takeA a h mbs mes mls mcs ps).o) (.bool true) (by kernel_rfl) (by kernel_rfl) (by kernel_rfl) (by rw [b_eqlB]; simp)) ?_
   try simp only [pA, pB, p1, p2, p3]
   refine tK (.bool true) ?_
   try simp only [pA, pB, p1, p2, p3]
   refine tK (.bool true) ?_
   try simp only [pA, pB, p1, p2, p3]
   refine tW (.agg (Mg.cells ((takeA a h mbs mes mls mcs ps).m))) (exec_load 50 _ rfl ⟨gk17, 0, none⟩ (by kernel_rfl) (.agg (Mg.cells ((takeA a h mbs mes mls mcs ps).m))) (run_load_part (cs := Mg.cs ((takeA a h mbs mes mls mcs ps).m)) (sub := Mg.cs ((takeA a h mbs mes mls mcs ps).m)) (HF.out.box 4 _ _ _ rfl) (Part.all _) Try.und50 rfl Try.size50)) ?_
   try simp only [pA, pB, p1, p2, p3]
   refine tW (.agg (Mg.cells ((takeA a h mbs mes mls mcs ps).m))) (exec_load 50 _ rfl ⟨gk24, 0, none⟩ (by kernel_rfl) (.agg (Mg.cells ((takeA a h mbs mes mls mcs ps).m))) (run_load_part (cs := Mg.cs ((takeA a h mbs mes mls mcs ps).m)) (sub := Mg.cs ((takeA a h mbs mes mls mcs ps).m)) (HF.out.box 5 _ _ _ rfl) (Part.all _) Try.und50 rfl Try.size50)) ?_
   try simp only [pA, pB, p1, p2, p3]
   refine wp_callW 14 #[.agg (Mg.cells ((takeA a h mbs mes mls mcs ps).m)), .agg (Mg.cells ((takeA a h mbs mes mls mcs ps).m))] (by kernel_rfl) _ (sameM_nil (takeA a h mbs mes mls mcs ps).m _ (tk_nil a h mbs mes mls mcs ps).1 (tk_nil a h mbs mes mls mcs ps).2.1 (tk_nil a h mbs mes mls mcs ps).2.2.1 (tk_nil a h mbs mes mls mcs ps).2.2.2) (by kernel_rfl) ?_
   rintro e wk28 ⟨rfl, hk⟩
   have HMm : Hid (TkRd (wk28) s (takeA a h mbs mes mls mcs ps).z (takeA a h mbs mes mls mcs ps).b (takeA a h mbs mes mls mcs ps).e (takeA a h mbs mes mls mcs ps).l X) := HMm.out.no hk
   have HN2 : Hid (TkRd (wk28) ⟨ya, s.l, yk⟩ (takeA a h mbs mes mls mcs ps).z (takeA a h mbs mes mls mcs ps).b (takeA a h mbs mes mls mcs ps).e (takeA a h mbs mes mls mcs ps).l Y) := HN2.out.no hk
   have HF : Hid (Fr No w (wk28) [(gk1, 50, Mg.cells a), (gk3, 35, Hd.cells h), (gk9, 40, Hd.cells (lentH h gb ge gl gp)), (gk13, 50, Mg.cells (lentM a mb me ml mc)), (gk17, 50, Mg.cells ((takeA a h mbs mes mls mcs ps).m)), (gk24, 50, Mg.cells ((takeA a h mbs mes mls mcs ps).m))]) := HF.out.no hk
   clear hk
   refine ⟨.bool true, rfl, ?_⟩
   try simp only [pA, pB, p1, p2, p3]
   refine tK (.bool true) ?_
   try simp only [pA, pB, p1, p2, p3]
   refine tK (.bool true) ?_
   try simp only [pA, pB, p1, p2, p3]
   refine WL.nil ?_
   try simp only [pA, pB, p1, p2, p3]
   go_wp2
   rw [HC.out]
   exact ⟨rfl, HF.out.kept⟩

end Go.Proofs.Ytcgnbpaaalmkoaa
