import Derived.Test.YtcgnbpaaalmkoaaGe
namespace Go.Proofs.Ytcgnbpaaalmkoaa
open Go.RowKit
set_option linter.unusedVariables false
set_option linter.unusedSimpArgs false

theorem HdOff.mono {G G' : Nat → Prop} {a : Hd} {ab : List Int} {ae : List En} {al : List La} {ap : List Pl} (h : HdOff G a ab ae al ap) (hG : ∀ k, G' k → G k) : HdOff G' a ab ae al ap := ⟨fun n k e f => h.1 n k e (hG k f), fun n k e f => h.2.1 n k e (hG k f), fun n k e f => h.2.2.1 n k e (hG k f), fun n k e f => h.2.2.2 n k e (hG k f)⟩
theorem HdOff.of {G G1 G2 : Nat → Prop} {a : Hd} {ab : List Int} {ae : List En} {al : List La} {ap : List Pl} (h1 : HdOff G1 a ab ae al ap) (h2 : HdOff G2 a ab ae al ap) (hG : ∀ k, G k → G1 k ∨ G2 k) : HdOff G a ab ae al ap := ⟨fun n k e f => (hG k f).elim (h1.1 n k e) (h2.1 n k e), fun n k e f => (hG k f).elim (h1.2.1 n k e) (h2.2.1 n k e), fun n k e f => (hG k f).elim (h1.2.2.1 n k e) (h2.2.2.1 n k e), fun n k e f => (hG k f).elim (h1.2.2.2 n k e) (h2.2.2.2 n k e)⟩
theorem trim_new (u : Int) (es : List En) (w : World) (h : BkOk u es []) (h0 : 0 ≤ u) : Calls Try.prog 52 #[.int .i64 u] w (fun e w' => ∃ se : Sl, e = .returned (.agg (Bv.cells ⟨u, se, slZ⟩)) ∧ RdE w' se es ∧ (∀ k, At se.a k → ∃ cs, Box w' k 110 cs) ∧ (∀ k, At se.a k → w.heap.size ≤ k) ∧ Kept No w w') := by
  cases hu : decide (u < 1) with
  | true =>
    have hu2 := of_decide_eq_true hu
    have e0 : u = 0 := by omega
    refine (trim_no u w hu).mono fun e w' ⟨he, hk⟩ => ⟨slZ, ?_, ?_, fun k e => absurd e At.none, fun k e => absurd e At.none, hk⟩
    · rw [he, e0]; rfl
    · rw [h.1 hu2]; exact RdE.nil _
  | false =>
    have hu2 := of_decide_eq_false hu
    refine (trim_yes u w hu).mono fun e w' ⟨g, he, hb, hg, hk⟩ => ⟨_, he, ?_, fun k e => ?_, fun k e => ?_, hk⟩
    · rw [h.2.1 (by omega)]
      exact RdE.one hb
    · obtain ⟨ad, e1, e2⟩ := e
      cases e1
      subst e2
      exact ⟨_, hb⟩
    · obtain ⟨ad, e1, e2⟩ := e
      cases e1
      subst e2
      exact hg
def HoB (w : World) (u : Int) (m : Nat) (e : Ending) (w' : World) : Prop := ∃ (a : Hd) (ae : List En) (ap : List Pl), e = .returned (.agg (Hd.cells a)) ∧ HdAt w' a [] ae [] ap ∧ HoI u m a ae ap ∧ HdOff (fun k => k < w.heap.size) a [] ae [] ap ∧ Kept No w w'
set_option maxRecDepth 100000 in
set_option maxHeartbeats 4000000 in
theorem holds_off (u : Int) (m : Nat) (oa : Option Addr) (on oc : Nat) (os : List Int) (w : World) (h0 : 0 ≤ u) (h1 : u ≤ 1000) (h2 : m ≤ 1000) (hos : Nums .i64 w oa os) (hol : os.length = on) (hon : on ≤ 100000000000000) : Calls Try.prog 25 #[.int .i64 u, .int .i64 ((m : Nat) : Int), .slice oa on oc] w (HoB w u m) := by
  obtain ⟨C, hC⟩ : ∃ C : Ending → World → Prop, C = (HoB w u m) := ⟨_, rfl⟩
  have HC : Hid (C = (HoB w u m)) := hC
  rw [← hC]
  clear hC
  have HOS : Hid (Nums .i64 w oa os) := hos
  clear hos
  have HF : Hid (Fr No w w []) := Fr.start _ _
  go_enter Try.func25, Try.ntmps25
  go_upto_region 0 with fail
  refine WL.start ?_
  refine wp_runW (.pointer (some ⟨w.heap.size, 0, none⟩)) (w.alloc (.cells (Hd.cells hdZ) 35)) (exec_alloc 35 rfl (Hd.cells hdZ) zero35) (by kernel_rfl) ?_
  try simp only [pS]
  have HF : Hid (Fr No w _ [(w.heap.size, 35, Hd.cells hdZ)]) := HF.out.alloc _ _
  generalize w.alloc (.cells (Hd.cells hdZ) 35) = wk2 at HF ⊢
  generalize w.heap.size = gk1 at HF ⊢
  refine WL.nil ?_
  try simp only [pS]
  go_upto_region 1 with fail
  refine WL.start ?_
  refine tK (.int .i64 u) ?_
  try simp only [pS]
  refine wp_callW 52 #[.int .i64 u] (by kernel_rfl) _ (trim_new u (esOf u) _ (esOf_ok u) h0) (by kernel_rfl) ?_
  rintro e wk3 ⟨se, rfl, hse, hty, hne, hk⟩
  have HNe : Hid (∀ k, At se.a k → w.heap.size ≤ k) := show ∀ k, At se.a k → w.heap.size ≤ k from fun k e => Nat.le_trans HF.out.kept.size (hne k e)
  clear hne
  have HF : Hid (Fr No w (wk3) [(gk1, 35, Hd.cells hdZ)]) := HF.out.no hk
  have HSe : Hid (RdE wk3 se (esOf u)) := hse
  have HTy : Hid (∀ k, At se.a k → ∃ cs, Box wk3 k 110 cs) := show ∀ k, At se.a k → ∃ cs, Box wk3 k 110 cs from hty
  clear hse hty hk
  refine ⟨.agg (Bv.cells ⟨u, se, slZ⟩), rfl, ?_⟩
  try simp only [pS]
  refine tW (.agg (Hd.cells ⟨blZ, ⟨u, se, slZ⟩, slZ⟩)) (exec_build 35 _ rfl (Hd.cells ⟨blZ, ⟨u, se, slZ⟩, slZ⟩) (by kernel_rfl)) ?_
  try simp only [pS]
  refine wp_runW (.pointer (some ⟨wk3.heap.size, 0, none⟩)) (wk3.alloc (.cells (Hd.cells hdZ) 35)) (exec_alloc 35 rfl (Hd.cells hdZ) zero35) (by kernel_rfl) ?_
  try simp only [pS]
  have HTy : Hid (∀ k, At se.a k → ∃ cs, Box (wk3.alloc (.cells (Hd.cells hdZ) 35)) k 110 cs) := show ∀ k, At se.a k → ∃ cs, Box (wk3.alloc (.cells (Hd.cells hdZ) 35)) k 110 cs from fun k e => by obtain ⟨cs, hb⟩ := HTy.out k e; exact ⟨cs, hb.no ((Kept.refl No _).alloc _)⟩
  have HSe : Hid (RdE (wk3.alloc (.cells (Hd.cells hdZ) 35)) se (esOf u)) := HSe.out.no ((Kept.refl No _).alloc _)
  have HF : Hid (Fr No w _ [(gk1, 35, Hd.cells hdZ), (wk3.heap.size, 35, Hd.cells hdZ)]) := HF.out.alloc _ _
  generalize wk3.alloc (.cells (Hd.cells hdZ) 35) = wk5 at HF HSe HTy ⊢
  generalize wk3.heap.size = gk4 at HF ⊢
  refine wp_storeW 35 _ _ rfl ⟨gk4, 0, none⟩ (.agg (Hd.cells ⟨blZ, ⟨u, se, slZ⟩, slZ⟩)) (by kernel_rfl) (by kernel_rfl) (wk5.setRow gk4 (Hd.cells ⟨blZ, ⟨u, se, slZ⟩, slZ⟩)) (run_store_to (cur := Hd.cs hdZ) (vs := Hd.cs ⟨blZ, ⟨u, se, slZ⟩, slZ⟩) (new := Hd.cs ⟨blZ, ⟨u, se, slZ⟩, slZ⟩) (HF.out.box 1 _ _ _ rfl) (by kernel_rfl) Try.size35 (Nat.le_of_ble_eq_true (by kernel_rfl)) (Hd.oneL _) (by kernel_rfl)) (by kernel_rfl) ?_
  try simp only [pS]
  have HSe : Hid (RdE (wk5.setRow gk4 (Hd.cells ⟨blZ, ⟨u, se, slZ⟩, slZ⟩)) se (esOf u)) := HSe.out.kept (Kept.setRow _ _ _) (fun k e f => by obtain ⟨cs, hb⟩ := HTy.out k e; exact box_ne hb (HF.out.box 1 _ _ _ rfl) (by decide) f)
  have HTy : Hid (∀ k, At se.a k → ∃ cs, Box (wk5.setRow gk4 (Hd.cells ⟨blZ, ⟨u, se, slZ⟩, slZ⟩)) k 110 cs) := show ∀ k, At se.a k → ∃ cs, Box (wk5.setRow gk4 (Hd.cells ⟨blZ, ⟨u, se, slZ⟩, slZ⟩)) k 110 cs from fun k e => by obtain ⟨cs, hb⟩ := HTy.out k e; exact ⟨cs, hb.rowNe (box_ne hb (HF.out.box 1 _ _ _ rfl) (by decide)) _⟩
  have HF : Hid (Fr No w _ [(gk1, 35, Hd.cells hdZ), (gk4, 35, Hd.cells ⟨blZ, ⟨u, se, slZ⟩, slZ⟩)]) := HF.out.set 1 rfl _
  generalize wk5.setRow gk4 (Hd.cells ⟨blZ, ⟨u, se, slZ⟩, slZ⟩) = wk6 at HF HSe HTy ⊢
  refine WL.nil ?_
  try simp only [pS]
  go_upto_region 2 with fail
  refine WL.start ?_
  refine tK (.int .i64 u) ?_
  refine tW (.int .i64 (u + 1)) (eB .add 3 _ _ _ rfl (.int .i64 u) (.int .i64 1) _ (b_addw _ _ _ (by rw [IntKind.wrap_i64]; omega) _)) ?_
  refine tK (.int .i64 (u + 1)) ?_
  try simp only [pS]
  refine WL.nil ?_
  try simp only [pS]
  go_wp2
  go_loopw [8] (fun v8 wr => ∃ (j : Nat) (sa : Option Addr) (sc : Nat), v8 = .int .i64 (u + 1 + ((j : Nat) : Int)) ∧ j ≤ m ∧ Hid (OwR wr w.heap.size ⟨sa, j, sc⟩ (seqP u j)) ∧ Hid (RdE wr se (esOf u)) ∧ Hid (∀ k, At se.a k → ∃ cs, Box wr k 110 cs) ∧ Hid (Fr No w wr [(gk1, 35, Hd.cells hdZ), (gk4, 35, Hd.cells ⟨blZ, ⟨u, se, slZ⟩, ⟨sa, j, sc⟩⟩)])) (fun i _ => m - (intOf i - u - 1).toNat)
  case atStart => exact ⟨0, none, 0, by simp, by omega, ⟨Own.nil _ _ _ _, rfl⟩, HSe, HTy, HF⟩
  case round =>
    clear HF HSe HTy
    obtain ⟨j, sa, sc, rfl, hj, HO, HSe, HTy, HF⟩ := hrel
    by_cases hlt : j < m
    · skip
      go_upto_region 3 with fail
      refine WL.start ?_
      refine tK (.int .i64 (u + 1 + ((j : Nat) : Int))) ?_
      refine tK (.int .i64 u) ?_
      refine tK (.int .i64 ((m : Nat) : Int)) ?_
      refine tW (.int .i64 (u + ((m : Nat) : Int))) (eB .add 3 _ _ _ rfl (.int .i64 u) (.int .i64 ((m : Nat) : Int)) _ (b_addw _ _ _ (by rw [IntKind.wrap_i64]; omega) _)) ?_
      refine tW (.bool true) (eB .leq 3 _ _ _ rfl (.int .i64 (u + 1 + ((j : Nat) : Int))) (.int .i64 (u + ((m : Nat) : Int))) _ (by rw [b_leq, decide_eq_true (by omega)])) ?_
      try simp only [pS]
      refine WL.nil ?_
      try simp only [pS]
      go_upto_region 5 with fail
      refine WL.start ?_
      refine tK (.pointer (some ⟨gk4, 6, none⟩)) ?_
      refine tW (.slice sa j sc) (eL 33 _ rfl ⟨gk4, 6, none⟩ (load_one ((HF.out.box 1 _ _ _ rfl).cell 6 |>.trans (by kernel_rfl)) Try.und33 rfl)) ?_
      refine tK (.int .i64 (u + 1 + ((j : Nat) : Int))) ?_
      refine tK (.int .i64 (u + 1 + ((j : Nat) : Int))) ?_
      refine tW (.agg (Cm.cells ⟨4, 1, (u + 1 + ((j : Nat) : Int)), ⟨#[]⟩, 0, 0, 0, 0, 0⟩)) (exec_build 47 _ rfl (Cm.cells ⟨4, 1, (u + 1 + ((j : Nat) : Int)), ⟨#[]⟩, 0, 0, 0, 0, 0⟩) (by kernel_rfl)) ?_
      refine tW (.agg (In.cells ⟨spZ, spZ, ⟨4, 1, (u + 1 + ((j : Nat) : Int)), ⟨#[]⟩, 0, 0, 0, 0, 0⟩, true⟩)) (exec_build 70 _ rfl (In.cells ⟨spZ, spZ, ⟨4, 1, (u + 1 + ((j : Nat) : Int)), ⟨#[]⟩, 0, 0, 0, 0, 0⟩, true⟩) (by kernel_rfl)) ?_
      refine tW (.agg (Pl.cells ⟨(u + 1 + ((j : Nat) : Int)), ⟨spZ, spZ, ⟨4, 1, (u + 1 + ((j : Nat) : Int)), ⟨#[]⟩, 0, 0, 0, 0, 0⟩, true⟩⟩)) (exec_build 89 _ rfl (Pl.cells ⟨(u + 1 + ((j : Nat) : Int)), ⟨spZ, spZ, ⟨4, 1, (u + 1 + ((j : Nat) : Int)), ⟨#[]⟩, 0, 0, 0, 0, 0⟩, true⟩⟩) (by kernel_rfl)) ?_
      try simp only [pS]
      refine wp_runW (.slice (some ⟨wr.heap.size, 0, none⟩) 1 1) (wr.alloc (.cells (Pl.cells ⟨(u + 1 + ((j : Nat) : Int)), ⟨spZ, spZ, ⟨4, 1, (u + 1 + ((j : Nat) : Int)), ⟨#[]⟩, 0, 0, 0, 0, 0⟩, true⟩⟩) 89)) (exec_slice2 33 89 _ rfl (Pl.cells ⟨(u + 1 + ((j : Nat) : Int)), ⟨spZ, spZ, ⟨4, 1, (u + 1 + ((j : Nat) : Int)), ⟨#[]⟩, 0, 0, 0, 0, 0⟩, true⟩⟩) (.agg (Pl.cells ⟨(u + 1 + ((j : Nat) : Int)), ⟨spZ, spZ, ⟨4, 1, (u + 1 + ((j : Nat) : Int)), ⟨#[]⟩, 0, 0, 0, 0, 0⟩, true⟩⟩)) (by kernel_rfl) (by kernel_rfl)) (by kernel_rfl) ?_
      try simp only [pS]
      have HTy : Hid (∀ k, At se.a k → ∃ cs, Box (wr.alloc (.cells (Pl.cells ⟨(u + 1 + ((j : Nat) : Int)), ⟨spZ, spZ, ⟨4, 1, (u + 1 + ((j : Nat) : Int)), ⟨#[]⟩, 0, 0, 0, 0, 0⟩, true⟩⟩) 89)) k 110 cs) := show ∀ k, At se.a k → ∃ cs, Box (wr.alloc (.cells (Pl.cells ⟨(u + 1 + ((j : Nat) : Int)), ⟨spZ, spZ, ⟨4, 1, (u + 1 + ((j : Nat) : Int)), ⟨#[]⟩, 0, 0, 0, 0, 0⟩, true⟩⟩) 89)) k 110 cs from fun k e => by obtain ⟨cs, hb⟩ := HTy.out k e; exact ⟨cs, hb.no ((Kept.refl No _).alloc _)⟩
      have HO : Hid (OwR (wr.alloc (.cells (Pl.cells ⟨(u + 1 + ((j : Nat) : Int)), ⟨spZ, spZ, ⟨4, 1, (u + 1 + ((j : Nat) : Int)), ⟨#[]⟩, 0, 0, 0, 0, 0⟩, true⟩⟩) 89)) w.heap.size ⟨sa, j, sc⟩ (seqP u j)) := HO.out.no ((Kept.refl No _).alloc _)
      have HSe : Hid (RdE (wr.alloc (.cells (Pl.cells ⟨(u + 1 + ((j : Nat) : Int)), ⟨spZ, spZ, ⟨4, 1, (u + 1 + ((j : Nat) : Int)), ⟨#[]⟩, 0, 0, 0, 0, 0⟩, true⟩⟩) 89)) se (esOf u)) := HSe.out.no ((Kept.refl No _).alloc _)
      have HF : Hid (Fr No w _ [(gk1, 35, Hd.cells hdZ), (gk4, 35, Hd.cells ⟨blZ, ⟨u, se, slZ⟩, ⟨sa, j, sc⟩⟩), (wr.heap.size, 89, Pl.cells ⟨(u + 1 + ((j : Nat) : Int)), ⟨spZ, spZ, ⟨4, 1, (u + 1 + ((j : Nat) : Int)), ⟨#[]⟩, 0, 0, 0, 0, 0⟩, true⟩⟩)]) := HF.out.alloc _ _
      generalize wr.alloc (.cells (Pl.cells ⟨(u + 1 + ((j : Nat) : Int)), ⟨spZ, spZ, ⟨4, 1, (u + 1 + ((j : Nat) : Int)), ⟨#[]⟩, 0, 0, 0, 0, 0⟩, true⟩⟩) 89) = wk8 at HF HO HSe HTy ⊢
      generalize wr.heap.size = gk7 at HF ⊢
      obtain ⟨sa1, cap1, wa1, hrun, hown, hk2, hat2⟩ := run_appN (w := wk8) 33 33 89 15 128 (.agg plZ.cells) Try.und33 Try.info89 rfl (by omega) w.heap.size j sc sa (plL (seqP u j)) HO.out.own (some ⟨gk7, 0, none⟩) 1 1 (Pl.cs ⟨(u + 1 + ((j : Nat) : Int)), ⟨spZ, spZ, ⟨4, 1, (u + 1 + ((j : Nat) : Int)), ⟨#[]⟩, 0, 0, 0, 0, 0⟩, true⟩⟩) rfl (fun e => by cases e) (fun j u hj => ⟨_, rfl, by rw [addr_add, Nat.zero_add, (HF.out.box 2 _ _ _ rfl).cell]; exact cell_pl _ _ _ hj⟩) (Pl.oneL _) (by omega) (by omega) (by have := HF.out.kept.size; omega)
      have hO0 := HO.out.own
      have hO1 := HO.out.len
      refine wp_runW (.slice sa1 (j + 1) cap1) wa1 (exec_appN _ _ 33 33 rfl _ _ (by kernel_rfl) (by kernel_rfl) hrun) (by kernel_rfl) ?_
      try simp only [pS]
      have HO : Hid (OwR wa1 w.heap.size ⟨sa1, j + 1, cap1⟩ (seqP u j ++ [plN u j])) := ⟨by rw [plL_app, plL_1]; exact hown, by simp at hO1 ⊢; omega⟩
      have HF : Hid (Fr No w wa1 [(gk1, 35, Hd.cells hdZ), (gk4, 35, Hd.cells ⟨blZ, ⟨u, se, slZ⟩, ⟨sa, j, sc⟩⟩)]) := (show Fr No w wk8 ([(gk1, 35, Hd.cells hdZ), (gk4, 35, Hd.cells ⟨blZ, ⟨u, se, slZ⟩, ⟨sa, j, sc⟩⟩)] ++ [(gk7, 89, Pl.cells ⟨(u + 1 + ((j : Nat) : Int)), ⟨spZ, spZ, ⟨4, 1, (u + 1 + ((j : Nat) : Int)), ⟨#[]⟩, 0, 0, 0, 0, 0⟩, true⟩⟩)]) from HF.out).front.app2 hO0 hk2 (by simp)
      have HSe : Hid (RdE wa1 se (esOf u)) := HSe.out.kept hk2 (fun k e f => by obtain ⟨cs, hb⟩ := HTy.out k e; exact hO0.notBox hb (by decide) f)
      have HTy : Hid (∀ k, At se.a k → ∃ cs, Box wa1 k 110 cs) := show ∀ k, At se.a k → ∃ cs, Box wa1 k 110 cs from fun k e => by obtain ⟨cs, hb⟩ := HTy.out k e; exact ⟨cs, hb.kept hk2 (hO0.notBox hb (by decide))⟩
      clear hown hk2 hat2 hrun hO0 hO1
      refine tK (.pointer (some ⟨gk4, 6, none⟩)) ?_
      try simp only [pS]
      refine wp_storeW 33 _ _ rfl ⟨gk4, 6, none⟩ (.slice sa1 (j + 1) cap1) (by kernel_rfl) (by kernel_rfl) (wa1.setRow gk4 (Hd.cells ⟨blZ, ⟨u, se, slZ⟩, ⟨sa1, (j + 1), cap1⟩⟩)) (run_store_to (cur := Hd.cs ⟨blZ, ⟨u, se, slZ⟩, ⟨sa, j, sc⟩⟩) (vs := [.slice sa1 (j + 1) cap1]) (new := Hd.cs ⟨blZ, ⟨u, se, slZ⟩, ⟨sa1, (j + 1), cap1⟩⟩) (HF.out.box 1 _ _ _ rfl) (by kernel_rfl) Try.size33 (Nat.le_of_ble_eq_true (by kernel_rfl)) (by simp [Value.oneCell', Sl.v]) (by kernel_rfl)) (by kernel_rfl) ?_
      try simp only [pS]
      have HSe : Hid (RdE (wa1.setRow gk4 (Hd.cells ⟨blZ, ⟨u, se, slZ⟩, ⟨sa1, (j + 1), cap1⟩⟩)) se (esOf u)) := HSe.out.kept (Kept.setRow _ _ _) (fun k e f => by obtain ⟨cs, hb⟩ := HTy.out k e; exact box_ne hb (HF.out.box 1 _ _ _ rfl) (by decide) f)
      have HTy : Hid (∀ k, At se.a k → ∃ cs, Box (wa1.setRow gk4 (Hd.cells ⟨blZ, ⟨u, se, slZ⟩, ⟨sa1, (j + 1), cap1⟩⟩)) k 110 cs) := show ∀ k, At se.a k → ∃ cs, Box (wa1.setRow gk4 (Hd.cells ⟨blZ, ⟨u, se, slZ⟩, ⟨sa1, (j + 1), cap1⟩⟩)) k 110 cs from fun k e => by obtain ⟨cs, hb⟩ := HTy.out k e; exact ⟨cs, hb.rowNe (box_ne hb (HF.out.box 1 _ _ _ rfl) (by decide)) _⟩
      have HO : Hid (OwR (wa1.setRow gk4 (Hd.cells ⟨blZ, ⟨u, se, slZ⟩, ⟨sa1, (j + 1), cap1⟩⟩)) w.heap.size ⟨sa1, (j + 1), cap1⟩ (seqP u j ++ [plN u j])) := HO.out.kept (Kept.setRow _ _ _) (fun k h e => (HO.out.own.notBox (HF.out.box 1 _ _ _ rfl) (by decide)) ((show k = gk4 from e) ▸ h))
      have HF : Hid (Fr No w _ [(gk1, 35, Hd.cells hdZ), (gk4, 35, Hd.cells ⟨blZ, ⟨u, se, slZ⟩, ⟨sa1, (j + 1), cap1⟩⟩)]) := HF.out.set 1 rfl _
      generalize wa1.setRow gk4 (Hd.cells ⟨blZ, ⟨u, se, slZ⟩, ⟨sa1, (j + 1), cap1⟩⟩) = wk9 at HF HO HSe HTy ⊢
      refine WL.nil ?_
      try simp only [pS]
      go_upto_region 4 with fail
      refine WL.start ?_
      refine tK (.int .i64 (u + 1 + ((j : Nat) : Int))) ?_
      refine tW (.int .i64 (u + 1 + (((j + 1) : Nat) : Int))) (eB .add 3 _ _ _ rfl (.int .i64 (u + 1 + ((j : Nat) : Int))) (.int .i64 1) _ (b_addw _ _ _ (by rw [IntKind.wrap_i64]; omega) _)) ?_
      refine tK (.int .i64 (u + 1 + (((j + 1) : Nat) : Int))) ?_
      try simp only [pS]
      refine WL.nil ?_
      try simp only [pS]
      have HO : Hid (OwR wk9 w.heap.size ⟨sa1, (j + 1), cap1⟩ (seqP u (j + 1))) := by show OwR _ _ _ _; rw [seqP_succ]; exact HO.out
      go_wp2
      go_roundw
      case rel => exact ⟨j + 1, sa1, cap1, by go_num, by omega, HO, HSe, HTy, HF⟩
      case measure => simp [intOf]; omega
    · skip
      go_upto_region 3 with fail
      refine WL.start ?_
      refine tK (.int .i64 (u + 1 + ((j : Nat) : Int))) ?_
      refine tK (.int .i64 u) ?_
      refine tK (.int .i64 ((m : Nat) : Int)) ?_
      refine tW (.int .i64 (u + ((m : Nat) : Int))) (eB .add 3 _ _ _ rfl (.int .i64 u) (.int .i64 ((m : Nat) : Int)) _ (b_addw _ _ _ (by rw [IntKind.wrap_i64]; omega) _)) ?_
      refine tW (.bool false) (eB .leq 3 _ _ _ rfl (.int .i64 (u + 1 + ((j : Nat) : Int))) (.int .i64 (u + ((m : Nat) : Int))) _ (by rw [b_leq, decide_eq_false (by omega)])) ?_
      try simp only [pS]
      refine WL.nil ?_
      try simp only [pS]
      have hjm : j = m := by omega
      rw [hjm] at HO HF
      have hI0 : HoI u m (⟨blZ, ⟨u, se, slZ⟩, ⟨sa, m, sc⟩⟩ : Hd) (esOf u) (seqP u m) := hoI_start u m se ⟨sa, m, sc⟩ h0 h1 h2 HSe.out.len
      have hle1 : se.l ≤ 1 := by rw [← HSe.out.len]; unfold esOf; split <;> simp
      have HH0 : Hid (HdAt wr (⟨blZ, ⟨u, se, slZ⟩, ⟨sa, m, sc⟩⟩ : Hd) [] (esOf u) [] (seqP u m)) := ⟨RdB.nil _, HSe.out, RdL.nil _, HO.out.rd, by show 0 ≤ _; omega, by show se.l ≤ _; omega, by show 0 ≤ _; omega, by show m ≤ _; omega⟩
      have hOf0 : HdOff (fun k => k = gk4 ∨ k = gk1 ∨ k < w.heap.size) (⟨blZ, ⟨u, se, slZ⟩, ⟨sa, m, sc⟩⟩ : Hd) [] (esOf u) [] (seqP u m) := ⟨fun n => absurd rfl n, fun _ k e f => by obtain ⟨cs, hb⟩ := HTy.out k e; rcases f with f | f | f; exact box_ne hb (HF.out.box 1 _ _ _ rfl) (by decide) f; exact box_ne hb (HF.out.box 0 _ _ _ rfl) (by decide) f; exact absurd (HNe.out k e) (by omega), fun n => absurd rfl n, fun _ k e f => by rcases f with f | f | f; (subst f; exact HO.out.own.notBox (HF.out.box 1 _ _ _ rfl) (by decide) e); (subst f; exact HO.out.own.notBox (HF.out.box 0 _ _ _ rfl) (by decide) e); exact absurd (HO.out.own.base e) (by omega)⟩
      clear HO HSe HTy hlt
      have HF : Hid (Fr No w (wr) [(gk1, 35, Hd.cells hdZ), (gk4, 35, Hd.cells ⟨blZ, ⟨u, se, slZ⟩, ⟨sa, m, sc⟩⟩)]) := HF
      go_upto_region 6 with fail
      refine WL.start ?_
      refine tK (.int .i64 0) ?_
      try simp only [pS]
      refine WL.nil ?_
      try simp only [pS]
      go_wp2
      go_loopw [9, 10, 11] (fun v9 v10 v11 wr => ∃ (i : Nat) (a : Hd) (ae : List En) (ap : List Pl), v9 = .int .i64 ((i : Nat) : Int) ∧ i ≤ on ∧ Hid (HdAt wr a [] ae [] ap) ∧ Hid (HdOff (fun k => k = gk4 ∨ k = gk1 ∨ k < w.heap.size) a [] ae [] ap) ∧ Hid (HoI u m a ae ap) ∧ Hid (Fr No w wr [(gk1, 35, Hd.cells hdZ), (gk4, 35, Hd.cells a)])) (fun i _ _ _ => on - (intOf i).toNat)
      case atStart => exact ⟨0, (⟨blZ, ⟨u, se, slZ⟩, ⟨sa, m, sc⟩⟩ : Hd), esOf u, seqP u m, by go_num, by omega, HH0, hOf0, hI0, HF⟩
      case round =>
        clear HF HH0 hOf0 hI0
        obtain ⟨i, a, ae, ap, rfl, hi, HH, HOf, HI, HF⟩ := hrel
        by_cases hlt : i < on
        · skip
          obtain ⟨pb, po, hca, hcz⟩ := HOS.out i (by rw [hol]; exact hlt)
          obtain ⟨z, hz⟩ : ∃ z, z = os[i]?.getD 0 := ⟨_, rfl⟩
          rw [← hz] at hcz
          have cz : Hid (w.cell? ⟨pb, po + i * 1, none⟩ = some (.int .i64 z)) := by show _ = _; rw [Nat.mul_one]; exact hcz
          have hsl : Hid (Value.slice oa on oc = .slice (some ⟨pb, po, none⟩) on oc) := congrArg (fun x => Value.slice x on oc) hca
          have hap : ap.length ≤ 10000000000000 := by have := HI.out.may.len; omega
          clear hca hcz hz
          have HHs : Hid (HdAt wr a [] ae [] ap) := HH
          have HK0 : Hid (Kept No wr wr) := Kept.refl _ _
          obtain ⟨s0, hs0⟩ : ∃ n, wr.heap.size = n := ⟨_, rfl⟩
          have HS0 : Hid (wr.heap.size = s0) := hs0
          clear hs0 HH
          go_upto_region 7 with fail
          refine WL.start ?_
          refine tK (.int .i64 ((i : Nat) : Int)) ?_
          refine tK (.slice oa on oc) ?_
          refine tK (.int .i64 ((on : Nat) : Int)) ?_
          refine tW (.bool true) (eB .lss 3 _ _ _ rfl (.int .i64 ((i : Nat) : Int)) (.int .i64 ((on : Nat) : Int)) _ (by rw [b_lss, decide_eq_true (by omega)])) ?_
          try simp only [pS]
          refine WL.nil ?_
          try simp only [pS]
          go_upto_region 9 with fail
          refine WL.start ?_
          refine tK (.int .i64 u) ?_
          refine tK (.int .i64 ((m : Nat) : Int)) ?_
          refine tW (.int .i64 (u + ((m : Nat) : Int))) (eB .add 3 _ _ _ rfl (.int .i64 u) (.int .i64 ((m : Nat) : Int)) _ (b_addw _ _ _ (by rw [IntKind.wrap_i64]; omega) _)) ?_
          refine tW (.int .i64 (u + ((m : Nat) : Int) + 1)) (eB .add 3 _ _ _ rfl (.int .i64 (u + ((m : Nat) : Int))) (.int .i64 1) _ (b_addw _ _ _ (by rw [IntKind.wrap_i64]; omega) _)) ?_
          refine tK (.slice oa on oc) ?_
          refine tK (.int .i64 ((i : Nat) : Int)) ?_
          refine tW (.pointer (some ⟨pb, po + i * 1, none⟩)) (exec_ixA 74 1 Try.und74e Try.size74e _ _ rfl pb po on oc i (Eq.trans (b := .slice oa on oc) (by kernel_rfl) hsl.out) (by kernel_rfl) hlt) ?_
          refine tW (.int .i64 z) (eL 3 _ rfl ⟨pb, po + i * 1, none⟩ (load_one (HF.out.kept.cell (cz.out) (fun e => e)) Try.und3 rfl)) ?_
          refine tW (.int .i64 (IntKind.i64.wrap (Int.tdiv z 4))) (eB .quo 3 _ _ _ rfl (.int .i64 z) (.int .i64 4) _ (b_quo4 _ _)) ?_
          try simp only [pS]
          refine wp_callW 26 #[.int .i64 (IntKind.i64.wrap (Int.tdiv z 4)), .int .i64 20] (by kernel_rfl) _ (rnd_any (IntKind.i64.wrap (Int.tdiv z 4)) 20 _ (by omega) (by omega)) (by kernel_rfl) ?_
          rintro e wk10 ⟨r, hr, rfl, hwq⟩
          have hk : Kept No wr wk10 := by rw [hwq]; exact Kept.refl _ _
          have HK0 : Hid (Kept No wr (wk10)) := HK0.out.no hk
          have HF : Hid (Fr No w (wk10) [(gk1, 35, Hd.cells hdZ), (gk4, 35, Hd.cells a)]) := HF.out.no hk
          clear hk hwq
          refine ⟨.int .i64 ((r : Nat) : Int), rfl, ?_⟩
          try simp only [pS]
          refine tW (.int .i64 (u + ((m : Nat) : Int) + 1 + ((r : Nat) : Int))) (eB .add 3 _ _ _ rfl (.int .i64 (u + ((m : Nat) : Int) + 1)) (.int .i64 ((r : Nat) : Int)) _ (b_addw _ _ _ (by rw [IntKind.wrap_i64]; omega) _)) ?_
          refine tK (.int .i64 (u + ((m : Nat) : Int) + 1 + ((r : Nat) : Int))) ?_
          try simp only [pS]
          refine WL.nil ?_
          try simp only [pS]
          go_upto_region 10 with fail
          refine WL.start ?_
          refine tK (.int .i64 (u + ((m : Nat) : Int) + 1 + ((r : Nat) : Int))) ?_
          refine tW (.agg (Cm.cells ⟨4, 1, (u + ((m : Nat) : Int) + 1 + ((r : Nat) : Int)), ⟨#[]⟩, 0, 0, 0, 0, 0⟩)) (exec_build 47 _ rfl (Cm.cells ⟨4, 1, (u + ((m : Nat) : Int) + 1 + ((r : Nat) : Int)), ⟨#[]⟩, 0, 0, 0, 0, 0⟩) (by kernel_rfl)) ?_
          refine tK (.slice oa on oc) ?_
          refine tK (.int .i64 ((i : Nat) : Int)) ?_
          refine tW (.pointer (some ⟨pb, po + i * 1, none⟩)) (exec_ixA 74 1 Try.und74e Try.size74e _ _ rfl pb po on oc i (Eq.trans (b := .slice oa on oc) (by kernel_rfl) hsl.out) (by kernel_rfl) hlt) ?_
          refine tW (.int .i64 z) (eL 3 _ rfl ⟨pb, po + i * 1, none⟩ (load_one (HF.out.kept.cell (cz.out) (fun e => e)) Try.und3 rfl)) ?_
          try simp only [pS]
          refine wp_callW 26 #[.int .i64 z, .int .i64 4] (by kernel_rfl) _ (rnd_any z 4 _ (by omega) (by omega)) (by kernel_rfl) ?_
          rintro e wk11 ⟨r2, hr2, rfl, hwq⟩
          have hk : Kept No wk10 wk11 := by rw [hwq]; exact Kept.refl _ _
          have HK0 : Hid (Kept No wr (wk11)) := HK0.out.no hk
          have HF : Hid (Fr No w (wk11) [(gk1, 35, Hd.cells hdZ), (gk4, 35, Hd.cells a)]) := HF.out.no hk
          clear hk hwq
          refine ⟨.int .i64 ((r2 : Nat) : Int), rfl, ?_⟩
          try simp only [pS]
          refine tW (.bool (decide (1 < ((r2 : Nat) : Int)))) (eB .gtr 3 _ _ _ rfl (.int .i64 ((r2 : Nat) : Int)) (.int .i64 1) _ (b_gtr _ _ _)) ?_
          refine tW (.agg (In.cells ⟨spZ, spZ, ⟨4, 1, (u + ((m : Nat) : Int) + 1 + ((r : Nat) : Int)), ⟨#[]⟩, 0, 0, 0, 0, 0⟩, (decide (1 < ((r2 : Nat) : Int)))⟩)) (exec_build 70 _ rfl (In.cells ⟨spZ, spZ, ⟨4, 1, (u + ((m : Nat) : Int) + 1 + ((r : Nat) : Int)), ⟨#[]⟩, 0, 0, 0, 0, 0⟩, (decide (1 < ((r2 : Nat) : Int)))⟩) (by kernel_rfl)) ?_
          try simp only [pS]
          refine wp_runW (.pointer (some ⟨wk11.heap.size, 0, none⟩)) (wk11.alloc (.cells (In.cells inZ) 70)) (exec_alloc 70 rfl (In.cells inZ) zero70) (by kernel_rfl) ?_
          try simp only [pS]
          have hgs : s0 ≤ wk11.heap.size := by rw [← HS0.out]; exact HK0.out.size
          have HK0 : Hid (Kept No wr (wk11.alloc (.cells (In.cells inZ) 70))) := HK0.out.no ((Kept.refl No _).alloc _)
          have HF : Hid (Fr No w _ [(gk1, 35, Hd.cells hdZ), (gk4, 35, Hd.cells a), (wk11.heap.size, 70, In.cells inZ)]) := HF.out.alloc _ _
          generalize wk11.alloc (.cells (In.cells inZ) 70) = wk13 at HF HK0 ⊢
          generalize wk11.heap.size = gk12 at HF hgs ⊢
          refine wp_storeW 70 _ _ rfl ⟨gk12, 0, none⟩ (.agg (In.cells ⟨spZ, spZ, ⟨4, 1, (u + ((m : Nat) : Int) + 1 + ((r : Nat) : Int)), ⟨#[]⟩, 0, 0, 0, 0, 0⟩, (decide (1 < ((r2 : Nat) : Int)))⟩)) (by kernel_rfl) (by kernel_rfl) (wk13.setRow gk12 (In.cells ⟨spZ, spZ, ⟨4, 1, (u + ((m : Nat) : Int) + 1 + ((r : Nat) : Int)), ⟨#[]⟩, 0, 0, 0, 0, 0⟩, (decide (1 < ((r2 : Nat) : Int)))⟩)) (run_store_to (cur := In.cs inZ) (vs := In.cs ⟨spZ, spZ, ⟨4, 1, (u + ((m : Nat) : Int) + 1 + ((r : Nat) : Int)), ⟨#[]⟩, 0, 0, 0, 0, 0⟩, (decide (1 < ((r2 : Nat) : Int)))⟩) (new := In.cs ⟨spZ, spZ, ⟨4, 1, (u + ((m : Nat) : Int) + 1 + ((r : Nat) : Int)), ⟨#[]⟩, 0, 0, 0, 0, 0⟩, (decide (1 < ((r2 : Nat) : Int)))⟩) (HF.out.box 2 _ _ _ rfl) (by kernel_rfl) Try.size70 (Nat.le_of_ble_eq_true (by kernel_rfl)) (In.oneL _) (by kernel_rfl)) (by kernel_rfl) ?_
          try simp only [pS]
          have HK0 : Hid (Kept No wr (wk13.setRow gk12 (In.cells ⟨spZ, spZ, ⟨4, 1, (u + ((m : Nat) : Int) + 1 + ((r : Nat) : Int)), ⟨#[]⟩, 0, 0, 0, 0, 0⟩, (decide (1 < ((r2 : Nat) : Int)))⟩))) := HK0.out.newRow (by rw [HS0.out]; exact hgs) _
          have HF : Hid (Fr No w _ [(gk1, 35, Hd.cells hdZ), (gk4, 35, Hd.cells a), (gk12, 70, In.cells ⟨spZ, spZ, ⟨4, 1, (u + ((m : Nat) : Int) + 1 + ((r : Nat) : Int)), ⟨#[]⟩, 0, 0, 0, 0, 0⟩, (decide (1 < ((r2 : Nat) : Int)))⟩)]) := HF.out.set 2 rfl _
          generalize wk13.setRow gk12 (In.cells ⟨spZ, spZ, ⟨4, 1, (u + ((m : Nat) : Int) + 1 + ((r : Nat) : Int)), ⟨#[]⟩, 0, 0, 0, 0, 0⟩, (decide (1 < ((r2 : Nat) : Int)))⟩) = wk14 at HF HK0 ⊢
          refine WL.nil ?_
          try simp only [pS]
          go_upto_region 11 with fail
          refine WL.start ?_
          refine tK (.pointer (some ⟨gk12, 13, none⟩)) ?_
          refine tW (.bool (decide (1 < ((r2 : Nat) : Int)))) (eL 4 _ rfl ⟨gk12, 13, none⟩ (load_one ((HF.out.box 2 _ _ _ rfl).cell 13 |>.trans (by kernel_rfl)) Try.und4 rfl)) ?_
          try simp only [pS]
          cases q1 : ((decide (1 < ((r2 : Nat) : Int))))
          ·skip
           try simp only [q1]
           refine tK (.bool true) ?_
           try simp only [pS]
           refine WL.nil ?_
           try simp only [pS]
           go_upto_region 12 with fail
           refine WL.start ?_
           refine tW (.agg (Sp.cells ⟨3, 2⟩)) (exec_build 25 _ rfl (Sp.cells ⟨3, 2⟩) (by kernel_rfl)) ?_
           refine tK (.pointer (some ⟨gk12, 0, none⟩)) ?_
           try simp only [pS]
           refine wp_storeW 25 _ _ rfl ⟨gk12, 0, none⟩ (.agg (Sp.cells ⟨3, 2⟩)) (by kernel_rfl) (by kernel_rfl) (wk14.setRow gk12 (In.cells ⟨⟨3, 2⟩, spZ, ⟨4, 1, (u + ((m : Nat) : Int) + 1 + ((r : Nat) : Int)), ⟨#[]⟩, 0, 0, 0, 0, 0⟩, (decide (1 < ((r2 : Nat) : Int)))⟩)) (run_store_to (cur := In.cs ⟨spZ, spZ, ⟨4, 1, (u + ((m : Nat) : Int) + 1 + ((r : Nat) : Int)), ⟨#[]⟩, 0, 0, 0, 0, 0⟩, (decide (1 < ((r2 : Nat) : Int)))⟩) (vs := Sp.cs ⟨3, 2⟩) (new := In.cs ⟨⟨3, 2⟩, spZ, ⟨4, 1, (u + ((m : Nat) : Int) + 1 + ((r : Nat) : Int)), ⟨#[]⟩, 0, 0, 0, 0, 0⟩, (decide (1 < ((r2 : Nat) : Int)))⟩) (HF.out.box 2 _ _ _ rfl) (by kernel_rfl) Try.size25 (Nat.le_of_ble_eq_true (by kernel_rfl)) (Sp.oneL _) (by kernel_rfl)) (by kernel_rfl) ?_
           try simp only [pS]
           have HK0 : Hid (Kept No wr (wk14.setRow gk12 (In.cells ⟨⟨3, 2⟩, spZ, ⟨4, 1, (u + ((m : Nat) : Int) + 1 + ((r : Nat) : Int)), ⟨#[]⟩, 0, 0, 0, 0, 0⟩, (decide (1 < ((r2 : Nat) : Int)))⟩))) := HK0.out.newRow (by rw [HS0.out]; exact hgs) _
           have HF : Hid (Fr No w _ [(gk1, 35, Hd.cells hdZ), (gk4, 35, Hd.cells a), (gk12, 70, In.cells ⟨⟨3, 2⟩, spZ, ⟨4, 1, (u + ((m : Nat) : Int) + 1 + ((r : Nat) : Int)), ⟨#[]⟩, 0, 0, 0, 0, 0⟩, (decide (1 < ((r2 : Nat) : Int)))⟩)]) := HF.out.set 2 rfl _
           generalize wk14.setRow gk12 (In.cells ⟨⟨3, 2⟩, spZ, ⟨4, 1, (u + ((m : Nat) : Int) + 1 + ((r : Nat) : Int)), ⟨#[]⟩, 0, 0, 0, 0, 0⟩, (decide (1 < ((r2 : Nat) : Int)))⟩) = wk15 at HF HK0 ⊢
           refine WL.nil ?_
           try simp only [pS]
           go_upto_region 13 with fail
           refine WL.start ?_
           refine tW (.agg (Sp.cells ⟨2, 2⟩)) (exec_build 25 _ rfl (Sp.cells ⟨2, 2⟩) (by kernel_rfl)) ?_
           refine tK (.pointer (some ⟨gk12, 2, none⟩)) ?_
           try simp only [pS]
           refine wp_storeW 25 _ _ rfl ⟨gk12, 2, none⟩ (.agg (Sp.cells ⟨2, 2⟩)) (by kernel_rfl) (by kernel_rfl) (wk15.setRow gk12 (In.cells ⟨⟨3, 2⟩, ⟨2, 2⟩, ⟨4, 1, (u + ((m : Nat) : Int) + 1 + ((r : Nat) : Int)), ⟨#[]⟩, 0, 0, 0, 0, 0⟩, (decide (1 < ((r2 : Nat) : Int)))⟩)) (run_store_to (cur := In.cs ⟨⟨3, 2⟩, spZ, ⟨4, 1, (u + ((m : Nat) : Int) + 1 + ((r : Nat) : Int)), ⟨#[]⟩, 0, 0, 0, 0, 0⟩, (decide (1 < ((r2 : Nat) : Int)))⟩) (vs := Sp.cs ⟨2, 2⟩) (new := In.cs ⟨⟨3, 2⟩, ⟨2, 2⟩, ⟨4, 1, (u + ((m : Nat) : Int) + 1 + ((r : Nat) : Int)), ⟨#[]⟩, 0, 0, 0, 0, 0⟩, (decide (1 < ((r2 : Nat) : Int)))⟩) (HF.out.box 2 _ _ _ rfl) (by kernel_rfl) Try.size25 (Nat.le_of_ble_eq_true (by kernel_rfl)) (Sp.oneL _) (by kernel_rfl)) (by kernel_rfl) ?_
           try simp only [pS]
           have HK0 : Hid (Kept No wr (wk15.setRow gk12 (In.cells ⟨⟨3, 2⟩, ⟨2, 2⟩, ⟨4, 1, (u + ((m : Nat) : Int) + 1 + ((r : Nat) : Int)), ⟨#[]⟩, 0, 0, 0, 0, 0⟩, (decide (1 < ((r2 : Nat) : Int)))⟩))) := HK0.out.newRow (by rw [HS0.out]; exact hgs) _
           have HF : Hid (Fr No w _ [(gk1, 35, Hd.cells hdZ), (gk4, 35, Hd.cells a), (gk12, 70, In.cells ⟨⟨3, 2⟩, ⟨2, 2⟩, ⟨4, 1, (u + ((m : Nat) : Int) + 1 + ((r : Nat) : Int)), ⟨#[]⟩, 0, 0, 0, 0, 0⟩, (decide (1 < ((r2 : Nat) : Int)))⟩)]) := HF.out.set 2 rfl _
           generalize wk15.setRow gk12 (In.cells ⟨⟨3, 2⟩, ⟨2, 2⟩, ⟨4, 1, (u + ((m : Nat) : Int) + 1 + ((r : Nat) : Int)), ⟨#[]⟩, 0, 0, 0, 0, 0⟩, (decide (1 < ((r2 : Nat) : Int)))⟩) = wk16 at HF HK0 ⊢
           refine WL.nil ?_
           try simp only [pS]
           go_upto_region 14 with fail
           refine WL.start ?_
           refine tW (.agg (Hd.cells a)) (eL 35 _ rfl ⟨gk4, 0, none⟩ (run_load_part (cs := Hd.cs a) (sub := Hd.cs a) (HF.out.box 1 _ _ _ rfl) (Part.all _) Try.und35 rfl Try.size35)) ?_
           refine tK (.int .i64 (u + ((m : Nat) : Int) + 1 + ((r : Nat) : Int))) ?_
           try simp only [pS]
           refine wp_callW 46 #[.agg (Hd.cells a), .int .i64 (u + ((m : Nat) : Int) + 1 + ((r : Nat) : Int))] (by kernel_rfl) _ (refAt_any a ap (u + ((m : Nat) : Int) + 1 + ((r : Nat) : Int)) _ (HHs.out.no HK0.out).p hap) (by kernel_rfl) ?_
           rintro e wk17 ⟨rfl, hk⟩
           have HK0 : Hid (Kept No wr (wk17)) := HK0.out.no hk
           have HF : Hid (Fr No w (wk17) [(gk1, 35, Hd.cells hdZ), (gk4, 35, Hd.cells a), (gk12, 70, In.cells ⟨⟨3, 2⟩, ⟨2, 2⟩, ⟨4, 1, (u + ((m : Nat) : Int) + 1 + ((r : Nat) : Int)), ⟨#[]⟩, 0, 0, 0, 0, 0⟩, (decide (1 < ((r2 : Nat) : Int)))⟩)]) := HF.out.no hk
           clear hk
           refine ⟨.agg (In.cells (atF (u + ((m : Nat) : Int) + 1 + ((r : Nat) : Int)) ap)), rfl, ?_⟩
           try simp only [pS]
           refine tK (.bool (atF (u + ((m : Nat) : Int) + 1 + ((r : Nat) : Int)) ap).d) ?_
           try simp only [pS]
           cases q2 : ((atF (u + ((m : Nat) : Int) + 1 + ((r : Nat) : Int)) ap).d)
           ·skip
            try simp only [q2]
            refine tK (.bool true) ?_
            try simp only [pS]
            refine WL.nil ?_
            try simp only [pS]
            go_upto_region 15 with fail
            refine WL.start ?_
            refine tW (.agg (Hd.cells a)) (eL 35 _ rfl ⟨gk4, 0, none⟩ (run_load_part (cs := Hd.cs a) (sub := Hd.cs a) (HF.out.box 1 _ _ _ rfl) (Part.all _) Try.und35 rfl Try.size35)) ?_
            refine tK (.int .i64 (u + ((m : Nat) : Int) + 1 + ((r : Nat) : Int))) ?_
            refine tW (.agg (Ky.cells ⟨3, 0, (u + ((m : Nat) : Int) + 1 + ((r : Nat) : Int)), 0⟩)) (exec_build 23 _ rfl (Ky.cells ⟨3, 0, (u + ((m : Nat) : Int) + 1 + ((r : Nat) : Int)), 0⟩) (by kernel_rfl)) ?_
            refine tW (.agg (In.cells ⟨⟨3, 2⟩, ⟨2, 2⟩, ⟨4, 1, (u + ((m : Nat) : Int) + 1 + ((r : Nat) : Int)), ⟨#[]⟩, 0, 0, 0, 0, 0⟩, (decide (1 < ((r2 : Nat) : Int)))⟩)) (eL 70 _ rfl ⟨gk12, 0, none⟩ (run_load_part (cs := In.cs ⟨⟨3, 2⟩, ⟨2, 2⟩, ⟨4, 1, (u + ((m : Nat) : Int) + 1 + ((r : Nat) : Int)), ⟨#[]⟩, 0, 0, 0, 0, 0⟩, (decide (1 < ((r2 : Nat) : Int)))⟩) (sub := In.cs ⟨⟨3, 2⟩, ⟨2, 2⟩, ⟨4, 1, (u + ((m : Nat) : Int) + 1 + ((r : Nat) : Int)), ⟨#[]⟩, 0, 0, 0, 0, 0⟩, (decide (1 < ((r2 : Nat) : Int)))⟩) (HF.out.box 2 _ _ _ rfl) (Part.all _) Try.und70 rfl Try.size70)) ?_
            refine tW (.agg (Ch.cells ⟨⟨3, 0, (u + ((m : Nat) : Int) + 1 + ((r : Nat) : Int)), 0⟩, blZ, ⟨⟨3, 2⟩, ⟨2, 2⟩, ⟨4, 1, (u + ((m : Nat) : Int) + 1 + ((r : Nat) : Int)), ⟨#[]⟩, 0, 0, 0, 0, 0⟩, (decide (1 < ((r2 : Nat) : Int)))⟩, bvZ⟩)) (exec_build 72 _ rfl (Ch.cells ⟨⟨3, 0, (u + ((m : Nat) : Int) + 1 + ((r : Nat) : Int)), 0⟩, blZ, ⟨⟨3, 2⟩, ⟨2, 2⟩, ⟨4, 1, (u + ((m : Nat) : Int) + 1 + ((r : Nat) : Int)), ⟨#[]⟩, 0, 0, 0, 0, 0⟩, (decide (1 < ((r2 : Nat) : Int)))⟩, bvZ⟩) (by kernel_rfl)) ?_
            try simp only [pS]
            have hlt7 : gk4 < wk17.heap.size := (HF.out.box 1 _ _ _ rfl).lt
            have hlt6 : gk1 < wk17.heap.size := (HF.out.box 0 _ _ _ rfl).lt
            have hlt8 : w.heap.size ≤ wk17.heap.size := HF.out.kept.size
            refine wp_callW 24 #[.agg (Hd.cells a), .agg (Ch.cells ⟨⟨3, 0, (u + ((m : Nat) : Int) + 1 + ((r : Nat) : Int)), 0⟩, blZ, ⟨⟨3, 2⟩, ⟨2, 2⟩, ⟨4, 1, (u + ((m : Nat) : Int) + 1 + ((r : Nat) : Int)), ⟨#[]⟩, 0, 0, 0, 0, 0⟩, (decide (1 < ((r2 : Nat) : Int)))⟩, bvZ⟩)] (by kernel_rfl) _ (laid_inst a ⟨⟨3, 0, (u + ((m : Nat) : Int) + 1 + ((r : Nat) : Int)), 0⟩, blZ, ⟨⟨3, 2⟩, ⟨2, 2⟩, ⟨4, 1, (u + ((m : Nat) : Int) + 1 + ((r : Nat) : Int)), ⟨#[]⟩, 0, 0, 0, 0, 0⟩, (decide (1 < ((r2 : Nat) : Int)))⟩, bvZ⟩ ap _ rfl rfl (HHs.out.no HK0.out).p HI.out.may.len (rise_low ap _ _ HI.out.may.rise (Int.le_refl _))) (by kernel_rfl) ?_
            rintro e wk18 ⟨s', rfl, hw, hk⟩
            have HK0 : Hid (Kept No wr (wk18)) := HK0.out.no hk
            have HF : Hid (Fr No w (wk18) [(gk1, 35, Hd.cells hdZ), (gk4, 35, Hd.cells a), (gk12, 70, In.cells ⟨⟨3, 2⟩, ⟨2, 2⟩, ⟨4, 1, (u + ((m : Nat) : Int) + 1 + ((r : Nat) : Int)), ⟨#[]⟩, 0, 0, 0, 0, 0⟩, (decide (1 < ((r2 : Nat) : Int)))⟩)]) := HF.out.no hk
            have HH : Hid (HdAt wk18 a [] ae [] ap) := HHs.out.no HK0.out
            have hM2 : MayP ⟨a.b, a.k, s'⟩ (insP (u + ((m : Nat) : Int) + 1 + ((r : Nat) : Int)) ⟨⟨3, 2⟩, ⟨2, 2⟩, ⟨4, 1, (u + ((m : Nat) : Int) + 1 + ((r : Nat) : Int)), ⟨#[]⟩, 0, 0, 0, 0, 0⟩, (decide (1 < ((r2 : Nat) : Int)))⟩ ap) := HI.out.may.ins (by rw [HI.out.up]; omega) ⟨by show u + ((m : Nat) : Int) + 1 + ((r : Nat) : Int) ≤ 1048576; omega, fun e => by have e : decide (1 < ((r2 : Nat) : Int)) = true := e; rw [q1] at e; cases e⟩
            have HI2 : Hid (HoI u m ⟨a.b, a.k, s'⟩ ae (insP (u + ((m : Nat) : Int) + 1 + ((r : Nat) : Int)) ⟨⟨3, 2⟩, ⟨2, 2⟩, ⟨4, 1, (u + ((m : Nat) : Int) + 1 + ((r : Nat) : Int)), ⟨#[]⟩, 0, 0, 0, 0, 0⟩, (decide (1 < ((r2 : Nat) : Int)))⟩ ap)) := HoI.next (a' := a) HI.out (by omega) (by omega) (fun e => by have e : decide (1 < ((r2 : Nat) : Int)) = true := e; rw [q1] at e; cases e) hM2
            have HH2 : Hid (HdAt wk18 ⟨a.b, a.k, s'⟩ [] ae [] (insP (u + ((m : Nat) : Int) + 1 + ((r : Nat) : Int)) ⟨⟨3, 2⟩, ⟨2, 2⟩, ⟨4, 1, (u + ((m : Nat) : Int) + 1 + ((r : Nat) : Int)), ⟨#[]⟩, 0, 0, 0, 0, 0⟩, (decide (1 < ((r2 : Nat) : Int)))⟩ ap)) := ⟨HH.out.b, HH.out.e, HH.out.l, hw.rd, HH.out.nb, HH.out.ne, HH.out.nl, by show s'.l ≤ _; have h9 : (insP (u + ((m : Nat) : Int) + 1 + ((r : Nat) : Int)) ⟨⟨3, 2⟩, ⟨2, 2⟩, ⟨4, 1, (u + ((m : Nat) : Int) + 1 + ((r : Nat) : Int)), ⟨#[]⟩, 0, 0, 0, 0, 0⟩, (decide (1 < ((r2 : Nat) : Int)))⟩ ap).length = s'.l := hw.len; have := hM2.len; omega⟩
            have HOf2 : Hid (HdOff (fun k => k = gk4 ∨ k = gk1 ∨ k < w.heap.size) ⟨a.b, a.k, s'⟩ [] ae [] (insP (u + ((m : Nat) : Int) + 1 + ((r : Nat) : Int)) ⟨⟨3, 2⟩, ⟨2, 2⟩, ⟨4, 1, (u + ((m : Nat) : Int) + 1 + ((r : Nat) : Int)), ⟨#[]⟩, 0, 0, 0, 0, 0⟩, (decide (1 < ((r2 : Nat) : Int)))⟩ ap)) := ⟨HOf.out.1, HOf.out.2.1, HOf.out.2.2.1, fun _ k e f => by have g1 := hw.own.base e; have g2 := hlt7; have g3 := hlt6; have g4 := hlt8; rcases f with f | f | f <;> omega⟩
            clear hw hk hlt7 hlt6 hlt8
            refine ⟨.agg (Hd.cells ⟨a.b, a.k, s'⟩), rfl, ?_⟩
            try simp only [pS]
            refine wp_storeW 35 _ _ rfl ⟨gk4, 0, none⟩ (.agg (Hd.cells ⟨a.b, a.k, s'⟩)) (by kernel_rfl) (by kernel_rfl) (wk18.setRow gk4 (Hd.cells ⟨a.b, a.k, s'⟩)) (run_store_to (cur := Hd.cs a) (vs := Hd.cs ⟨a.b, a.k, s'⟩) (new := Hd.cs ⟨a.b, a.k, s'⟩) (HF.out.box 1 _ _ _ rfl) (by kernel_rfl) Try.size35 (Nat.le_of_ble_eq_true (by kernel_rfl)) (Hd.oneL _) (by kernel_rfl)) (by kernel_rfl) ?_
            try simp only [pS]
            have HH2 : Hid (HdAt (wk18.setRow gk4 (Hd.cells ⟨a.b, a.k, s'⟩)) ⟨a.b, a.k, s'⟩ [] ae [] (insP (u + ((m : Nat) : Int) + 1 + ((r : Nat) : Int)) ⟨⟨3, 2⟩, ⟨2, 2⟩, ⟨4, 1, (u + ((m : Nat) : Int) + 1 + ((r : Nat) : Int)), ⟨#[]⟩, 0, 0, 0, 0, 0⟩, (decide (1 < ((r2 : Nat) : Int)))⟩ ap)) := HH2.out.keptG HOf2.out (Kept.setRow _ _ _) (fun k e => .inl e)
            have HF : Hid (Fr No w _ [(gk1, 35, Hd.cells hdZ), (gk4, 35, Hd.cells ⟨a.b, a.k, s'⟩), (gk12, 70, In.cells ⟨⟨3, 2⟩, ⟨2, 2⟩, ⟨4, 1, (u + ((m : Nat) : Int) + 1 + ((r : Nat) : Int)), ⟨#[]⟩, 0, 0, 0, 0, 0⟩, (decide (1 < ((r2 : Nat) : Int)))⟩)]) := HF.out.set 1 rfl _
            generalize wk18.setRow gk4 (Hd.cells ⟨a.b, a.k, s'⟩) = wk19 at HF HH2 ⊢
            refine WL.nil ?_
            try simp only [pS]
            go_upto_region 8 with fail
            refine WL.start ?_
            refine tK (.int .i64 ((i : Nat) : Int)) ?_
            refine tW (.int .i64 (((i + 1) : Nat) : Int)) (eB .add 3 _ _ _ rfl (.int .i64 ((i : Nat) : Int)) (.int .i64 1) _ (b_addw _ _ _ (by rw [IntKind.wrap_i64]; omega) _)) ?_
            refine tK (.int .i64 (((i + 1) : Nat) : Int)) ?_
            try simp only [pS]
            refine WL.nil ?_
            try simp only [pS]
            have HF : Hid (Fr No w wk19 [(gk1, 35, Hd.cells hdZ), (gk4, 35, Hd.cells ⟨a.b, a.k, s'⟩)]) := (show Fr No w wk19 ([(gk1, 35, Hd.cells hdZ), (gk4, 35, Hd.cells ⟨a.b, a.k, s'⟩)] ++ [(gk12, 70, In.cells ⟨⟨3, 2⟩, ⟨2, 2⟩, ⟨4, 1, (u + ((m : Nat) : Int) + 1 + ((r : Nat) : Int)), ⟨#[]⟩, 0, 0, 0, 0, 0⟩, (decide (1 < ((r2 : Nat) : Int)))⟩)]) from HF.out).front
            go_wp2
            go_roundw
            case rel => exact ⟨i + 1, _, ae, _, by go_num, by omega, HH2, HOf2, HI2, HF⟩
            case measure => simp [intOf]; omega
           ·skip
            try simp only [q2]
            refine tK (.bool false) ?_
            try simp only [pS]
            refine WL.nil ?_
            try simp only [pS]
            go_upto_region 8 with fail
            refine WL.start ?_
            refine tK (.int .i64 ((i : Nat) : Int)) ?_
            refine tW (.int .i64 (((i + 1) : Nat) : Int)) (eB .add 3 _ _ _ rfl (.int .i64 ((i : Nat) : Int)) (.int .i64 1) _ (b_addw _ _ _ (by rw [IntKind.wrap_i64]; omega) _)) ?_
            refine tK (.int .i64 (((i + 1) : Nat) : Int)) ?_
            try simp only [pS]
            refine WL.nil ?_
            try simp only [pS]
            have HH : Hid (HdAt wk17 a [] ae [] ap) := HHs.out.no HK0.out
            have HF : Hid (Fr No w wk17 [(gk1, 35, Hd.cells hdZ), (gk4, 35, Hd.cells a)]) := (show Fr No w wk17 ([(gk1, 35, Hd.cells hdZ), (gk4, 35, Hd.cells a)] ++ [(gk12, 70, In.cells ⟨⟨3, 2⟩, ⟨2, 2⟩, ⟨4, 1, (u + ((m : Nat) : Int) + 1 + ((r : Nat) : Int)), ⟨#[]⟩, 0, 0, 0, 0, 0⟩, (decide (1 < ((r2 : Nat) : Int)))⟩)]) from HF.out).front
            go_wp2
            go_roundw
            case rel => exact ⟨i + 1, a, ae, ap, by go_num, by omega, HH, HOf, HI, HF⟩
            case measure => simp [intOf]; omega
          ·skip
           try simp only [q1]
           refine tK (.bool false) ?_
           try simp only [pS]
           refine WL.nil ?_
           try simp only [pS]
           go_upto_region 14 with fail
           refine WL.start ?_
           refine tW (.agg (Hd.cells a)) (eL 35 _ rfl ⟨gk4, 0, none⟩ (run_load_part (cs := Hd.cs a) (sub := Hd.cs a) (HF.out.box 1 _ _ _ rfl) (Part.all _) Try.und35 rfl Try.size35)) ?_
           refine tK (.int .i64 (u + ((m : Nat) : Int) + 1 + ((r : Nat) : Int))) ?_
           try simp only [pS]
           refine wp_callW 46 #[.agg (Hd.cells a), .int .i64 (u + ((m : Nat) : Int) + 1 + ((r : Nat) : Int))] (by kernel_rfl) _ (refAt_any a ap (u + ((m : Nat) : Int) + 1 + ((r : Nat) : Int)) _ (HHs.out.no HK0.out).p hap) (by kernel_rfl) ?_
           rintro e wk20 ⟨rfl, hk⟩
           have HK0 : Hid (Kept No wr (wk20)) := HK0.out.no hk
           have HF : Hid (Fr No w (wk20) [(gk1, 35, Hd.cells hdZ), (gk4, 35, Hd.cells a), (gk12, 70, In.cells ⟨spZ, spZ, ⟨4, 1, (u + ((m : Nat) : Int) + 1 + ((r : Nat) : Int)), ⟨#[]⟩, 0, 0, 0, 0, 0⟩, (decide (1 < ((r2 : Nat) : Int)))⟩)]) := HF.out.no hk
           clear hk
           refine ⟨.agg (In.cells (atF (u + ((m : Nat) : Int) + 1 + ((r : Nat) : Int)) ap)), rfl, ?_⟩
           try simp only [pS]
           refine tK (.bool (atF (u + ((m : Nat) : Int) + 1 + ((r : Nat) : Int)) ap).d) ?_
           try simp only [pS]
           cases q3 : ((atF (u + ((m : Nat) : Int) + 1 + ((r : Nat) : Int)) ap).d)
           ·skip
            try simp only [q3]
            refine tK (.bool true) ?_
            try simp only [pS]
            refine WL.nil ?_
            try simp only [pS]
            go_upto_region 15 with fail
            refine WL.start ?_
            refine tW (.agg (Hd.cells a)) (eL 35 _ rfl ⟨gk4, 0, none⟩ (run_load_part (cs := Hd.cs a) (sub := Hd.cs a) (HF.out.box 1 _ _ _ rfl) (Part.all _) Try.und35 rfl Try.size35)) ?_
            refine tK (.int .i64 (u + ((m : Nat) : Int) + 1 + ((r : Nat) : Int))) ?_
            refine tW (.agg (Ky.cells ⟨3, 0, (u + ((m : Nat) : Int) + 1 + ((r : Nat) : Int)), 0⟩)) (exec_build 23 _ rfl (Ky.cells ⟨3, 0, (u + ((m : Nat) : Int) + 1 + ((r : Nat) : Int)), 0⟩) (by kernel_rfl)) ?_
            refine tW (.agg (In.cells ⟨spZ, spZ, ⟨4, 1, (u + ((m : Nat) : Int) + 1 + ((r : Nat) : Int)), ⟨#[]⟩, 0, 0, 0, 0, 0⟩, (decide (1 < ((r2 : Nat) : Int)))⟩)) (eL 70 _ rfl ⟨gk12, 0, none⟩ (run_load_part (cs := In.cs ⟨spZ, spZ, ⟨4, 1, (u + ((m : Nat) : Int) + 1 + ((r : Nat) : Int)), ⟨#[]⟩, 0, 0, 0, 0, 0⟩, (decide (1 < ((r2 : Nat) : Int)))⟩) (sub := In.cs ⟨spZ, spZ, ⟨4, 1, (u + ((m : Nat) : Int) + 1 + ((r : Nat) : Int)), ⟨#[]⟩, 0, 0, 0, 0, 0⟩, (decide (1 < ((r2 : Nat) : Int)))⟩) (HF.out.box 2 _ _ _ rfl) (Part.all _) Try.und70 rfl Try.size70)) ?_
            refine tW (.agg (Ch.cells ⟨⟨3, 0, (u + ((m : Nat) : Int) + 1 + ((r : Nat) : Int)), 0⟩, blZ, ⟨spZ, spZ, ⟨4, 1, (u + ((m : Nat) : Int) + 1 + ((r : Nat) : Int)), ⟨#[]⟩, 0, 0, 0, 0, 0⟩, (decide (1 < ((r2 : Nat) : Int)))⟩, bvZ⟩)) (exec_build 72 _ rfl (Ch.cells ⟨⟨3, 0, (u + ((m : Nat) : Int) + 1 + ((r : Nat) : Int)), 0⟩, blZ, ⟨spZ, spZ, ⟨4, 1, (u + ((m : Nat) : Int) + 1 + ((r : Nat) : Int)), ⟨#[]⟩, 0, 0, 0, 0, 0⟩, (decide (1 < ((r2 : Nat) : Int)))⟩, bvZ⟩) (by kernel_rfl)) ?_
            try simp only [pS]
            have hlt7 : gk4 < wk20.heap.size := (HF.out.box 1 _ _ _ rfl).lt
            have hlt6 : gk1 < wk20.heap.size := (HF.out.box 0 _ _ _ rfl).lt
            have hlt8 : w.heap.size ≤ wk20.heap.size := HF.out.kept.size
            refine wp_callW 24 #[.agg (Hd.cells a), .agg (Ch.cells ⟨⟨3, 0, (u + ((m : Nat) : Int) + 1 + ((r : Nat) : Int)), 0⟩, blZ, ⟨spZ, spZ, ⟨4, 1, (u + ((m : Nat) : Int) + 1 + ((r : Nat) : Int)), ⟨#[]⟩, 0, 0, 0, 0, 0⟩, (decide (1 < ((r2 : Nat) : Int)))⟩, bvZ⟩)] (by kernel_rfl) _ (laid_inst a ⟨⟨3, 0, (u + ((m : Nat) : Int) + 1 + ((r : Nat) : Int)), 0⟩, blZ, ⟨spZ, spZ, ⟨4, 1, (u + ((m : Nat) : Int) + 1 + ((r : Nat) : Int)), ⟨#[]⟩, 0, 0, 0, 0, 0⟩, (decide (1 < ((r2 : Nat) : Int)))⟩, bvZ⟩ ap _ rfl rfl (HHs.out.no HK0.out).p HI.out.may.len (rise_low ap _ _ HI.out.may.rise (Int.le_refl _))) (by kernel_rfl) ?_
            rintro e wk21 ⟨s', rfl, hw, hk⟩
            have HK0 : Hid (Kept No wr (wk21)) := HK0.out.no hk
            have HF : Hid (Fr No w (wk21) [(gk1, 35, Hd.cells hdZ), (gk4, 35, Hd.cells a), (gk12, 70, In.cells ⟨spZ, spZ, ⟨4, 1, (u + ((m : Nat) : Int) + 1 + ((r : Nat) : Int)), ⟨#[]⟩, 0, 0, 0, 0, 0⟩, (decide (1 < ((r2 : Nat) : Int)))⟩)]) := HF.out.no hk
            have HH : Hid (HdAt wk21 a [] ae [] ap) := HHs.out.no HK0.out
            have hM2 : MayP ⟨a.b, a.k, s'⟩ (insP (u + ((m : Nat) : Int) + 1 + ((r : Nat) : Int)) ⟨spZ, spZ, ⟨4, 1, (u + ((m : Nat) : Int) + 1 + ((r : Nat) : Int)), ⟨#[]⟩, 0, 0, 0, 0, 0⟩, (decide (1 < ((r2 : Nat) : Int)))⟩ ap) := HI.out.may.ins (by rw [HI.out.up]; omega) ⟨by show u + ((m : Nat) : Int) + 1 + ((r : Nat) : Int) ≤ 1048576; omega, fun _ => ⟨rfl, rfl, by show (1 : Int) ≤ 4; omega⟩⟩
            have HI2 : Hid (HoI u m ⟨a.b, a.k, s'⟩ ae (insP (u + ((m : Nat) : Int) + 1 + ((r : Nat) : Int)) ⟨spZ, spZ, ⟨4, 1, (u + ((m : Nat) : Int) + 1 + ((r : Nat) : Int)), ⟨#[]⟩, 0, 0, 0, 0, 0⟩, (decide (1 < ((r2 : Nat) : Int)))⟩ ap)) := HoI.next (a' := a) HI.out (by omega) (by omega) (fun e => rfl) hM2
            have HH2 : Hid (HdAt wk21 ⟨a.b, a.k, s'⟩ [] ae [] (insP (u + ((m : Nat) : Int) + 1 + ((r : Nat) : Int)) ⟨spZ, spZ, ⟨4, 1, (u + ((m : Nat) : Int) + 1 + ((r : Nat) : Int)), ⟨#[]⟩, 0, 0, 0, 0, 0⟩, (decide (1 < ((r2 : Nat) : Int)))⟩ ap)) := ⟨HH.out.b, HH.out.e, HH.out.l, hw.rd, HH.out.nb, HH.out.ne, HH.out.nl, by show s'.l ≤ _; have h9 : (insP (u + ((m : Nat) : Int) + 1 + ((r : Nat) : Int)) ⟨spZ, spZ, ⟨4, 1, (u + ((m : Nat) : Int) + 1 + ((r : Nat) : Int)), ⟨#[]⟩, 0, 0, 0, 0, 0⟩, (decide (1 < ((r2 : Nat) : Int)))⟩ ap).length = s'.l := hw.len; have := hM2.len; omega⟩
            have HOf2 : Hid (HdOff (fun k => k = gk4 ∨ k = gk1 ∨ k < w.heap.size) ⟨a.b, a.k, s'⟩ [] ae [] (insP (u + ((m : Nat) : Int) + 1 + ((r : Nat) : Int)) ⟨spZ, spZ, ⟨4, 1, (u + ((m : Nat) : Int) + 1 + ((r : Nat) : Int)), ⟨#[]⟩, 0, 0, 0, 0, 0⟩, (decide (1 < ((r2 : Nat) : Int)))⟩ ap)) := ⟨HOf.out.1, HOf.out.2.1, HOf.out.2.2.1, fun _ k e f => by have g1 := hw.own.base e; have g2 := hlt7; have g3 := hlt6; have g4 := hlt8; rcases f with f | f | f <;> omega⟩
            clear hw hk hlt7 hlt6 hlt8
            refine ⟨.agg (Hd.cells ⟨a.b, a.k, s'⟩), rfl, ?_⟩
            try simp only [pS]
            refine wp_storeW 35 _ _ rfl ⟨gk4, 0, none⟩ (.agg (Hd.cells ⟨a.b, a.k, s'⟩)) (by kernel_rfl) (by kernel_rfl) (wk21.setRow gk4 (Hd.cells ⟨a.b, a.k, s'⟩)) (run_store_to (cur := Hd.cs a) (vs := Hd.cs ⟨a.b, a.k, s'⟩) (new := Hd.cs ⟨a.b, a.k, s'⟩) (HF.out.box 1 _ _ _ rfl) (by kernel_rfl) Try.size35 (Nat.le_of_ble_eq_true (by kernel_rfl)) (Hd.oneL _) (by kernel_rfl)) (by kernel_rfl) ?_
            try simp only [pS]
            have HH2 : Hid (HdAt (wk21.setRow gk4 (Hd.cells ⟨a.b, a.k, s'⟩)) ⟨a.b, a.k, s'⟩ [] ae [] (insP (u + ((m : Nat) : Int) + 1 + ((r : Nat) : Int)) ⟨spZ, spZ, ⟨4, 1, (u + ((m : Nat) : Int) + 1 + ((r : Nat) : Int)), ⟨#[]⟩, 0, 0, 0, 0, 0⟩, (decide (1 < ((r2 : Nat) : Int)))⟩ ap)) := HH2.out.keptG HOf2.out (Kept.setRow _ _ _) (fun k e => .inl e)
            have HF : Hid (Fr No w _ [(gk1, 35, Hd.cells hdZ), (gk4, 35, Hd.cells ⟨a.b, a.k, s'⟩), (gk12, 70, In.cells ⟨spZ, spZ, ⟨4, 1, (u + ((m : Nat) : Int) + 1 + ((r : Nat) : Int)), ⟨#[]⟩, 0, 0, 0, 0, 0⟩, (decide (1 < ((r2 : Nat) : Int)))⟩)]) := HF.out.set 1 rfl _
            generalize wk21.setRow gk4 (Hd.cells ⟨a.b, a.k, s'⟩) = wk22 at HF HH2 ⊢
            refine WL.nil ?_
            try simp only [pS]
            go_upto_region 8 with fail
            refine WL.start ?_
            refine tK (.int .i64 ((i : Nat) : Int)) ?_
            refine tW (.int .i64 (((i + 1) : Nat) : Int)) (eB .add 3 _ _ _ rfl (.int .i64 ((i : Nat) : Int)) (.int .i64 1) _ (b_addw _ _ _ (by rw [IntKind.wrap_i64]; omega) _)) ?_
            refine tK (.int .i64 (((i + 1) : Nat) : Int)) ?_
            try simp only [pS]
            refine WL.nil ?_
            try simp only [pS]
            have HF : Hid (Fr No w wk22 [(gk1, 35, Hd.cells hdZ), (gk4, 35, Hd.cells ⟨a.b, a.k, s'⟩)]) := (show Fr No w wk22 ([(gk1, 35, Hd.cells hdZ), (gk4, 35, Hd.cells ⟨a.b, a.k, s'⟩)] ++ [(gk12, 70, In.cells ⟨spZ, spZ, ⟨4, 1, (u + ((m : Nat) : Int) + 1 + ((r : Nat) : Int)), ⟨#[]⟩, 0, 0, 0, 0, 0⟩, (decide (1 < ((r2 : Nat) : Int)))⟩)]) from HF.out).front
            go_wp2
            go_roundw
            case rel => exact ⟨i + 1, _, ae, _, by go_num, by omega, HH2, HOf2, HI2, HF⟩
            case measure => simp [intOf]; omega
           ·skip
            try simp only [q3]
            refine tK (.bool false) ?_
            try simp only [pS]
            refine WL.nil ?_
            try simp only [pS]
            go_upto_region 8 with fail
            refine WL.start ?_
            refine tK (.int .i64 ((i : Nat) : Int)) ?_
            refine tW (.int .i64 (((i + 1) : Nat) : Int)) (eB .add 3 _ _ _ rfl (.int .i64 ((i : Nat) : Int)) (.int .i64 1) _ (b_addw _ _ _ (by rw [IntKind.wrap_i64]; omega) _)) ?_
            refine tK (.int .i64 (((i + 1) : Nat) : Int)) ?_
            try simp only [pS]
            refine WL.nil ?_
            try simp only [pS]
            have HH : Hid (HdAt wk20 a [] ae [] ap) := HHs.out.no HK0.out
            have HF : Hid (Fr No w wk20 [(gk1, 35, Hd.cells hdZ), (gk4, 35, Hd.cells a)]) := (show Fr No w wk20 ([(gk1, 35, Hd.cells hdZ), (gk4, 35, Hd.cells a)] ++ [(gk12, 70, In.cells ⟨spZ, spZ, ⟨4, 1, (u + ((m : Nat) : Int) + 1 + ((r : Nat) : Int)), ⟨#[]⟩, 0, 0, 0, 0, 0⟩, (decide (1 < ((r2 : Nat) : Int)))⟩)]) from HF.out).front
            go_wp2
            go_roundw
            case rel => exact ⟨i + 1, a, ae, ap, by go_num, by omega, HH, HOf, HI, HF⟩
            case measure => simp [intOf]; omega
        · skip
          go_upto_region 7 with fail
          refine WL.start ?_
          refine tK (.int .i64 ((i : Nat) : Int)) ?_
          refine tK (.slice oa on oc) ?_
          refine tK (.int .i64 ((on : Nat) : Int)) ?_
          refine tW (.bool false) (eB .lss 3 _ _ _ rfl (.int .i64 ((i : Nat) : Int)) (.int .i64 ((on : Nat) : Int)) _ (by rw [b_lss, decide_eq_false (by omega)])) ?_
          try simp only [pS]
          refine WL.nil ?_
          try simp only [pS]
          go_upto_region 16 with fail
          refine WL.start ?_
          refine tW (.agg (Hd.cells a)) (eL 35 _ rfl ⟨gk4, 0, none⟩ (run_load_part (cs := Hd.cs a) (sub := Hd.cs a) (HF.out.box 1 _ _ _ rfl) (Part.all _) Try.und35 rfl Try.size35)) ?_
          try simp only [pS]
          refine wp_storeW 35 _ _ rfl ⟨gk1, 0, none⟩ (.agg (Hd.cells a)) (by kernel_rfl) (by kernel_rfl) (wr.setRow gk1 (Hd.cells a)) (run_store_to (cur := Hd.cs hdZ) (vs := Hd.cs a) (new := Hd.cs a) (HF.out.box 0 _ _ _ rfl) (by kernel_rfl) Try.size35 (Nat.le_of_ble_eq_true (by kernel_rfl)) (Hd.oneL _) (by kernel_rfl)) (by kernel_rfl) ?_
          try simp only [pS]
          have HH : Hid (HdAt (wr.setRow gk1 (Hd.cells a)) a [] ae [] ap) := HH.out.keptG HOf.out (Kept.setRow _ _ _) (fun k e => .inr (.inl e))
          have HF : Hid (Fr No w _ [(gk1, 35, Hd.cells a), (gk4, 35, Hd.cells a)]) := HF.out.set 0 rfl _
          generalize wr.setRow gk1 (Hd.cells a) = wk23 at HF HH ⊢
          refine WL.nil ?_
          try simp only [pS]
          go_wp2
          rw [HC.out]
          refine bodyPost_ret (results_row1 (by rfl) _ _ gk1 (Hd.cells a) (by rfl) (run_load_part (cs := Hd.cs a) (sub := Hd.cs a) (HF.out.box 0 _ _ _ rfl) (Part.all _) Try.und35 rfl Try.size35)) rfl ?_
          exact ⟨a, ae, ap, rfl, HH.out, HI.out, HOf.out.mono (fun k h => .inr (.inr h)), HF.out.kept⟩

end Go.Proofs.Ytcgnbpaaalmkoaa
