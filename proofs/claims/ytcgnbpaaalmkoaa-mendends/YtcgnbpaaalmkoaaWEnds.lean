import Derived.Test.YtcgnbpaaalmkoaaGe
namespace Go.Proofs.Ytcgnbpaaalmkoaa
open Go.RowKit
set_option linter.unusedVariables false
set_option linter.unusedSimpArgs false

theorem b_quo64 (x : Int) (w : World) : (binOp .quo 3 (.int .i64 x) (.int .i64 64)).run Try.prog w = .ok (.int .i64 (IntKind.i64.wrap (x.tdiv 64))) w := by kernel_rfl
theorem HoI.wl {u : Int} {m : Nat} {a : Hd} {ae : List En} {ap : List Pl} (H : HoI u m a ae ap) (h1 : u ≤ 1000) (h2 : m ≤ 1000) : Wl a [] ae [] ap :=
  ⟨H.may, H.cm, by rw [H.up]; exact H.bk, .inl ⟨by rw [H.b]; rfl, rfl⟩, by rw [H.up]; omega, fun x hx => by have := H.hi x hx; omega⟩
theorem Wl.ops {a : Hd} {ab : List Int} {ae : List En} {al : List La} {ap : List Pl} (H : Wl a ab ae al ap) : OpsOk a.k.up ap := fun x hx =>
  ⟨fun e => by rw [H.cm x hx e]; rfl, rise_low ap _ _ H.may.rise (Int.le_refl _) x hx⟩
theorem quo64 (d : Int) (h0 : 0 ≤ d) (h1 : d ≤ 1048576) : IntKind.i64.wrap (d.tdiv 64) = d / 64 := by
  rw [Int.tdiv_eq_ediv_of_nonneg h0, IntKind.wrap_i64]; omega
theorem RowE.few {kk e0 : Int} {a0 a b : Hd} {ap0 ap bp : List Pl} {t : Nat} (h : RowE kk e0 a0 a b ap0 ap bp t) (d : Int) (h0 : 0 ≤ d) (h1 : topF b.k.up (decd bp) - e0 ≤ d) : ((t : Nat) : Int) ≤ 2 + d / 64 := by
  rcases h.tt with e | e
  · omega
  · omega
set_option maxRecDepth 100000 in
set_option maxHeartbeats 4000000 in
theorem endsWalk (ua ka ub kb : Int) (oa ob : Option Addr) (on oc pn pc : Nat) (os qs : List Int) (w : World) (hos : Nums .i64 w oa os) (hol : os.length = on) (hon : on ≤ 100000000000000) (hqs : Nums .i64 w ob qs) (hql : qs.length = pn) (hpn : pn ≤ 100000000000000) : Calls Try.prog 7 #[.int .i64 ua, .int .i64 ka, .slice oa on oc, .int .i64 ub, .int .i64 kb, .slice ob pn pc] w (fun e w' => e = .returned (.bool true) ∧ Kept No w w') := by
  obtain ⟨C, hC⟩ : ∃ C : Ending → World → Prop, C = (fun e w' => e = .returned (.bool true) ∧ Kept No w w') := ⟨_, rfl⟩
  have HC : Hid (C = (fun e w' => e = .returned (.bool true) ∧ Kept No w w')) := hC
  rw [← hC]
  clear hC
  have HO : Hid (Nums .i64 w oa os) := hos
  have HP : Hid (Nums .i64 w ob qs) := hqs
  clear hos hqs
  have HF : Hid (Fr No w w []) := Fr.start _ _
  go_enter Try.func7, Try.ntmps7
  go_upto_region 0 with fail
  refine WL.start ?_
  refine tK (.bool false) ?_
  try simp only [pA, pB, p1, p2, p3]
  refine WL.nil ?_
  try simp only [pA, pB, p1, p2, p3]
  go_upto_region 1 with fail
  refine WL.start ?_
  refine wp_callW 9 #[] (by kernel_rfl) _ (known_any _) (by kernel_rfl) ?_
  rintro e wk1 ⟨rfl, hk⟩
  have HF : Hid (Fr No w (wk1) []) := HF.out.no hk
  clear hk
  refine ⟨.bool true, rfl, ?_⟩
  try simp only [pA, pB, p1, p2, p3]
  refine tK (.bool false) ?_
  try simp only [pA, pB, p1, p2, p3]
  refine WL.nil ?_
  try simp only [pA, pB, p1, p2, p3]
  go_upto_region 3 with fail
  refine WL.start ?_
  refine tK (.int .i64 ua) ?_
  try simp only [pA, pB, p1, p2, p3]
  refine wp_callW 26 #[.int .i64 ua, .int .i64 300] (by kernel_rfl) _ (rnd_any ua 300 _ (by omega) (by omega)) (by kernel_rfl) ?_
  rintro e wq ⟨r1, hr1, rfl, hwq⟩
  rw [hwq]
  clear hwq wq
  refine ⟨.int .i64 ((r1 : Nat) : Int), rfl, ?_⟩
  try simp only [pA, pB, p1, p2, p3]
  refine tK (.int .i64 ka) ?_
  try simp only [pA, pB, p1, p2, p3]
  refine wp_callW 26 #[.int .i64 ka, .int .i64 200] (by kernel_rfl) _ (rnd_any ka 200 _ (by omega) (by omega)) (by kernel_rfl) ?_
  rintro e wq ⟨r2, hr2, rfl, hwq⟩
  rw [hwq]
  clear hwq wq
  refine ⟨.int .i64 ((r2 : Nat) : Int), rfl, ?_⟩
  try simp only [pA, pB, p1, p2, p3]
  refine tK (.slice oa on oc) ?_
  try simp only [pA, pB, p1, p2, p3]
  refine wp_callW 25 #[.int .i64 ((r1 : Nat) : Int), .int .i64 ((r2 : Nat) : Int), .slice oa on oc] (by kernel_rfl) _ (holds_any ((r1 : Nat) : Int) r2 oa on oc os _ (by omega) (by omega) (by omega) (HO.out.no HF.out.kept) hol hon) (by kernel_rfl) ?_
  rintro e wk2 ⟨a, ae, ap, rfl, hh, hi, hk⟩
  have HF : Hid (Fr No w (wk2) []) := HF.out.no hk
  have HN : Hid (HdAt wk2 a [] ae [] ap) := hh
  have HWa : Hid (Wl a [] ae [] ap) := hi.wl (by omega) (by omega)
  clear hh hi hk
  have HS : Hid (Kept No wk2 wk2) := Kept.refl _ _
  obtain ⟨s6, hs6⟩ : ∃ n, wk2.heap.size = n := ⟨_, rfl⟩
  have HS6 : Hid (wk2.heap.size = s6) := hs6
  clear hs6
  refine ⟨.agg (Hd.cells a), rfl, ?_⟩
  try simp only [pA, pB, p1, p2, p3]
  refine wp_runW (.pointer (some ⟨wk2.heap.size, 0, none⟩)) (wk2.alloc (.cells (Hd.cells hdZ) 35)) (exec_alloc 35 rfl (Hd.cells hdZ) zero35) (by kernel_rfl) ?_
  try simp only [pA, pB, p1, p2, p3]
  have hg7 : s6 ≤ wk2.heap.size := by rw [← HS6.out]; exact HS.out.size
  have HS : Hid (Kept No wk2 (wk2.alloc (.cells (Hd.cells hdZ) 35))) := HS.out.no ((Kept.refl No _).alloc _)
  have HF : Hid (Fr No w (wk2.alloc (.cells (Hd.cells hdZ) 35)) [(wk2.heap.size, 35, Hd.cells hdZ)]) := HF.out.alloc _ _
  generalize wk2.alloc (.cells (Hd.cells hdZ) 35) = wk4 at HF HS ⊢
  generalize wk2.heap.size = gk3 at HF hg7 ⊢
  refine wp_storeW 35 _ _ rfl ⟨gk3, 0, none⟩ (.agg (Hd.cells a)) (by kernel_rfl) (by kernel_rfl) (wk4.setRow gk3 (Hd.cells a)) (run_store_to (cur := Hd.cs hdZ) (vs := Hd.cs a) (new := Hd.cs a) (HF.out.box 0 _ _ _ rfl) (by kernel_rfl) Try.size35 (Nat.le_of_ble_eq_true (by kernel_rfl)) (Hd.oneL _) (by kernel_rfl)) (by kernel_rfl) ?_
  try simp only [pA, pB, p1, p2, p3]
  have HS : Hid (Kept No wk2 (wk4.setRow gk3 (Hd.cells a))) := HS.out.newRow (by rw [HS6.out]; exact hg7) _
  have HF : Hid (Fr No w (wk4.setRow gk3 (Hd.cells a)) [(gk3, 35, Hd.cells a)]) := HF.out.set 0 rfl _
  generalize wk4.setRow gk3 (Hd.cells a) = wk5 at HF HS ⊢
  refine WL.nil ?_
  try simp only [pA, pB, p1, p2, p3]
  have HHa : Hid (HdAt wk5 a [] ae [] ap) := HN.out.no HS.out
  clear HN HS HS6 hg7
  have HHas : Hid (HdAt wk5 a [] ae [] ap) := HHa
  clear HHa
  have HK0 : Hid (Kept No wk5 wk5) := Kept.refl _ _
  obtain ⟨s0, hs0⟩ : ∃ n, wk5.heap.size = n := ⟨_, rfl⟩
  have HS0 : Hid (wk5.heap.size = s0) := hs0
  clear hs0
  go_upto_region 4 with fail
  refine WL.start ?_
  refine tK (.int .i64 ub) ?_
  try simp only [pA, pB, p1, p2, p3]
  refine wp_callW 26 #[.int .i64 ub, .int .i64 300] (by kernel_rfl) _ (rnd_any ub 300 _ (by omega) (by omega)) (by kernel_rfl) ?_
  rintro e wq ⟨r3, hr3, rfl, hwq⟩
  rw [hwq]
  clear hwq wq
  refine ⟨.int .i64 ((r3 : Nat) : Int), rfl, ?_⟩
  try simp only [pA, pB, p1, p2, p3]
  refine tK (.int .i64 kb) ?_
  try simp only [pA, pB, p1, p2, p3]
  refine wp_callW 26 #[.int .i64 kb, .int .i64 200] (by kernel_rfl) _ (rnd_any kb 200 _ (by omega) (by omega)) (by kernel_rfl) ?_
  rintro e wq ⟨r4, hr4, rfl, hwq⟩
  rw [hwq]
  clear hwq wq
  refine ⟨.int .i64 ((r4 : Nat) : Int), rfl, ?_⟩
  try simp only [pA, pB, p1, p2, p3]
  refine tK (.slice ob pn pc) ?_
  try simp only [pA, pB, p1, p2, p3]
  refine wp_callW 25 #[.int .i64 ((r3 : Nat) : Int), .int .i64 ((r4 : Nat) : Int), .slice ob pn pc] (by kernel_rfl) _ (holds_any ((r3 : Nat) : Int) r4 ob pn pc qs _ (by omega) (by omega) (by omega) (HP.out.no HF.out.kept) hql hpn) (by kernel_rfl) ?_
  rintro e wk6 ⟨b, be, bp, rfl, hh, hi, hk⟩
  have HK0 : Hid (Kept No wk5 (wk6)) := HK0.out.no hk
  have HF : Hid (Fr No w (wk6) [(gk3, 35, Hd.cells a)]) := HF.out.no hk
  have HN : Hid (HdAt wk6 b [] be [] bp) := hh
  have HWb : Hid (Wl b [] be [] bp) := hi.wl (by omega) (by omega)
  clear hh hi hk
  have HS : Hid (Kept No wk6 wk6) := Kept.refl _ _
  obtain ⟨s6, hs6⟩ : ∃ n, wk6.heap.size = n := ⟨_, rfl⟩
  have HS6 : Hid (wk6.heap.size = s6) := hs6
  clear hs6
  refine ⟨.agg (Hd.cells b), rfl, ?_⟩
  try simp only [pA, pB, p1, p2, p3]
  refine wp_runW (.pointer (some ⟨wk6.heap.size, 0, none⟩)) (wk6.alloc (.cells (Hd.cells hdZ) 35)) (exec_alloc 35 rfl (Hd.cells hdZ) zero35) (by kernel_rfl) ?_
  try simp only [pA, pB, p1, p2, p3]
  have hg7 : s6 ≤ wk6.heap.size := by rw [← HS6.out]; exact HS.out.size
  have hgs : s0 ≤ wk6.heap.size := by rw [← HS0.out]; exact HK0.out.size
  have HK0 : Hid (Kept No wk5 (wk6.alloc (.cells (Hd.cells hdZ) 35))) := HK0.out.no ((Kept.refl No _).alloc _)
  have HS : Hid (Kept No wk6 (wk6.alloc (.cells (Hd.cells hdZ) 35))) := HS.out.no ((Kept.refl No _).alloc _)
  have HF : Hid (Fr No w (wk6.alloc (.cells (Hd.cells hdZ) 35)) [(gk3, 35, Hd.cells a), (wk6.heap.size, 35, Hd.cells hdZ)]) := HF.out.alloc _ _
  generalize wk6.alloc (.cells (Hd.cells hdZ) 35) = wk8 at HF HK0 HS ⊢
  generalize wk6.heap.size = gk7 at HF hg7 hgs ⊢
  refine wp_storeW 35 _ _ rfl ⟨gk7, 0, none⟩ (.agg (Hd.cells b)) (by kernel_rfl) (by kernel_rfl) (wk8.setRow gk7 (Hd.cells b)) (run_store_to (cur := Hd.cs hdZ) (vs := Hd.cs b) (new := Hd.cs b) (HF.out.box 1 _ _ _ rfl) (by kernel_rfl) Try.size35 (Nat.le_of_ble_eq_true (by kernel_rfl)) (Hd.oneL _) (by kernel_rfl)) (by kernel_rfl) ?_
  try simp only [pA, pB, p1, p2, p3]
  have HK0 : Hid (Kept No wk5 (wk8.setRow gk7 (Hd.cells b))) := HK0.out.newRow (by rw [HS0.out]; exact hgs) _
  have HS : Hid (Kept No wk6 (wk8.setRow gk7 (Hd.cells b))) := HS.out.newRow (by rw [HS6.out]; exact hg7) _
  have HF : Hid (Fr No w (wk8.setRow gk7 (Hd.cells b)) [(gk3, 35, Hd.cells a), (gk7, 35, Hd.cells b)]) := HF.out.set 1 rfl _
  generalize wk8.setRow gk7 (Hd.cells b) = wk9 at HF HK0 HS ⊢
  refine WL.nil ?_
  try simp only [pA, pB, p1, p2, p3]
  have HHa : Hid (HdAt wk9 a [] ae [] ap) := HHas.out.no HK0.out
  have HHb : Hid (HdAt wk9 b [] be [] bp) := HN.out.no HS.out
  clear HN HS HS6 hg7 HK0 HS0 hgs HHas
  have hEa := HWa.out.may.edge_le
  have hTb := HWb.out.may.top
  go_upto_region 5 with fail
  refine wp_region_held_drew (S := fun w' => Fr No w w' [(gk3, 35, Hd.cells a), (gk7, 35, Hd.cells b)]) rfl (HF.out.drew) (fun hH => ?_)
  have HHa : Hid (HdAt (wk9.drew) a [] ae [] ap) := HHa.out.no (Kept.refl No _).drew
  have HHb : Hid (HdAt (wk9.drew) b [] be [] bp) := HHb.out.no (Kept.refl No _).drew
  have HF : Hid (Fr No w (wk9.drew) [(gk3, 35, Hd.cells a), (gk7, 35, Hd.cells b)]) := HF.out.drew
  generalize wk9.drew = wk10 at HF HHa HHb hH ⊢
  refine aT (i := 0) (oi := { dst := some 34, op := Op.load 35 (Operand.tmp 14), type := 35, pos := "outright.go:106", after := #[], guard := none }) (v := .agg (Hd.cells b)) (fun w' hw => exec_load 35 _ rfl ⟨gk7, 0, none⟩ (by kernel_rfl) (.agg (Hd.cells b)) (run_load_part (cs := Hd.cs b) (sub := Hd.cs b) (hw.box 1 _ _ _ rfl) (Part.all _) Try.und35 rfl Try.size35)) hH ?_
  try simp only [pA, pB, p1, p2, p3]
  refine aT (i := 2) (oi := { dst := some 36, op := Op.load 35 (Operand.tmp 13), type := 35, pos := "outright.go:106", after := #[], guard := none }) (v := .agg (Hd.cells a)) (fun w' hw => exec_load 35 _ rfl ⟨gk3, 0, none⟩ (by kernel_rfl) (.agg (Hd.cells a)) (run_load_part (cs := Hd.cs a) (sub := Hd.cs a) (hw.box 0 _ _ _ rfl) (Part.all _) Try.und35 rfl Try.size35)) hH ?_
  try simp only [pA, pB, p1, p2, p3]
  refine any_call (i := 1) (o := { dst := some 35, op := Op.call { callee := Callee.value (Operand.func 27), args := #[Operand.tmp 34], argTypes := #[35] }, type := 3, pos := "outright.go:106", after := #[{ on := 0, ground := Ground.data }], guard := none }) rfl (by kernel_rfl) (by kernel_rfl) 27 #[.agg (Hd.cells b)] (by kernel_rfl) _ (refTop_any b bp _ HHb.out.p (by have := HWb.out.may.len; omega)) ?_
  rintro e wk11 ⟨rfl, hk⟩
  have hH2 : Fr No w wk11 [(gk3, 35, Hd.cells a), (gk7, 35, Hd.cells b)] := hH.no hk
  have HHa : Hid (HdAt (wk11) a [] ae [] ap) := HHa.out.no hk
  have HHb : Hid (HdAt (wk11) b [] be [] bp) := HHb.out.no hk
  have HF : Hid (Fr No w (wk11) [(gk3, 35, Hd.cells a), (gk7, 35, Hd.cells b)]) := HF.out.no hk
  clear hk
  refine ⟨.int .i64 (topF b.k.up (decd bp)), rfl, hH2, fun hH => ?_⟩
  clear hH2
  try simp only [pA, pB, p1, p2, p3]
  refine any_call (i := 3) (o := { dst := some 37, op := Op.call { callee := Callee.value (Operand.func 28), args := #[Operand.tmp 36], argTypes := #[35] }, type := 3, pos := "outright.go:106", after := #[{ on := 2, ground := Ground.data }, { on := 1, ground := Ground.chain }], guard := none }) rfl (by kernel_rfl) (by kernel_rfl) 28 #[.agg (Hd.cells a)] (by kernel_rfl) _ (edgeL_any a ap _ HHa.out.p HWa.out.may.len HWa.out.may.1) ?_
  rintro e wk12 ⟨n2, rfl, ⟨h2a, h2d⟩, h2b, h2c, hk⟩
  have e2 := edL_eq HWa.out.may HHa.out.p.len h2a h2b h2c
  rw [e2]
  clear h2a h2b h2c h2d e2 n2
  have hH2 : Fr No w wk12 [(gk3, 35, Hd.cells a), (gk7, 35, Hd.cells b)] := hH.no hk
  have HHa : Hid (HdAt (wk12) a [] ae [] ap) := HHa.out.no hk
  have HHb : Hid (HdAt (wk12) b [] be [] bp) := HHb.out.no hk
  have HF : Hid (Fr No w (wk12) [(gk3, 35, Hd.cells a), (gk7, 35, Hd.cells b)]) := HF.out.no hk
  clear hk
  refine ⟨.int .i64 (edgeF a.k.up (decd ap)), rfl, hH2, fun hH => ?_⟩
  clear hH2
  try simp only [pA, pB, p1, p2, p3]
  refine aT (i := 4) (oi := { dst := some 38, op := Op.binOp BinOp.sub 3 (Operand.tmp 35) (Operand.tmp 37) 3, type := 3, pos := "outright.go:106", after := #[{ on := 1, ground := Ground.data }, { on := 3, ground := Ground.data }], guard := none }) (v := .int .i64 (topF b.k.up (decd bp) - edgeF a.k.up (decd ap))) (fun w' hw => exec_bin .sub 3 _ _ _ rfl (.int .i64 (topF b.k.up (decd bp))) (.int .i64 (edgeF a.k.up (decd ap))) (.int .i64 (topF b.k.up (decd bp) - edgeF a.k.up (decd ap))) (by kernel_rfl) (by kernel_rfl) (by kernel_rfl) (b_subw _ _ _ (by rw [IntKind.wrap_i64]; omega) _)) hH ?_
  try simp only [pA, pB, p1, p2, p3]
  refine aT (i := 5) (oi := { dst := some 15, op := Op.assign (Operand.tmp 38), type := 3, pos := "outright.go:106", after := #[{ on := 4, ground := Ground.data }, { on := 3, ground := Ground.chain }, { on := 0, ground := Ground.phase }, { on := 1, ground := Ground.phase }, { on := 2, ground := Ground.phase }, { on := 3, ground := Ground.phase }, { on := 4, ground := Ground.phase }], guard := none }) (v := .int .i64 (topF b.k.up (decd bp) - edgeF a.k.up (decd ap))) (fun _ _ => by kernel_rfl) hH ?_
  try simp only [pA, pB, p1, p2, p3]
  refine wpAnyH_done (by kernel_rfl) ?_ _
  try simp only [pA, pB, p1, p2, p3]
  clear hH
  go_upto_region 6 with fail
  refine WL.start ?_
  refine tK (.int .i64 (topF b.k.up (decd bp) - edgeF a.k.up (decd ap))) ?_
  try simp only [pA, pB, p1, p2, p3]
  cases q1 : (decide ((topF b.k.up (decd bp) - edgeF a.k.up (decd ap)) < 0))
  ·skip
   refine tW (.bool false) (exec_bin .lss 3 _ _ _ rfl (.int .i64 (topF b.k.up (decd bp) - edgeF a.k.up (decd ap))) (.int .i64 0) (.bool false) (by kernel_rfl) (by kernel_rfl) (by kernel_rfl) (by rw [b_lss, q1]; try rfl)) ?_
   try simp only [pA, pB, p1, p2, p3]
   refine WL.nil ?_
   try simp only [pA, pB, p1, p2, p3]
   have hD0 : ¬ (topF b.k.up (decd bp) - edgeF a.k.up (decd ap)) < 0 := of_decide_eq_false q1
   have HHas : Hid (HdAt wk12 a [] ae [] ap) := HHa
   clear HHa
   have HHbs : Hid (HdAt wk12 b [] be [] bp) := HHb
   clear HHb
   have HK0 : Hid (Kept No wk12 wk12) := Kept.refl _ _
   obtain ⟨s0, hs0⟩ : ∃ n, wk12.heap.size = n := ⟨_, rfl⟩
   have HS0 : Hid (wk12.heap.size = s0) := hs0
   clear hs0
   go_upto_region 8 with fail
   refine WL.start ?_
   refine tW (.agg (Ky.cells ⟨2, 0, 0, 0⟩)) (exec_build 23 _ rfl (Ky.cells ⟨2, 0, 0, 0⟩) (by kernel_rfl)) ?_
   try simp only [pA, pB, p1, p2, p3]
   refine tW (.agg (Hd.cells a)) (exec_load 35 _ rfl ⟨gk3, 0, none⟩ (by kernel_rfl) (.agg (Hd.cells a)) (run_load_part (cs := Hd.cs a) (sub := Hd.cs a) (HF.out.box 0 _ _ _ rfl) (Part.all _) Try.und35 rfl Try.size35)) ?_
   try simp only [pA, pB, p1, p2, p3]
   refine tW (.agg (Hd.cells b)) (exec_load 35 _ rfl ⟨gk7, 0, none⟩ (by kernel_rfl) (.agg (Hd.cells b)) (run_load_part (cs := Hd.cs b) (sub := Hd.cs b) (HF.out.box 1 _ _ _ rfl) (Part.all _) Try.und35 rfl Try.size35)) ?_
   try simp only [pA, pB, p1, p2, p3]
   refine wp_callW 29 #[.agg (Ky.cells ⟨2, 0, 0, 0⟩), .int .i64 7, .int .i64 9, .agg (Hd.cells a), .agg (Hd.cells b)] (by kernel_rfl) _ (row_any (⟨2, 0, 0, 0⟩ : Ky) 7 9 a b [] ae [] ap [] be [] bp _ (HHas.out.no HK0.out) (HHbs.out.no HK0.out) HWa.out HWb.out (.inr rfl)) (by kernel_rfl) ?_
   rintro e wk13 ⟨c, cb, ce, cl, cp, t, rfl, hh, hw, hE, hk⟩
   have HK0 : Hid (Kept No wk12 (wk13)) := HK0.out.no hk
   have HF : Hid (Fr No w (wk13) [(gk3, 35, Hd.cells a), (gk7, 35, Hd.cells b)]) := HF.out.no hk
   have HN : Hid (HdAt wk13 c cb ce cl cp) := hh
   have HWc : Hid (Wl c cb ce cl cp) := hw
   have HE : Hid (RowE 2 (edgeF a.k.up (decd ap)) a c b ap cp bp t) := hE
   clear hh hw hE hk
   have HS : Hid (Kept No wk13 wk13) := Kept.refl _ _
   obtain ⟨s6, hs6⟩ : ∃ n, wk13.heap.size = n := ⟨_, rfl⟩
   have HS6 : Hid (wk13.heap.size = s6) := hs6
   clear hs6
   refine ⟨.tuple #[.agg (Hd.cells c), .int .i64 ((t : Nat) : Int), .bool true], rfl, ?_⟩
   try simp only [pA, pB, p1, p2, p3]
   refine tK (.tuple #[.agg (Hd.cells c), .int .i64 ((t : Nat) : Int), .bool true]) ?_
   try simp only [pA, pB, p1, p2, p3]
   refine tK (.agg (Hd.cells c)) ?_
   try simp only [pA, pB, p1, p2, p3]
   refine tK (.int .i64 ((t : Nat) : Int)) ?_
   try simp only [pA, pB, p1, p2, p3]
   refine tK (.bool true) ?_
   try simp only [pA, pB, p1, p2, p3]
   refine wp_runW (.pointer (some ⟨wk13.heap.size, 0, none⟩)) (wk13.alloc (.cells (Hd.cells hdZ) 35)) (exec_alloc 35 rfl (Hd.cells hdZ) zero35) (by kernel_rfl) ?_
   try simp only [pA, pB, p1, p2, p3]
   have hg7 : s6 ≤ wk13.heap.size := by rw [← HS6.out]; exact HS.out.size
   have hgs : s0 ≤ wk13.heap.size := by rw [← HS0.out]; exact HK0.out.size
   have HK0 : Hid (Kept No wk12 (wk13.alloc (.cells (Hd.cells hdZ) 35))) := HK0.out.no ((Kept.refl No _).alloc _)
   have HS : Hid (Kept No wk13 (wk13.alloc (.cells (Hd.cells hdZ) 35))) := HS.out.no ((Kept.refl No _).alloc _)
   have HF : Hid (Fr No w (wk13.alloc (.cells (Hd.cells hdZ) 35)) [(gk3, 35, Hd.cells a), (gk7, 35, Hd.cells b), (wk13.heap.size, 35, Hd.cells hdZ)]) := HF.out.alloc _ _
   generalize wk13.alloc (.cells (Hd.cells hdZ) 35) = wk15 at HF HK0 HS ⊢
   generalize wk13.heap.size = gk14 at HF hg7 hgs ⊢
   refine wp_storeW 35 _ _ rfl ⟨gk14, 0, none⟩ (.agg (Hd.cells c)) (by kernel_rfl) (by kernel_rfl) (wk15.setRow gk14 (Hd.cells c)) (run_store_to (cur := Hd.cs hdZ) (vs := Hd.cs c) (new := Hd.cs c) (HF.out.box 2 _ _ _ rfl) (by kernel_rfl) Try.size35 (Nat.le_of_ble_eq_true (by kernel_rfl)) (Hd.oneL _) (by kernel_rfl)) (by kernel_rfl) ?_
   try simp only [pA, pB, p1, p2, p3]
   have HK0 : Hid (Kept No wk12 (wk15.setRow gk14 (Hd.cells c))) := HK0.out.newRow (by rw [HS0.out]; exact hgs) _
   have HS : Hid (Kept No wk13 (wk15.setRow gk14 (Hd.cells c))) := HS.out.newRow (by rw [HS6.out]; exact hg7) _
   have HF : Hid (Fr No w (wk15.setRow gk14 (Hd.cells c)) [(gk3, 35, Hd.cells a), (gk7, 35, Hd.cells b), (gk14, 35, Hd.cells c)]) := HF.out.set 2 rfl _
   generalize wk15.setRow gk14 (Hd.cells c) = wk16 at HF HK0 HS ⊢
   refine tK (.int .i64 ((t : Nat) : Int)) ?_
   try simp only [pA, pB, p1, p2, p3]
   refine tK (.bool true) ?_
   try simp only [pA, pB, p1, p2, p3]
   refine WL.nil ?_
   try simp only [pA, pB, p1, p2, p3]
   have HHa : Hid (HdAt wk16 a [] ae [] ap) := HHas.out.no HK0.out
   have HHb : Hid (HdAt wk16 b [] be [] bp) := HHbs.out.no HK0.out
   have HHc : Hid (HdAt wk16 c cb ce cl cp) := HN.out.no HS.out
   clear HN HS HS6 hg7 HK0 HS0 hgs HHas HHbs
   go_upto_region 9 with fail
   refine WL.start ?_
   refine tK (.bool true) ?_
   try simp only [pA, pB, p1, p2, p3]
   refine tK (.bool false) ?_
   try simp only [pA, pB, p1, p2, p3]
   refine tK (.bool false) ?_
   try simp only [pA, pB, p1, p2, p3]
   refine tK (.int .i64 ((t : Nat) : Int)) ?_
   try simp only [pA, pB, p1, p2, p3]
   refine tK (.int .i64 (topF b.k.up (decd bp) - edgeF a.k.up (decd ap))) ?_
   try simp only [pA, pB, p1, p2, p3]
   refine tW (.int .i64 ((topF b.k.up (decd bp) - edgeF a.k.up (decd ap)) / 64)) (exec_bin .quo 3 _ _ _ rfl (.int .i64 (topF b.k.up (decd bp) - edgeF a.k.up (decd ap))) (.int .i64 64) (.int .i64 ((topF b.k.up (decd bp) - edgeF a.k.up (decd ap)) / 64)) (by kernel_rfl) (by kernel_rfl) (by kernel_rfl) (by rw [b_quo64, quo64 _ (by omega) (by omega)])) ?_
   try simp only [pA, pB, p1, p2, p3]
   refine tW (.int .i64 (2 + ((topF b.k.up (decd bp) - edgeF a.k.up (decd ap)) / 64))) (exec_bin .add 3 _ _ _ rfl (.int .i64 2) (.int .i64 ((topF b.k.up (decd bp) - edgeF a.k.up (decd ap)) / 64)) (.int .i64 (2 + ((topF b.k.up (decd bp) - edgeF a.k.up (decd ap)) / 64))) (by kernel_rfl) (by kernel_rfl) (by kernel_rfl) (b_addw _ _ _ (by rw [IntKind.wrap_i64]; omega) _)) ?_
   try simp only [pA, pB, p1, p2, p3]
   refine tW (.bool false) (exec_bin .gtr 3 _ _ _ rfl (.int .i64 ((t : Nat) : Int)) (.int .i64 (2 + ((topF b.k.up (decd bp) - edgeF a.k.up (decd ap)) / 64))) (.bool false) (by kernel_rfl) (by kernel_rfl) (by kernel_rfl) (by rw [b_gtr, decide_eq_false (by have := HE.out.few (topF b.k.up (decd bp) - edgeF a.k.up (decd ap)) (by omega) (by omega); omega)])) ?_
   try simp only [pA, pB, p1, p2, p3]
   refine tK (.bool false) ?_
   try simp only [pA, pB, p1, p2, p3]
   refine WL.nil ?_
   try simp only [pA, pB, p1, p2, p3]
   go_upto_region 11 with fail
   refine WL.start ?_
   refine tK (.int .i64 1) ?_
   try simp only [pA, pB, p1, p2, p3]
   refine WL.nil ?_
   try simp only [pA, pB, p1, p2, p3]
   go_wp2
   go_loopw [19] (fun v19 wr => ∃ (i : Nat), v19 = .int .i64 ((i : Nat) : Int) ∧ i ≤ 540 ∧ Hid (HdAt wr a [] ae [] ap) ∧ Hid (HdAt wr b [] be [] bp) ∧ Hid (HdAt wr c cb ce cl cp) ∧ Hid (Fr No w wr [(gk3, 35, Hd.cells a), (gk7, 35, Hd.cells b), (gk14, 35, Hd.cells c)])) (fun i _ => 540 - (intOf i).toNat)
   case atStart => exact ⟨1, by go_num, by omega, HHa, HHb, HHc, HF⟩
   case round =>
     clear HF HHa HHb HHc
     obtain ⟨i, rfl, hi, HHa, HHb, HHc, HF⟩ := hrel
     by_cases hlt : i < 540
     · skip
       go_upto_region 12 with fail
       refine WL.start ?_
       refine tK (.int .i64 ((i : Nat) : Int)) ?_
       try simp only [pA, pB, p1, p2, p3]
       refine tW (.bool true) (exec_bin .lss 3 _ _ _ rfl (.int .i64 ((i : Nat) : Int)) (.int .i64 540) (.bool true) (by kernel_rfl) (by kernel_rfl) (by kernel_rfl) (by rw [b_lss, decide_eq_true (by omega)])) ?_
       try simp only [pA, pB, p1, p2, p3]
       refine WL.nil ?_
       try simp only [pA, pB, p1, p2, p3]
       go_upto_region 14 with fail
       refine WL.start ?_
       refine tW (.agg (Hd.cells a)) (exec_load 35 _ rfl ⟨gk3, 0, none⟩ (by kernel_rfl) (.agg (Hd.cells a)) (run_load_part (cs := Hd.cs a) (sub := Hd.cs a) (HF.out.box 0 _ _ _ rfl) (Part.all _) Try.und35 rfl Try.size35)) ?_
       try simp only [pA, pB, p1, p2, p3]
       refine tK (.int .i64 ((i : Nat) : Int)) ?_
       try simp only [pA, pB, p1, p2, p3]
       refine wp_callW 30 #[.agg (Hd.cells a), .int .i64 ((i : Nat) : Int)] (by kernel_rfl) _ (knows_any a ap ((i : Nat) : Int) _ HHa.out.p (by have := HWa.out.may.len; omega)) (by kernel_rfl) ?_
       rintro e wk17 ⟨rfl, hk⟩
       have HHa : Hid (HdAt (wk17) a [] ae [] ap) := HHa.out.no hk
       have HHb : Hid (HdAt (wk17) b [] be [] bp) := HHb.out.no hk
       have HHc : Hid (HdAt (wk17) c cb ce cl cp) := HHc.out.no hk
       have HF : Hid (Fr No w (wk17) [(gk3, 35, Hd.cells a), (gk7, 35, Hd.cells b), (gk14, 35, Hd.cells c)]) := HF.out.no hk
       clear hk
       refine ⟨.bool (knowB a ap ((i : Nat) : Int)), rfl, ?_⟩
       try simp only [pA, pB, p1, p2, p3]
       refine tK (.bool (knowB a ap ((i : Nat) : Int))) ?_
       try simp only [pA, pB, p1, p2, p3]
       cases q2 : ((knowB a ap ((i : Nat) : Int)))
       ·skip
        try simp only [q2]
        refine tW (.agg (Hd.cells b)) (exec_load 35 _ rfl ⟨gk7, 0, none⟩ (by kernel_rfl) (.agg (Hd.cells b)) (run_load_part (cs := Hd.cs b) (sub := Hd.cs b) (HF.out.box 1 _ _ _ rfl) (Part.all _) Try.und35 rfl Try.size35)) ?_
        try simp only [pA, pB, p1, p2, p3]
        refine tK (.int .i64 ((i : Nat) : Int)) ?_
        try simp only [pA, pB, p1, p2, p3]
        refine wp_callW 30 #[.agg (Hd.cells b), .int .i64 ((i : Nat) : Int)] (by kernel_rfl) _ (knows_any b bp ((i : Nat) : Int) _ HHb.out.p (by have := HWb.out.may.len; omega)) (by kernel_rfl) ?_
        rintro e wk18 ⟨rfl, hk⟩
        have HHa : Hid (HdAt (wk18) a [] ae [] ap) := HHa.out.no hk
        have HHb : Hid (HdAt (wk18) b [] be [] bp) := HHb.out.no hk
        have HHc : Hid (HdAt (wk18) c cb ce cl cp) := HHc.out.no hk
        have HF : Hid (Fr No w (wk18) [(gk3, 35, Hd.cells a), (gk7, 35, Hd.cells b), (gk14, 35, Hd.cells c)]) := HF.out.no hk
        clear hk
        refine ⟨.bool (knowB b bp ((i : Nat) : Int)), rfl, ?_⟩
        try simp only [pA, pB, p1, p2, p3]
        refine tK (.bool (knowB b bp ((i : Nat) : Int))) ?_
        try simp only [pA, pB, p1, p2, p3]
        refine tK (.bool (knowB b bp ((i : Nat) : Int))) ?_
        try simp only [pA, pB, p1, p2, p3]
        cases q3 : ((knowB b bp ((i : Nat) : Int)))
        ·skip
         try simp only [q3]
         refine sK ?_
         try simp only [pA, pB, p1, p2, p3]
         refine sK ?_
         try simp only [pA, pB, p1, p2, p3]
         refine sK ?_
         try simp only [pA, pB, p1, p2, p3]
         refine sK ?_
         try simp only [pA, pB, p1, p2, p3]
         refine tK (.bool false) ?_
         try simp only [pA, pB, p1, p2, p3]
         refine WL.nil ?_
         try simp only [pA, pB, p1, p2, p3]
         go_upto_region 13 with fail
         refine WL.start ?_
         refine tK (.int .i64 ((i : Nat) : Int)) ?_
         try simp only [pA, pB, p1, p2, p3]
         refine tW (.int .i64 (((i + 1) : Nat) : Int)) (exec_bin .add 3 _ _ _ rfl (.int .i64 ((i : Nat) : Int)) (.int .i64 1) (.int .i64 (((i + 1) : Nat) : Int)) (by kernel_rfl) (by kernel_rfl) (by kernel_rfl) (b_addw _ _ _ (by rw [IntKind.wrap_i64]; omega) _)) ?_
         try simp only [pA, pB, p1, p2, p3]
         refine tK (.int .i64 (((i + 1) : Nat) : Int)) ?_
         try simp only [pA, pB, p1, p2, p3]
         refine WL.nil ?_
         try simp only [pA, pB, p1, p2, p3]
         go_wp2
         go_roundw
         case rel => exact ⟨i + 1, by go_num, by omega, HHa, HHb, HHc, HF⟩
         case measure => simp [intOf]; omega
        ·skip
         try simp only [q3]
         refine tW (.agg (Hd.cells c)) (exec_load 35 _ rfl ⟨gk14, 0, none⟩ (by kernel_rfl) (.agg (Hd.cells c)) (run_load_part (cs := Hd.cs c) (sub := Hd.cs c) (HF.out.box 2 _ _ _ rfl) (Part.all _) Try.und35 rfl Try.size35)) ?_
         try simp only [pA, pB, p1, p2, p3]
         refine tK (.int .i64 ((i : Nat) : Int)) ?_
         try simp only [pA, pB, p1, p2, p3]
         refine wp_callW 30 #[.agg (Hd.cells c), .int .i64 ((i : Nat) : Int)] (by kernel_rfl) _ (knows_any c cp ((i : Nat) : Int) _ HHc.out.p (by have := HWc.out.may.len; omega)) (by kernel_rfl) ?_
         rintro e wk19 ⟨rfl, hk⟩
         have HHa : Hid (HdAt (wk19) a [] ae [] ap) := HHa.out.no hk
         have HHb : Hid (HdAt (wk19) b [] be [] bp) := HHb.out.no hk
         have HHc : Hid (HdAt (wk19) c cb ce cl cp) := HHc.out.no hk
         have HF : Hid (Fr No w (wk19) [(gk3, 35, Hd.cells a), (gk7, 35, Hd.cells b), (gk14, 35, Hd.cells c)]) := HF.out.no hk
         clear hk
         refine ⟨.bool true, by rw [HE.out.kb rfl _ q3], ?_⟩
         try simp only [pA, pB, p1, p2, p3]
         refine tK (.bool false) ?_
         try simp only [pA, pB, p1, p2, p3]
         refine tK (.bool false) ?_
         try simp only [pA, pB, p1, p2, p3]
         refine WL.nil ?_
         try simp only [pA, pB, p1, p2, p3]
         go_upto_region 13 with fail
         refine WL.start ?_
         refine tK (.int .i64 ((i : Nat) : Int)) ?_
         try simp only [pA, pB, p1, p2, p3]
         refine tW (.int .i64 (((i + 1) : Nat) : Int)) (exec_bin .add 3 _ _ _ rfl (.int .i64 ((i : Nat) : Int)) (.int .i64 1) (.int .i64 (((i + 1) : Nat) : Int)) (by kernel_rfl) (by kernel_rfl) (by kernel_rfl) (b_addw _ _ _ (by rw [IntKind.wrap_i64]; omega) _)) ?_
         try simp only [pA, pB, p1, p2, p3]
         refine tK (.int .i64 (((i + 1) : Nat) : Int)) ?_
         try simp only [pA, pB, p1, p2, p3]
         refine WL.nil ?_
         try simp only [pA, pB, p1, p2, p3]
         go_wp2
         go_roundw
         case rel => exact ⟨i + 1, by go_num, by omega, HHa, HHb, HHc, HF⟩
         case measure => simp [intOf]; omega
       ·skip
        try simp only [q2]
        refine sK ?_
        try simp only [pA, pB, p1, p2, p3]
        refine sK ?_
        try simp only [pA, pB, p1, p2, p3]
        refine sK ?_
        try simp only [pA, pB, p1, p2, p3]
        refine tK (.bool true) ?_
        try simp only [pA, pB, p1, p2, p3]
        refine tK (.bool true) ?_
        try simp only [pA, pB, p1, p2, p3]
        refine tW (.agg (Hd.cells c)) (exec_load 35 _ rfl ⟨gk14, 0, none⟩ (by kernel_rfl) (.agg (Hd.cells c)) (run_load_part (cs := Hd.cs c) (sub := Hd.cs c) (HF.out.box 2 _ _ _ rfl) (Part.all _) Try.und35 rfl Try.size35)) ?_
        try simp only [pA, pB, p1, p2, p3]
        refine tK (.int .i64 ((i : Nat) : Int)) ?_
        try simp only [pA, pB, p1, p2, p3]
        refine wp_callW 30 #[.agg (Hd.cells c), .int .i64 ((i : Nat) : Int)] (by kernel_rfl) _ (knows_any c cp ((i : Nat) : Int) _ HHc.out.p (by have := HWc.out.may.len; omega)) (by kernel_rfl) ?_
        rintro e wk20 ⟨rfl, hk⟩
        have HHa : Hid (HdAt (wk20) a [] ae [] ap) := HHa.out.no hk
        have HHb : Hid (HdAt (wk20) b [] be [] bp) := HHb.out.no hk
        have HHc : Hid (HdAt (wk20) c cb ce cl cp) := HHc.out.no hk
        have HF : Hid (Fr No w (wk20) [(gk3, 35, Hd.cells a), (gk7, 35, Hd.cells b), (gk14, 35, Hd.cells c)]) := HF.out.no hk
        clear hk
        refine ⟨.bool true, by rw [HE.out.kn _ q2], ?_⟩
        try simp only [pA, pB, p1, p2, p3]
        refine tK (.bool false) ?_
        try simp only [pA, pB, p1, p2, p3]
        refine tK (.bool false) ?_
        try simp only [pA, pB, p1, p2, p3]
        refine WL.nil ?_
        try simp only [pA, pB, p1, p2, p3]
        go_upto_region 13 with fail
        refine WL.start ?_
        refine tK (.int .i64 ((i : Nat) : Int)) ?_
        try simp only [pA, pB, p1, p2, p3]
        refine tW (.int .i64 (((i + 1) : Nat) : Int)) (exec_bin .add 3 _ _ _ rfl (.int .i64 ((i : Nat) : Int)) (.int .i64 1) (.int .i64 (((i + 1) : Nat) : Int)) (by kernel_rfl) (by kernel_rfl) (by kernel_rfl) (b_addw _ _ _ (by rw [IntKind.wrap_i64]; omega) _)) ?_
        try simp only [pA, pB, p1, p2, p3]
        refine tK (.int .i64 (((i + 1) : Nat) : Int)) ?_
        try simp only [pA, pB, p1, p2, p3]
        refine WL.nil ?_
        try simp only [pA, pB, p1, p2, p3]
        go_wp2
        go_roundw
        case rel => exact ⟨i + 1, by go_num, by omega, HHa, HHb, HHc, HF⟩
        case measure => simp [intOf]; omega
     · skip
       go_upto_region 12 with fail
       refine WL.start ?_
       refine tK (.int .i64 ((i : Nat) : Int)) ?_
       try simp only [pA, pB, p1, p2, p3]
       refine tW (.bool false) (exec_bin .lss 3 _ _ _ rfl (.int .i64 ((i : Nat) : Int)) (.int .i64 540) (.bool false) (by kernel_rfl) (by kernel_rfl) (by kernel_rfl) (by rw [b_lss, decide_eq_false (by omega)])) ?_
       try simp only [pA, pB, p1, p2, p3]
       refine WL.nil ?_
       try simp only [pA, pB, p1, p2, p3]
       go_upto_region 16 with fail
       refine WL.start ?_
       refine tW (.agg (Hd.cells c)) (exec_load 35 _ rfl ⟨gk14, 0, none⟩ (by kernel_rfl) (.agg (Hd.cells c)) (run_load_part (cs := Hd.cs c) (sub := Hd.cs c) (HF.out.box 2 _ _ _ rfl) (Part.all _) Try.und35 rfl Try.size35)) ?_
       try simp only [pA, pB, p1, p2, p3]
       have hcl : cl = [] := HWc.out.bk.2.2
       refine wp_callW 31 #[.agg (Hd.cells c)] (by kernel_rfl) _ (right_any c cp ce _ HHc.out.p HHc.out.e (hcl ▸ HHc.out.l) (by have := HWc.out.may.len; omega) HWc.out.ops (hcl ▸ HWc.out.bk) HWc.out.may.1.1) (by kernel_rfl) ?_
       rintro e wk21 ⟨rfl, hk⟩
       have HHa : Hid (HdAt (wk21) a [] ae [] ap) := HHa.out.no hk
       have HHb : Hid (HdAt (wk21) b [] be [] bp) := HHb.out.no hk
       have HHc : Hid (HdAt (wk21) c cb ce cl cp) := HHc.out.no hk
       have HF : Hid (Fr No w (wk21) [(gk3, 35, Hd.cells a), (gk7, 35, Hd.cells b), (gk14, 35, Hd.cells c)]) := HF.out.no hk
       clear hk
       refine ⟨.bool true, rfl, ?_⟩
       try simp only [pA, pB, p1, p2, p3]
       refine tK (.bool true) ?_
       try simp only [pA, pB, p1, p2, p3]
       refine WL.nil ?_
       try simp only [pA, pB, p1, p2, p3]
       go_wp2
       rw [HC.out]
       exact ⟨rfl, HF.out.kept⟩
  ·skip
   refine tW (.bool true) (exec_bin .lss 3 _ _ _ rfl (.int .i64 (topF b.k.up (decd bp) - edgeF a.k.up (decd ap))) (.int .i64 0) (.bool true) (by kernel_rfl) (by kernel_rfl) (by kernel_rfl) (by rw [b_lss, q1]; try rfl)) ?_
   try simp only [pA, pB, p1, p2, p3]
   refine WL.nil ?_
   try simp only [pA, pB, p1, p2, p3]
   have hD0 : (topF b.k.up (decd bp) - edgeF a.k.up (decd ap)) < 0 := of_decide_eq_true q1
   go_upto_region 7 with fail
   refine WL.start ?_
   refine tK (.int .i64 0) ?_
   try simp only [pA, pB, p1, p2, p3]
   refine WL.nil ?_
   try simp only [pA, pB, p1, p2, p3]
   have HHas : Hid (HdAt wk12 a [] ae [] ap) := HHa
   clear HHa
   have HHbs : Hid (HdAt wk12 b [] be [] bp) := HHb
   clear HHb
   have HK0 : Hid (Kept No wk12 wk12) := Kept.refl _ _
   obtain ⟨s0, hs0⟩ : ∃ n, wk12.heap.size = n := ⟨_, rfl⟩
   have HS0 : Hid (wk12.heap.size = s0) := hs0
   clear hs0
   go_upto_region 8 with fail
   refine WL.start ?_
   refine tW (.agg (Ky.cells ⟨2, 0, 0, 0⟩)) (exec_build 23 _ rfl (Ky.cells ⟨2, 0, 0, 0⟩) (by kernel_rfl)) ?_
   try simp only [pA, pB, p1, p2, p3]
   refine tW (.agg (Hd.cells a)) (exec_load 35 _ rfl ⟨gk3, 0, none⟩ (by kernel_rfl) (.agg (Hd.cells a)) (run_load_part (cs := Hd.cs a) (sub := Hd.cs a) (HF.out.box 0 _ _ _ rfl) (Part.all _) Try.und35 rfl Try.size35)) ?_
   try simp only [pA, pB, p1, p2, p3]
   refine tW (.agg (Hd.cells b)) (exec_load 35 _ rfl ⟨gk7, 0, none⟩ (by kernel_rfl) (.agg (Hd.cells b)) (run_load_part (cs := Hd.cs b) (sub := Hd.cs b) (HF.out.box 1 _ _ _ rfl) (Part.all _) Try.und35 rfl Try.size35)) ?_
   try simp only [pA, pB, p1, p2, p3]
   refine wp_callW 29 #[.agg (Ky.cells ⟨2, 0, 0, 0⟩), .int .i64 7, .int .i64 9, .agg (Hd.cells a), .agg (Hd.cells b)] (by kernel_rfl) _ (row_any (⟨2, 0, 0, 0⟩ : Ky) 7 9 a b [] ae [] ap [] be [] bp _ (HHas.out.no HK0.out) (HHbs.out.no HK0.out) HWa.out HWb.out (.inr rfl)) (by kernel_rfl) ?_
   rintro e wk22 ⟨c, cb, ce, cl, cp, t, rfl, hh, hw, hE, hk⟩
   have HK0 : Hid (Kept No wk12 (wk22)) := HK0.out.no hk
   have HF : Hid (Fr No w (wk22) [(gk3, 35, Hd.cells a), (gk7, 35, Hd.cells b)]) := HF.out.no hk
   have HN : Hid (HdAt wk22 c cb ce cl cp) := hh
   have HWc : Hid (Wl c cb ce cl cp) := hw
   have HE : Hid (RowE 2 (edgeF a.k.up (decd ap)) a c b ap cp bp t) := hE
   clear hh hw hE hk
   have HS : Hid (Kept No wk22 wk22) := Kept.refl _ _
   obtain ⟨s6, hs6⟩ : ∃ n, wk22.heap.size = n := ⟨_, rfl⟩
   have HS6 : Hid (wk22.heap.size = s6) := hs6
   clear hs6
   refine ⟨.tuple #[.agg (Hd.cells c), .int .i64 ((t : Nat) : Int), .bool true], rfl, ?_⟩
   try simp only [pA, pB, p1, p2, p3]
   refine tK (.tuple #[.agg (Hd.cells c), .int .i64 ((t : Nat) : Int), .bool true]) ?_
   try simp only [pA, pB, p1, p2, p3]
   refine tK (.agg (Hd.cells c)) ?_
   try simp only [pA, pB, p1, p2, p3]
   refine tK (.int .i64 ((t : Nat) : Int)) ?_
   try simp only [pA, pB, p1, p2, p3]
   refine tK (.bool true) ?_
   try simp only [pA, pB, p1, p2, p3]
   refine wp_runW (.pointer (some ⟨wk22.heap.size, 0, none⟩)) (wk22.alloc (.cells (Hd.cells hdZ) 35)) (exec_alloc 35 rfl (Hd.cells hdZ) zero35) (by kernel_rfl) ?_
   try simp only [pA, pB, p1, p2, p3]
   have hg7 : s6 ≤ wk22.heap.size := by rw [← HS6.out]; exact HS.out.size
   have hgs : s0 ≤ wk22.heap.size := by rw [← HS0.out]; exact HK0.out.size
   have HK0 : Hid (Kept No wk12 (wk22.alloc (.cells (Hd.cells hdZ) 35))) := HK0.out.no ((Kept.refl No _).alloc _)
   have HS : Hid (Kept No wk22 (wk22.alloc (.cells (Hd.cells hdZ) 35))) := HS.out.no ((Kept.refl No _).alloc _)
   have HF : Hid (Fr No w (wk22.alloc (.cells (Hd.cells hdZ) 35)) [(gk3, 35, Hd.cells a), (gk7, 35, Hd.cells b), (wk22.heap.size, 35, Hd.cells hdZ)]) := HF.out.alloc _ _
   generalize wk22.alloc (.cells (Hd.cells hdZ) 35) = wk24 at HF HK0 HS ⊢
   generalize wk22.heap.size = gk23 at HF hg7 hgs ⊢
   refine wp_storeW 35 _ _ rfl ⟨gk23, 0, none⟩ (.agg (Hd.cells c)) (by kernel_rfl) (by kernel_rfl) (wk24.setRow gk23 (Hd.cells c)) (run_store_to (cur := Hd.cs hdZ) (vs := Hd.cs c) (new := Hd.cs c) (HF.out.box 2 _ _ _ rfl) (by kernel_rfl) Try.size35 (Nat.le_of_ble_eq_true (by kernel_rfl)) (Hd.oneL _) (by kernel_rfl)) (by kernel_rfl) ?_
   try simp only [pA, pB, p1, p2, p3]
   have HK0 : Hid (Kept No wk12 (wk24.setRow gk23 (Hd.cells c))) := HK0.out.newRow (by rw [HS0.out]; exact hgs) _
   have HS : Hid (Kept No wk22 (wk24.setRow gk23 (Hd.cells c))) := HS.out.newRow (by rw [HS6.out]; exact hg7) _
   have HF : Hid (Fr No w (wk24.setRow gk23 (Hd.cells c)) [(gk3, 35, Hd.cells a), (gk7, 35, Hd.cells b), (gk23, 35, Hd.cells c)]) := HF.out.set 2 rfl _
   generalize wk24.setRow gk23 (Hd.cells c) = wk25 at HF HK0 HS ⊢
   refine tK (.int .i64 ((t : Nat) : Int)) ?_
   try simp only [pA, pB, p1, p2, p3]
   refine tK (.bool true) ?_
   try simp only [pA, pB, p1, p2, p3]
   refine WL.nil ?_
   try simp only [pA, pB, p1, p2, p3]
   have HHa : Hid (HdAt wk25 a [] ae [] ap) := HHas.out.no HK0.out
   have HHb : Hid (HdAt wk25 b [] be [] bp) := HHbs.out.no HK0.out
   have HHc : Hid (HdAt wk25 c cb ce cl cp) := HN.out.no HS.out
   clear HN HS HS6 hg7 HK0 HS0 hgs HHas HHbs
   go_upto_region 9 with fail
   refine WL.start ?_
   refine tK (.bool true) ?_
   try simp only [pA, pB, p1, p2, p3]
   refine tK (.bool false) ?_
   try simp only [pA, pB, p1, p2, p3]
   refine tK (.bool false) ?_
   try simp only [pA, pB, p1, p2, p3]
   refine tK (.int .i64 ((t : Nat) : Int)) ?_
   try simp only [pA, pB, p1, p2, p3]
   refine tK (.int .i64 0) ?_
   try simp only [pA, pB, p1, p2, p3]
   refine tW (.int .i64 (0 / 64)) (exec_bin .quo 3 _ _ _ rfl (.int .i64 0) (.int .i64 64) (.int .i64 (0 / 64)) (by kernel_rfl) (by kernel_rfl) (by kernel_rfl) (by rw [b_quo64, quo64 _ (by omega) (by omega)])) ?_
   try simp only [pA, pB, p1, p2, p3]
   refine tW (.int .i64 (2 + (0 / 64))) (exec_bin .add 3 _ _ _ rfl (.int .i64 2) (.int .i64 (0 / 64)) (.int .i64 (2 + (0 / 64))) (by kernel_rfl) (by kernel_rfl) (by kernel_rfl) (b_addw _ _ _ (by rw [IntKind.wrap_i64]; omega) _)) ?_
   try simp only [pA, pB, p1, p2, p3]
   refine tW (.bool false) (exec_bin .gtr 3 _ _ _ rfl (.int .i64 ((t : Nat) : Int)) (.int .i64 (2 + (0 / 64))) (.bool false) (by kernel_rfl) (by kernel_rfl) (by kernel_rfl) (by rw [b_gtr, decide_eq_false (by have := HE.out.few 0 (by omega) (by omega); omega)])) ?_
   try simp only [pA, pB, p1, p2, p3]
   refine tK (.bool false) ?_
   try simp only [pA, pB, p1, p2, p3]
   refine WL.nil ?_
   try simp only [pA, pB, p1, p2, p3]
   go_upto_region 11 with fail
   refine WL.start ?_
   refine tK (.int .i64 1) ?_
   try simp only [pA, pB, p1, p2, p3]
   refine WL.nil ?_
   try simp only [pA, pB, p1, p2, p3]
   go_wp2
   go_loopw [19] (fun v19 wr => ∃ (i : Nat), v19 = .int .i64 ((i : Nat) : Int) ∧ i ≤ 540 ∧ Hid (HdAt wr a [] ae [] ap) ∧ Hid (HdAt wr b [] be [] bp) ∧ Hid (HdAt wr c cb ce cl cp) ∧ Hid (Fr No w wr [(gk3, 35, Hd.cells a), (gk7, 35, Hd.cells b), (gk23, 35, Hd.cells c)])) (fun i _ => 540 - (intOf i).toNat)
   case atStart => exact ⟨1, by go_num, by omega, HHa, HHb, HHc, HF⟩
   case round =>
     clear HF HHa HHb HHc
     obtain ⟨i, rfl, hi, HHa, HHb, HHc, HF⟩ := hrel
     by_cases hlt : i < 540
     · skip
       go_upto_region 12 with fail
       refine WL.start ?_
       refine tK (.int .i64 ((i : Nat) : Int)) ?_
       try simp only [pA, pB, p1, p2, p3]
       refine tW (.bool true) (exec_bin .lss 3 _ _ _ rfl (.int .i64 ((i : Nat) : Int)) (.int .i64 540) (.bool true) (by kernel_rfl) (by kernel_rfl) (by kernel_rfl) (by rw [b_lss, decide_eq_true (by omega)])) ?_
       try simp only [pA, pB, p1, p2, p3]
       refine WL.nil ?_
       try simp only [pA, pB, p1, p2, p3]
       go_upto_region 14 with fail
       refine WL.start ?_
       refine tW (.agg (Hd.cells a)) (exec_load 35 _ rfl ⟨gk3, 0, none⟩ (by kernel_rfl) (.agg (Hd.cells a)) (run_load_part (cs := Hd.cs a) (sub := Hd.cs a) (HF.out.box 0 _ _ _ rfl) (Part.all _) Try.und35 rfl Try.size35)) ?_
       try simp only [pA, pB, p1, p2, p3]
       refine tK (.int .i64 ((i : Nat) : Int)) ?_
       try simp only [pA, pB, p1, p2, p3]
       refine wp_callW 30 #[.agg (Hd.cells a), .int .i64 ((i : Nat) : Int)] (by kernel_rfl) _ (knows_any a ap ((i : Nat) : Int) _ HHa.out.p (by have := HWa.out.may.len; omega)) (by kernel_rfl) ?_
       rintro e wk26 ⟨rfl, hk⟩
       have HHa : Hid (HdAt (wk26) a [] ae [] ap) := HHa.out.no hk
       have HHb : Hid (HdAt (wk26) b [] be [] bp) := HHb.out.no hk
       have HHc : Hid (HdAt (wk26) c cb ce cl cp) := HHc.out.no hk
       have HF : Hid (Fr No w (wk26) [(gk3, 35, Hd.cells a), (gk7, 35, Hd.cells b), (gk23, 35, Hd.cells c)]) := HF.out.no hk
       clear hk
       refine ⟨.bool (knowB a ap ((i : Nat) : Int)), rfl, ?_⟩
       try simp only [pA, pB, p1, p2, p3]
       refine tK (.bool (knowB a ap ((i : Nat) : Int))) ?_
       try simp only [pA, pB, p1, p2, p3]
       cases q4 : ((knowB a ap ((i : Nat) : Int)))
       ·skip
        try simp only [q4]
        refine tW (.agg (Hd.cells b)) (exec_load 35 _ rfl ⟨gk7, 0, none⟩ (by kernel_rfl) (.agg (Hd.cells b)) (run_load_part (cs := Hd.cs b) (sub := Hd.cs b) (HF.out.box 1 _ _ _ rfl) (Part.all _) Try.und35 rfl Try.size35)) ?_
        try simp only [pA, pB, p1, p2, p3]
        refine tK (.int .i64 ((i : Nat) : Int)) ?_
        try simp only [pA, pB, p1, p2, p3]
        refine wp_callW 30 #[.agg (Hd.cells b), .int .i64 ((i : Nat) : Int)] (by kernel_rfl) _ (knows_any b bp ((i : Nat) : Int) _ HHb.out.p (by have := HWb.out.may.len; omega)) (by kernel_rfl) ?_
        rintro e wk27 ⟨rfl, hk⟩
        have HHa : Hid (HdAt (wk27) a [] ae [] ap) := HHa.out.no hk
        have HHb : Hid (HdAt (wk27) b [] be [] bp) := HHb.out.no hk
        have HHc : Hid (HdAt (wk27) c cb ce cl cp) := HHc.out.no hk
        have HF : Hid (Fr No w (wk27) [(gk3, 35, Hd.cells a), (gk7, 35, Hd.cells b), (gk23, 35, Hd.cells c)]) := HF.out.no hk
        clear hk
        refine ⟨.bool (knowB b bp ((i : Nat) : Int)), rfl, ?_⟩
        try simp only [pA, pB, p1, p2, p3]
        refine tK (.bool (knowB b bp ((i : Nat) : Int))) ?_
        try simp only [pA, pB, p1, p2, p3]
        refine tK (.bool (knowB b bp ((i : Nat) : Int))) ?_
        try simp only [pA, pB, p1, p2, p3]
        cases q5 : ((knowB b bp ((i : Nat) : Int)))
        ·skip
         try simp only [q5]
         refine sK ?_
         try simp only [pA, pB, p1, p2, p3]
         refine sK ?_
         try simp only [pA, pB, p1, p2, p3]
         refine sK ?_
         try simp only [pA, pB, p1, p2, p3]
         refine sK ?_
         try simp only [pA, pB, p1, p2, p3]
         refine tK (.bool false) ?_
         try simp only [pA, pB, p1, p2, p3]
         refine WL.nil ?_
         try simp only [pA, pB, p1, p2, p3]
         go_upto_region 13 with fail
         refine WL.start ?_
         refine tK (.int .i64 ((i : Nat) : Int)) ?_
         try simp only [pA, pB, p1, p2, p3]
         refine tW (.int .i64 (((i + 1) : Nat) : Int)) (exec_bin .add 3 _ _ _ rfl (.int .i64 ((i : Nat) : Int)) (.int .i64 1) (.int .i64 (((i + 1) : Nat) : Int)) (by kernel_rfl) (by kernel_rfl) (by kernel_rfl) (b_addw _ _ _ (by rw [IntKind.wrap_i64]; omega) _)) ?_
         try simp only [pA, pB, p1, p2, p3]
         refine tK (.int .i64 (((i + 1) : Nat) : Int)) ?_
         try simp only [pA, pB, p1, p2, p3]
         refine WL.nil ?_
         try simp only [pA, pB, p1, p2, p3]
         go_wp2
         go_roundw
         case rel => exact ⟨i + 1, by go_num, by omega, HHa, HHb, HHc, HF⟩
         case measure => simp [intOf]; omega
        ·skip
         try simp only [q5]
         refine tW (.agg (Hd.cells c)) (exec_load 35 _ rfl ⟨gk23, 0, none⟩ (by kernel_rfl) (.agg (Hd.cells c)) (run_load_part (cs := Hd.cs c) (sub := Hd.cs c) (HF.out.box 2 _ _ _ rfl) (Part.all _) Try.und35 rfl Try.size35)) ?_
         try simp only [pA, pB, p1, p2, p3]
         refine tK (.int .i64 ((i : Nat) : Int)) ?_
         try simp only [pA, pB, p1, p2, p3]
         refine wp_callW 30 #[.agg (Hd.cells c), .int .i64 ((i : Nat) : Int)] (by kernel_rfl) _ (knows_any c cp ((i : Nat) : Int) _ HHc.out.p (by have := HWc.out.may.len; omega)) (by kernel_rfl) ?_
         rintro e wk28 ⟨rfl, hk⟩
         have HHa : Hid (HdAt (wk28) a [] ae [] ap) := HHa.out.no hk
         have HHb : Hid (HdAt (wk28) b [] be [] bp) := HHb.out.no hk
         have HHc : Hid (HdAt (wk28) c cb ce cl cp) := HHc.out.no hk
         have HF : Hid (Fr No w (wk28) [(gk3, 35, Hd.cells a), (gk7, 35, Hd.cells b), (gk23, 35, Hd.cells c)]) := HF.out.no hk
         clear hk
         refine ⟨.bool true, by rw [HE.out.kb rfl _ q5], ?_⟩
         try simp only [pA, pB, p1, p2, p3]
         refine tK (.bool false) ?_
         try simp only [pA, pB, p1, p2, p3]
         refine tK (.bool false) ?_
         try simp only [pA, pB, p1, p2, p3]
         refine WL.nil ?_
         try simp only [pA, pB, p1, p2, p3]
         go_upto_region 13 with fail
         refine WL.start ?_
         refine tK (.int .i64 ((i : Nat) : Int)) ?_
         try simp only [pA, pB, p1, p2, p3]
         refine tW (.int .i64 (((i + 1) : Nat) : Int)) (exec_bin .add 3 _ _ _ rfl (.int .i64 ((i : Nat) : Int)) (.int .i64 1) (.int .i64 (((i + 1) : Nat) : Int)) (by kernel_rfl) (by kernel_rfl) (by kernel_rfl) (b_addw _ _ _ (by rw [IntKind.wrap_i64]; omega) _)) ?_
         try simp only [pA, pB, p1, p2, p3]
         refine tK (.int .i64 (((i + 1) : Nat) : Int)) ?_
         try simp only [pA, pB, p1, p2, p3]
         refine WL.nil ?_
         try simp only [pA, pB, p1, p2, p3]
         go_wp2
         go_roundw
         case rel => exact ⟨i + 1, by go_num, by omega, HHa, HHb, HHc, HF⟩
         case measure => simp [intOf]; omega
       ·skip
        try simp only [q4]
        refine sK ?_
        try simp only [pA, pB, p1, p2, p3]
        refine sK ?_
        try simp only [pA, pB, p1, p2, p3]
        refine sK ?_
        try simp only [pA, pB, p1, p2, p3]
        refine tK (.bool true) ?_
        try simp only [pA, pB, p1, p2, p3]
        refine tK (.bool true) ?_
        try simp only [pA, pB, p1, p2, p3]
        refine tW (.agg (Hd.cells c)) (exec_load 35 _ rfl ⟨gk23, 0, none⟩ (by kernel_rfl) (.agg (Hd.cells c)) (run_load_part (cs := Hd.cs c) (sub := Hd.cs c) (HF.out.box 2 _ _ _ rfl) (Part.all _) Try.und35 rfl Try.size35)) ?_
        try simp only [pA, pB, p1, p2, p3]
        refine tK (.int .i64 ((i : Nat) : Int)) ?_
        try simp only [pA, pB, p1, p2, p3]
        refine wp_callW 30 #[.agg (Hd.cells c), .int .i64 ((i : Nat) : Int)] (by kernel_rfl) _ (knows_any c cp ((i : Nat) : Int) _ HHc.out.p (by have := HWc.out.may.len; omega)) (by kernel_rfl) ?_
        rintro e wk29 ⟨rfl, hk⟩
        have HHa : Hid (HdAt (wk29) a [] ae [] ap) := HHa.out.no hk
        have HHb : Hid (HdAt (wk29) b [] be [] bp) := HHb.out.no hk
        have HHc : Hid (HdAt (wk29) c cb ce cl cp) := HHc.out.no hk
        have HF : Hid (Fr No w (wk29) [(gk3, 35, Hd.cells a), (gk7, 35, Hd.cells b), (gk23, 35, Hd.cells c)]) := HF.out.no hk
        clear hk
        refine ⟨.bool true, by rw [HE.out.kn _ q4], ?_⟩
        try simp only [pA, pB, p1, p2, p3]
        refine tK (.bool false) ?_
        try simp only [pA, pB, p1, p2, p3]
        refine tK (.bool false) ?_
        try simp only [pA, pB, p1, p2, p3]
        refine WL.nil ?_
        try simp only [pA, pB, p1, p2, p3]
        go_upto_region 13 with fail
        refine WL.start ?_
        refine tK (.int .i64 ((i : Nat) : Int)) ?_
        try simp only [pA, pB, p1, p2, p3]
        refine tW (.int .i64 (((i + 1) : Nat) : Int)) (exec_bin .add 3 _ _ _ rfl (.int .i64 ((i : Nat) : Int)) (.int .i64 1) (.int .i64 (((i + 1) : Nat) : Int)) (by kernel_rfl) (by kernel_rfl) (by kernel_rfl) (b_addw _ _ _ (by rw [IntKind.wrap_i64]; omega) _)) ?_
        try simp only [pA, pB, p1, p2, p3]
        refine tK (.int .i64 (((i + 1) : Nat) : Int)) ?_
        try simp only [pA, pB, p1, p2, p3]
        refine WL.nil ?_
        try simp only [pA, pB, p1, p2, p3]
        go_wp2
        go_roundw
        case rel => exact ⟨i + 1, by go_num, by omega, HHa, HHb, HHc, HF⟩
        case measure => simp [intOf]; omega
     · skip
       go_upto_region 12 with fail
       refine WL.start ?_
       refine tK (.int .i64 ((i : Nat) : Int)) ?_
       try simp only [pA, pB, p1, p2, p3]
       refine tW (.bool false) (exec_bin .lss 3 _ _ _ rfl (.int .i64 ((i : Nat) : Int)) (.int .i64 540) (.bool false) (by kernel_rfl) (by kernel_rfl) (by kernel_rfl) (by rw [b_lss, decide_eq_false (by omega)])) ?_
       try simp only [pA, pB, p1, p2, p3]
       refine WL.nil ?_
       try simp only [pA, pB, p1, p2, p3]
       go_upto_region 16 with fail
       refine WL.start ?_
       refine tW (.agg (Hd.cells c)) (exec_load 35 _ rfl ⟨gk23, 0, none⟩ (by kernel_rfl) (.agg (Hd.cells c)) (run_load_part (cs := Hd.cs c) (sub := Hd.cs c) (HF.out.box 2 _ _ _ rfl) (Part.all _) Try.und35 rfl Try.size35)) ?_
       try simp only [pA, pB, p1, p2, p3]
       have hcl : cl = [] := HWc.out.bk.2.2
       refine wp_callW 31 #[.agg (Hd.cells c)] (by kernel_rfl) _ (right_any c cp ce _ HHc.out.p HHc.out.e (hcl ▸ HHc.out.l) (by have := HWc.out.may.len; omega) HWc.out.ops (hcl ▸ HWc.out.bk) HWc.out.may.1.1) (by kernel_rfl) ?_
       rintro e wk30 ⟨rfl, hk⟩
       have HHa : Hid (HdAt (wk30) a [] ae [] ap) := HHa.out.no hk
       have HHb : Hid (HdAt (wk30) b [] be [] bp) := HHb.out.no hk
       have HHc : Hid (HdAt (wk30) c cb ce cl cp) := HHc.out.no hk
       have HF : Hid (Fr No w (wk30) [(gk3, 35, Hd.cells a), (gk7, 35, Hd.cells b), (gk23, 35, Hd.cells c)]) := HF.out.no hk
       clear hk
       refine ⟨.bool true, rfl, ?_⟩
       try simp only [pA, pB, p1, p2, p3]
       refine tK (.bool true) ?_
       try simp only [pA, pB, p1, p2, p3]
       refine WL.nil ?_
       try simp only [pA, pB, p1, p2, p3]
       go_wp2
       rw [HC.out]
       exact ⟨rfl, HF.out.kept⟩

end Go.Proofs.Ytcgnbpaaalmkoaa
