import Derived.Test.YtcgnbpaaalmkoabV
namespace Go.Proofs.Ytcgnbpaaalmkoab
open Go.RowKit
set_option linter.unusedVariables false
set_option linter.unusedSimpArgs false

def NbOut (w : World) (m : Mg) (E : Int) (es : List En) (ls : List La) (e : Ending) (w' : World) : Prop :=
  (m.bk.up ≤ E ∧ e = .returned (.slice none 0 0) ∧ Kept No w w') ∨ (E < m.bk.up ∧ ∃ (g : Nat) (se sl : Sl), e = .returned (.slice (some ⟨g, 0, none⟩) 1 1) ∧ Box w' g 67 (Ch.cells ⟨m.ky, blZ, inZ, ⟨m.bk.up, se, sl⟩⟩) ∧ OwE w' w.heap.size se es ∧ OwL w' w.heap.size sl ls ∧ w.heap.size ≤ g ∧ Kept No w w')
set_option maxRecDepth 100000 in
set_option maxHeartbeats 4000000 in
theorem newerBucket_any (m : Mg) (h : Hd) (ps : List Pl) (es : List En) (ls : List La) (w : World) (he : RdE w m.bk.e es) (hl : RdL w m.bk.l ls) (h1 : m.bk.e.l * 40 ≤ 140737488355328) (h2 : m.bk.l.l * 56 ≤ 140737488355328) (hr : RdP w h.r ps) (hlt : ∀ k, At h.r.a k → k < w.heap.size) (hm : ps.length ≤ 10000000000000) (hg : Rng h.k.up ps) : Calls Try.prog 31 #[.agg (Mg.cells m), .agg (Hd.cells h)] w (NbOut w m (edgeF h.k.up (decd ps)) es ls) := by
  obtain ⟨C, hC⟩ : ∃ C : Ending → World → Prop, C = (NbOut w m (edgeF h.k.up (decd ps)) es ls) := ⟨_, rfl⟩
  have HC : Hid (C = (NbOut w m (edgeF h.k.up (decd ps)) es ls)) := hC
  rw [← hC]
  clear hC
  have HK : Hid (∀ W, Kept No w W → Calls Try.prog 38 #[.agg (Bv.cells m.bk)] W (CopOut W m.bk.up es ls)) := fun W hk => copied_any m.bk es ls W (he.no hk) (hl.no hk) h1 h2
  have HE : Hid (∀ W, Kept No w W → Calls Try.prog 36 #[.agg (Hd.cells h)] W (fun e w' => e = .returned (.int .i64 (edgeF h.k.up (decd ps))) ∧ Kept No W w')) := fun W hk => edge_any h ps W (hr.no hk) (fun k e => Nat.lt_of_lt_of_le (hlt k e) hk.size) hm hg
  clear he hl h1 h2 hr hlt hm hg
  generalize edgeF h.k.up (decd ps) = E at HC HE
  have HF : Hid (Fr No w w []) := Fr.start _ _
  go_enter Try.func31, Try.ntmps31
  go_upto_region 0 with fail
  refine WL.start ?_
  refine wp_runW (.pointer (some ⟨w.heap.size, 0, none⟩)) (w.alloc (.cells (Mg.cells m) 46)) (exec_box 46 _ rfl (Mg.cells m) (by kernel_rfl)) (by kernel_rfl) ?_
  try simp only [pS]
  have HF : Hid (Fr No w _ [(w.heap.size, 46, Mg.cells m)]) := HF.out.alloc _ _
  generalize w.alloc (.cells (Mg.cells m) 46) = wk2 at HF ⊢
  generalize w.heap.size = gk1 at HF ⊢
  refine wp_runW (.pointer (some ⟨wk2.heap.size, 0, none⟩)) (wk2.alloc (.cells (Hd.cells h) 49)) (exec_box 49 _ rfl (Hd.cells h) (by kernel_rfl)) (by kernel_rfl) ?_
  try simp only [pS]
  have HF : Hid (Fr No w _ [(gk1, 46, Mg.cells m), (wk2.heap.size, 49, Hd.cells h)]) := HF.out.alloc _ _
  generalize wk2.alloc (.cells (Hd.cells h) 49) = wk4 at HF ⊢
  generalize wk2.heap.size = gk3 at HF ⊢
  refine tK (.slice none 0 0) ?_
  try simp only [pS]
  refine WL.nil ?_
  try simp only [pS]
  go_upto_region 1 with fail
  refine wp_region_held_drew (S := fun w' => Box w' gk1 46 (Mg.cells m) ∧ Box w' gk3 49 (Hd.cells h)) rfl ⟨HF.out.box 0 _ _ _ rfl, HF.out.box 1 _ _ _ rfl⟩ (fun hH => ?_)
  have HF : Hid (Fr No w (wk4.drew) [(gk1, 46, Mg.cells m), (gk3, 49, Hd.cells h)]) := HF.out.drew
  generalize wk4.drew = wk5 at HF hH ⊢
  refine aT (i := 0) (oi := { dst := some 5, op := Op.fieldAddr 46 (Operand.tmp 2) 10, type := 0, pos := "take.go:19", after := #[], guard := none }) (v := .pointer (some ⟨gk1, 25, none⟩)) (fun _ _ => by kernel_rfl) hH ?_
  try simp only [pS]
  refine aT (i := 1) (oi := { dst := some 6, op := Op.fieldAddr 30 (Operand.tmp 5) 0, type := 0, pos := "take.go:19", after := #[{ on := 0, ground := Ground.data }], guard := none }) (v := .pointer (some ⟨gk1, 25, none⟩)) (fun _ _ => by kernel_rfl) hH ?_
  try simp only [pS]
  refine aT (i := 2) (oi := { dst := some 7, op := Op.load 3 (Operand.tmp 6), type := 3, pos := "take.go:19", after := #[{ on := 1, ground := Ground.data }], guard := none }) (v := .int .i64 m.bk.up) (fun w' hw => eL 3 _ rfl ⟨gk1, 25, none⟩ (load_one ((hw.1).cell 25 |>.trans (by kernel_rfl)) Try.und3 rfl)) hH ?_
  try simp only [pS]
  refine aT (i := 3) (oi := { dst := some 8, op := Op.load 49 (Operand.tmp 3), type := 49, pos := "take.go:19", after := #[], guard := none }) (v := .agg (Hd.cells h)) (fun w' hw => eL 49 _ rfl ⟨gk3, 0, none⟩ (run_load_part (cs := Hd.cs h) (sub := Hd.cs h) (hw.2) (Part.all _) Try.und40 rfl Try.size40)) hH ?_
  try simp only [pS]
  refine any_call (i := 4) (o := { dst := some 9, op := Op.call { callee := Callee.value (Operand.func 36), args := #[Operand.tmp 8], argTypes := #[49] }, type := 3, pos := "take.go:19", after := #[{ on := 3, ground := Ground.data }], guard := none }) rfl (by kernel_rfl) (by kernel_rfl) 36 #[.agg (Hd.cells h)] (by kernel_rfl) _ (HE.out _ HF.out.kept) ?_
  rintro e wk6 ⟨rfl, hk⟩
  have hH2 : Box wk6 gk1 46 (Mg.cells m) ∧ Box wk6 gk3 49 (Hd.cells h) := ⟨hH.1.kept hk (fun e => e), hH.2.kept hk (fun e => e)⟩
  have HF : Hid (Fr No w (wk6) [(gk1, 46, Mg.cells m), (gk3, 49, Hd.cells h)]) := HF.out.no hk
  clear hk
  refine ⟨.int .i64 E, rfl, hH2, fun hH => ?_⟩
  clear hH2
  try simp only [pS]
  cases q1 : (decide (m.bk.up ≤ E))
  ·skip
   refine aT (i := 5) (oi := { dst := some 10, op := Op.binOp BinOp.leq 3 (Operand.tmp 7) (Operand.tmp 9) 3, type := 4, pos := "take.go:19", after := #[{ on := 2, ground := Ground.data }, { on := 4, ground := Ground.data }], guard := none }) (v := .bool false) (fun w' hw => eB .leq 3 _ _ _ rfl (.int .i64 m.bk.up) (.int .i64 E) _ (by rw [b_leq, q1]; try rfl)) hH ?_
   try simp only [pS]
   refine wpAnyH_done (by kernel_rfl) ?_ _
   try simp only [pS]
   clear hH
   go_upto_region 3 with fail
   refine wp_region_held_drew (S := fun w' => Box w' gk1 46 (Mg.cells m)) rfl (HF.out.box 0 _ _ _ rfl) (fun hH => ?_)
   have HF : Hid (Fr No w (wk6.drew) [(gk1, 46, Mg.cells m), (gk3, 49, Hd.cells h)]) := HF.out.drew
   generalize wk6.drew = wk7 at HF hH ⊢
   refine aT (i := 0) (oi := { dst := some 11, op := Op.fieldAddr 46 (Operand.tmp 2) 5, type := 0, pos := "take.go:22", after := #[], guard := none }) (v := .pointer (some ⟨gk1, 7, none⟩)) (fun _ _ => by kernel_rfl) hH ?_
   try simp only [pS]
   refine aT (i := 1) (oi := { dst := some 12, op := Op.load 39 (Operand.tmp 11), type := 39, pos := "take.go:22", after := #[{ on := 0, ground := Ground.data }], guard := none }) (v := .agg (Ky.cells m.ky)) (fun w' hw => eL 39 _ rfl ⟨gk1, 7, none⟩ (run_load_part (cs := Mg.cs m) (sub := Ky.cs m.ky) (hw) (part_of (by kernel_rfl)) Try.und23 rfl Try.size23)) hH ?_
   try simp only [pS]
   refine aT (i := 2) (oi := { dst := some 13, op := Op.fieldAddr 46 (Operand.tmp 2) 10, type := 0, pos := "take.go:22", after := #[], guard := none }) (v := .pointer (some ⟨gk1, 25, none⟩)) (fun _ _ => by kernel_rfl) hH ?_
   try simp only [pS]
   refine aT (i := 3) (oi := { dst := some 14, op := Op.load 30 (Operand.tmp 13), type := 30, pos := "take.go:22", after := #[{ on := 2, ground := Ground.data }], guard := none }) (v := .agg (Bv.cells m.bk)) (fun w' hw => eL 30 _ rfl ⟨gk1, 25, none⟩ (run_load_part (cs := Mg.cs m) (sub := Bv.cs m.bk) (hw) (part_of (by kernel_rfl)) Try.und32 rfl Try.size32)) hH ?_
   try simp only [pS]
   have HFs : Hid (w.heap.size ≤ wk7.heap.size) := HF.out.kept.size
   refine any_call (i := 4) (o := { dst := some 15, op := Op.call { callee := Callee.value (Operand.func 38), args := #[Operand.tmp 14], argTypes := #[30] }, type := 30, pos := "take.go:22", after := #[{ on := 3, ground := Ground.data }], guard := none }) rfl (by kernel_rfl) (by kernel_rfl) 38 #[.agg (Bv.cells m.bk)] (by kernel_rfl) _ (HK.out _ HF.out.kept) ?_
   rintro e wk8 ⟨se, sl, rfl, ho, hp, hk⟩
   have hH2 : Box wk8 gk1 46 (Mg.cells m) := (hH.kept hk (fun e => e))
   have HF : Hid (Fr No w (wk8) [(gk1, 46, Mg.cells m), (gk3, 49, Hd.cells h)]) := HF.out.no hk
   have HO : Hid (OwE wk8 w.heap.size se es) := ho.lower HFs.out
   have HQ : Hid (OwL wk8 w.heap.size sl ls) := hp.lower HFs.out
   clear ho hp
   clear hk
   refine ⟨.agg (Bv.cells ⟨m.bk.up, se, sl⟩), rfl, hH2, fun hH => ?_⟩
   clear hH2
   try simp only [pS]
   refine aT (i := 5) (oi := { dst := some 16, op := Op.build 67 #[(0, Operand.tmp 12), (3, Operand.tmp 15)], type := 67, pos := "take.go:22", after := #[{ on := 1, ground := Ground.data }, { on := 4, ground := Ground.data }], guard := none }) (v := .agg (Ch.cells ⟨m.ky, blZ, inZ, ⟨m.bk.up, se, sl⟩⟩)) (fun w' hw => exec_build 67 _ rfl (Ch.cells ⟨m.ky, blZ, inZ, ⟨m.bk.up, se, sl⟩⟩) (by kernel_rfl)) hH ?_
   try simp only [pS]
   refine any_step (i := 6) (o := { dst := some 17, op := Op.buildSlice 56 1 #[(0, Operand.tmp 16)], type := 56, pos := "take.go:22", after := #[{ on := 5, ground := Ground.data }], guard := none }) rfl (by kernel_rfl) (by kernel_rfl) (exec_slice2 56 67 _ rfl (Ch.cells ⟨m.ky, blZ, inZ, ⟨m.bk.up, se, sl⟩⟩) (.agg (Ch.cells ⟨m.ky, blZ, inZ, ⟨m.bk.up, se, sl⟩⟩)) (by kernel_rfl) (by kernel_rfl)) ((hH.alloc _)) (fun hH => ?_)
   try simp only [pS]
   have HO : Hid (OwE (wk8.alloc (.cells (Ch.cells ⟨m.ky, blZ, inZ, ⟨m.bk.up, se, sl⟩⟩) 67)) w.heap.size se es) := HO.out.no ((Kept.refl No _).alloc _)
   have HQ : Hid (OwL (wk8.alloc (.cells (Ch.cells ⟨m.ky, blZ, inZ, ⟨m.bk.up, se, sl⟩⟩) 67)) w.heap.size sl ls) := HQ.out.no ((Kept.refl No _).alloc _)
   have HF : Hid (Fr No w _ [(gk1, 46, Mg.cells m), (gk3, 49, Hd.cells h), (wk8.heap.size, 67, Ch.cells ⟨m.ky, blZ, inZ, ⟨m.bk.up, se, sl⟩⟩)]) := HF.out.alloc _ _
   generalize wk8.alloc (.cells (Ch.cells ⟨m.ky, blZ, inZ, ⟨m.bk.up, se, sl⟩⟩) 67) = wk10 at HF HO HQ hH ⊢
   generalize wk8.heap.size = gk9 at HF ⊢
   refine aT (i := 7) (oi := { dst := some 4, op := Op.assign (Operand.tmp 17), type := 56, pos := "take.go:22", after := #[{ on := 6, ground := Ground.data }, { on := 4, ground := Ground.chain }, { on := 0, ground := Ground.phase }, { on := 1, ground := Ground.phase }, { on := 2, ground := Ground.phase }, { on := 3, ground := Ground.phase }, { on := 4, ground := Ground.phase }, { on := 5, ground := Ground.phase }, { on := 6, ground := Ground.phase }], guard := none }) (v := .slice (some ⟨gk9, 0, none⟩) 1 1) (fun _ _ => by kernel_rfl) hH ?_
   try simp only [pS]
   refine wpAnyH_done (by kernel_rfl) ?_ _
   try simp only [pS]
   clear hH
   go_wp2
   rw [HC.out]
   exact .inr ⟨by have := of_decide_eq_false q1; omega, _, se, sl, rfl, HF.out.box 2 _ _ _ rfl, HO.out, HQ.out, HF.out.low 2 _ _ _ rfl, HF.out.kept⟩
  ·skip
   refine aT (i := 5) (oi := { dst := some 10, op := Op.binOp BinOp.leq 3 (Operand.tmp 7) (Operand.tmp 9) 3, type := 4, pos := "take.go:19", after := #[{ on := 2, ground := Ground.data }, { on := 4, ground := Ground.data }], guard := none }) (v := .bool true) (fun w' hw => eB .leq 3 _ _ _ rfl (.int .i64 m.bk.up) (.int .i64 E) _ (by rw [b_leq, q1]; try rfl)) hH ?_
   try simp only [pS]
   refine wpAnyH_done (by kernel_rfl) ?_ _
   try simp only [pS]
   clear hH
   go_upto_region 2 with fail
   refine WL.start ?_
   refine tK (.slice none 0 0) ?_
   try simp only [pS]
   refine WL.nil ?_
   try simp only [pS]
   go_wp2
   rw [HC.out]
   exact .inl ⟨of_decide_eq_true q1, rfl, HF.out.kept⟩
set_option maxRecDepth 100000 in
set_option maxHeartbeats 4000000 in
theorem tellBucket_any (p : Nat) (m : Mg) (h : Hd) (ps : List Pl) (es : List En) (ls : List La) (w : World) (hp : Box w p 46 (Mg.cells m)) (hne : ∀ k, At h.r.a k → k ≠ p) (hnE : ∀ k, At h.k.e.a k → k ≠ p) (hnL : ∀ k, At h.k.l.a k → k ≠ p) (he : RdE w h.k.e es) (hl : RdL w h.k.l ls) (h1 : h.k.e.l * 40 ≤ 140737488355328) (h2 : h.k.l.l * 56 ≤ 140737488355328) (hr : RdP w h.r ps) (hlt : ∀ k, At h.r.a k → k < w.heap.size) (hm : ps.length ≤ 10000000000000) (hg : Rng h.k.up ps) : Calls Try.prog 22 #[.pointer (some ⟨p, 0, none⟩), .agg (Hd.cells h)] w (fun e w' => ∃ se sl : Sl, (∃ v, e = .returned v) ∧ Box w' p 46 (Mg.cells { m with bk := ⟨h.k.up, se, sl⟩, mo := decide (h.k.up < topF h.k.up (decd ps)) }) ∧ OwE w' w.heap.size se es ∧ OwL w' w.heap.size sl ls ∧ Kept (Only p) w w') := by
  obtain ⟨C, hC⟩ : ∃ C : Ending → World → Prop, C = (fun e w' => ∃ se sl : Sl, (∃ v, e = .returned v) ∧ Box w' p 46 (Mg.cells { m with bk := ⟨h.k.up, se, sl⟩, mo := decide (h.k.up < topF h.k.up (decd ps)) }) ∧ OwE w' w.heap.size se es ∧ OwL w' w.heap.size sl ls ∧ Kept (Only p) w w') := ⟨_, rfl⟩
  have HC : Hid (C = (fun e w' => ∃ se sl : Sl, (∃ v, e = .returned v) ∧ Box w' p 46 (Mg.cells { m with bk := ⟨h.k.up, se, sl⟩, mo := decide (h.k.up < topF h.k.up (decd ps)) }) ∧ OwE w' w.heap.size se es ∧ OwL w' w.heap.size sl ls ∧ Kept (Only p) w w')) := hC
  rw [← hC]
  clear hC
  have HP : Hid (Box w p 46 (Mg.cells m)) := hp
  have HPl : Hid (p < w.heap.size) := hp.lt
  have HK : Hid (∀ W, Kept (Only p) w W → Calls Try.prog 38 #[.agg (Bv.cells h.k)] W (CopOut W h.k.up es ls)) := fun W hk => copied_any h.k es ls W (he.kept hk (fun k e f => hnE k e f)) (hl.kept hk (fun k e f => hnL k e f)) h1 h2
  have HTp : Hid (∀ W, Kept (Only p) w W → Calls Try.prog 39 #[.agg (Hd.cells h)] W (fun e w' => e = .returned (.int .i64 (topF h.k.up (decd ps))) ∧ Kept No W w')) := fun W hk => top_any h ps W (hr.kept hk (fun k e f => hne k e f)) (fun k e => Nat.lt_of_lt_of_le (hlt k e) hk.size) hm hg
  clear hp hne hnE hnL he hl h1 h2 hr hlt hm hg
  generalize topF h.k.up (decd ps) = T at HC HTp
  have HF : Hid (Fr (Only p) w w []) := Fr.start _ _
  go_enter Try.func22, Try.ntmps22
  go_upto_region 0 with fail
  refine WL.start ?_
  refine wp_runW (.pointer (some ⟨w.heap.size, 0, none⟩)) (w.alloc (.cells (Hd.cells h) 49)) (exec_box 49 _ rfl (Hd.cells h) (by kernel_rfl)) (by kernel_rfl) ?_
  try simp only [pS]
  have HP : Hid (Box (w.alloc (.cells (Hd.cells h) 49)) p 46 (Mg.cells m)) := HP.out.no ((Kept.refl No _).alloc _)
  have HF : Hid (Fr (Only p) w _ [(w.heap.size, 49, Hd.cells h)]) := HF.out.alloc _ _
  generalize w.alloc (.cells (Hd.cells h) 49) = wk2 at HF HP ⊢
  generalize w.heap.size = gk1 at HF ⊢
  refine WL.nil ?_
  try simp only [pS]
  go_upto_region 1 with fail
  refine wp_region_held_drew (S := fun w' => Box w' gk1 49 (Hd.cells h)) rfl (HF.out.box 0 _ _ _ rfl) (fun hH => ?_)
  have HP : Hid (Box (wk2.drew) p 46 (Mg.cells m)) := HP.out.no (Kept.refl No _).drew
  have HF : Hid (Fr (Only p) w (wk2.drew) [(gk1, 49, Hd.cells h)]) := HF.out.drew
  generalize wk2.drew = wk3 at HF HP hH ⊢
  refine aT (i := 0) (oi := { dst := some 4, op := Op.move (Operand.tmp 0), type := 77, pos := "have.go:18", after := #[], guard := none }) (v := .pointer (some ⟨p, 0, none⟩)) (fun _ _ => by kernel_rfl) hH ?_
  try simp only [pS]
  refine aT (i := 1) (oi := { dst := some 5, op := Op.move (Operand.tmp 0), type := 77, pos := "have.go:18", after := #[{ on := 13, ground := Ground.gcOnly Departure.lateStores }], guard := none }) (v := .pointer (some ⟨p, 0, none⟩)) (fun _ _ => by kernel_rfl) hH ?_
  try simp only [pS]
  refine aT (i := 2) (oi := { dst := some 6, op := Op.fieldAddr 49 (Operand.tmp 3) 1, type := 0, pos := "have.go:18", after := #[], guard := none }) (v := .pointer (some ⟨gk1, 3, none⟩)) (fun _ _ => by kernel_rfl) hH ?_
  try simp only [pS]
  refine aT (i := 3) (oi := { dst := some 7, op := Op.load 30 (Operand.tmp 6), type := 30, pos := "have.go:18", after := #[{ on := 2, ground := Ground.data }], guard := none }) (v := .agg (Bv.cells h.k)) (fun w' hw => eL 30 _ rfl ⟨gk1, 3, none⟩ (run_load_part (cs := Hd.cs h) (sub := Bv.cs h.k) (hw) (part_of (by kernel_rfl)) Try.und32 rfl Try.size32)) hH ?_
  try simp only [pS]
  refine aT (i := 5) (oi := { dst := some 9, op := Op.load 49 (Operand.tmp 3), type := 49, pos := "have.go:18", after := #[], guard := none }) (v := .agg (Hd.cells h)) (fun w' hw => eL 49 _ rfl ⟨gk1, 0, none⟩ (run_load_part (cs := Hd.cs h) (sub := Hd.cs h) (hw) (Part.all _) Try.und40 rfl Try.size40)) hH ?_
  try simp only [pS]
  refine aT (i := 7) (oi := { dst := some 11, op := Op.fieldAddr 49 (Operand.tmp 3) 1, type := 0, pos := "have.go:18", after := #[], guard := none }) (v := .pointer (some ⟨gk1, 3, none⟩)) (fun _ _ => by kernel_rfl) hH ?_
  try simp only [pS]
  refine aT (i := 8) (oi := { dst := some 12, op := Op.fieldAddr 30 (Operand.tmp 11) 0, type := 0, pos := "have.go:18", after := #[{ on := 7, ground := Ground.data }], guard := none }) (v := .pointer (some ⟨gk1, 3, none⟩)) (fun _ _ => by kernel_rfl) hH ?_
  try simp only [pS]
  refine aT (i := 9) (oi := { dst := some 13, op := Op.load 3 (Operand.tmp 12), type := 3, pos := "have.go:18", after := #[{ on := 8, ground := Ground.data }], guard := none }) (v := .int .i64 h.k.up) (fun w' hw => eL 3 _ rfl ⟨gk1, 3, none⟩ (load_one ((hw).cell 3 |>.trans (by kernel_rfl)) Try.und3 rfl)) hH ?_
  try simp only [pS]
  have HFs : Hid (w.heap.size ≤ wk3.heap.size) := HF.out.kept.size
  refine any_call (i := 4) (o := { dst := some 8, op := Op.call { callee := Callee.value (Operand.func 38), args := #[Operand.tmp 7], argTypes := #[30] }, type := 30, pos := "have.go:18", after := #[{ on := 3, ground := Ground.data }], guard := none }) rfl (by kernel_rfl) (by kernel_rfl) 38 #[.agg (Bv.cells h.k)] (by kernel_rfl) _ (HK.out _ HF.out.kept) ?_
  rintro e wk4 ⟨se, sl, rfl, ho, hp, hk⟩
  have hH2 : Box wk4 gk1 49 (Hd.cells h) := (hH.kept hk (fun e => e))
  have HP : Hid (Box (wk4) p 46 (Mg.cells m)) := HP.out.no hk
  have HF : Hid (Fr (Only p) w (wk4) [(gk1, 49, Hd.cells h)]) := HF.out.no hk
  have HO : Hid (OwE wk4 w.heap.size se es) := ho.lower HFs.out
  have HQ : Hid (OwL wk4 w.heap.size sl ls) := hp.lower HFs.out
  clear ho hp
  clear hk
  refine ⟨.agg (Bv.cells ⟨h.k.up, se, sl⟩), rfl, hH2, fun hH => ?_⟩
  clear hH2
  try simp only [pS]
  refine any_call (i := 6) (o := { dst := some 10, op := Op.call { callee := Callee.value (Operand.func 39), args := #[Operand.tmp 9], argTypes := #[49] }, type := 3, pos := "have.go:18", after := #[{ on := 5, ground := Ground.data }, { on := 4, ground := Ground.chain }], guard := none }) rfl (by kernel_rfl) (by kernel_rfl) 39 #[.agg (Hd.cells h)] (by kernel_rfl) _ (HTp.out _ HF.out.kept) ?_
  rintro e wk5 ⟨rfl, hk⟩
  have hH2 : Box wk5 gk1 49 (Hd.cells h) := (hH.kept hk (fun e => e))
  have HP : Hid (Box (wk5) p 46 (Mg.cells m)) := HP.out.no hk
  have HO : Hid (OwE (wk5) w.heap.size se es) := HO.out.no hk
  have HQ : Hid (OwL (wk5) w.heap.size sl ls) := HQ.out.no hk
  have HF : Hid (Fr (Only p) w (wk5) [(gk1, 49, Hd.cells h)]) := HF.out.no hk
  clear hk
  refine ⟨.int .i64 T, rfl, hH2, fun hH => ?_⟩
  clear hH2
  try simp only [pS]
  refine aT (i := 10) (oi := { dst := some 14, op := Op.binOp BinOp.gtr 3 (Operand.tmp 10) (Operand.tmp 13) 3, type := 4, pos := "have.go:18", after := #[{ on := 6, ground := Ground.data }, { on := 9, ground := Ground.data }], guard := none }) (v := .bool (decide (h.k.up < T))) (fun w' hw => eB .gtr 3 _ _ _ rfl (.int .i64 T) (.int .i64 h.k.up) _ (b_gtr _ _ _)) hH ?_
  try simp only [pS]
  refine aT (i := 11) (oi := { dst := some 15, op := Op.nilCheck (Operand.tmp 4), type := 0, pos := "have.go:18", after := #[{ on := 0, ground := Ground.data }, { on := 0, ground := Ground.phase }, { on := 1, ground := Ground.textOnly Departure.lateStores }, { on := 2, ground := Ground.phase }, { on := 3, ground := Ground.phase }, { on := 4, ground := Ground.phase }, { on := 5, ground := Ground.textOnly Departure.lateStores }, { on := 6, ground := Ground.phase }, { on := 7, ground := Ground.textOnly Departure.lateStores }, { on := 8, ground := Ground.textOnly Departure.lateStores }, { on := 9, ground := Ground.textOnly Departure.lateStores }, { on := 10, ground := Ground.textOnly Departure.lateStoresUnsure }], guard := none }) (v := .pointer (some ⟨p, 0, none⟩)) (fun _ _ => by kernel_rfl) hH ?_
  try simp only [pS]
  refine aT (i := 12) (oi := { dst := some 16, op := Op.fieldAddr 46 (Operand.tmp 15) 10, type := 0, pos := "have.go:18", after := #[{ on := 11, ground := Ground.data }, { on := 0, ground := Ground.phase }, { on := 1, ground := Ground.textOnly Departure.lateStores }, { on := 2, ground := Ground.phase }, { on := 3, ground := Ground.phase }, { on := 4, ground := Ground.phase }, { on := 5, ground := Ground.textOnly Departure.lateStores }, { on := 6, ground := Ground.phase }, { on := 7, ground := Ground.textOnly Departure.lateStores }, { on := 8, ground := Ground.textOnly Departure.lateStores }, { on := 9, ground := Ground.textOnly Departure.lateStores }, { on := 10, ground := Ground.textOnly Departure.lateStoresUnsure }], guard := none }) (v := .pointer (some ⟨p, 25, none⟩)) (fun _ _ => by kernel_rfl) hH ?_
  try simp only [pS]
  refine any_store (i := 13) (o := { dst := none, op := Op.store 30 (Operand.tmp 16) (Operand.tmp 8), type := 0, pos := "have.go:18", after := #[{ on := 12, ground := Ground.data }, { on := 4, ground := Ground.data }, { on := 6, ground := Ground.chain }, { on := 0, ground := Ground.phase }, { on := 1, ground := Ground.textOnly Departure.lateStores }, { on := 2, ground := Ground.phase }, { on := 3, ground := Ground.phase }, { on := 4, ground := Ground.phase }, { on := 5, ground := Ground.textOnly Departure.lateStores }, { on := 6, ground := Ground.phase }, { on := 7, ground := Ground.textOnly Departure.lateStores }, { on := 8, ground := Ground.textOnly Departure.lateStores }, { on := 9, ground := Ground.textOnly Departure.lateStores }, { on := 10, ground := Ground.textOnly Departure.lateStoresUnsure }], guard := none }) (w' := wk5.setRow p (Mg.cells ⟨m.k, m.fr, m.to, m.op, m.rd, m.ky, m.st, m.hd, m.bl, m.c, ⟨h.k.up, se, sl⟩, m.cm, m.mo⟩)) rfl (by kernel_rfl) (by kernel_rfl) 30 _ _ rfl ⟨p, 25, none⟩ (.agg (Bv.cells ⟨h.k.up, se, sl⟩)) (by kernel_rfl) (by kernel_rfl) (run_store_to (cur := Mg.cs m) (vs := Bv.cs ⟨h.k.up, se, sl⟩) (new := Mg.cs ⟨m.k, m.fr, m.to, m.op, m.rd, m.ky, m.st, m.hd, m.bl, m.c, ⟨h.k.up, se, sl⟩, m.cm, m.mo⟩) (HP.out) (by kernel_rfl) Try.size32 (Nat.le_of_ble_eq_true (by kernel_rfl)) (Bv.oneL _) (by kernel_rfl)) ((hH.rowNe (fun e => by have h1 := HF.out.low 0 _ _ _ rfl; have h2 := HPl.out; omega) _)) (fun hH => ?_)
  try simp only [pS]
  have HP : Hid (Box (wk5.setRow p (Mg.cells ⟨m.k, m.fr, m.to, m.op, m.rd, m.ky, m.st, m.hd, m.bl, m.c, ⟨h.k.up, se, sl⟩, m.cm, m.mo⟩)) p 46 (Mg.cells ⟨m.k, m.fr, m.to, m.op, m.rd, m.ky, m.st, m.hd, m.bl, m.c, ⟨h.k.up, se, sl⟩, m.cm, m.mo⟩)) := HP.out.setRow _
  have HO : Hid (OwE (wk5.setRow p (Mg.cells ⟨m.k, m.fr, m.to, m.op, m.rd, m.ky, m.st, m.hd, m.bl, m.c, ⟨h.k.up, se, sl⟩, m.cm, m.mo⟩)) w.heap.size se es) := HO.out.kept (Kept.setRow _ _ _) (fun k h e => by have h1 := HO.out.own.base h; have h2 := HPl.out; have e : k = p := e; omega)
  have HQ : Hid (OwL (wk5.setRow p (Mg.cells ⟨m.k, m.fr, m.to, m.op, m.rd, m.ky, m.st, m.hd, m.bl, m.c, ⟨h.k.up, se, sl⟩, m.cm, m.mo⟩)) w.heap.size sl ls) := HQ.out.kept (Kept.setRow _ _ _) (fun k h e => by have h1 := HQ.out.own.base h; have h2 := HPl.out; have e : k = p := e; omega)
  have HF : Hid (Fr (Only p) w (wk5.setRow p (Mg.cells ⟨m.k, m.fr, m.to, m.op, m.rd, m.ky, m.st, m.hd, m.bl, m.c, ⟨h.k.up, se, sl⟩, m.cm, m.mo⟩)) [(gk1, 49, Hd.cells h)]) := HF.out.via (Kept.setRow _ _ _) (fun k e => ⟨(show k = p from e) ▸ HPl.out, e⟩)
  generalize wk5.setRow p (Mg.cells ⟨m.k, m.fr, m.to, m.op, m.rd, m.ky, m.st, m.hd, m.bl, m.c, ⟨h.k.up, se, sl⟩, m.cm, m.mo⟩) = wk6 at HF HP HO HQ hH ⊢
  refine aT (i := 14) (oi := { dst := some 17, op := Op.nilCheck (Operand.tmp 5), type := 0, pos := "have.go:18", after := #[{ on := 1, ground := Ground.data }, { on := 0, ground := Ground.phase }, { on := 1, ground := Ground.phase }, { on := 2, ground := Ground.phase }, { on := 3, ground := Ground.phase }, { on := 4, ground := Ground.phase }, { on := 5, ground := Ground.phase }, { on := 6, ground := Ground.phase }, { on := 7, ground := Ground.phase }, { on := 8, ground := Ground.phase }, { on := 9, ground := Ground.phase }, { on := 10, ground := Ground.phase }, { on := 11, ground := Ground.phase }, { on := 12, ground := Ground.phase }, { on := 13, ground := Ground.phase }], guard := none }) (v := .pointer (some ⟨p, 0, none⟩)) (fun _ _ => by kernel_rfl) hH ?_
  try simp only [pS]
  refine aT (i := 15) (oi := { dst := some 18, op := Op.fieldAddr 46 (Operand.tmp 17) 12, type := 0, pos := "have.go:18", after := #[{ on := 14, ground := Ground.data }, { on := 0, ground := Ground.phase }, { on := 1, ground := Ground.phase }, { on := 2, ground := Ground.phase }, { on := 3, ground := Ground.phase }, { on := 4, ground := Ground.phase }, { on := 5, ground := Ground.phase }, { on := 6, ground := Ground.phase }, { on := 7, ground := Ground.phase }, { on := 8, ground := Ground.phase }, { on := 9, ground := Ground.phase }, { on := 10, ground := Ground.phase }, { on := 11, ground := Ground.phase }, { on := 12, ground := Ground.phase }, { on := 13, ground := Ground.phase }], guard := none }) (v := .pointer (some ⟨p, 29, none⟩)) (fun _ _ => by kernel_rfl) hH ?_
  try simp only [pS]
  refine any_store (i := 16) (o := { dst := none, op := Op.store 4 (Operand.tmp 18) (Operand.tmp 14), type := 0, pos := "have.go:18", after := #[{ on := 15, ground := Ground.data }, { on := 10, ground := Ground.data }, { on := 13, ground := Ground.chain }, { on := 0, ground := Ground.phase }, { on := 1, ground := Ground.phase }, { on := 2, ground := Ground.phase }, { on := 3, ground := Ground.phase }, { on := 4, ground := Ground.phase }, { on := 5, ground := Ground.phase }, { on := 6, ground := Ground.phase }, { on := 7, ground := Ground.phase }, { on := 8, ground := Ground.phase }, { on := 9, ground := Ground.phase }, { on := 10, ground := Ground.phase }, { on := 11, ground := Ground.phase }, { on := 12, ground := Ground.phase }, { on := 13, ground := Ground.phase }], guard := none }) (w' := wk6.setRow p (Mg.cells ⟨m.k, m.fr, m.to, m.op, m.rd, m.ky, m.st, m.hd, m.bl, m.c, ⟨h.k.up, se, sl⟩, m.cm, (decide (h.k.up < T))⟩)) rfl (by kernel_rfl) (by kernel_rfl) 4 _ _ rfl ⟨p, 29, none⟩ (.bool (decide (h.k.up < T))) (by kernel_rfl) (by kernel_rfl) (run_store_to (cur := Mg.cs ⟨m.k, m.fr, m.to, m.op, m.rd, m.ky, m.st, m.hd, m.bl, m.c, ⟨h.k.up, se, sl⟩, m.cm, m.mo⟩) (vs := [.bool (decide (h.k.up < T))]) (new := Mg.cs ⟨m.k, m.fr, m.to, m.op, m.rd, m.ky, m.st, m.hd, m.bl, m.c, ⟨h.k.up, se, sl⟩, m.cm, (decide (h.k.up < T))⟩) (HP.out) (by kernel_rfl) Try.size4 (Nat.le_of_ble_eq_true (by kernel_rfl)) (by simp [Value.oneCell', Sl.v]) (by kernel_rfl)) ((hH.rowNe (fun e => by have h1 := HF.out.low 0 _ _ _ rfl; have h2 := HPl.out; omega) _)) (fun hH => ?_)
  try simp only [pS]
  have HP : Hid (Box (wk6.setRow p (Mg.cells ⟨m.k, m.fr, m.to, m.op, m.rd, m.ky, m.st, m.hd, m.bl, m.c, ⟨h.k.up, se, sl⟩, m.cm, (decide (h.k.up < T))⟩)) p 46 (Mg.cells ⟨m.k, m.fr, m.to, m.op, m.rd, m.ky, m.st, m.hd, m.bl, m.c, ⟨h.k.up, se, sl⟩, m.cm, (decide (h.k.up < T))⟩)) := HP.out.setRow _
  have HO : Hid (OwE (wk6.setRow p (Mg.cells ⟨m.k, m.fr, m.to, m.op, m.rd, m.ky, m.st, m.hd, m.bl, m.c, ⟨h.k.up, se, sl⟩, m.cm, (decide (h.k.up < T))⟩)) w.heap.size se es) := HO.out.kept (Kept.setRow _ _ _) (fun k h e => by have h1 := HO.out.own.base h; have h2 := HPl.out; have e : k = p := e; omega)
  have HQ : Hid (OwL (wk6.setRow p (Mg.cells ⟨m.k, m.fr, m.to, m.op, m.rd, m.ky, m.st, m.hd, m.bl, m.c, ⟨h.k.up, se, sl⟩, m.cm, (decide (h.k.up < T))⟩)) w.heap.size sl ls) := HQ.out.kept (Kept.setRow _ _ _) (fun k h e => by have h1 := HQ.out.own.base h; have h2 := HPl.out; have e : k = p := e; omega)
  have HF : Hid (Fr (Only p) w (wk6.setRow p (Mg.cells ⟨m.k, m.fr, m.to, m.op, m.rd, m.ky, m.st, m.hd, m.bl, m.c, ⟨h.k.up, se, sl⟩, m.cm, (decide (h.k.up < T))⟩)) [(gk1, 49, Hd.cells h)]) := HF.out.via (Kept.setRow _ _ _) (fun k e => ⟨(show k = p from e) ▸ HPl.out, e⟩)
  generalize wk6.setRow p (Mg.cells ⟨m.k, m.fr, m.to, m.op, m.rd, m.ky, m.st, m.hd, m.bl, m.c, ⟨h.k.up, se, sl⟩, m.cm, (decide (h.k.up < T))⟩) = wk7 at HF HP HO HQ hH ⊢
  refine wpAnyH_done (by kernel_rfl) ?_ _
  try simp only [pS]
  clear hH
  go_end0
  rw [HC.out]
  exact ⟨se, sl, ⟨_, rfl⟩, HP.out, HO.out, HQ.out, HF.out.kept⟩

end Go.Proofs.Ytcgnbpaaalmkoab
