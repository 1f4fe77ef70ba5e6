import Derived.Test.YtcgnbpaaalmkoaaEd
namespace Go.Proofs.Ytcgnbpaaalmkoaa
open Go.RowKit
set_option linter.unusedVariables false
set_option linter.unusedSimpArgs false

set_option maxRecDepth 100000 in
set_option maxHeartbeats 4000000 in
theorem below_any (a b : Sp) (w : World) : Calls Try.prog 54 #[.agg (Sp.cells a), .agg (Sp.cells b)] w (fun e w' => e = .returned (.bool (lessB a b)) ∧ Kept No w w') := by
 obtain ⟨C, hC⟩ : ∃ C : Ending → World → Prop, C = (fun e w' => e = .returned (.bool (lessB a b)) ∧ Kept No w w') := ⟨_, rfl⟩
 have HC : Hid (C = (fun e w' => e = .returned (.bool (lessB a b)) ∧ Kept No w w')) := hC
 rw [← hC]
 clear hC
 have HF : Hid (Fr No w w []) := Fr.start _ _
 go_enter Try.func54, Try.ntmps54
 go_upto_region 0 with fail
 refine WL.start ?_
 refine wp_runW (.pointer (some ⟨w.heap.size, 0, none⟩)) (w.alloc (.cells (Sp.cells a) 25)) (exec_box 25 _ rfl (Sp.cells a) (by kernel_rfl)) (by kernel_rfl) ?_
 try simp only [pS]
 have HF : Hid (Fr No w _ [(w.heap.size, 25, Sp.cells a)]) := HF.out.alloc _ _
 generalize w.alloc (.cells (Sp.cells a) 25) = wk2 at HF ⊢
 generalize w.heap.size = gk1 at HF ⊢
 refine wp_runW (.pointer (some ⟨wk2.heap.size, 0, none⟩)) (wk2.alloc (.cells (Sp.cells b) 25)) (exec_box 25 _ rfl (Sp.cells b) (by kernel_rfl)) (by kernel_rfl) ?_
 try simp only [pS]
 have HF : Hid (Fr No w _ [(gk1, 25, Sp.cells a), (wk2.heap.size, 25, Sp.cells b)]) := HF.out.alloc _ _
 generalize wk2.alloc (.cells (Sp.cells b) 25) = wk4 at HF ⊢
 generalize wk2.heap.size = gk3 at HF ⊢
 refine tK (.bool false) ?_
 try simp only [pS]
 refine WL.nil ?_
 try simp only [pS]
 go_upto_region 1 with fail
 refine WL.start ?_
 refine tK (.pointer (some ⟨gk1, 0, none⟩)) ?_
 refine tW (.int .i64 a.n) (eL 3 _ rfl ⟨gk1, 0, none⟩ (load_one ((HF.out.box 0 _ _ _ rfl).cell 0 |>.trans (by kernel_rfl)) Try.und3 rfl)) ?_
 refine tK (.pointer (some ⟨gk3, 0, none⟩)) ?_
 refine tW (.int .i64 b.n) (eL 3 _ rfl ⟨gk3, 0, none⟩ (load_one ((HF.out.box 1 _ _ _ rfl).cell 0 |>.trans (by kernel_rfl)) Try.und3 rfl)) ?_
 try simp only [pS]
 cases q1 : (decide (a.n < b.n))
 ·skip
  refine tW (.bool false) (eB .lss 3 _ _ _ rfl (.int .i64 a.n) (.int .i64 b.n) _ (by rw [b_lss, q1]; try rfl)) ?_
  refine tK (.bool false) ?_
  refine tK (.pointer (some ⟨gk1, 0, none⟩)) ?_
  refine tW (.int .i64 a.n) (eL 3 _ rfl ⟨gk1, 0, none⟩ (load_one ((HF.out.box 0 _ _ _ rfl).cell 0 |>.trans (by kernel_rfl)) Try.und3 rfl)) ?_
  refine tK (.pointer (some ⟨gk3, 0, none⟩)) ?_
  refine tW (.int .i64 b.n) (eL 3 _ rfl ⟨gk3, 0, none⟩ (load_one ((HF.out.box 1 _ _ _ rfl).cell 0 |>.trans (by kernel_rfl)) Try.und3 rfl)) ?_
  try simp only [pS]
  cases q2 : (a.n == b.n)
  ·skip
   refine tW (.bool false) (eB .eql 3 _ _ _ rfl (.int .i64 a.n) (.int .i64 b.n) _ (by rw [b_eql, q2]; try rfl)) ?_
   refine tK (.bool false) ?_
   refine sK ?_
   refine sK ?_
   refine sK ?_
   refine sK ?_
   refine sK ?_
   refine tK (.bool false) ?_
   refine tK (.bool false) ?_
   refine tK (.bool false) ?_
   try simp only [pS]
   refine WL.nil ?_
   try simp only [pS]
   go_wp2
   rw [HC.out]
   exact ⟨ret_b (by unfold lessB; rw [if_neg (by rw [q2]; simp), q1]), HF.out.kept⟩
  ·skip
   refine tW (.bool true) (eB .eql 3 _ _ _ rfl (.int .i64 a.n) (.int .i64 b.n) _ (by rw [b_eql, q2]; try rfl)) ?_
   refine tK (.bool true) ?_
   refine tK (.pointer (some ⟨gk1, 1, none⟩)) ?_
   refine tW (.int .i64 a.c) (eL 3 _ rfl ⟨gk1, 1, none⟩ (load_one ((HF.out.box 0 _ _ _ rfl).cell 1 |>.trans (by kernel_rfl)) Try.und3 rfl)) ?_
   refine tK (.pointer (some ⟨gk3, 1, none⟩)) ?_
   refine tW (.int .i64 b.c) (eL 3 _ rfl ⟨gk3, 1, none⟩ (load_one ((HF.out.box 1 _ _ _ rfl).cell 1 |>.trans (by kernel_rfl)) Try.und3 rfl)) ?_
   try simp only [pS]
   cases q3 : (decide (a.c < b.c))
   ·skip
    refine tW (.bool false) (eB .lss 3 _ _ _ rfl (.int .i64 a.c) (.int .i64 b.c) _ (by rw [b_lss, q3]; try rfl)) ?_
    refine tK (.bool false) ?_
    refine tK (.bool false) ?_
    refine tK (.bool false) ?_
    try simp only [pS]
    refine WL.nil ?_
    try simp only [pS]
    go_wp2
    rw [HC.out]
    exact ⟨ret_b (by unfold lessB; rw [if_pos q2, q3]), HF.out.kept⟩
   ·skip
    refine tW (.bool true) (eB .lss 3 _ _ _ rfl (.int .i64 a.c) (.int .i64 b.c) _ (by rw [b_lss, q3]; try rfl)) ?_
    refine tK (.bool true) ?_
    refine tK (.bool true) ?_
    refine tK (.bool true) ?_
    try simp only [pS]
    refine WL.nil ?_
    try simp only [pS]
    go_wp2
    rw [HC.out]
    exact ⟨ret_b (by unfold lessB; rw [if_pos q2, q3]), HF.out.kept⟩
 ·skip
  refine tW (.bool true) (eB .lss 3 _ _ _ rfl (.int .i64 a.n) (.int .i64 b.n) _ (by rw [b_lss, q1]; try rfl)) ?_
  refine tK (.bool true) ?_
  refine sK ?_
  refine sK ?_
  refine sK ?_
  refine sK ?_
  refine sK ?_
  refine sK ?_
  refine sK ?_
  refine sK ?_
  refine sK ?_
  refine sK ?_
  refine sK ?_
  refine sK ?_
  refine tK (.bool true) ?_
  refine tK (.bool true) ?_
  try simp only [pS]
  refine WL.nil ?_
  try simp only [pS]
  go_wp2
  rw [HC.out]
  exact ⟨ret_b (by unfold lessB; have u := of_decide_eq_true q1; rw [if_neg (by simp; omega), q1]), HF.out.kept⟩
def knowB (h : Hd) (ps : List Pl) (i : Int) : Bool := decide (i ≤ h.k.up) || (atF i ps).d
set_option maxRecDepth 100000 in
set_option maxHeartbeats 4000000 in
theorem knows_any (h : Hd) (ps : List Pl) (q : Int) (w : World) (hr : RdP w h.r ps) (hm : ps.length ≤ 10000000000000) : Calls Try.prog 30 #[.agg (Hd.cells h), .int .i64 q] w (fun e w' => e = .returned (.bool (knowB h ps q)) ∧ Kept No w w') := by
 obtain ⟨C, hC⟩ : ∃ C : Ending → World → Prop, C = (fun e w' => e = .returned (.bool (knowB h ps q)) ∧ Kept No w w') := ⟨_, rfl⟩
 have HC : Hid (C = (fun e w' => e = .returned (.bool (knowB h ps q)) ∧ Kept No w w')) := hC
 rw [← hC]
 clear hC
 have HR : Hid (RdP w h.r ps) := hr
 obtain ⟨x, hx⟩ : ∃ x, x = atF q ps := ⟨_, rfl⟩
 have HX : Hid (atF q ps = x) := hx.symm
 clear hr hx
 have HF : Hid (Fr No w w []) := Fr.start _ _
 go_enter Try.func30, Try.ntmps30
 go_upto_region 0 with fail
 refine WL.start ?_
 refine wp_runW (.pointer (some ⟨w.heap.size, 0, none⟩)) (w.alloc (.cells (Hd.cells h) 35)) (exec_box 35 _ rfl (Hd.cells h) (by kernel_rfl)) (by kernel_rfl) ?_
 try simp only [pS]
 have HF : Hid (Fr No w _ [(w.heap.size, 35, Hd.cells h)]) := HF.out.alloc _ _
 generalize w.alloc (.cells (Hd.cells h) 35) = wk2 at HF ⊢
 generalize w.heap.size = gk1 at HF ⊢
 refine tK (.bool false) ?_
 try simp only [pS]
 refine WL.nil ?_
 try simp only [pS]
 go_upto_region 1 with fail
 refine WL.start ?_
 refine tK (.int .i64 q) ?_
 refine tK (.pointer (some ⟨gk1, 3, none⟩)) ?_
 refine tK (.pointer (some ⟨gk1, 3, none⟩)) ?_
 refine tW (.int .i64 h.k.up) (eL 3 _ rfl ⟨gk1, 3, none⟩ (load_one ((HF.out.box 0 _ _ _ rfl).cell 3 |>.trans (by kernel_rfl)) Try.und3 rfl)) ?_
 try simp only [pS]
 cases q1 : (decide (q ≤ h.k.up))
 ·skip
  refine tW (.bool false) (eB .leq 3 _ _ _ rfl (.int .i64 q) (.int .i64 h.k.up) _ (by rw [b_leq, q1]; try rfl)) ?_
  refine tK (.bool false) ?_
  refine tW (.agg (Hd.cells h)) (eL 35 _ rfl ⟨gk1, 0, none⟩ (run_load_part (cs := Hd.cs h) (sub := Hd.cs h) (HF.out.box 0 _ _ _ rfl) (Part.all _) Try.und35 rfl Try.size35)) ?_
  refine tK (.int .i64 q) ?_
  try simp only [pS]
  refine wp_callW 46 #[.agg (Hd.cells h), .int .i64 q] (by kernel_rfl) _ (refAt_any h ps q _ (HR.out.no HF.out.kept) hm) (by kernel_rfl) ?_
  rintro e wk3 ⟨rfl, hk⟩
  rw [HX.out]
  have HF : Hid (Fr No w (wk3) [(gk1, 35, Hd.cells h)]) := HF.out.no hk
  clear hk
  refine ⟨.agg (In.cells x), rfl, ?_⟩
  try simp only [pS]
  refine tK (.bool x.d) ?_
  refine tK (.bool x.d) ?_
  refine tK (.bool x.d) ?_
  try simp only [pS]
  refine WL.nil ?_
  try simp only [pS]
  go_wp2
  rw [HC.out]
  exact ⟨ret_b (by unfold knowB; rw [q1, HX.out]; rfl), HF.out.kept⟩
 ·skip
  refine tW (.bool true) (eB .leq 3 _ _ _ rfl (.int .i64 q) (.int .i64 h.k.up) _ (by rw [b_leq, q1]; try rfl)) ?_
  refine tK (.bool true) ?_
  refine sK ?_
  refine sK ?_
  refine sK ?_
  refine sK ?_
  refine tK (.bool true) ?_
  refine tK (.bool true) ?_
  try simp only [pS]
  refine WL.nil ?_
  try simp only [pS]
  go_wp2
  rw [HC.out]
  exact ⟨ret_b (by unfold knowB; rw [q1]; rfl), HF.out.kept⟩
set_option maxRecDepth 100000 in
set_option maxHeartbeats 4000000 in
theorem plain_any (c : Ch) (w : World) : Calls Try.prog 53 #[.agg (Ch.cells c)] w (fun e w' => e = .returned (.agg (Ch.cells c)) ∧ Kept No w w') := by
 obtain ⟨C, hC⟩ : ∃ C : Ending → World → Prop, C = (fun e w' => e = .returned (.agg (Ch.cells c)) ∧ Kept No w w') := ⟨_, rfl⟩
 have HC : Hid (C = (fun e w' => e = .returned (.agg (Ch.cells c)) ∧ Kept No w w')) := hC
 rw [← hC]
 clear hC
 have HF : Hid (Fr No w w []) := Fr.start _ _
 go_enter Try.func53, Try.ntmps53
 go_upto_region 0 with fail
 refine WL.start ?_
 refine wp_runW (.pointer (some ⟨w.heap.size, 0, none⟩)) (w.alloc (.cells (Ch.cells c) 88)) (exec_box 88 _ rfl (Ch.cells c) (by kernel_rfl)) (by kernel_rfl) ?_
 try simp only [pS]
 have HF : Hid (Fr No w _ [(w.heap.size, 88, Ch.cells c)]) := HF.out.alloc _ _
 generalize w.alloc (.cells (Ch.cells c) 88) = wk2 at HF ⊢
 generalize w.heap.size = gk1 at HF ⊢
 refine wp_runW (.pointer (some ⟨wk2.heap.size, 0, none⟩)) (wk2.alloc (.cells (Ch.cells chZ) 72)) (exec_alloc 72 rfl (Ch.cells chZ) zero72) (by kernel_rfl) ?_
 try simp only [pS]
 have HF : Hid (Fr No w _ [(gk1, 88, Ch.cells c), (wk2.heap.size, 72, Ch.cells chZ)]) := HF.out.alloc _ _
 generalize wk2.alloc (.cells (Ch.cells chZ) 72) = wk4 at HF ⊢
 generalize wk2.heap.size = gk3 at HF ⊢
 refine WL.nil ?_
 try simp only [pS]
 go_upto_region 1 with fail
 refine WL.start ?_
 refine tK (.pointer (some ⟨gk1, 0, none⟩)) ?_
 refine tW (.agg (Ky.cells c.ky)) (eL 23 _ rfl ⟨gk1, 0, none⟩ (run_load_part (cs := Ch.cs c) (sub := Ky.cs c.ky) (HF.out.box 0 _ _ _ rfl) (part_of (by kernel_rfl)) Try.und23 rfl Try.size23)) ?_
 refine tK (.pointer (some ⟨gk1, 4, none⟩)) ?_
 refine tW (.agg (Bl.cells c.b)) (eL 28 _ rfl ⟨gk1, 4, none⟩ (run_load_part (cs := Ch.cs c) (sub := Bl.cs c.b) (HF.out.box 0 _ _ _ rfl) (part_of (by kernel_rfl)) Try.und28 rfl Try.size28)) ?_
 refine tK (.pointer (some ⟨gk1, 7, none⟩)) ?_
 refine tW (.agg (In.cells c.i)) (eL 70 _ rfl ⟨gk1, 7, none⟩ (run_load_part (cs := Ch.cs c) (sub := In.cs c.i) (HF.out.box 0 _ _ _ rfl) (part_of (by kernel_rfl)) Try.und70 rfl Try.size70)) ?_
 refine tK (.pointer (some ⟨gk1, 21, none⟩)) ?_
 refine tW (.agg (Bv.cells c.bk)) (eL 32 _ rfl ⟨gk1, 21, none⟩ (run_load_part (cs := Ch.cs c) (sub := Bv.cs c.bk) (HF.out.box 0 _ _ _ rfl) (part_of (by kernel_rfl)) Try.und32 rfl Try.size32)) ?_
 refine tW (.agg (Ch.cells ⟨c.ky, c.b, c.i, c.bk⟩)) (exec_build 72 _ rfl (Ch.cells ⟨c.ky, c.b, c.i, c.bk⟩) (by kernel_rfl)) ?_
 try simp only [pS]
 refine wp_storeW 72 _ _ rfl ⟨gk3, 0, none⟩ (.agg (Ch.cells ⟨c.ky, c.b, c.i, c.bk⟩)) (by kernel_rfl) (by kernel_rfl) (wk4.setRow gk3 (Ch.cells ⟨c.ky, c.b, c.i, c.bk⟩)) (run_store_to (cur := Ch.cs chZ) (vs := Ch.cs ⟨c.ky, c.b, c.i, c.bk⟩) (new := Ch.cs ⟨c.ky, c.b, c.i, c.bk⟩) (HF.out.box 1 _ _ _ rfl) (by kernel_rfl) Try.size72 (Nat.le_of_ble_eq_true (by kernel_rfl)) (Ch.oneL _) (by kernel_rfl)) (by kernel_rfl) ?_
 try simp only [pS]
 have HF : Hid (Fr No w _ [(gk1, 88, Ch.cells c), (gk3, 72, Ch.cells ⟨c.ky, c.b, c.i, c.bk⟩)]) := HF.out.set 1 rfl _
 generalize wk4.setRow gk3 (Ch.cells ⟨c.ky, c.b, c.i, c.bk⟩) = wk5 at HF ⊢
 refine WL.nil ?_
 try simp only [pS]
 go_wp2
 rw [HC.out]
 refine bodyPost_ret (results_row1 (by rfl) _ _ gk3 (Ch.cells ⟨c.ky, c.b, c.i, c.bk⟩) (by rfl) (run_load_part (cs := Ch.cs ⟨c.ky, c.b, c.i, c.bk⟩) (sub := Ch.cs ⟨c.ky, c.b, c.i, c.bk⟩) (HF.out.box 1 _ _ _ rfl) (Part.all _) Try.und72 rfl Try.size72)) rfl ?_
 exact ⟨rfl, HF.out.kept⟩
set_option maxRecDepth 100000 in
set_option maxHeartbeats 1000000 in
theorem rnd_any (v : Int) (n : Nat) (w : World) (hn : 0 < n) (hb : n ≤ 1000000) : Calls Try.prog 26 #[.int .i64 v, .int .i64 n] w (fun e w' => ∃ r : Nat, r < n ∧ e = .returned (.int .i64 r) ∧ w' = w) := by
 have hn0 : ¬ (n : Int) = 0 := by omega
 have hn1 : ¬ (n : Int) < 1 := by omega
 have h1 : v.tmod n < n := Int.tmod_lt_of_pos v (by omega)
 have h2 : -(n : Int) < v.tmod n := by
  have := Int.lt_tmod_of_pos v (b := (n : Int)) (by omega)
  omega
 have hm : IntKind.i64.wrap (v.tmod n) = v.tmod n := by rw [IntKind.wrap_i64]; omega
 generalize hq : v.tmod n = q at h1 h2 hm
 have HQ : Hid (v.tmod n = q) := hq
 by_cases hneg : q < 0
 · have e : ∃ r : Nat, (r : Int) = q + n ∧ r < n := ⟨(q + n).toNat, by omega, by omega⟩
   obtain ⟨r, hr, hrn⟩ := e
   have hw : IntKind.i64.wrap (q + n) = r := by rw [← hr, IntKind.wrap_i64]; omega
   go_enter Try.func26, Try.ntmps26
   go_wp2
   go_ret
   exact ⟨r, hrn, by simp_all, rfl⟩
 · have e : ∃ r : Nat, (r : Int) = q ∧ r < n := ⟨q.toNat, by omega, by omega⟩
   obtain ⟨r, hr, hrn⟩ := e
   go_enter Try.func26, Try.ntmps26
   go_wp2
   go_ret
   exact ⟨r, hrn, by simp_all, rfl⟩


end Go.Proofs.Ytcgnbpaaalmkoaa
