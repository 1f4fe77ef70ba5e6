import Derived.Test.YtfemlnfknebalaaV
namespace Go.Proofs.Ytfemlnfknebalaa
open Go.RowKit
set_option linter.unusedVariables false
set_option linter.unusedSimpArgs false

def sameB (u1 : Int) (e1 : List En) (l1 : List La) (u2 : Int) (e2 : List En) (l2 : List La) : Bool := u1 == u2 && sameE e1 e2 && sameL l1 l2
def sameA (r1 : Int) (x1 : En) (l1 : List En) (r2 : Int) (x2 : En) (l2 : List En) : Bool := r1 == r2 && eqE x1 x2 && sameE l1 l2
set_option maxRecDepth 100000 in
set_option maxHeartbeats 4000000 in
theorem sameB_any (u1 : Int) (a1 : Option Addr) (n1 c1 : Nat) (b1 : Option Addr) (m1 d1 : Nat) (u2 : Int) (a2 : Option Addr) (n2 c2 : Nat) (b2 : Option Addr) (m2 d2 : Nat) (e1 e2 : List En) (l1 l2 : List La) (w : World) (h1 : RdE w ⟨a1, n1, c1⟩ e1) (h2 : RdE w ⟨a2, n2, c2⟩ e2) (k1 : RdL w ⟨b1, m1, d1⟩ l1) (k2 : RdL w ⟨b2, m2, d2⟩ l2) (hn : n1 ≤ 140737488355328) (hm : m1 ≤ 140737488355328) : Calls Try.prog 15 #[.agg (Bv.cells ⟨u1, ⟨a1, n1, c1⟩, ⟨b1, m1, d1⟩⟩), .agg (Bv.cells ⟨u2, ⟨a2, n2, c2⟩, ⟨b2, m2, d2⟩⟩)] w (fun e w' => e = .returned (.bool (sameB u1 e1 l1 u2 e2 l2)) ∧ Kept No w w') := by
  obtain ⟨C, hC⟩ : ∃ C : Ending → World → Prop, C = (fun e w' => e = .returned (.bool (sameB u1 e1 l1 u2 e2 l2)) ∧ Kept No w w') := ⟨_, rfl⟩
  have HC : Hid (C = (fun e w' => e = .returned (.bool (sameB u1 e1 l1 u2 e2 l2)) ∧ Kept No w w')) := hC
  rw [← hC]
  clear hC
  have H1 : Hid (RdE w ⟨a1, n1, c1⟩ e1) := h1
  have H2 : Hid (RdE w ⟨a2, n2, c2⟩ e2) := h2
  have K1 : Hid (RdL w ⟨b1, m1, d1⟩ l1) := k1
  have K2 : Hid (RdL w ⟨b2, m2, d2⟩ l2) := k2
  clear h1 h2 k1 k2
  have HF : Hid (Fr No w w []) := Fr.start _ _
  go_enter Try.func15, Try.ntmps15
  go_upto_region 0 with fail
  refine WL.start ?_
  refine wp_runW (.pointer (some ⟨w.heap.size, 0, none⟩)) (w.alloc (.cells (Bv.cells ⟨u1, ⟨a1, n1, c1⟩, ⟨b1, m1, d1⟩⟩) 25)) (exec_box 25 _ rfl (Bv.cells ⟨u1, ⟨a1, n1, c1⟩, ⟨b1, m1, d1⟩⟩) (by kernel_rfl)) (by kernel_rfl) ?_
  try simp only [pA, pB, p1, p2, p3]
  have HF : Hid (Fr No w (w.alloc (.cells (Bv.cells ⟨u1, ⟨a1, n1, c1⟩, ⟨b1, m1, d1⟩⟩) 25)) [(w.heap.size, 25, Bv.cells ⟨u1, ⟨a1, n1, c1⟩, ⟨b1, m1, d1⟩⟩)]) := HF.out.alloc _ _
  generalize w.alloc (.cells (Bv.cells ⟨u1, ⟨a1, n1, c1⟩, ⟨b1, m1, d1⟩⟩) 25) = wk2 at HF ⊢
  generalize w.heap.size = gk1 at HF ⊢
  refine wp_runW (.pointer (some ⟨wk2.heap.size, 0, none⟩)) (wk2.alloc (.cells (Bv.cells ⟨u2, ⟨a2, n2, c2⟩, ⟨b2, m2, d2⟩⟩) 25)) (exec_box 25 _ rfl (Bv.cells ⟨u2, ⟨a2, n2, c2⟩, ⟨b2, m2, d2⟩⟩) (by kernel_rfl)) (by kernel_rfl) ?_
  try simp only [pA, pB, p1, p2, p3]
  have HF : Hid (Fr No w (wk2.alloc (.cells (Bv.cells ⟨u2, ⟨a2, n2, c2⟩, ⟨b2, m2, d2⟩⟩) 25)) [(gk1, 25, Bv.cells ⟨u1, ⟨a1, n1, c1⟩, ⟨b1, m1, d1⟩⟩), (wk2.heap.size, 25, Bv.cells ⟨u2, ⟨a2, n2, c2⟩, ⟨b2, m2, d2⟩⟩)]) := HF.out.alloc _ _
  generalize wk2.alloc (.cells (Bv.cells ⟨u2, ⟨a2, n2, c2⟩, ⟨b2, m2, d2⟩⟩) 25) = wk4 at HF ⊢
  generalize wk2.heap.size = gk3 at HF ⊢
  refine tK (.bool false) ?_
  try simp only [pA, pB, p1, p2, p3]
  refine WL.nil ?_
  try simp only [pA, pB, p1, p2, p3]
  go_upto_region 1 with fail
  refine WL.start ?_
  refine tK (.pointer (some ⟨gk1, 0, none⟩)) ?_
  try simp only [pA, pB, p1, p2, p3]
  refine tW (.int .i64 u1) (exec_load 3 _ rfl ⟨gk1, 0, none⟩ (by kernel_rfl) (.int .i64 u1) (ld3 ((HF.out.box 0 _ _ _ rfl).cell 0))) ?_
  try simp only [pA, pB, p1, p2, p3]
  refine tK (.pointer (some ⟨gk3, 0, none⟩)) ?_
  try simp only [pA, pB, p1, p2, p3]
  refine tW (.int .i64 u2) (exec_load 3 _ rfl ⟨gk3, 0, none⟩ (by kernel_rfl) (.int .i64 u2) (ld3 ((HF.out.box 1 _ _ _ rfl).cell 0))) ?_
  try simp only [pA, pB, p1, p2, p3]
  cases q1 : (u1 == u2)
  ·skip
   refine tW (.bool false) (exec_bin .eql 3 _ _ _ rfl (.int .i64 u1) (.int .i64 u2) (.bool false) (by kernel_rfl) (by kernel_rfl) (by kernel_rfl) (by rw [b_eql, q1]; try rfl)) ?_
   try simp only [pA, pB, p1, p2, p3]
   refine tK (.bool false) ?_
   try simp only [pA, pB, p1, p2, p3]
   refine sK ?_
   try simp only [pA, pB, p1, p2, p3]
   refine sK ?_
   try simp only [pA, pB, p1, p2, p3]
   refine sK ?_
   try simp only [pA, pB, p1, p2, p3]
   refine sK ?_
   try simp only [pA, pB, p1, p2, p3]
   refine sK ?_
   try simp only [pA, pB, p1, p2, p3]
   refine tK (.bool false) ?_
   try simp only [pA, pB, p1, p2, p3]
   refine tK (.bool false) ?_
   try simp only [pA, pB, p1, p2, p3]
   refine sK ?_
   try simp only [pA, pB, p1, p2, p3]
   refine sK ?_
   try simp only [pA, pB, p1, p2, p3]
   refine sK ?_
   try simp only [pA, pB, p1, p2, p3]
   refine sK ?_
   try simp only [pA, pB, p1, p2, p3]
   refine sK ?_
   try simp only [pA, pB, p1, p2, p3]
   refine tK (.bool false) ?_
   try simp only [pA, pB, p1, p2, p3]
   refine tK (.bool false) ?_
   try simp only [pA, pB, p1, p2, p3]
   refine WL.nil ?_
   try simp only [pA, pB, p1, p2, p3]
   have hv : sameB u1 e1 l1 u2 e2 l2 = false := by simp [sameB, q1]
   go_wp2
   rw [HC.out]
   exact ⟨by rw [hv]; rfl, HF.out.kept⟩
  ·skip
   refine tW (.bool true) (exec_bin .eql 3 _ _ _ rfl (.int .i64 u1) (.int .i64 u2) (.bool true) (by kernel_rfl) (by kernel_rfl) (by kernel_rfl) (by rw [b_eql, q1]; try rfl)) ?_
   try simp only [pA, pB, p1, p2, p3]
   refine tK (.bool true) ?_
   try simp only [pA, pB, p1, p2, p3]
   refine tK (.pointer (some ⟨gk1, 1, none⟩)) ?_
   try simp only [pA, pB, p1, p2, p3]
   refine tW (.slice a1 n1 c1) (exec_load 22 _ rfl ⟨gk1, 1, none⟩ (by kernel_rfl) (.slice a1 n1 c1) (ld22 ((HF.out.box 0 _ _ _ rfl).cell 1))) ?_
   try simp only [pA, pB, p1, p2, p3]
   refine tK (.pointer (some ⟨gk3, 1, none⟩)) ?_
   try simp only [pA, pB, p1, p2, p3]
   refine tW (.slice a2 n2 c2) (exec_load 22 _ rfl ⟨gk3, 1, none⟩ (by kernel_rfl) (.slice a2 n2 c2) (ld22 ((HF.out.box 1 _ _ _ rfl).cell 1))) ?_
   try simp only [pA, pB, p1, p2, p3]
   cases q2 : (sameE e1 e2)
   ·skip
    refine wp_callW 35 #[.slice a1 n1 c1, .slice a2 n2 c2] (by kernel_rfl) _ (sameE_any a1 n1 c1 a2 n2 c2 e1 e2 _ (H1.out.no HF.out.kept) (H2.out.no HF.out.kept) hn) (by kernel_rfl) ?_
    rintro e wk5 ⟨rfl, hk⟩
    have HF : Hid (Fr No w (wk5) [(gk1, 25, Bv.cells ⟨u1, ⟨a1, n1, c1⟩, ⟨b1, m1, d1⟩⟩), (gk3, 25, Bv.cells ⟨u2, ⟨a2, n2, c2⟩, ⟨b2, m2, d2⟩⟩)]) := HF.out.no hk
    clear hk
    refine ⟨.bool false, by rw [q2], ?_⟩
    try simp only [pA, pB, p1, p2, p3]
    refine tK (.bool false) ?_
    try simp only [pA, pB, p1, p2, p3]
    refine tK (.bool false) ?_
    try simp only [pA, pB, p1, p2, p3]
    refine sK ?_
    try simp only [pA, pB, p1, p2, p3]
    refine sK ?_
    try simp only [pA, pB, p1, p2, p3]
    refine sK ?_
    try simp only [pA, pB, p1, p2, p3]
    refine sK ?_
    try simp only [pA, pB, p1, p2, p3]
    refine sK ?_
    try simp only [pA, pB, p1, p2, p3]
    refine tK (.bool false) ?_
    try simp only [pA, pB, p1, p2, p3]
    refine tK (.bool false) ?_
    try simp only [pA, pB, p1, p2, p3]
    refine WL.nil ?_
    try simp only [pA, pB, p1, p2, p3]
    have hv : sameB u1 e1 l1 u2 e2 l2 = false := by simp [sameB, q1, q2]
    go_wp2
    rw [HC.out]
    exact ⟨by rw [hv]; rfl, HF.out.kept⟩
   ·skip
    refine wp_callW 35 #[.slice a1 n1 c1, .slice a2 n2 c2] (by kernel_rfl) _ (sameE_any a1 n1 c1 a2 n2 c2 e1 e2 _ (H1.out.no HF.out.kept) (H2.out.no HF.out.kept) hn) (by kernel_rfl) ?_
    rintro e wk6 ⟨rfl, hk⟩
    have HF : Hid (Fr No w (wk6) [(gk1, 25, Bv.cells ⟨u1, ⟨a1, n1, c1⟩, ⟨b1, m1, d1⟩⟩), (gk3, 25, Bv.cells ⟨u2, ⟨a2, n2, c2⟩, ⟨b2, m2, d2⟩⟩)]) := HF.out.no hk
    clear hk
    refine ⟨.bool true, by rw [q2], ?_⟩
    try simp only [pA, pB, p1, p2, p3]
    refine tK (.bool true) ?_
    try simp only [pA, pB, p1, p2, p3]
    refine tK (.bool true) ?_
    try simp only [pA, pB, p1, p2, p3]
    refine tK (.pointer (some ⟨gk1, 2, none⟩)) ?_
    try simp only [pA, pB, p1, p2, p3]
    refine tW (.slice b1 m1 d1) (exec_load 23 _ rfl ⟨gk1, 2, none⟩ (by kernel_rfl) (.slice b1 m1 d1) (ld23 ((HF.out.box 0 _ _ _ rfl).cell 2))) ?_
    try simp only [pA, pB, p1, p2, p3]
    refine tK (.pointer (some ⟨gk3, 2, none⟩)) ?_
    try simp only [pA, pB, p1, p2, p3]
    refine tW (.slice b2 m2 d2) (exec_load 23 _ rfl ⟨gk3, 2, none⟩ (by kernel_rfl) (.slice b2 m2 d2) (ld23 ((HF.out.box 1 _ _ _ rfl).cell 2))) ?_
    try simp only [pA, pB, p1, p2, p3]
    cases q3 : (sameL l1 l2)
    ·skip
     refine wp_callW 37 #[.slice b1 m1 d1, .slice b2 m2 d2] (by kernel_rfl) _ (sameL_any b1 m1 d1 b2 m2 d2 l1 l2 _ (K1.out.no HF.out.kept) (K2.out.no HF.out.kept) hm) (by kernel_rfl) ?_
     rintro e wk7 ⟨rfl, hk⟩
     have HF : Hid (Fr No w (wk7) [(gk1, 25, Bv.cells ⟨u1, ⟨a1, n1, c1⟩, ⟨b1, m1, d1⟩⟩), (gk3, 25, Bv.cells ⟨u2, ⟨a2, n2, c2⟩, ⟨b2, m2, d2⟩⟩)]) := HF.out.no hk
     clear hk
     refine ⟨.bool false, by rw [q3], ?_⟩
     try simp only [pA, pB, p1, p2, p3]
     refine tK (.bool false) ?_
     try simp only [pA, pB, p1, p2, p3]
     refine tK (.bool false) ?_
     try simp only [pA, pB, p1, p2, p3]
     refine WL.nil ?_
     try simp only [pA, pB, p1, p2, p3]
     have hv : sameB u1 e1 l1 u2 e2 l2 = false := by simp [sameB, q1, q2, q3]
     go_wp2
     rw [HC.out]
     exact ⟨by rw [hv]; rfl, HF.out.kept⟩
    ·skip
     refine wp_callW 37 #[.slice b1 m1 d1, .slice b2 m2 d2] (by kernel_rfl) _ (sameL_any b1 m1 d1 b2 m2 d2 l1 l2 _ (K1.out.no HF.out.kept) (K2.out.no HF.out.kept) hm) (by kernel_rfl) ?_
     rintro e wk8 ⟨rfl, hk⟩
     have HF : Hid (Fr No w (wk8) [(gk1, 25, Bv.cells ⟨u1, ⟨a1, n1, c1⟩, ⟨b1, m1, d1⟩⟩), (gk3, 25, Bv.cells ⟨u2, ⟨a2, n2, c2⟩, ⟨b2, m2, d2⟩⟩)]) := HF.out.no hk
     clear hk
     refine ⟨.bool true, by rw [q3], ?_⟩
     try simp only [pA, pB, p1, p2, p3]
     refine tK (.bool true) ?_
     try simp only [pA, pB, p1, p2, p3]
     refine tK (.bool true) ?_
     try simp only [pA, pB, p1, p2, p3]
     refine WL.nil ?_
     try simp only [pA, pB, p1, p2, p3]
     have hv : sameB u1 e1 l1 u2 e2 l2 = true := by simp [sameB, q1, q2, q3]
     go_wp2
     rw [HC.out]
     exact ⟨by rw [hv]; rfl, HF.out.kept⟩
set_option maxRecDepth 100000 in
set_option maxHeartbeats 4000000 in
theorem sameA_any (r1 : Int) (x1 : En) (a1 : Option Addr) (n1 c1 : Nat) (r2 : Int) (x2 : En) (a2 : Option Addr) (n2 c2 : Nat) (l1 l2 : List En) (w : World) (h1 : RdE w ⟨a1, n1, c1⟩ l1) (h2 : RdE w ⟨a2, n2, c2⟩ l2) (hn : n1 ≤ 140737488355328) : Calls Try.prog 27 #[.agg (Av.cells ⟨r1, x1, ⟨a1, n1, c1⟩⟩), .agg (Av.cells ⟨r2, x2, ⟨a2, n2, c2⟩⟩)] w (fun e w' => e = .returned (.bool (sameA r1 x1 l1 r2 x2 l2)) ∧ Kept No w w') := by
  obtain ⟨C, hC⟩ : ∃ C : Ending → World → Prop, C = (fun e w' => e = .returned (.bool (sameA r1 x1 l1 r2 x2 l2)) ∧ Kept No w w') := ⟨_, rfl⟩
  have HC : Hid (C = (fun e w' => e = .returned (.bool (sameA r1 x1 l1 r2 x2 l2)) ∧ Kept No w w')) := hC
  rw [← hC]
  clear hC
  have H1 : Hid (RdE w ⟨a1, n1, c1⟩ l1) := h1
  have H2 : Hid (RdE w ⟨a2, n2, c2⟩ l2) := h2
  clear h1 h2
  have HF : Hid (Fr No w w []) := Fr.start _ _
  go_enter Try.func27, Try.ntmps27
  go_upto_region 0 with fail
  refine WL.start ?_
  refine wp_runW (.pointer (some ⟨w.heap.size, 0, none⟩)) (w.alloc (.cells (Av.cells ⟨r1, x1, ⟨a1, n1, c1⟩⟩) 56)) (exec_box 56 _ rfl (Av.cells ⟨r1, x1, ⟨a1, n1, c1⟩⟩) (by kernel_rfl)) (by kernel_rfl) ?_
  try simp only [pA, pB, p1, p2, p3]
  have HF : Hid (Fr No w (w.alloc (.cells (Av.cells ⟨r1, x1, ⟨a1, n1, c1⟩⟩) 56)) [(w.heap.size, 56, Av.cells ⟨r1, x1, ⟨a1, n1, c1⟩⟩)]) := HF.out.alloc _ _
  generalize w.alloc (.cells (Av.cells ⟨r1, x1, ⟨a1, n1, c1⟩⟩) 56) = wk2 at HF ⊢
  generalize w.heap.size = gk1 at HF ⊢
  refine wp_runW (.pointer (some ⟨wk2.heap.size, 0, none⟩)) (wk2.alloc (.cells (Av.cells ⟨r2, x2, ⟨a2, n2, c2⟩⟩) 56)) (exec_box 56 _ rfl (Av.cells ⟨r2, x2, ⟨a2, n2, c2⟩⟩) (by kernel_rfl)) (by kernel_rfl) ?_
  try simp only [pA, pB, p1, p2, p3]
  have HF : Hid (Fr No w (wk2.alloc (.cells (Av.cells ⟨r2, x2, ⟨a2, n2, c2⟩⟩) 56)) [(gk1, 56, Av.cells ⟨r1, x1, ⟨a1, n1, c1⟩⟩), (wk2.heap.size, 56, Av.cells ⟨r2, x2, ⟨a2, n2, c2⟩⟩)]) := HF.out.alloc _ _
  generalize wk2.alloc (.cells (Av.cells ⟨r2, x2, ⟨a2, n2, c2⟩⟩) 56) = wk4 at HF ⊢
  generalize wk2.heap.size = gk3 at HF ⊢
  refine tK (.bool false) ?_
  try simp only [pA, pB, p1, p2, p3]
  refine WL.nil ?_
  try simp only [pA, pB, p1, p2, p3]
  go_upto_region 1 with fail
  refine WL.start ?_
  refine tK (.pointer (some ⟨gk1, 0, none⟩)) ?_
  try simp only [pA, pB, p1, p2, p3]
  refine tW (.int .i64 r1) (exec_load 46 _ rfl ⟨gk1, 0, none⟩ (by kernel_rfl) (.int .i64 r1) (ld46 ((HF.out.box 0 _ _ _ rfl).cell 0))) ?_
  try simp only [pA, pB, p1, p2, p3]
  refine tK (.pointer (some ⟨gk3, 0, none⟩)) ?_
  try simp only [pA, pB, p1, p2, p3]
  refine tW (.int .i64 r2) (exec_load 46 _ rfl ⟨gk3, 0, none⟩ (by kernel_rfl) (.int .i64 r2) (ld46 ((HF.out.box 1 _ _ _ rfl).cell 0))) ?_
  try simp only [pA, pB, p1, p2, p3]
  cases q1 : (r1 == r2)
  ·skip
   refine tW (.bool false) (exec_bin .eql 46 _ _ _ rfl (.int .i64 r1) (.int .i64 r2) (.bool false) (by kernel_rfl) (by kernel_rfl) (by kernel_rfl) (by rw [b_eql46, q1]; try rfl)) ?_
   try simp only [pA, pB, p1, p2, p3]
   refine tK (.bool false) ?_
   try simp only [pA, pB, p1, p2, p3]
   refine sK ?_
   try simp only [pA, pB, p1, p2, p3]
   refine sK ?_
   try simp only [pA, pB, p1, p2, p3]
   refine sK ?_
   try simp only [pA, pB, p1, p2, p3]
   refine sK ?_
   try simp only [pA, pB, p1, p2, p3]
   refine sK ?_
   try simp only [pA, pB, p1, p2, p3]
   refine tK (.bool false) ?_
   try simp only [pA, pB, p1, p2, p3]
   refine tK (.bool false) ?_
   try simp only [pA, pB, p1, p2, p3]
   refine sK ?_
   try simp only [pA, pB, p1, p2, p3]
   refine sK ?_
   try simp only [pA, pB, p1, p2, p3]
   refine sK ?_
   try simp only [pA, pB, p1, p2, p3]
   refine sK ?_
   try simp only [pA, pB, p1, p2, p3]
   refine sK ?_
   try simp only [pA, pB, p1, p2, p3]
   refine tK (.bool false) ?_
   try simp only [pA, pB, p1, p2, p3]
   refine tK (.bool false) ?_
   try simp only [pA, pB, p1, p2, p3]
   refine WL.nil ?_
   try simp only [pA, pB, p1, p2, p3]
   have hv : sameA r1 x1 l1 r2 x2 l2 = false := by simp [sameA, q1]
   go_wp2
   rw [HC.out]
   exact ⟨by rw [hv]; rfl, HF.out.kept⟩
  ·skip
   refine tW (.bool true) (exec_bin .eql 46 _ _ _ rfl (.int .i64 r1) (.int .i64 r2) (.bool true) (by kernel_rfl) (by kernel_rfl) (by kernel_rfl) (by rw [b_eql46, q1]; try rfl)) ?_
   try simp only [pA, pB, p1, p2, p3]
   refine tK (.bool true) ?_
   try simp only [pA, pB, p1, p2, p3]
   refine tK (.pointer (some ⟨gk1, 1, none⟩)) ?_
   try simp only [pA, pB, p1, p2, p3]
   refine tW (.agg (En.cells x1)) (exec_load 54 _ rfl ⟨gk1, 1, none⟩ (by kernel_rfl) (.agg (En.cells x1)) (ldAE (HF.out.box 0 _ _ _ rfl))) ?_
   try simp only [pA, pB, p1, p2, p3]
   refine tK (.pointer (some ⟨gk3, 1, none⟩)) ?_
   try simp only [pA, pB, p1, p2, p3]
   refine tW (.agg (En.cells x2)) (exec_load 54 _ rfl ⟨gk3, 1, none⟩ (by kernel_rfl) (.agg (En.cells x2)) (ldAE (HF.out.box 1 _ _ _ rfl))) ?_
   try simp only [pA, pB, p1, p2, p3]
   cases q2 : (eqE x1 x2)
   ·skip
    refine tW (.bool false) (exec_bin .eql 54 _ _ _ rfl (.agg (En.cells x1)) (.agg (En.cells x2)) (.bool false) (by kernel_rfl) (by kernel_rfl) (by kernel_rfl) (by rw [eqE_eql, q2]; try rfl)) ?_
    try simp only [pA, pB, p1, p2, p3]
    refine tK (.bool false) ?_
    try simp only [pA, pB, p1, p2, p3]
    refine tK (.bool false) ?_
    try simp only [pA, pB, p1, p2, p3]
    refine sK ?_
    try simp only [pA, pB, p1, p2, p3]
    refine sK ?_
    try simp only [pA, pB, p1, p2, p3]
    refine sK ?_
    try simp only [pA, pB, p1, p2, p3]
    refine sK ?_
    try simp only [pA, pB, p1, p2, p3]
    refine sK ?_
    try simp only [pA, pB, p1, p2, p3]
    refine tK (.bool false) ?_
    try simp only [pA, pB, p1, p2, p3]
    refine tK (.bool false) ?_
    try simp only [pA, pB, p1, p2, p3]
    refine WL.nil ?_
    try simp only [pA, pB, p1, p2, p3]
    have hv : sameA r1 x1 l1 r2 x2 l2 = false := by simp [sameA, q1, q2]
    go_wp2
    rw [HC.out]
    exact ⟨by rw [hv]; rfl, HF.out.kept⟩
   ·skip
    refine tW (.bool true) (exec_bin .eql 54 _ _ _ rfl (.agg (En.cells x1)) (.agg (En.cells x2)) (.bool true) (by kernel_rfl) (by kernel_rfl) (by kernel_rfl) (by rw [eqE_eql, q2]; try rfl)) ?_
    try simp only [pA, pB, p1, p2, p3]
    refine tK (.bool true) ?_
    try simp only [pA, pB, p1, p2, p3]
    refine tK (.bool true) ?_
    try simp only [pA, pB, p1, p2, p3]
    refine tK (.pointer (some ⟨gk1, 5, none⟩)) ?_
    try simp only [pA, pB, p1, p2, p3]
    refine tW (.slice a1 n1 c1) (exec_load 22 _ rfl ⟨gk1, 5, none⟩ (by kernel_rfl) (.slice a1 n1 c1) (ld22 ((HF.out.box 0 _ _ _ rfl).cell 5))) ?_
    try simp only [pA, pB, p1, p2, p3]
    refine tK (.pointer (some ⟨gk3, 5, none⟩)) ?_
    try simp only [pA, pB, p1, p2, p3]
    refine tW (.slice a2 n2 c2) (exec_load 22 _ rfl ⟨gk3, 5, none⟩ (by kernel_rfl) (.slice a2 n2 c2) (ld22 ((HF.out.box 1 _ _ _ rfl).cell 5))) ?_
    try simp only [pA, pB, p1, p2, p3]
    cases q3 : (sameE l1 l2)
    ·skip
     refine wp_callW 35 #[.slice a1 n1 c1, .slice a2 n2 c2] (by kernel_rfl) _ (sameE_any a1 n1 c1 a2 n2 c2 l1 l2 _ (H1.out.no HF.out.kept) (H2.out.no HF.out.kept) hn) (by kernel_rfl) ?_
     rintro e wk5 ⟨rfl, hk⟩
     have HF : Hid (Fr No w (wk5) [(gk1, 56, Av.cells ⟨r1, x1, ⟨a1, n1, c1⟩⟩), (gk3, 56, Av.cells ⟨r2, x2, ⟨a2, n2, c2⟩⟩)]) := HF.out.no hk
     clear hk
     refine ⟨.bool false, by rw [q3], ?_⟩
     try simp only [pA, pB, p1, p2, p3]
     refine tK (.bool false) ?_
     try simp only [pA, pB, p1, p2, p3]
     refine tK (.bool false) ?_
     try simp only [pA, pB, p1, p2, p3]
     refine WL.nil ?_
     try simp only [pA, pB, p1, p2, p3]
     have hv : sameA r1 x1 l1 r2 x2 l2 = false := by simp [sameA, q1, q2, q3]
     go_wp2
     rw [HC.out]
     exact ⟨by rw [hv]; rfl, HF.out.kept⟩
    ·skip
     refine wp_callW 35 #[.slice a1 n1 c1, .slice a2 n2 c2] (by kernel_rfl) _ (sameE_any a1 n1 c1 a2 n2 c2 l1 l2 _ (H1.out.no HF.out.kept) (H2.out.no HF.out.kept) hn) (by kernel_rfl) ?_
     rintro e wk6 ⟨rfl, hk⟩
     have HF : Hid (Fr No w (wk6) [(gk1, 56, Av.cells ⟨r1, x1, ⟨a1, n1, c1⟩⟩), (gk3, 56, Av.cells ⟨r2, x2, ⟨a2, n2, c2⟩⟩)]) := HF.out.no hk
     clear hk
     refine ⟨.bool true, by rw [q3], ?_⟩
     try simp only [pA, pB, p1, p2, p3]
     refine tK (.bool true) ?_
     try simp only [pA, pB, p1, p2, p3]
     refine tK (.bool true) ?_
     try simp only [pA, pB, p1, p2, p3]
     refine WL.nil ?_
     try simp only [pA, pB, p1, p2, p3]
     have hv : sameA r1 x1 l1 r2 x2 l2 = true := by simp [sameA, q1, q2, q3]
     go_wp2
     rw [HC.out]
     exact ⟨by rw [hv]; rfl, HF.out.kept⟩
set_option maxRecDepth 100000 in
set_option maxHeartbeats 4000000 in
theorem wrong_any (c : Cm) (w : World) : Calls Try.prog 16 #[.agg (Cm.cells c)] w (fun e w' => e = .returned (.bool (badC c)) ∧ Kept No w w') := by
  obtain ⟨C, hC⟩ : ∃ C : Ending → World → Prop, C = (fun e w' => e = .returned (.bool (badC c)) ∧ Kept No w w') := ⟨_, rfl⟩
  have HC : Hid (C = (fun e w' => e = .returned (.bool (badC c)) ∧ Kept No w w')) := hC
  rw [← hC]
  clear hC
  have HF : Hid (Fr No w w []) := Fr.start _ _
  go_enter Try.func16, Try.ntmps16
  go_upto_region 0 with fail
  refine WL.start ?_
  refine wp_runW (.pointer (some ⟨w.heap.size, 0, none⟩)) (w.alloc (.cells (Cm.cells c) 29)) (exec_box 29 _ rfl (Cm.cells c) (by kernel_rfl)) (by kernel_rfl) ?_
  try simp only [pA, pB, p1, p2, p3]
  have HF : Hid (Fr No w (w.alloc (.cells (Cm.cells c) 29)) [(w.heap.size, 29, Cm.cells c)]) := HF.out.alloc _ _
  generalize w.alloc (.cells (Cm.cells c) 29) = wk2 at HF ⊢
  generalize w.heap.size = gk1 at HF ⊢
  refine tK (.bool false) ?_
  try simp only [pA, pB, p1, p2, p3]
  refine WL.nil ?_
  try simp only [pA, pB, p1, p2, p3]
  go_upto_region 1 with fail
  refine WL.start ?_
  refine tK (.pointer (some ⟨gk1, 0, none⟩)) ?_
  try simp only [pA, pB, p1, p2, p3]
  refine tW (.int .i64 c.k) (exec_load 3 _ rfl ⟨gk1, 0, none⟩ (by kernel_rfl) (.int .i64 c.k) (ld3 ((HF.out.box 0 _ _ _ rfl).cell 0))) ?_
  try simp only [pA, pB, p1, p2, p3]
  cases q1 : (decide (c.k < 1))
  ·skip
   refine tW (.bool false) (exec_bin .lss 3 _ _ _ rfl (.int .i64 c.k) (.int .i64 1) (.bool false) (by kernel_rfl) (by kernel_rfl) (by kernel_rfl) (by rw [b_lss, q1]; try rfl)) ?_
   try simp only [pA, pB, p1, p2, p3]
   refine tK (.bool false) ?_
   try simp only [pA, pB, p1, p2, p3]
   refine tK (.pointer (some ⟨gk1, 0, none⟩)) ?_
   try simp only [pA, pB, p1, p2, p3]
   refine tW (.int .i64 c.k) (exec_load 3 _ rfl ⟨gk1, 0, none⟩ (by kernel_rfl) (.int .i64 c.k) (ld3 ((HF.out.box 0 _ _ _ rfl).cell 0))) ?_
   try simp only [pA, pB, p1, p2, p3]
   cases q2 : (decide (7 < c.k))
   ·skip
    refine tW (.bool false) (exec_bin .gtr 3 _ _ _ rfl (.int .i64 c.k) (.int .i64 7) (.bool false) (by kernel_rfl) (by kernel_rfl) (by kernel_rfl) (by rw [b_gtr, q2]; try rfl)) ?_
    try simp only [pA, pB, p1, p2, p3]
    refine tK (.bool false) ?_
    try simp only [pA, pB, p1, p2, p3]
    refine tK (.bool false) ?_
    try simp only [pA, pB, p1, p2, p3]
    refine tK (.pointer (some ⟨gk1, 1, none⟩)) ?_
    try simp only [pA, pB, p1, p2, p3]
    refine tW (.int .i64 c.cl) (exec_load 3 _ rfl ⟨gk1, 1, none⟩ (by kernel_rfl) (.int .i64 c.cl) (ld3 ((HF.out.box 0 _ _ _ rfl).cell 1))) ?_
    try simp only [pA, pB, p1, p2, p3]
    cases q3 : (decide (c.cl < 1))
    ·skip
     refine tW (.bool false) (exec_bin .lss 3 _ _ _ rfl (.int .i64 c.cl) (.int .i64 1) (.bool false) (by kernel_rfl) (by kernel_rfl) (by kernel_rfl) (by rw [b_lss, q3]; try rfl)) ?_
     try simp only [pA, pB, p1, p2, p3]
     refine tK (.bool false) ?_
     try simp only [pA, pB, p1, p2, p3]
     refine tK (.bool false) ?_
     try simp only [pA, pB, p1, p2, p3]
     refine tK (.pointer (some ⟨gk1, 1, none⟩)) ?_
     try simp only [pA, pB, p1, p2, p3]
     refine tW (.int .i64 c.cl) (exec_load 3 _ rfl ⟨gk1, 1, none⟩ (by kernel_rfl) (.int .i64 c.cl) (ld3 ((HF.out.box 0 _ _ _ rfl).cell 1))) ?_
     try simp only [pA, pB, p1, p2, p3]
     cases q4 : (decide (255 < c.cl))
     ·skip
      refine tW (.bool false) (exec_bin .gtr 3 _ _ _ rfl (.int .i64 c.cl) (.int .i64 255) (.bool false) (by kernel_rfl) (by kernel_rfl) (by kernel_rfl) (by rw [b_gtr, q4]; try rfl)) ?_
      try simp only [pA, pB, p1, p2, p3]
      refine tK (.bool false) ?_
      try simp only [pA, pB, p1, p2, p3]
      refine tK (.bool false) ?_
      try simp only [pA, pB, p1, p2, p3]
      refine tK (.pointer (some ⟨gk1, 2, none⟩)) ?_
      try simp only [pA, pB, p1, p2, p3]
      refine tW (.int .i64 c.op) (exec_load 3 _ rfl ⟨gk1, 2, none⟩ (by kernel_rfl) (.int .i64 c.op) (ld3 ((HF.out.box 0 _ _ _ rfl).cell 2))) ?_
      try simp only [pA, pB, p1, p2, p3]
      cases q5 : (decide (c.op < 1))
      ·skip
       refine tW (.bool false) (exec_bin .lss 3 _ _ _ rfl (.int .i64 c.op) (.int .i64 1) (.bool false) (by kernel_rfl) (by kernel_rfl) (by kernel_rfl) (by rw [b_lss, q5]; try rfl)) ?_
       try simp only [pA, pB, p1, p2, p3]
       refine tK (.bool false) ?_
       try simp only [pA, pB, p1, p2, p3]
       refine tK (.bool false) ?_
       try simp only [pA, pB, p1, p2, p3]
       refine tK (.pointer (some ⟨gk1, 2, none⟩)) ?_
       try simp only [pA, pB, p1, p2, p3]
       refine tW (.int .i64 c.op) (exec_load 3 _ rfl ⟨gk1, 2, none⟩ (by kernel_rfl) (.int .i64 c.op) (ld3 ((HF.out.box 0 _ _ _ rfl).cell 2))) ?_
       try simp only [pA, pB, p1, p2, p3]
       cases q6 : (decide (1099511627776 < c.op))
       ·skip
        refine tW (.bool false) (exec_bin .gtr 3 _ _ _ rfl (.int .i64 c.op) (.int .i64 1099511627776) (.bool false) (by kernel_rfl) (by kernel_rfl) (by kernel_rfl) (by rw [b_gtr, q6]; try rfl)) ?_
        try simp only [pA, pB, p1, p2, p3]
        refine tK (.bool false) ?_
        try simp only [pA, pB, p1, p2, p3]
        refine tK (.bool false) ?_
        try simp only [pA, pB, p1, p2, p3]
        refine WL.nil ?_
        try simp only [pA, pB, p1, p2, p3]
        have hv : badC c = false := by simp [badC, q1, q2, q3, q4, q5, q6]
        go_wp2
        rw [HC.out]
        exact ⟨by rw [hv]; rfl, HF.out.kept⟩
       ·skip
        refine tW (.bool true) (exec_bin .gtr 3 _ _ _ rfl (.int .i64 c.op) (.int .i64 1099511627776) (.bool true) (by kernel_rfl) (by kernel_rfl) (by kernel_rfl) (by rw [b_gtr, q6]; try rfl)) ?_
        try simp only [pA, pB, p1, p2, p3]
        refine tK (.bool true) ?_
        try simp only [pA, pB, p1, p2, p3]
        refine tK (.bool true) ?_
        try simp only [pA, pB, p1, p2, p3]
        refine WL.nil ?_
        try simp only [pA, pB, p1, p2, p3]
        have hv : badC c = true := by simp [badC, q1, q2, q3, q4, q5, q6]
        go_wp2
        rw [HC.out]
        exact ⟨by rw [hv]; rfl, HF.out.kept⟩
      ·skip
       refine tW (.bool true) (exec_bin .lss 3 _ _ _ rfl (.int .i64 c.op) (.int .i64 1) (.bool true) (by kernel_rfl) (by kernel_rfl) (by kernel_rfl) (by rw [b_lss, q5]; try rfl)) ?_
       try simp only [pA, pB, p1, p2, p3]
       refine tK (.bool true) ?_
       try simp only [pA, pB, p1, p2, p3]
       refine tK (.bool true) ?_
       try simp only [pA, pB, p1, p2, p3]
       refine sK ?_
       try simp only [pA, pB, p1, p2, p3]
       refine sK ?_
       try simp only [pA, pB, p1, p2, p3]
       refine sK ?_
       try simp only [pA, pB, p1, p2, p3]
       refine tK (.bool true) ?_
       try simp only [pA, pB, p1, p2, p3]
       refine tK (.bool true) ?_
       try simp only [pA, pB, p1, p2, p3]
       refine WL.nil ?_
       try simp only [pA, pB, p1, p2, p3]
       have hv : badC c = true := by simp [badC, q1, q2, q3, q4, q5]
       go_wp2
       rw [HC.out]
       exact ⟨by rw [hv]; rfl, HF.out.kept⟩
     ·skip
      refine tW (.bool true) (exec_bin .gtr 3 _ _ _ rfl (.int .i64 c.cl) (.int .i64 255) (.bool true) (by kernel_rfl) (by kernel_rfl) (by kernel_rfl) (by rw [b_gtr, q4]; try rfl)) ?_
      try simp only [pA, pB, p1, p2, p3]
      refine tK (.bool true) ?_
      try simp only [pA, pB, p1, p2, p3]
      refine tK (.bool true) ?_
      try simp only [pA, pB, p1, p2, p3]
      refine sK ?_
      try simp only [pA, pB, p1, p2, p3]
      refine sK ?_
      try simp only [pA, pB, p1, p2, p3]
      refine sK ?_
      try simp only [pA, pB, p1, p2, p3]
      refine tK (.bool true) ?_
      try simp only [pA, pB, p1, p2, p3]
      refine tK (.bool true) ?_
      try simp only [pA, pB, p1, p2, p3]
      refine sK ?_
      try simp only [pA, pB, p1, p2, p3]
      refine sK ?_
      try simp only [pA, pB, p1, p2, p3]
      refine sK ?_
      try simp only [pA, pB, p1, p2, p3]
      refine tK (.bool true) ?_
      try simp only [pA, pB, p1, p2, p3]
      refine tK (.bool true) ?_
      try simp only [pA, pB, p1, p2, p3]
      refine WL.nil ?_
      try simp only [pA, pB, p1, p2, p3]
      have hv : badC c = true := by simp [badC, q1, q2, q3, q4]
      go_wp2
      rw [HC.out]
      exact ⟨by rw [hv]; rfl, HF.out.kept⟩
    ·skip
     refine tW (.bool true) (exec_bin .lss 3 _ _ _ rfl (.int .i64 c.cl) (.int .i64 1) (.bool true) (by kernel_rfl) (by kernel_rfl) (by kernel_rfl) (by rw [b_lss, q3]; try rfl)) ?_
     try simp only [pA, pB, p1, p2, p3]
     refine tK (.bool true) ?_
     try simp only [pA, pB, p1, p2, p3]
     refine tK (.bool true) ?_
     try simp only [pA, pB, p1, p2, p3]
     refine sK ?_
     try simp only [pA, pB, p1, p2, p3]
     refine sK ?_
     try simp only [pA, pB, p1, p2, p3]
     refine sK ?_
     try simp only [pA, pB, p1, p2, p3]
     refine tK (.bool true) ?_
     try simp only [pA, pB, p1, p2, p3]
     refine tK (.bool true) ?_
     try simp only [pA, pB, p1, p2, p3]
     refine sK ?_
     try simp only [pA, pB, p1, p2, p3]
     refine sK ?_
     try simp only [pA, pB, p1, p2, p3]
     refine sK ?_
     try simp only [pA, pB, p1, p2, p3]
     refine tK (.bool true) ?_
     try simp only [pA, pB, p1, p2, p3]
     refine tK (.bool true) ?_
     try simp only [pA, pB, p1, p2, p3]
     refine sK ?_
     try simp only [pA, pB, p1, p2, p3]
     refine sK ?_
     try simp only [pA, pB, p1, p2, p3]
     refine sK ?_
     try simp only [pA, pB, p1, p2, p3]
     refine tK (.bool true) ?_
     try simp only [pA, pB, p1, p2, p3]
     refine tK (.bool true) ?_
     try simp only [pA, pB, p1, p2, p3]
     refine WL.nil ?_
     try simp only [pA, pB, p1, p2, p3]
     have hv : badC c = true := by simp [badC, q1, q2, q3]
     go_wp2
     rw [HC.out]
     exact ⟨by rw [hv]; rfl, HF.out.kept⟩
   ·skip
    refine tW (.bool true) (exec_bin .gtr 3 _ _ _ rfl (.int .i64 c.k) (.int .i64 7) (.bool true) (by kernel_rfl) (by kernel_rfl) (by kernel_rfl) (by rw [b_gtr, q2]; try rfl)) ?_
    try simp only [pA, pB, p1, p2, p3]
    refine tK (.bool true) ?_
    try simp only [pA, pB, p1, p2, p3]
    refine tK (.bool true) ?_
    try simp only [pA, pB, p1, p2, p3]
    refine sK ?_
    try simp only [pA, pB, p1, p2, p3]
    refine sK ?_
    try simp only [pA, pB, p1, p2, p3]
    refine sK ?_
    try simp only [pA, pB, p1, p2, p3]
    refine tK (.bool true) ?_
    try simp only [pA, pB, p1, p2, p3]
    refine tK (.bool true) ?_
    try simp only [pA, pB, p1, p2, p3]
    refine sK ?_
    try simp only [pA, pB, p1, p2, p3]
    refine sK ?_
    try simp only [pA, pB, p1, p2, p3]
    refine sK ?_
    try simp only [pA, pB, p1, p2, p3]
    refine tK (.bool true) ?_
    try simp only [pA, pB, p1, p2, p3]
    refine tK (.bool true) ?_
    try simp only [pA, pB, p1, p2, p3]
    refine sK ?_
    try simp only [pA, pB, p1, p2, p3]
    refine sK ?_
    try simp only [pA, pB, p1, p2, p3]
    refine sK ?_
    try simp only [pA, pB, p1, p2, p3]
    refine tK (.bool true) ?_
    try simp only [pA, pB, p1, p2, p3]
    refine tK (.bool true) ?_
    try simp only [pA, pB, p1, p2, p3]
    refine sK ?_
    try simp only [pA, pB, p1, p2, p3]
    refine sK ?_
    try simp only [pA, pB, p1, p2, p3]
    refine sK ?_
    try simp only [pA, pB, p1, p2, p3]
    refine tK (.bool true) ?_
    try simp only [pA, pB, p1, p2, p3]
    refine tK (.bool true) ?_
    try simp only [pA, pB, p1, p2, p3]
    refine WL.nil ?_
    try simp only [pA, pB, p1, p2, p3]
    have hv : badC c = true := by simp [badC, q1, q2]
    go_wp2
    rw [HC.out]
    exact ⟨by rw [hv]; rfl, HF.out.kept⟩
  ·skip
   refine tW (.bool true) (exec_bin .lss 3 _ _ _ rfl (.int .i64 c.k) (.int .i64 1) (.bool true) (by kernel_rfl) (by kernel_rfl) (by kernel_rfl) (by rw [b_lss, q1]; try rfl)) ?_
   try simp only [pA, pB, p1, p2, p3]
   refine tK (.bool true) ?_
   try simp only [pA, pB, p1, p2, p3]
   refine sK ?_
   try simp only [pA, pB, p1, p2, p3]
   refine sK ?_
   try simp only [pA, pB, p1, p2, p3]
   refine sK ?_
   try simp only [pA, pB, p1, p2, p3]
   refine tK (.bool true) ?_
   try simp only [pA, pB, p1, p2, p3]
   refine tK (.bool true) ?_
   try simp only [pA, pB, p1, p2, p3]
   refine sK ?_
   try simp only [pA, pB, p1, p2, p3]
   refine sK ?_
   try simp only [pA, pB, p1, p2, p3]
   refine sK ?_
   try simp only [pA, pB, p1, p2, p3]
   refine tK (.bool true) ?_
   try simp only [pA, pB, p1, p2, p3]
   refine tK (.bool true) ?_
   try simp only [pA, pB, p1, p2, p3]
   refine sK ?_
   try simp only [pA, pB, p1, p2, p3]
   refine sK ?_
   try simp only [pA, pB, p1, p2, p3]
   refine sK ?_
   try simp only [pA, pB, p1, p2, p3]
   refine tK (.bool true) ?_
   try simp only [pA, pB, p1, p2, p3]
   refine tK (.bool true) ?_
   try simp only [pA, pB, p1, p2, p3]
   refine sK ?_
   try simp only [pA, pB, p1, p2, p3]
   refine sK ?_
   try simp only [pA, pB, p1, p2, p3]
   refine sK ?_
   try simp only [pA, pB, p1, p2, p3]
   refine tK (.bool true) ?_
   try simp only [pA, pB, p1, p2, p3]
   refine tK (.bool true) ?_
   try simp only [pA, pB, p1, p2, p3]
   refine sK ?_
   try simp only [pA, pB, p1, p2, p3]
   refine sK ?_
   try simp only [pA, pB, p1, p2, p3]
   refine sK ?_
   try simp only [pA, pB, p1, p2, p3]
   refine tK (.bool true) ?_
   try simp only [pA, pB, p1, p2, p3]
   refine tK (.bool true) ?_
   try simp only [pA, pB, p1, p2, p3]
   refine WL.nil ?_
   try simp only [pA, pB, p1, p2, p3]
   have hv : badC c = true := by simp [badC, q1]
   go_wp2
   rw [HC.out]
   exact ⟨by rw [hv]; rfl, HF.out.kept⟩

end Go.Proofs.Ytfemlnfknebalaa
