import Derived.Test.YtfemlnfknebalabV
namespace Go.Proofs.Ytfemlnfknebalab
open Go.RowKit
set_option linter.unusedVariables false
set_option linter.unusedSimpArgs false

def sameB (u1 : Int) (e1 : List En) (l1 : List La) (u2 : Int) (e2 : List En) (l2 : List La) : Bool := u1 == u2 && sameE e1 e2 && sameL l1 l2
set_option maxRecDepth 100000 in
set_option maxHeartbeats 4000000 in
theorem sameB_any (u1 : Int) (a1 : Option Addr) (n1 c1 : Nat) (b1 : Option Addr) (m1 d1 : Nat) (u2 : Int) (a2 : Option Addr) (n2 c2 : Nat) (b2 : Option Addr) (m2 d2 : Nat) (e1 e2 : List En) (l1 l2 : List La) (w : World) (h1 : RdE w ⟨a1, n1, c1⟩ e1) (h2 : RdE w ⟨a2, n2, c2⟩ e2) (k1 : RdL w ⟨b1, m1, d1⟩ l1) (k2 : RdL w ⟨b2, m2, d2⟩ l2) (hn : n1 ≤ 140737488355328) (hm : m1 ≤ 140737488355328) : Calls Try.prog 11 #[.agg (Bv.cells ⟨u1, ⟨a1, n1, c1⟩, ⟨b1, m1, d1⟩⟩), .agg (Bv.cells ⟨u2, ⟨a2, n2, c2⟩, ⟨b2, m2, d2⟩⟩)] w (fun e w' => e = .returned (.bool (sameB u1 e1 l1 u2 e2 l2)) ∧ Kept No w w') := by
  obtain ⟨C, hC⟩ : ∃ C : Ending → World → Prop, C = (fun e w' => e = .returned (.bool (sameB u1 e1 l1 u2 e2 l2)) ∧ Kept No w w') := ⟨_, rfl⟩
  have HC : Hid (C = (fun e w' => e = .returned (.bool (sameB u1 e1 l1 u2 e2 l2)) ∧ Kept No w w')) := hC
  rw [← hC]
  clear hC
  have H1 : Hid (RdE w ⟨a1, n1, c1⟩ e1) := h1
  have H2 : Hid (RdE w ⟨a2, n2, c2⟩ e2) := h2
  have K1 : Hid (RdL w ⟨b1, m1, d1⟩ l1) := k1
  have K2 : Hid (RdL w ⟨b2, m2, d2⟩ l2) := k2
  clear h1 h2 k1 k2
  have HF : Hid (Fr No w w []) := Fr.start _ _
  go_enter Try.func11, Try.ntmps11
  go_upto_region 0 with fail
  refine WL.start ?_
  refine wp_runW (.pointer (some ⟨w.heap.size, 0, none⟩)) (w.alloc (.cells (Bv.cells ⟨u1, ⟨a1, n1, c1⟩, ⟨b1, m1, d1⟩⟩) 26)) (exec_box 26 _ rfl (Bv.cells ⟨u1, ⟨a1, n1, c1⟩, ⟨b1, m1, d1⟩⟩) (by kernel_rfl)) (by kernel_rfl) ?_
  try simp only [pA, pB, p1, p2, p3]
  have HF : Hid (Fr No w (w.alloc (.cells (Bv.cells ⟨u1, ⟨a1, n1, c1⟩, ⟨b1, m1, d1⟩⟩) 26)) [(w.heap.size, 26, Bv.cells ⟨u1, ⟨a1, n1, c1⟩, ⟨b1, m1, d1⟩⟩)]) := HF.out.alloc _ _
  generalize w.alloc (.cells (Bv.cells ⟨u1, ⟨a1, n1, c1⟩, ⟨b1, m1, d1⟩⟩) 26) = wk2 at HF ⊢
  generalize w.heap.size = gk1 at HF ⊢
  refine wp_runW (.pointer (some ⟨wk2.heap.size, 0, none⟩)) (wk2.alloc (.cells (Bv.cells ⟨u2, ⟨a2, n2, c2⟩, ⟨b2, m2, d2⟩⟩) 26)) (exec_box 26 _ rfl (Bv.cells ⟨u2, ⟨a2, n2, c2⟩, ⟨b2, m2, d2⟩⟩) (by kernel_rfl)) (by kernel_rfl) ?_
  try simp only [pA, pB, p1, p2, p3]
  have HF : Hid (Fr No w (wk2.alloc (.cells (Bv.cells ⟨u2, ⟨a2, n2, c2⟩, ⟨b2, m2, d2⟩⟩) 26)) [(gk1, 26, Bv.cells ⟨u1, ⟨a1, n1, c1⟩, ⟨b1, m1, d1⟩⟩), (wk2.heap.size, 26, Bv.cells ⟨u2, ⟨a2, n2, c2⟩, ⟨b2, m2, d2⟩⟩)]) := HF.out.alloc _ _
  generalize wk2.alloc (.cells (Bv.cells ⟨u2, ⟨a2, n2, c2⟩, ⟨b2, m2, d2⟩⟩) 26) = wk4 at HF ⊢
  generalize wk2.heap.size = gk3 at HF ⊢
  refine tK (.bool false) ?_
  try simp only [pA, pB, p1, p2, p3]
  refine WL.nil ?_
  try simp only [pA, pB, p1, p2, p3]
  go_upto_region 1 with fail
  refine WL.start ?_
  refine tK (.pointer (some ⟨gk1, 0, none⟩)) ?_
  try simp only [pA, pB, p1, p2, p3]
  refine tW (.int .i64 u1) (exec_load 3 _ rfl ⟨gk1, 0, none⟩ (by kernel_rfl) (.int .i64 u1) (ld3 ((HF.out.box 0 _ _ _ rfl).cell 0))) ?_
  try simp only [pA, pB, p1, p2, p3]
  refine tK (.pointer (some ⟨gk3, 0, none⟩)) ?_
  try simp only [pA, pB, p1, p2, p3]
  refine tW (.int .i64 u2) (exec_load 3 _ rfl ⟨gk3, 0, none⟩ (by kernel_rfl) (.int .i64 u2) (ld3 ((HF.out.box 1 _ _ _ rfl).cell 0))) ?_
  try simp only [pA, pB, p1, p2, p3]
  cases q1 : (u1 == u2)
  ·skip
   refine tW (.bool false) (exec_bin .eql 3 _ _ _ rfl (.int .i64 u1) (.int .i64 u2) (.bool false) (by kernel_rfl) (by kernel_rfl) (by kernel_rfl) (by rw [b_eql, q1]; try rfl)) ?_
   try simp only [pA, pB, p1, p2, p3]
   refine tK (.bool false) ?_
   try simp only [pA, pB, p1, p2, p3]
   refine sK ?_
   try simp only [pA, pB, p1, p2, p3]
   refine sK ?_
   try simp only [pA, pB, p1, p2, p3]
   refine sK ?_
   try simp only [pA, pB, p1, p2, p3]
   refine sK ?_
   try simp only [pA, pB, p1, p2, p3]
   refine sK ?_
   try simp only [pA, pB, p1, p2, p3]
   refine tK (.bool false) ?_
   try simp only [pA, pB, p1, p2, p3]
   refine tK (.bool false) ?_
   try simp only [pA, pB, p1, p2, p3]
   refine sK ?_
   try simp only [pA, pB, p1, p2, p3]
   refine sK ?_
   try simp only [pA, pB, p1, p2, p3]
   refine sK ?_
   try simp only [pA, pB, p1, p2, p3]
   refine sK ?_
   try simp only [pA, pB, p1, p2, p3]
   refine sK ?_
   try simp only [pA, pB, p1, p2, p3]
   refine tK (.bool false) ?_
   try simp only [pA, pB, p1, p2, p3]
   refine tK (.bool false) ?_
   try simp only [pA, pB, p1, p2, p3]
   refine WL.nil ?_
   try simp only [pA, pB, p1, p2, p3]
   have hv : sameB u1 e1 l1 u2 e2 l2 = false := by simp [sameB, q1]
   go_wp2
   rw [HC.out]
   exact ⟨by rw [hv]; rfl, HF.out.kept⟩
  ·skip
   refine tW (.bool true) (exec_bin .eql 3 _ _ _ rfl (.int .i64 u1) (.int .i64 u2) (.bool true) (by kernel_rfl) (by kernel_rfl) (by kernel_rfl) (by rw [b_eql, q1]; try rfl)) ?_
   try simp only [pA, pB, p1, p2, p3]
   refine tK (.bool true) ?_
   try simp only [pA, pB, p1, p2, p3]
   refine tK (.pointer (some ⟨gk1, 1, none⟩)) ?_
   try simp only [pA, pB, p1, p2, p3]
   refine tW (.slice a1 n1 c1) (exec_load 23 _ rfl ⟨gk1, 1, none⟩ (by kernel_rfl) (.slice a1 n1 c1) (ld22 ((HF.out.box 0 _ _ _ rfl).cell 1))) ?_
   try simp only [pA, pB, p1, p2, p3]
   refine tK (.pointer (some ⟨gk3, 1, none⟩)) ?_
   try simp only [pA, pB, p1, p2, p3]
   refine tW (.slice a2 n2 c2) (exec_load 23 _ rfl ⟨gk3, 1, none⟩ (by kernel_rfl) (.slice a2 n2 c2) (ld22 ((HF.out.box 1 _ _ _ rfl).cell 1))) ?_
   try simp only [pA, pB, p1, p2, p3]
   cases q2 : (sameE e1 e2)
   ·skip
    refine wp_callW 12 #[.slice a1 n1 c1, .slice a2 n2 c2] (by kernel_rfl) _ (sameE_any a1 n1 c1 a2 n2 c2 e1 e2 _ (H1.out.no HF.out.kept) (H2.out.no HF.out.kept) hn) (by kernel_rfl) ?_
    rintro e wk5 ⟨rfl, hk⟩
    have HF : Hid (Fr No w (wk5) [(gk1, 26, Bv.cells ⟨u1, ⟨a1, n1, c1⟩, ⟨b1, m1, d1⟩⟩), (gk3, 26, Bv.cells ⟨u2, ⟨a2, n2, c2⟩, ⟨b2, m2, d2⟩⟩)]) := HF.out.no hk
    clear hk
    refine ⟨.bool false, by rw [q2], ?_⟩
    try simp only [pA, pB, p1, p2, p3]
    refine tK (.bool false) ?_
    try simp only [pA, pB, p1, p2, p3]
    refine tK (.bool false) ?_
    try simp only [pA, pB, p1, p2, p3]
    refine sK ?_
    try simp only [pA, pB, p1, p2, p3]
    refine sK ?_
    try simp only [pA, pB, p1, p2, p3]
    refine sK ?_
    try simp only [pA, pB, p1, p2, p3]
    refine sK ?_
    try simp only [pA, pB, p1, p2, p3]
    refine sK ?_
    try simp only [pA, pB, p1, p2, p3]
    refine tK (.bool false) ?_
    try simp only [pA, pB, p1, p2, p3]
    refine tK (.bool false) ?_
    try simp only [pA, pB, p1, p2, p3]
    refine WL.nil ?_
    try simp only [pA, pB, p1, p2, p3]
    have hv : sameB u1 e1 l1 u2 e2 l2 = false := by simp [sameB, q1, q2]
    go_wp2
    rw [HC.out]
    exact ⟨by rw [hv]; rfl, HF.out.kept⟩
   ·skip
    refine wp_callW 12 #[.slice a1 n1 c1, .slice a2 n2 c2] (by kernel_rfl) _ (sameE_any a1 n1 c1 a2 n2 c2 e1 e2 _ (H1.out.no HF.out.kept) (H2.out.no HF.out.kept) hn) (by kernel_rfl) ?_
    rintro e wk6 ⟨rfl, hk⟩
    have HF : Hid (Fr No w (wk6) [(gk1, 26, Bv.cells ⟨u1, ⟨a1, n1, c1⟩, ⟨b1, m1, d1⟩⟩), (gk3, 26, Bv.cells ⟨u2, ⟨a2, n2, c2⟩, ⟨b2, m2, d2⟩⟩)]) := HF.out.no hk
    clear hk
    refine ⟨.bool true, by rw [q2], ?_⟩
    try simp only [pA, pB, p1, p2, p3]
    refine tK (.bool true) ?_
    try simp only [pA, pB, p1, p2, p3]
    refine tK (.bool true) ?_
    try simp only [pA, pB, p1, p2, p3]
    refine tK (.pointer (some ⟨gk1, 2, none⟩)) ?_
    try simp only [pA, pB, p1, p2, p3]
    refine tW (.slice b1 m1 d1) (exec_load 24 _ rfl ⟨gk1, 2, none⟩ (by kernel_rfl) (.slice b1 m1 d1) (ld23 ((HF.out.box 0 _ _ _ rfl).cell 2))) ?_
    try simp only [pA, pB, p1, p2, p3]
    refine tK (.pointer (some ⟨gk3, 2, none⟩)) ?_
    try simp only [pA, pB, p1, p2, p3]
    refine tW (.slice b2 m2 d2) (exec_load 24 _ rfl ⟨gk3, 2, none⟩ (by kernel_rfl) (.slice b2 m2 d2) (ld23 ((HF.out.box 1 _ _ _ rfl).cell 2))) ?_
    try simp only [pA, pB, p1, p2, p3]
    cases q3 : (sameL l1 l2)
    ·skip
     refine wp_callW 27 #[.slice b1 m1 d1, .slice b2 m2 d2] (by kernel_rfl) _ (sameL_any b1 m1 d1 b2 m2 d2 l1 l2 _ (K1.out.no HF.out.kept) (K2.out.no HF.out.kept) hm) (by kernel_rfl) ?_
     rintro e wk7 ⟨rfl, hk⟩
     have HF : Hid (Fr No w (wk7) [(gk1, 26, Bv.cells ⟨u1, ⟨a1, n1, c1⟩, ⟨b1, m1, d1⟩⟩), (gk3, 26, Bv.cells ⟨u2, ⟨a2, n2, c2⟩, ⟨b2, m2, d2⟩⟩)]) := HF.out.no hk
     clear hk
     refine ⟨.bool false, by rw [q3], ?_⟩
     try simp only [pA, pB, p1, p2, p3]
     refine tK (.bool false) ?_
     try simp only [pA, pB, p1, p2, p3]
     refine tK (.bool false) ?_
     try simp only [pA, pB, p1, p2, p3]
     refine WL.nil ?_
     try simp only [pA, pB, p1, p2, p3]
     have hv : sameB u1 e1 l1 u2 e2 l2 = false := by simp [sameB, q1, q2, q3]
     go_wp2
     rw [HC.out]
     exact ⟨by rw [hv]; rfl, HF.out.kept⟩
    ·skip
     refine wp_callW 27 #[.slice b1 m1 d1, .slice b2 m2 d2] (by kernel_rfl) _ (sameL_any b1 m1 d1 b2 m2 d2 l1 l2 _ (K1.out.no HF.out.kept) (K2.out.no HF.out.kept) hm) (by kernel_rfl) ?_
     rintro e wk8 ⟨rfl, hk⟩
     have HF : Hid (Fr No w (wk8) [(gk1, 26, Bv.cells ⟨u1, ⟨a1, n1, c1⟩, ⟨b1, m1, d1⟩⟩), (gk3, 26, Bv.cells ⟨u2, ⟨a2, n2, c2⟩, ⟨b2, m2, d2⟩⟩)]) := HF.out.no hk
     clear hk
     refine ⟨.bool true, by rw [q3], ?_⟩
     try simp only [pA, pB, p1, p2, p3]
     refine tK (.bool true) ?_
     try simp only [pA, pB, p1, p2, p3]
     refine tK (.bool true) ?_
     try simp only [pA, pB, p1, p2, p3]
     refine WL.nil ?_
     try simp only [pA, pB, p1, p2, p3]
     have hv : sameB u1 e1 l1 u2 e2 l2 = true := by simp [sameB, q1, q2, q3]
     go_wp2
     rw [HC.out]
     exact ⟨by rw [hv]; rfl, HF.out.kept⟩
end Go.Proofs.Ytfemlnfknebalab
