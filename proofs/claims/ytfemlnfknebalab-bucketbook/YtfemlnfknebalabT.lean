import Derived.Test.YtfemlnfknebalabTa
namespace Go.Proofs.Ytfemlnfknebalab
open Go.RowKit
set_option linter.unusedVariables false
set_option linter.unusedSimpArgs false

def inB (n lo hi : Int) : Bool := decide (lo ≤ n) && decide (n ≤ hi)
theorem within_any (n lo hi : Int) (w : World) : Calls Try.prog 19 #[.int .i64 n, .int .i64 lo, .int .i64 hi] w (fun e w' => e = .returned (.bool (inB n lo hi)) ∧ w' = w) := by
  have HE : Hid (inB n lo hi = (decide (lo ≤ n) && decide (n ≤ hi))) := rfl
  go_enter Try.func19, Try.ntmps19
  go_wp2
  all_goals go_ret
  all_goals refine ⟨ret_bool ?_, rfl⟩
  all_goals rw [HE.out]
  all_goals first | (simp_all; done) | (simp_all; omega) | (simp_all; intros; omega)
def badAt (nm : ByteArray) (i : Nat) : Bool := ((nm[i]?.getD 1).toNat == 0) || ((nm[i]?.getD 1).toNat == 47)
def nameB (nm : ByteArray) : Bool := decide (1 ≤ nm.size) && (decide (nm.size ≤ 255) && (List.range nm.size).all (fun i => !badAt nm i))
theorem nameB_true {nm : ByteArray} (h1 : 1 ≤ nm.size) (h2 : nm.size ≤ 255) (h : ∀ j, j < nm.size → badAt nm j = false) : nameB nm = true := by
  simp only [nameB, Bool.and_eq_true, decide_eq_true_eq, List.all_eq_true, List.mem_range]
  exact ⟨h1, h2, fun j hj => by rw [h j hj]; rfl⟩
theorem nameB_false {nm : ByteArray} {j : Nat} (hj : j < nm.size) (h : badAt nm j = true) : nameB nm = false := by
  cases hn : nameB nm
  · rfl
  · simp only [nameB, Bool.and_eq_true, decide_eq_true_eq, List.all_eq_true, List.mem_range] at hn
    have := hn.2.2 j hj
    rw [h] at this
    cases this
theorem eqlU (a b : Int) (w : World) : (binOp .eql 5 (.int .u8 a) (.int .u8 b)).run Try.prog w = .ok (.bool (a == b)) w := by kernel_rfl
theorem run_ix (nm : ByteArray) (i : Nat) (hi : i < nm.size) (w : World) : (Instr.index 9 (.string nm) (.int .i64 i)).run Try.prog w = .ok (.int .u8 ((nm[i]?.getD 1).toNat : Nat)) w := by
  rw [run_index_string w 9 nm .i64 i Try.und9, dif_pos ⟨by omega, by omega⟩]
  simp [hi]
theorem exec_ix {o : Oper} {a : Act} {w : World} (x y : Operand) (ho : o.op = .index 9 x y) (nm : ByteArray) (i : Nat) (hx : a.eval x = .string nm) (hy : a.eval y = .int .i64 i) (hi : i < nm.size) : (execOp a.eval o).run Try.prog w = .ok (.value (.int .u8 ((nm[i]?.getD 1).toNat : Nat))) w := by
  simp only [execOp, ho, hx, hy, Sem.run_bind, run_ix nm i hi, Result.andThen_ok, Sem.run_pure]

set_option maxRecDepth 100000 in
set_option maxHeartbeats 1000000 in
theorem name_any (nm : ByteArray) (w : World) : Calls Try.prog 20 #[.string nm] w (fun e w' => e = .returned (.bool (nameB nm)) ∧ w' = w) := by
  by_cases hs : (nm.size : Int) < 1
  · have HN : Hid (nameB nm = false) := by
      have : ¬ 1 ≤ nm.size := by omega
      simp [Hid, nameB, this]
    go_enter Try.func20, Try.ntmps20
    go_wp2
    go_ret
    exact ⟨by rw [HN.out]; rfl, rfl⟩
  by_cases hs2 : 255 < (nm.size : Int)
  · have HN : Hid (nameB nm = false) := by
      have : ¬ nm.size ≤ 255 := by omega
      simp [Hid, nameB, this]
    go_enter Try.func20, Try.ntmps20
    go_wp2
    go_ret
    exact ⟨by rw [HN.out]; rfl, rfl⟩
  have HS : Hid (1 ≤ nm.size ∧ nm.size ≤ 255) := ⟨by omega, by omega⟩
  go_enter Try.func20, Try.ntmps20
  go_wp2
  go_loopw [3] (fun vi wr => ∃ (i : Nat), vi = .int .i64 i ∧ i ≤ nm.size ∧ Hid (∀ j, j < i → badAt nm j = false) ∧ wr = w) (fun i _ => nm.size - (intOf i).toNat)
  case atStart => exact ⟨0, by go_num, by omega, fun j hj => absurd hj (Nat.not_lt_zero _), rfl⟩
  case round =>
    obtain ⟨i, rfl, hi, HB, rfl⟩ := hrel
    by_cases hlt : i < nm.size
    · have hlt' : (i : Int) < (nm.size : Int) := by omega
      go_upto_region 6 with fail
      obtain ⟨y, hy⟩ : ∃ y, y = ((nm[i]?.getD 1).toNat : Int) := ⟨_, rfl⟩
      cases h0 : (y == 0)
      · cases h47 : (y == 47)
        · have HG : Hid (badAt nm i = false) := by
            show badAt nm i = false
            have e0 : ((nm[i]?.getD 1).toNat == 0) = false := by rw [hy] at h0; simp at h0 ⊢; omega
            have e1 : ((nm[i]?.getD 1).toNat == 47) = false := by rw [hy] at h47; simp at h47 ⊢; omega
            simp only [badAt, e0, e1]; rfl
          refine WL.start ?_
          refine tK (.string nm) ?_
          refine tK (.int .i64 i) ?_
          refine tW (.int .u8 y) (by rw [hy]; exact exec_ix _ _ rfl nm i (by kernel_rfl) (by kernel_rfl) hlt) ?_
          refine tW (.bool false) (exec_bin .eql 5 _ _ _ rfl (.int .u8 y) (.int .u8 0) (.bool false) (by kernel_rfl) (by kernel_rfl) (by kernel_rfl) (by rw [eqlU, h0])) ?_
          refine tK (.bool false) ?_
          refine tK (.string nm) ?_
          refine tK (.int .i64 i) ?_
          refine tW (.int .u8 y) (by rw [hy]; exact exec_ix _ _ rfl nm i (by kernel_rfl) (by kernel_rfl) hlt) ?_
          refine tW (.bool false) (exec_bin .eql 5 _ _ _ rfl (.int .u8 y) (.int .u8 47) (.bool false) (by kernel_rfl) (by kernel_rfl) (by kernel_rfl) (by rw [eqlU, h47])) ?_
          refine tK (.bool false) ?_
          try simp only [pA, pB, p1, p2, p3]
          refine WL.nil ?_
          try simp only [pA, pB, p1, p2, p3]
          go_wp2
          go_roundw
          case measure => simp [intOf]; omega
          case rel => exact ⟨i + 1, by go_num, by omega, fun j hj => by rcases Nat.lt_succ_iff_lt_or_eq.1 hj with h | rfl; exact HB.out j h; exact HG.out, by first | trivial | rfl⟩
        · have HN : Hid (nameB nm = false) := nameB_false hlt (by
            have e1 : ((nm[i]?.getD 1).toNat == 47) = true := by rw [hy] at h47; simp at h47 ⊢; omega
            simp only [badAt, e1, Bool.or_true])
          refine WL.start ?_
          refine tK (.string nm) ?_
          refine tK (.int .i64 i) ?_
          refine tW (.int .u8 y) (by rw [hy]; exact exec_ix _ _ rfl nm i (by kernel_rfl) (by kernel_rfl) hlt) ?_
          refine tW (.bool false) (exec_bin .eql 5 _ _ _ rfl (.int .u8 y) (.int .u8 0) (.bool false) (by kernel_rfl) (by kernel_rfl) (by kernel_rfl) (by rw [eqlU, h0])) ?_
          refine tK (.bool false) ?_
          refine tK (.string nm) ?_
          refine tK (.int .i64 i) ?_
          refine tW (.int .u8 y) (by rw [hy]; exact exec_ix _ _ rfl nm i (by kernel_rfl) (by kernel_rfl) hlt) ?_
          refine tW (.bool true) (exec_bin .eql 5 _ _ _ rfl (.int .u8 y) (.int .u8 47) (.bool true) (by kernel_rfl) (by kernel_rfl) (by kernel_rfl) (by rw [eqlU, h47])) ?_
          refine tK (.bool true) ?_
          try simp only [pA, pB, p1, p2, p3]
          refine WL.nil ?_
          try simp only [pA, pB, p1, p2, p3]
          go_wp2
          go_ret
          exact ⟨by rw [HN.out]; rfl, rfl⟩
      · have HN : Hid (nameB nm = false) := nameB_false hlt (by
          have e1 : ((nm[i]?.getD 1).toNat == 0) = true := by rw [hy] at h0; simp at h0 ⊢; omega
          simp only [badAt, e1, Bool.true_or])
        refine WL.start ?_
        refine tK (.string nm) ?_
        refine tK (.int .i64 i) ?_
        refine tW (.int .u8 y) (by rw [hy]; exact exec_ix _ _ rfl nm i (by kernel_rfl) (by kernel_rfl) hlt) ?_
        refine tW (.bool true) (exec_bin .eql 5 _ _ _ rfl (.int .u8 y) (.int .u8 0) (.bool true) (by kernel_rfl) (by kernel_rfl) (by kernel_rfl) (by rw [eqlU, h0])) ?_
        refine tK (.bool true) ?_
        refine sK ?_
        refine sK ?_
        refine sK ?_
        refine sK ?_
        refine tK (.bool true) ?_
        try simp only [pA, pB, p1, p2, p3]
        refine WL.nil ?_
        try simp only [pA, pB, p1, p2, p3]
        go_wp2
        go_ret
        exact ⟨by rw [HN.out]; rfl, rfl⟩
    · have e : i = nm.size := by omega
      have HN : Hid (nameB nm = true) := nameB_true HS.out.1 HS.out.2 (fun j hj => HB.out j (by omega))
      have hlt' : ¬ (i : Int) < (nm.size : Int) := by omega
      go_wp2
      go_ret
      exact ⟨by rw [HN.out]; rfl, rfl⟩



def fileB (a b : Int) : Bool := inB a 1 255 && inB b 1 1099511627776
def cmdB (c : Cm) : Bool :=
  inB c.k 1 7 && (inB c.cl 1 255 && (inB c.op 1 1099511627776 && ((!(c.k == 4)) == !eqN c.nm ⟨#[]⟩) && (c.k == 4 || nameB c.nm) && (decide (5 ≤ c.k) == !eqF c.f0 c.f1 0 0) && (!decide (5 ≤ c.k) || fileB c.f0 c.f1) && ((c.k == 7) == !eqF c.g0 c.g1 0 0) && (!(c.k == 7) || fileB c.g0 c.g1) && inB c.sz 0 4294967296 && (decide (5 ≤ c.k) || c.sz == 0)))
set_option maxRecDepth 100000 in
set_option maxHeartbeats 4000000 in
theorem file_any (n m : Int) (w : World) : Calls Try.prog 21 #[.agg #[.int .i64 n, .int .i64 m]] w (fun e w' => e = .returned (.bool (fileB n m)) ∧ Kept No w w') := by
  obtain ⟨C, hC⟩ : ∃ C : Ending → World → Prop, C = (fun e w' => e = .returned (.bool (fileB n m)) ∧ Kept No w w') := ⟨_, rfl⟩
  have HC : Hid (C = (fun e w' => e = .returned (.bool (fileB n m)) ∧ Kept No w w')) := hC
  rw [← hC]
  clear hC
  have HF : Hid (Fr No w w []) := Fr.start _ _
  go_enter Try.func21, Try.ntmps21
  go_upto_region 0 with fail
  refine WL.start ?_
  refine wp_runW (.pointer (some ⟨w.heap.size, 0, none⟩)) (w.alloc (.cells (#[.int .i64 n, .int .i64 m]) 29)) (exec_box 29 _ rfl (#[.int .i64 n, .int .i64 m]) (by kernel_rfl)) (by kernel_rfl) ?_
  try simp only [pA, pB, p1, p2, p3]
  have HF : Hid (Fr No w (w.alloc (.cells (#[.int .i64 n, .int .i64 m]) 29)) [(w.heap.size, 29, #[.int .i64 n, .int .i64 m])]) := HF.out.alloc _ _
  generalize w.alloc (.cells (#[.int .i64 n, .int .i64 m]) 29) = wk2 at HF ⊢
  generalize w.heap.size = gk1 at HF ⊢
  refine tK (.bool false) ?_
  try simp only [pA, pB, p1, p2, p3]
  refine WL.nil ?_
  try simp only [pA, pB, p1, p2, p3]
  go_upto_region 1 with fail
  refine WL.start ?_
  refine tK (.pointer (some ⟨gk1, 0, none⟩)) ?_
  refine tW (.int .i64 n) (exec_load 3 _ rfl ⟨gk1, 0, none⟩ (by kernel_rfl) (.int .i64 n) (ld3 ((HF.out.box 0 _ _ _ rfl).cell 0))) ?_
  try simp only [pA, pB, p1, p2, p3]
  cases q1 : (inB n 1 255)
  ·skip
   refine wp_callW 19 #[.int .i64 n, .int .i64 1, .int .i64 255] (by kernel_rfl) _ (within_any _ _ _ _) (by kernel_rfl) ?_
   rintro e wq ⟨rfl, hwq⟩
   rw [hwq]
   clear hwq wq
   refine ⟨.bool false, by rw [q1], ?_⟩
   try simp only [pA, pB, p1, p2, p3]
   refine tK (.bool false) ?_
   refine sK ?_
   refine sK ?_
   refine sK ?_
   refine tK (.bool false) ?_
   refine tK (.bool false) ?_
   try simp only [pA, pB, p1, p2, p3]
   refine WL.nil ?_
   try simp only [pA, pB, p1, p2, p3]
   go_wp2
   rw [HC.out]
   exact ⟨by unfold fileB; rw [q1]; rfl, HF.out.kept⟩
  ·skip
   refine wp_callW 19 #[.int .i64 n, .int .i64 1, .int .i64 255] (by kernel_rfl) _ (within_any _ _ _ _) (by kernel_rfl) ?_
   rintro e wq ⟨rfl, hwq⟩
   rw [hwq]
   clear hwq wq
   refine ⟨.bool true, by rw [q1], ?_⟩
   try simp only [pA, pB, p1, p2, p3]
   refine tK (.bool true) ?_
   refine tK (.pointer (some ⟨gk1, 1, none⟩)) ?_
   refine tW (.int .i64 m) (exec_load 3 _ rfl ⟨gk1, 1, none⟩ (by kernel_rfl) (.int .i64 m) (ld3 ((HF.out.box 0 _ _ _ rfl).cell 1))) ?_
   try simp only [pA, pB, p1, p2, p3]
   cases q2 : (inB m 1 1099511627776)
   ·skip
    refine wp_callW 19 #[.int .i64 m, .int .i64 1, .int .i64 1099511627776] (by kernel_rfl) _ (within_any _ _ _ _) (by kernel_rfl) ?_
    rintro e wq ⟨rfl, hwq⟩
    rw [hwq]
    clear hwq wq
    refine ⟨.bool false, by rw [q2], ?_⟩
    try simp only [pA, pB, p1, p2, p3]
    refine tK (.bool false) ?_
    refine tK (.bool false) ?_
    try simp only [pA, pB, p1, p2, p3]
    refine WL.nil ?_
    try simp only [pA, pB, p1, p2, p3]
    go_wp2
    rw [HC.out]
    exact ⟨by unfold fileB; rw [q1, q2]; rfl, HF.out.kept⟩
   ·skip
    refine wp_callW 19 #[.int .i64 m, .int .i64 1, .int .i64 1099511627776] (by kernel_rfl) _ (within_any _ _ _ _) (by kernel_rfl) ?_
    rintro e wq ⟨rfl, hwq⟩
    rw [hwq]
    clear hwq wq
    refine ⟨.bool true, by rw [q2], ?_⟩
    try simp only [pA, pB, p1, p2, p3]
    refine tK (.bool true) ?_
    refine tK (.bool true) ?_
    try simp only [pA, pB, p1, p2, p3]
    refine WL.nil ?_
    try simp only [pA, pB, p1, p2, p3]
    go_wp2
    rw [HC.out]
    exact ⟨by unfold fileB; rw [q1, q2]; rfl, HF.out.kept⟩
set_option maxRecDepth 100000 in
set_option maxHeartbeats 4000000 in
theorem command_any (c : Cm) (w : World) : Calls Try.prog 5 #[.agg (Cm.cells c)] w (fun e w' => e = .returned (.bool (cmdB c)) ∧ Kept No w w') := by
  obtain ⟨C, hC⟩ : ∃ C : Ending → World → Prop, C = (fun e w' => e = .returned (.bool (cmdB c)) ∧ Kept No w w') := ⟨_, rfl⟩
  have HC : Hid (C = (fun e w' => e = .returned (.bool (cmdB c)) ∧ Kept No w w')) := hC
  rw [← hC]
  clear hC
  have HF : Hid (Fr No w w []) := Fr.start _ _
  go_enter Try.func5, Try.ntmps5
  go_upto_region 0 with fail
  refine WL.start ?_
  refine wp_runW (.pointer (some ⟨w.heap.size, 0, none⟩)) (w.alloc (.cells (Cm.cells c) 31)) (exec_box 31 _ rfl (Cm.cells c) (by kernel_rfl)) (by kernel_rfl) ?_
  try simp only [pA, pB, p1, p2, p3]
  have HF : Hid (Fr No w (w.alloc (.cells (Cm.cells c) 31)) [(w.heap.size, 31, Cm.cells c)]) := HF.out.alloc _ _
  generalize w.alloc (.cells (Cm.cells c) 31) = wk2 at HF ⊢
  generalize w.heap.size = gk1 at HF ⊢
  refine tK (.bool false) ?_
  try simp only [pA, pB, p1, p2, p3]
  refine WL.nil ?_
  try simp only [pA, pB, p1, p2, p3]
  go_upto_region 1 with fail
  refine WL.start ?_
  refine tK (.pointer (some ⟨gk1, 0, none⟩)) ?_
  refine tW (.int .i64 c.k) (exec_load 3 _ rfl ⟨gk1, 0, none⟩ (by kernel_rfl) (.int .i64 c.k) (ld3 ((HF.out.box 0 _ _ _ rfl).cell 0))) ?_
  try simp only [pA, pB, p1, p2, p3]
  cases q1 : (inB c.k 1 7)
  ·skip
   refine wp_callW 19 #[.int .i64 c.k, .int .i64 1, .int .i64 7] (by kernel_rfl) _ (within_any _ _ _ _) (by kernel_rfl) ?_
   rintro e wq ⟨rfl, hwq⟩
   rw [hwq]
   clear hwq wq
   refine ⟨.bool false, by rw [q1], ?_⟩
   try simp only [pA, pB, p1, p2, p3]
   refine tK (.bool true) ?_
   refine tK (.bool true) ?_
   refine sK ?_
   refine sK ?_
   refine sK ?_
   refine sK ?_
   refine tK (.bool true) ?_
   refine tK (.bool true) ?_
   refine sK ?_
   refine sK ?_
   refine sK ?_
   refine sK ?_
   refine tK (.bool true) ?_
   try simp only [pA, pB, p1, p2, p3]
   refine WL.nil ?_
   try simp only [pA, pB, p1, p2, p3]
   go_upto_region 2 with fail
   refine WL.start ?_
   refine tK (.bool false) ?_
   try simp only [pA, pB, p1, p2, p3]
   refine WL.nil ?_
   try simp only [pA, pB, p1, p2, p3]
   have hv : cmdB c = false := by simp [cmdB, q1]
   go_wp2
   rw [HC.out]
   exact ⟨by rw [hv]; rfl, HF.out.kept⟩
  ·skip
   refine wp_callW 19 #[.int .i64 c.k, .int .i64 1, .int .i64 7] (by kernel_rfl) _ (within_any _ _ _ _) (by kernel_rfl) ?_
   rintro e wq ⟨rfl, hwq⟩
   rw [hwq]
   clear hwq wq
   refine ⟨.bool true, by rw [q1], ?_⟩
   try simp only [pA, pB, p1, p2, p3]
   refine tK (.bool false) ?_
   refine tK (.bool false) ?_
   refine tK (.pointer (some ⟨gk1, 1, none⟩)) ?_
   refine tW (.int .i64 c.cl) (exec_load 3 _ rfl ⟨gk1, 1, none⟩ (by kernel_rfl) (.int .i64 c.cl) (ld3 ((HF.out.box 0 _ _ _ rfl).cell 1))) ?_
   try simp only [pA, pB, p1, p2, p3]
   cases q2 : (inB c.cl 1 255)
   ·skip
    refine wp_callW 19 #[.int .i64 c.cl, .int .i64 1, .int .i64 255] (by kernel_rfl) _ (within_any _ _ _ _) (by kernel_rfl) ?_
    rintro e wq ⟨rfl, hwq⟩
    rw [hwq]
    clear hwq wq
    refine ⟨.bool false, by rw [q2], ?_⟩
    try simp only [pA, pB, p1, p2, p3]
    refine tK (.bool true) ?_
    refine tK (.bool true) ?_
    refine tK (.bool true) ?_
    refine sK ?_
    refine sK ?_
    refine sK ?_
    refine sK ?_
    refine tK (.bool true) ?_
    try simp only [pA, pB, p1, p2, p3]
    refine WL.nil ?_
    try simp only [pA, pB, p1, p2, p3]
    go_upto_region 2 with fail
    refine WL.start ?_
    refine tK (.bool false) ?_
    try simp only [pA, pB, p1, p2, p3]
    refine WL.nil ?_
    try simp only [pA, pB, p1, p2, p3]
    have hv : cmdB c = false := by simp [cmdB, q1, q2]
    go_wp2
    rw [HC.out]
    exact ⟨by rw [hv]; rfl, HF.out.kept⟩
   ·skip
    refine wp_callW 19 #[.int .i64 c.cl, .int .i64 1, .int .i64 255] (by kernel_rfl) _ (within_any _ _ _ _) (by kernel_rfl) ?_
    rintro e wq ⟨rfl, hwq⟩
    rw [hwq]
    clear hwq wq
    refine ⟨.bool true, by rw [q2], ?_⟩
    try simp only [pA, pB, p1, p2, p3]
    refine tK (.bool false) ?_
    refine tK (.bool false) ?_
    refine tK (.bool false) ?_
    refine tK (.pointer (some ⟨gk1, 2, none⟩)) ?_
    refine tW (.int .i64 c.op) (exec_load 3 _ rfl ⟨gk1, 2, none⟩ (by kernel_rfl) (.int .i64 c.op) (ld3 ((HF.out.box 0 _ _ _ rfl).cell 2))) ?_
    try simp only [pA, pB, p1, p2, p3]
    cases q3 : (inB c.op 1 1099511627776)
    ·skip
     refine wp_callW 19 #[.int .i64 c.op, .int .i64 1, .int .i64 1099511627776] (by kernel_rfl) _ (within_any _ _ _ _) (by kernel_rfl) ?_
     rintro e wq ⟨rfl, hwq⟩
     rw [hwq]
     clear hwq wq
     refine ⟨.bool false, by rw [q3], ?_⟩
     try simp only [pA, pB, p1, p2, p3]
     refine tK (.bool true) ?_
     refine tK (.bool true) ?_
     try simp only [pA, pB, p1, p2, p3]
     refine WL.nil ?_
     try simp only [pA, pB, p1, p2, p3]
     go_upto_region 2 with fail
     refine WL.start ?_
     refine tK (.bool false) ?_
     try simp only [pA, pB, p1, p2, p3]
     refine WL.nil ?_
     try simp only [pA, pB, p1, p2, p3]
     have hv : cmdB c = false := by simp [cmdB, q1, q2, q3]
     go_wp2
     rw [HC.out]
     exact ⟨by rw [hv]; rfl, HF.out.kept⟩
    ·skip
     refine wp_callW 19 #[.int .i64 c.op, .int .i64 1, .int .i64 1099511627776] (by kernel_rfl) _ (within_any _ _ _ _) (by kernel_rfl) ?_
     rintro e wq ⟨rfl, hwq⟩
     rw [hwq]
     clear hwq wq
     refine ⟨.bool true, by rw [q3], ?_⟩
     try simp only [pA, pB, p1, p2, p3]
     refine tK (.bool false) ?_
     refine tK (.bool false) ?_
     try simp only [pA, pB, p1, p2, p3]
     refine WL.nil ?_
     try simp only [pA, pB, p1, p2, p3]
     go_upto_region 3 with fail
     refine WL.start ?_
     refine tK (.pointer (some ⟨gk1, 0, none⟩)) ?_
     refine tW (.int .i64 c.k) (exec_load 3 _ rfl ⟨gk1, 0, none⟩ (by kernel_rfl) (.int .i64 c.k) (ld3 ((HF.out.box 0 _ _ _ rfl).cell 0))) ?_
     try simp only [pA, pB, p1, p2, p3]
     cases q4 : (c.k == 4)
     ·skip
      refine tW (.bool true) (exec_bin .neq 3 _ _ _ rfl (.int .i64 c.k) (.int .i64 4) (.bool true) (by kernel_rfl) (by kernel_rfl) (by kernel_rfl) (by rw [b_neq, q4]; try rfl)) ?_
      refine tK (.bool true) ?_
      try simp only [pA, pB, p1, p2, p3]
      refine WL.nil ?_
      try simp only [pA, pB, p1, p2, p3]
      go_upto_region 4 with fail
      refine WL.start ?_
      refine tK (.pointer (some ⟨gk1, 0, none⟩)) ?_
      refine tW (.int .i64 c.k) (exec_load 3 _ rfl ⟨gk1, 0, none⟩ (by kernel_rfl) (.int .i64 c.k) (ld3 ((HF.out.box 0 _ _ _ rfl).cell 0))) ?_
      try simp only [pA, pB, p1, p2, p3]
      cases q5 : (decide (5 ≤ c.k))
      ·skip
       refine tW (.bool false) (exec_bin .geq 3 _ _ _ rfl (.int .i64 c.k) (.int .i64 5) (.bool false) (by kernel_rfl) (by kernel_rfl) (by kernel_rfl) (by rw [b_geq, q5]; try rfl)) ?_
       refine tK (.bool false) ?_
       try simp only [pA, pB, p1, p2, p3]
       refine WL.nil ?_
       try simp only [pA, pB, p1, p2, p3]
       go_upto_region 5 with fail
       refine WL.start ?_
       refine tK (.pointer (some ⟨gk1, 0, none⟩)) ?_
       refine tW (.int .i64 c.k) (exec_load 3 _ rfl ⟨gk1, 0, none⟩ (by kernel_rfl) (.int .i64 c.k) (ld3 ((HF.out.box 0 _ _ _ rfl).cell 0))) ?_
       try simp only [pA, pB, p1, p2, p3]
       cases q6 : (c.k == 7)
       ·skip
        refine tW (.bool false) (exec_bin .eql 3 _ _ _ rfl (.int .i64 c.k) (.int .i64 7) (.bool false) (by kernel_rfl) (by kernel_rfl) (by kernel_rfl) (by rw [b_eql, q6]; try rfl)) ?_
        refine tK (.bool false) ?_
        try simp only [pA, pB, p1, p2, p3]
        refine WL.nil ?_
        try simp only [pA, pB, p1, p2, p3]
        go_upto_region 6 with fail
        refine WL.start ?_
        refine tK (.bool true) ?_
        refine tK (.pointer (some ⟨gk1, 3, none⟩)) ?_
        refine tW (.string c.nm) (exec_load 9 _ rfl ⟨gk1, 3, none⟩ (by kernel_rfl) (.string c.nm) (ld9 ((HF.out.box 0 _ _ _ rfl).cell 3))) ?_
        try simp only [pA, pB, p1, p2, p3]
        cases q7 : (eqN c.nm ⟨#[]⟩)
        ·skip
         refine tW (.bool true) (exec_bin .neq 9 _ _ _ rfl (.string c.nm) (.string ⟨#[]⟩) (.bool true) (by kernel_rfl) (by kernel_rfl) (by kernel_rfl) (by rw [eqN_neq, q7]; try rfl)) ?_
         refine tW (.bool false) (exec_bin .neq 4 _ _ _ rfl (.bool true) (.bool true) (.bool false) (by kernel_rfl) (by kernel_rfl) (by kernel_rfl) (by kernel_rfl)) ?_
         refine tK (.bool false) ?_
         refine tK (.bool true) ?_
         refine tK (.bool true) ?_
         refine tK (.pointer (some ⟨gk1, 3, none⟩)) ?_
         refine tW (.string c.nm) (exec_load 9 _ rfl ⟨gk1, 3, none⟩ (by kernel_rfl) (.string c.nm) (ld9 ((HF.out.box 0 _ _ _ rfl).cell 3))) ?_
         try simp only [pA, pB, p1, p2, p3]
         cases q8 : (nameB c.nm)
         ·skip
          refine wp_callW 20 #[.string c.nm] (by kernel_rfl) _ (name_any _ _) (by kernel_rfl) ?_
          rintro e wq ⟨rfl, hwq⟩
          rw [hwq]
          clear hwq wq
          refine ⟨.bool false, by rw [q8], ?_⟩
          try simp only [pA, pB, p1, p2, p3]
          refine tK (.bool true) ?_
          refine tK (.bool true) ?_
          refine tK (.bool true) ?_
          try simp only [pA, pB, p1, p2, p3]
          refine WL.nil ?_
          try simp only [pA, pB, p1, p2, p3]
          go_upto_region 7 with fail
          refine WL.start ?_
          refine tK (.bool false) ?_
          try simp only [pA, pB, p1, p2, p3]
          refine WL.nil ?_
          try simp only [pA, pB, p1, p2, p3]
          have hv : cmdB c = false := by simp [cmdB, q1, q2, q3, q4, q5, q6, q7, q8]
          go_wp2
          rw [HC.out]
          exact ⟨by rw [hv]; rfl, HF.out.kept⟩
         ·skip
          refine wp_callW 20 #[.string c.nm] (by kernel_rfl) _ (name_any _ _) (by kernel_rfl) ?_
          rintro e wq ⟨rfl, hwq⟩
          rw [hwq]
          clear hwq wq
          refine ⟨.bool true, by rw [q8], ?_⟩
          try simp only [pA, pB, p1, p2, p3]
          refine tK (.bool false) ?_
          refine tK (.bool false) ?_
          refine tK (.bool false) ?_
          try simp only [pA, pB, p1, p2, p3]
          refine WL.nil ?_
          try simp only [pA, pB, p1, p2, p3]
          go_upto_region 8 with fail
          refine WL.start ?_
          refine tK (.bool false) ?_
          refine tK (.pointer (some ⟨gk1, 4, none⟩)) ?_
          refine tW (.agg (#[.int .i64 c.f0, .int .i64 c.f1])) (exec_load 29 _ rfl ⟨gk1, 4, none⟩ (by kernel_rfl) (.agg (#[.int .i64 c.f0, .int .i64 c.f1])) (ld27 (cs := Cm.cs c) (HF.out.box 0 _ _ _ rfl) rfl rfl)) ?_
          refine tW (.agg (#[.int .i64 0, .int .i64 0])) (exec_build 29 _ rfl (#[.int .i64 0, .int .i64 0]) (by kernel_rfl)) ?_
          try simp only [pA, pB, p1, p2, p3]
          cases q9 : (eqF c.f0 c.f1 0 0)
          ·skip
           refine tW (.bool true) (exec_bin .neq 29 _ _ _ rfl (.agg (#[.int .i64 c.f0, .int .i64 c.f1])) (.agg (#[.int .i64 0, .int .i64 0])) (.bool true) (by kernel_rfl) (by kernel_rfl) (by kernel_rfl) (by rw [eqF_neq, q9]; try rfl)) ?_
           refine tW (.bool true) (exec_bin .neq 4 _ _ _ rfl (.bool false) (.bool true) (.bool true) (by kernel_rfl) (by kernel_rfl) (by kernel_rfl) (by kernel_rfl)) ?_
           refine tK (.bool true) ?_
           refine sK ?_
           refine sK ?_
           refine sK ?_
           refine sK ?_
           refine sK ?_
           refine sK ?_
           refine sK ?_
           refine tK (.bool true) ?_
           refine tK (.bool true) ?_
           refine sK ?_
           refine sK ?_
           refine sK ?_
           refine sK ?_
           refine sK ?_
           refine sK ?_
           refine tK (.bool true) ?_
           refine tK (.bool true) ?_
           refine sK ?_
           refine sK ?_
           refine sK ?_
           refine sK ?_
           refine sK ?_
           refine sK ?_
           refine sK ?_
           refine tK (.bool true) ?_
           try simp only [pA, pB, p1, p2, p3]
           refine WL.nil ?_
           try simp only [pA, pB, p1, p2, p3]
           go_upto_region 9 with fail
           refine WL.start ?_
           refine tK (.bool false) ?_
           try simp only [pA, pB, p1, p2, p3]
           refine WL.nil ?_
           try simp only [pA, pB, p1, p2, p3]
           have hv : cmdB c = false := by simp [cmdB, q1, q2, q3, q4, q5, q6, q7, q8, q9]
           go_wp2
           rw [HC.out]
           exact ⟨by rw [hv]; rfl, HF.out.kept⟩
          ·skip
           refine tW (.bool false) (exec_bin .neq 29 _ _ _ rfl (.agg (#[.int .i64 c.f0, .int .i64 c.f1])) (.agg (#[.int .i64 0, .int .i64 0])) (.bool false) (by kernel_rfl) (by kernel_rfl) (by kernel_rfl) (by rw [eqF_neq, q9]; try rfl)) ?_
           refine tW (.bool false) (exec_bin .neq 4 _ _ _ rfl (.bool false) (.bool false) (.bool false) (by kernel_rfl) (by kernel_rfl) (by kernel_rfl) (by kernel_rfl)) ?_
           refine tK (.bool false) ?_
           refine tK (.bool false) ?_
           refine tK (.bool false) ?_
           refine sK ?_
           refine sK ?_
           refine sK ?_
           refine sK ?_
           refine tK (.bool false) ?_
           refine tK (.bool false) ?_
           refine tK (.bool false) ?_
           refine tK (.bool false) ?_
           refine tK (.pointer (some ⟨gk1, 6, none⟩)) ?_
           refine tW (.agg (#[.int .i64 c.g0, .int .i64 c.g1])) (exec_load 29 _ rfl ⟨gk1, 6, none⟩ (by kernel_rfl) (.agg (#[.int .i64 c.g0, .int .i64 c.g1])) (ld27 (cs := Cm.cs c) (HF.out.box 0 _ _ _ rfl) rfl rfl)) ?_
           refine tW (.agg (#[.int .i64 0, .int .i64 0])) (exec_build 29 _ rfl (#[.int .i64 0, .int .i64 0]) (by kernel_rfl)) ?_
           try simp only [pA, pB, p1, p2, p3]
           cases q10 : (eqF c.g0 c.g1 0 0)
           ·skip
            refine tW (.bool true) (exec_bin .neq 29 _ _ _ rfl (.agg (#[.int .i64 c.g0, .int .i64 c.g1])) (.agg (#[.int .i64 0, .int .i64 0])) (.bool true) (by kernel_rfl) (by kernel_rfl) (by kernel_rfl) (by rw [eqF_neq, q10]; try rfl)) ?_
            refine tW (.bool true) (exec_bin .neq 4 _ _ _ rfl (.bool false) (.bool true) (.bool true) (by kernel_rfl) (by kernel_rfl) (by kernel_rfl) (by kernel_rfl)) ?_
            refine tK (.bool true) ?_
            refine tK (.bool true) ?_
            refine sK ?_
            refine sK ?_
            refine sK ?_
            refine sK ?_
            refine sK ?_
            refine sK ?_
            refine sK ?_
            refine tK (.bool true) ?_
            try simp only [pA, pB, p1, p2, p3]
            refine WL.nil ?_
            try simp only [pA, pB, p1, p2, p3]
            go_upto_region 9 with fail
            refine WL.start ?_
            refine tK (.bool false) ?_
            try simp only [pA, pB, p1, p2, p3]
            refine WL.nil ?_
            try simp only [pA, pB, p1, p2, p3]
            have hv : cmdB c = false := by simp [cmdB, q1, q2, q3, q4, q5, q6, q7, q8, q9, q10]
            go_wp2
            rw [HC.out]
            exact ⟨by rw [hv]; rfl, HF.out.kept⟩
           ·skip
            refine tW (.bool false) (exec_bin .neq 29 _ _ _ rfl (.agg (#[.int .i64 c.g0, .int .i64 c.g1])) (.agg (#[.int .i64 0, .int .i64 0])) (.bool false) (by kernel_rfl) (by kernel_rfl) (by kernel_rfl) (by rw [eqF_neq, q10]; try rfl)) ?_
            refine tW (.bool false) (exec_bin .neq 4 _ _ _ rfl (.bool false) (.bool false) (.bool false) (by kernel_rfl) (by kernel_rfl) (by kernel_rfl) (by kernel_rfl)) ?_
            refine tK (.bool false) ?_
            refine tK (.bool false) ?_
            refine tK (.bool false) ?_
            refine tK (.bool false) ?_
            refine sK ?_
            refine sK ?_
            refine sK ?_
            refine sK ?_
            refine tK (.bool false) ?_
            refine tK (.bool false) ?_
            try simp only [pA, pB, p1, p2, p3]
            refine WL.nil ?_
            try simp only [pA, pB, p1, p2, p3]
            go_upto_region 10 with fail
            refine WL.start ?_
            refine tK (.pointer (some ⟨gk1, 8, none⟩)) ?_
            refine tW (.int .i64 c.sz) (exec_load 3 _ rfl ⟨gk1, 8, none⟩ (by kernel_rfl) (.int .i64 c.sz) (ld3 ((HF.out.box 0 _ _ _ rfl).cell 8))) ?_
            try simp only [pA, pB, p1, p2, p3]
            cases q11 : (inB c.sz 0 4294967296)
            ·skip
             refine wp_callW 19 #[.int .i64 c.sz, .int .i64 0, .int .i64 4294967296] (by kernel_rfl) _ (within_any _ _ _ _) (by kernel_rfl) ?_
             rintro e wq ⟨rfl, hwq⟩
             rw [hwq]
             clear hwq wq
             refine ⟨.bool false, by rw [q11], ?_⟩
             try simp only [pA, pB, p1, p2, p3]
             refine tK (.bool false) ?_
             refine sK ?_
             refine sK ?_
             refine sK ?_
             refine sK ?_
             refine sK ?_
             refine sK ?_
             refine tK (.bool false) ?_
             refine tK (.bool false) ?_
             try simp only [pA, pB, p1, p2, p3]
             refine WL.nil ?_
             try simp only [pA, pB, p1, p2, p3]
             have hv : cmdB c = false := by simp [cmdB, q1, q2, q3, q4, q5, q6, q7, q8, q9, q10, q11]
             go_wp2
             rw [HC.out]
             exact ⟨by rw [hv]; rfl, HF.out.kept⟩
            ·skip
             refine wp_callW 19 #[.int .i64 c.sz, .int .i64 0, .int .i64 4294967296] (by kernel_rfl) _ (within_any _ _ _ _) (by kernel_rfl) ?_
             rintro e wq ⟨rfl, hwq⟩
             rw [hwq]
             clear hwq wq
             refine ⟨.bool true, by rw [q11], ?_⟩
             try simp only [pA, pB, p1, p2, p3]
             refine tK (.bool true) ?_
             refine tK (.bool false) ?_
             refine tK (.bool false) ?_
             refine tK (.pointer (some ⟨gk1, 8, none⟩)) ?_
             refine tW (.int .i64 c.sz) (exec_load 3 _ rfl ⟨gk1, 8, none⟩ (by kernel_rfl) (.int .i64 c.sz) (ld3 ((HF.out.box 0 _ _ _ rfl).cell 8))) ?_
             try simp only [pA, pB, p1, p2, p3]
             cases q12 : (c.sz == 0)
             ·skip
              refine tW (.bool false) (exec_bin .eql 3 _ _ _ rfl (.int .i64 c.sz) (.int .i64 0) (.bool false) (by kernel_rfl) (by kernel_rfl) (by kernel_rfl) (by rw [b_eql, q12]; try rfl)) ?_
              refine tK (.bool false) ?_
              refine tK (.bool false) ?_
              refine tK (.bool false) ?_
              try simp only [pA, pB, p1, p2, p3]
              refine WL.nil ?_
              try simp only [pA, pB, p1, p2, p3]
              have hv : cmdB c = false := by simp [cmdB, q1, q2, q3, q4, q5, q6, q7, q8, q9, q10, q11, q12]
              go_wp2
              rw [HC.out]
              exact ⟨by rw [hv]; rfl, HF.out.kept⟩
             ·skip
              refine tW (.bool true) (exec_bin .eql 3 _ _ _ rfl (.int .i64 c.sz) (.int .i64 0) (.bool true) (by kernel_rfl) (by kernel_rfl) (by kernel_rfl) (by rw [b_eql, q12]; try rfl)) ?_
              refine tK (.bool true) ?_
              refine tK (.bool true) ?_
              refine tK (.bool true) ?_
              try simp only [pA, pB, p1, p2, p3]
              refine WL.nil ?_
              try simp only [pA, pB, p1, p2, p3]
              have hv : cmdB c = true := by simp [cmdB, q1, q2, q3, q4, q5, q6, q7, q8, q9, q10, q11, q12]
              go_wp2
              rw [HC.out]
              exact ⟨by rw [hv]; rfl, HF.out.kept⟩
        ·skip
         refine tW (.bool false) (exec_bin .neq 9 _ _ _ rfl (.string c.nm) (.string ⟨#[]⟩) (.bool false) (by kernel_rfl) (by kernel_rfl) (by kernel_rfl) (by rw [eqN_neq, q7]; try rfl)) ?_
         refine tW (.bool true) (exec_bin .neq 4 _ _ _ rfl (.bool true) (.bool false) (.bool true) (by kernel_rfl) (by kernel_rfl) (by kernel_rfl) (by kernel_rfl)) ?_
         refine tK (.bool true) ?_
         refine sK ?_
         refine sK ?_
         refine sK ?_
         refine sK ?_
         refine sK ?_
         refine sK ?_
         refine sK ?_
         refine tK (.bool true) ?_
         try simp only [pA, pB, p1, p2, p3]
         refine WL.nil ?_
         try simp only [pA, pB, p1, p2, p3]
         go_upto_region 7 with fail
         refine WL.start ?_
         refine tK (.bool false) ?_
         try simp only [pA, pB, p1, p2, p3]
         refine WL.nil ?_
         try simp only [pA, pB, p1, p2, p3]
         have hv : cmdB c = false := by simp [cmdB, q1, q2, q3, q4, q5, q6, q7]
         go_wp2
         rw [HC.out]
         exact ⟨by rw [hv]; rfl, HF.out.kept⟩
       · simp at q5 q6; omega
      ·skip
       refine tW (.bool true) (exec_bin .geq 3 _ _ _ rfl (.int .i64 c.k) (.int .i64 5) (.bool true) (by kernel_rfl) (by kernel_rfl) (by kernel_rfl) (by rw [b_geq, q5]; try rfl)) ?_
       refine tK (.bool true) ?_
       try simp only [pA, pB, p1, p2, p3]
       refine WL.nil ?_
       try simp only [pA, pB, p1, p2, p3]
       go_upto_region 5 with fail
       refine WL.start ?_
       refine tK (.pointer (some ⟨gk1, 0, none⟩)) ?_
       refine tW (.int .i64 c.k) (exec_load 3 _ rfl ⟨gk1, 0, none⟩ (by kernel_rfl) (.int .i64 c.k) (ld3 ((HF.out.box 0 _ _ _ rfl).cell 0))) ?_
       try simp only [pA, pB, p1, p2, p3]
       cases q13 : (c.k == 7)
       ·skip
        refine tW (.bool false) (exec_bin .eql 3 _ _ _ rfl (.int .i64 c.k) (.int .i64 7) (.bool false) (by kernel_rfl) (by kernel_rfl) (by kernel_rfl) (by rw [b_eql, q13]; try rfl)) ?_
        refine tK (.bool false) ?_
        try simp only [pA, pB, p1, p2, p3]
        refine WL.nil ?_
        try simp only [pA, pB, p1, p2, p3]
        go_upto_region 6 with fail
        refine WL.start ?_
        refine tK (.bool true) ?_
        refine tK (.pointer (some ⟨gk1, 3, none⟩)) ?_
        refine tW (.string c.nm) (exec_load 9 _ rfl ⟨gk1, 3, none⟩ (by kernel_rfl) (.string c.nm) (ld9 ((HF.out.box 0 _ _ _ rfl).cell 3))) ?_
        try simp only [pA, pB, p1, p2, p3]
        cases q14 : (eqN c.nm ⟨#[]⟩)
        ·skip
         refine tW (.bool true) (exec_bin .neq 9 _ _ _ rfl (.string c.nm) (.string ⟨#[]⟩) (.bool true) (by kernel_rfl) (by kernel_rfl) (by kernel_rfl) (by rw [eqN_neq, q14]; try rfl)) ?_
         refine tW (.bool false) (exec_bin .neq 4 _ _ _ rfl (.bool true) (.bool true) (.bool false) (by kernel_rfl) (by kernel_rfl) (by kernel_rfl) (by kernel_rfl)) ?_
         refine tK (.bool false) ?_
         refine tK (.bool true) ?_
         refine tK (.bool true) ?_
         refine tK (.pointer (some ⟨gk1, 3, none⟩)) ?_
         refine tW (.string c.nm) (exec_load 9 _ rfl ⟨gk1, 3, none⟩ (by kernel_rfl) (.string c.nm) (ld9 ((HF.out.box 0 _ _ _ rfl).cell 3))) ?_
         try simp only [pA, pB, p1, p2, p3]
         cases q15 : (nameB c.nm)
         ·skip
          refine wp_callW 20 #[.string c.nm] (by kernel_rfl) _ (name_any _ _) (by kernel_rfl) ?_
          rintro e wq ⟨rfl, hwq⟩
          rw [hwq]
          clear hwq wq
          refine ⟨.bool false, by rw [q15], ?_⟩
          try simp only [pA, pB, p1, p2, p3]
          refine tK (.bool true) ?_
          refine tK (.bool true) ?_
          refine tK (.bool true) ?_
          try simp only [pA, pB, p1, p2, p3]
          refine WL.nil ?_
          try simp only [pA, pB, p1, p2, p3]
          go_upto_region 7 with fail
          refine WL.start ?_
          refine tK (.bool false) ?_
          try simp only [pA, pB, p1, p2, p3]
          refine WL.nil ?_
          try simp only [pA, pB, p1, p2, p3]
          have hv : cmdB c = false := by simp [cmdB, q1, q2, q3, q4, q5, q13, q14, q15]
          go_wp2
          rw [HC.out]
          exact ⟨by rw [hv]; rfl, HF.out.kept⟩
         ·skip
          refine wp_callW 20 #[.string c.nm] (by kernel_rfl) _ (name_any _ _) (by kernel_rfl) ?_
          rintro e wq ⟨rfl, hwq⟩
          rw [hwq]
          clear hwq wq
          refine ⟨.bool true, by rw [q15], ?_⟩
          try simp only [pA, pB, p1, p2, p3]
          refine tK (.bool false) ?_
          refine tK (.bool false) ?_
          refine tK (.bool false) ?_
          try simp only [pA, pB, p1, p2, p3]
          refine WL.nil ?_
          try simp only [pA, pB, p1, p2, p3]
          go_upto_region 8 with fail
          refine WL.start ?_
          refine tK (.bool true) ?_
          refine tK (.pointer (some ⟨gk1, 4, none⟩)) ?_
          refine tW (.agg (#[.int .i64 c.f0, .int .i64 c.f1])) (exec_load 29 _ rfl ⟨gk1, 4, none⟩ (by kernel_rfl) (.agg (#[.int .i64 c.f0, .int .i64 c.f1])) (ld27 (cs := Cm.cs c) (HF.out.box 0 _ _ _ rfl) rfl rfl)) ?_
          refine tW (.agg (#[.int .i64 0, .int .i64 0])) (exec_build 29 _ rfl (#[.int .i64 0, .int .i64 0]) (by kernel_rfl)) ?_
          try simp only [pA, pB, p1, p2, p3]
          cases q16 : (eqF c.f0 c.f1 0 0)
          ·skip
           refine tW (.bool true) (exec_bin .neq 29 _ _ _ rfl (.agg (#[.int .i64 c.f0, .int .i64 c.f1])) (.agg (#[.int .i64 0, .int .i64 0])) (.bool true) (by kernel_rfl) (by kernel_rfl) (by kernel_rfl) (by rw [eqF_neq, q16]; try rfl)) ?_
           refine tW (.bool false) (exec_bin .neq 4 _ _ _ rfl (.bool true) (.bool true) (.bool false) (by kernel_rfl) (by kernel_rfl) (by kernel_rfl) (by kernel_rfl)) ?_
           refine tK (.bool false) ?_
           refine tK (.bool true) ?_
           refine tK (.bool true) ?_
           refine tK (.pointer (some ⟨gk1, 4, none⟩)) ?_
           refine tW (.agg (#[.int .i64 c.f0, .int .i64 c.f1])) (exec_load 29 _ rfl ⟨gk1, 4, none⟩ (by kernel_rfl) (.agg (#[.int .i64 c.f0, .int .i64 c.f1])) (ld27 (cs := Cm.cs c) (HF.out.box 0 _ _ _ rfl) rfl rfl)) ?_
           try simp only [pA, pB, p1, p2, p3]
           cases q17 : (fileB c.f0 c.f1)
           ·skip
            refine wp_callW 21 #[.agg (#[.int .i64 c.f0, .int .i64 c.f1])] (by kernel_rfl) _ (file_any _ _ _) (by kernel_rfl) ?_
            rintro e wk3 ⟨rfl, hk⟩
            have HF : Hid (Fr No w (wk3) [(gk1, 31, Cm.cells c)]) := HF.out.no hk
            clear hk
            refine ⟨.bool false, by rw [q17], ?_⟩
            try simp only [pA, pB, p1, p2, p3]
            refine tK (.bool true) ?_
            refine tK (.bool true) ?_
            refine tK (.bool true) ?_
            refine tK (.bool true) ?_
            refine sK ?_
            refine sK ?_
            refine sK ?_
            refine sK ?_
            refine sK ?_
            refine sK ?_
            refine tK (.bool true) ?_
            refine tK (.bool true) ?_
            refine sK ?_
            refine sK ?_
            refine sK ?_
            refine sK ?_
            refine sK ?_
            refine sK ?_
            refine sK ?_
            refine tK (.bool true) ?_
            try simp only [pA, pB, p1, p2, p3]
            refine WL.nil ?_
            try simp only [pA, pB, p1, p2, p3]
            go_upto_region 9 with fail
            refine WL.start ?_
            refine tK (.bool false) ?_
            try simp only [pA, pB, p1, p2, p3]
            refine WL.nil ?_
            try simp only [pA, pB, p1, p2, p3]
            have hv : cmdB c = false := by simp [cmdB, q1, q2, q3, q4, q5, q13, q14, q15, q16, q17]
            go_wp2
            rw [HC.out]
            exact ⟨by rw [hv]; rfl, HF.out.kept⟩
           ·skip
            refine wp_callW 21 #[.agg (#[.int .i64 c.f0, .int .i64 c.f1])] (by kernel_rfl) _ (file_any _ _ _) (by kernel_rfl) ?_
            rintro e wk4 ⟨rfl, hk⟩
            have HF : Hid (Fr No w (wk4) [(gk1, 31, Cm.cells c)]) := HF.out.no hk
            clear hk
            refine ⟨.bool true, by rw [q17], ?_⟩
            try simp only [pA, pB, p1, p2, p3]
            refine tK (.bool false) ?_
            refine tK (.bool false) ?_
            refine tK (.bool false) ?_
            refine tK (.bool false) ?_
            refine tK (.bool false) ?_
            refine tK (.pointer (some ⟨gk1, 6, none⟩)) ?_
            refine tW (.agg (#[.int .i64 c.g0, .int .i64 c.g1])) (exec_load 29 _ rfl ⟨gk1, 6, none⟩ (by kernel_rfl) (.agg (#[.int .i64 c.g0, .int .i64 c.g1])) (ld27 (cs := Cm.cs c) (HF.out.box 0 _ _ _ rfl) rfl rfl)) ?_
            refine tW (.agg (#[.int .i64 0, .int .i64 0])) (exec_build 29 _ rfl (#[.int .i64 0, .int .i64 0]) (by kernel_rfl)) ?_
            try simp only [pA, pB, p1, p2, p3]
            cases q18 : (eqF c.g0 c.g1 0 0)
            ·skip
             refine tW (.bool true) (exec_bin .neq 29 _ _ _ rfl (.agg (#[.int .i64 c.g0, .int .i64 c.g1])) (.agg (#[.int .i64 0, .int .i64 0])) (.bool true) (by kernel_rfl) (by kernel_rfl) (by kernel_rfl) (by rw [eqF_neq, q18]; try rfl)) ?_
             refine tW (.bool true) (exec_bin .neq 4 _ _ _ rfl (.bool false) (.bool true) (.bool true) (by kernel_rfl) (by kernel_rfl) (by kernel_rfl) (by kernel_rfl)) ?_
             refine tK (.bool true) ?_
             refine tK (.bool true) ?_
             refine sK ?_
             refine sK ?_
             refine sK ?_
             refine sK ?_
             refine sK ?_
             refine sK ?_
             refine sK ?_
             refine tK (.bool true) ?_
             try simp only [pA, pB, p1, p2, p3]
             refine WL.nil ?_
             try simp only [pA, pB, p1, p2, p3]
             go_upto_region 9 with fail
             refine WL.start ?_
             refine tK (.bool false) ?_
             try simp only [pA, pB, p1, p2, p3]
             refine WL.nil ?_
             try simp only [pA, pB, p1, p2, p3]
             have hv : cmdB c = false := by simp [cmdB, q1, q2, q3, q4, q5, q13, q14, q15, q16, q17, q18]
             go_wp2
             rw [HC.out]
             exact ⟨by rw [hv]; rfl, HF.out.kept⟩
            ·skip
             refine tW (.bool false) (exec_bin .neq 29 _ _ _ rfl (.agg (#[.int .i64 c.g0, .int .i64 c.g1])) (.agg (#[.int .i64 0, .int .i64 0])) (.bool false) (by kernel_rfl) (by kernel_rfl) (by kernel_rfl) (by rw [eqF_neq, q18]; try rfl)) ?_
             refine tW (.bool false) (exec_bin .neq 4 _ _ _ rfl (.bool false) (.bool false) (.bool false) (by kernel_rfl) (by kernel_rfl) (by kernel_rfl) (by kernel_rfl)) ?_
             refine tK (.bool false) ?_
             refine tK (.bool false) ?_
             refine tK (.bool false) ?_
             refine tK (.bool false) ?_
             refine sK ?_
             refine sK ?_
             refine sK ?_
             refine sK ?_
             refine tK (.bool false) ?_
             refine tK (.bool false) ?_
             try simp only [pA, pB, p1, p2, p3]
             refine WL.nil ?_
             try simp only [pA, pB, p1, p2, p3]
             go_upto_region 10 with fail
             refine WL.start ?_
             refine tK (.pointer (some ⟨gk1, 8, none⟩)) ?_
             refine tW (.int .i64 c.sz) (exec_load 3 _ rfl ⟨gk1, 8, none⟩ (by kernel_rfl) (.int .i64 c.sz) (ld3 ((HF.out.box 0 _ _ _ rfl).cell 8))) ?_
             try simp only [pA, pB, p1, p2, p3]
             cases q19 : (inB c.sz 0 4294967296)
             ·skip
              refine wp_callW 19 #[.int .i64 c.sz, .int .i64 0, .int .i64 4294967296] (by kernel_rfl) _ (within_any _ _ _ _) (by kernel_rfl) ?_
              rintro e wq ⟨rfl, hwq⟩
              rw [hwq]
              clear hwq wq
              refine ⟨.bool false, by rw [q19], ?_⟩
              try simp only [pA, pB, p1, p2, p3]
              refine tK (.bool false) ?_
              refine sK ?_
              refine sK ?_
              refine sK ?_
              refine sK ?_
              refine sK ?_
              refine sK ?_
              refine tK (.bool false) ?_
              refine tK (.bool false) ?_
              try simp only [pA, pB, p1, p2, p3]
              refine WL.nil ?_
              try simp only [pA, pB, p1, p2, p3]
              have hv : cmdB c = false := by simp [cmdB, q1, q2, q3, q4, q5, q13, q14, q15, q16, q17, q18, q19]
              go_wp2
              rw [HC.out]
              exact ⟨by rw [hv]; rfl, HF.out.kept⟩
             ·skip
              refine wp_callW 19 #[.int .i64 c.sz, .int .i64 0, .int .i64 4294967296] (by kernel_rfl) _ (within_any _ _ _ _) (by kernel_rfl) ?_
              rintro e wq ⟨rfl, hwq⟩
              rw [hwq]
              clear hwq wq
              refine ⟨.bool true, by rw [q19], ?_⟩
              try simp only [pA, pB, p1, p2, p3]
              refine tK (.bool true) ?_
              refine tK (.bool true) ?_
              refine tK (.bool true) ?_
              refine sK ?_
              refine sK ?_
              refine sK ?_
              refine tK (.bool true) ?_
              refine tK (.bool true) ?_
              refine tK (.bool true) ?_
              try simp only [pA, pB, p1, p2, p3]
              refine WL.nil ?_
              try simp only [pA, pB, p1, p2, p3]
              have hv : cmdB c = true := by simp [cmdB, q1, q2, q3, q4, q5, q13, q14, q15, q16, q17, q18, q19]
              go_wp2
              rw [HC.out]
              exact ⟨by rw [hv]; rfl, HF.out.kept⟩
          ·skip
           refine tW (.bool false) (exec_bin .neq 29 _ _ _ rfl (.agg (#[.int .i64 c.f0, .int .i64 c.f1])) (.agg (#[.int .i64 0, .int .i64 0])) (.bool false) (by kernel_rfl) (by kernel_rfl) (by kernel_rfl) (by rw [eqF_neq, q16]; try rfl)) ?_
           refine tW (.bool true) (exec_bin .neq 4 _ _ _ rfl (.bool true) (.bool false) (.bool true) (by kernel_rfl) (by kernel_rfl) (by kernel_rfl) (by kernel_rfl)) ?_
           refine tK (.bool true) ?_
           refine sK ?_
           refine sK ?_
           refine sK ?_
           refine sK ?_
           refine sK ?_
           refine sK ?_
           refine sK ?_
           refine tK (.bool true) ?_
           refine tK (.bool true) ?_
           refine sK ?_
           refine sK ?_
           refine sK ?_
           refine sK ?_
           refine sK ?_
           refine sK ?_
           refine tK (.bool true) ?_
           refine tK (.bool true) ?_
           refine sK ?_
           refine sK ?_
           refine sK ?_
           refine sK ?_
           refine sK ?_
           refine sK ?_
           refine sK ?_
           refine tK (.bool true) ?_
           try simp only [pA, pB, p1, p2, p3]
           refine WL.nil ?_
           try simp only [pA, pB, p1, p2, p3]
           go_upto_region 9 with fail
           refine WL.start ?_
           refine tK (.bool false) ?_
           try simp only [pA, pB, p1, p2, p3]
           refine WL.nil ?_
           try simp only [pA, pB, p1, p2, p3]
           have hv : cmdB c = false := by simp [cmdB, q1, q2, q3, q4, q5, q13, q14, q15, q16]
           go_wp2
           rw [HC.out]
           exact ⟨by rw [hv]; rfl, HF.out.kept⟩
        ·skip
         refine tW (.bool false) (exec_bin .neq 9 _ _ _ rfl (.string c.nm) (.string ⟨#[]⟩) (.bool false) (by kernel_rfl) (by kernel_rfl) (by kernel_rfl) (by rw [eqN_neq, q14]; try rfl)) ?_
         refine tW (.bool true) (exec_bin .neq 4 _ _ _ rfl (.bool true) (.bool false) (.bool true) (by kernel_rfl) (by kernel_rfl) (by kernel_rfl) (by kernel_rfl)) ?_
         refine tK (.bool true) ?_
         refine sK ?_
         refine sK ?_
         refine sK ?_
         refine sK ?_
         refine sK ?_
         refine sK ?_
         refine sK ?_
         refine tK (.bool true) ?_
         try simp only [pA, pB, p1, p2, p3]
         refine WL.nil ?_
         try simp only [pA, pB, p1, p2, p3]
         go_upto_region 7 with fail
         refine WL.start ?_
         refine tK (.bool false) ?_
         try simp only [pA, pB, p1, p2, p3]
         refine WL.nil ?_
         try simp only [pA, pB, p1, p2, p3]
         have hv : cmdB c = false := by simp [cmdB, q1, q2, q3, q4, q5, q13, q14]
         go_wp2
         rw [HC.out]
         exact ⟨by rw [hv]; rfl, HF.out.kept⟩
       ·skip
        refine tW (.bool true) (exec_bin .eql 3 _ _ _ rfl (.int .i64 c.k) (.int .i64 7) (.bool true) (by kernel_rfl) (by kernel_rfl) (by kernel_rfl) (by rw [b_eql, q13]; try rfl)) ?_
        refine tK (.bool true) ?_
        try simp only [pA, pB, p1, p2, p3]
        refine WL.nil ?_
        try simp only [pA, pB, p1, p2, p3]
        go_upto_region 6 with fail
        refine WL.start ?_
        refine tK (.bool true) ?_
        refine tK (.pointer (some ⟨gk1, 3, none⟩)) ?_
        refine tW (.string c.nm) (exec_load 9 _ rfl ⟨gk1, 3, none⟩ (by kernel_rfl) (.string c.nm) (ld9 ((HF.out.box 0 _ _ _ rfl).cell 3))) ?_
        try simp only [pA, pB, p1, p2, p3]
        cases q20 : (eqN c.nm ⟨#[]⟩)
        ·skip
         refine tW (.bool true) (exec_bin .neq 9 _ _ _ rfl (.string c.nm) (.string ⟨#[]⟩) (.bool true) (by kernel_rfl) (by kernel_rfl) (by kernel_rfl) (by rw [eqN_neq, q20]; try rfl)) ?_
         refine tW (.bool false) (exec_bin .neq 4 _ _ _ rfl (.bool true) (.bool true) (.bool false) (by kernel_rfl) (by kernel_rfl) (by kernel_rfl) (by kernel_rfl)) ?_
         refine tK (.bool false) ?_
         refine tK (.bool true) ?_
         refine tK (.bool true) ?_
         refine tK (.pointer (some ⟨gk1, 3, none⟩)) ?_
         refine tW (.string c.nm) (exec_load 9 _ rfl ⟨gk1, 3, none⟩ (by kernel_rfl) (.string c.nm) (ld9 ((HF.out.box 0 _ _ _ rfl).cell 3))) ?_
         try simp only [pA, pB, p1, p2, p3]
         cases q21 : (nameB c.nm)
         ·skip
          refine wp_callW 20 #[.string c.nm] (by kernel_rfl) _ (name_any _ _) (by kernel_rfl) ?_
          rintro e wq ⟨rfl, hwq⟩
          rw [hwq]
          clear hwq wq
          refine ⟨.bool false, by rw [q21], ?_⟩
          try simp only [pA, pB, p1, p2, p3]
          refine tK (.bool true) ?_
          refine tK (.bool true) ?_
          refine tK (.bool true) ?_
          try simp only [pA, pB, p1, p2, p3]
          refine WL.nil ?_
          try simp only [pA, pB, p1, p2, p3]
          go_upto_region 7 with fail
          refine WL.start ?_
          refine tK (.bool false) ?_
          try simp only [pA, pB, p1, p2, p3]
          refine WL.nil ?_
          try simp only [pA, pB, p1, p2, p3]
          have hv : cmdB c = false := by simp [cmdB, q1, q2, q3, q4, q5, q13, q20, q21]
          go_wp2
          rw [HC.out]
          exact ⟨by rw [hv]; rfl, HF.out.kept⟩
         ·skip
          refine wp_callW 20 #[.string c.nm] (by kernel_rfl) _ (name_any _ _) (by kernel_rfl) ?_
          rintro e wq ⟨rfl, hwq⟩
          rw [hwq]
          clear hwq wq
          refine ⟨.bool true, by rw [q21], ?_⟩
          try simp only [pA, pB, p1, p2, p3]
          refine tK (.bool false) ?_
          refine tK (.bool false) ?_
          refine tK (.bool false) ?_
          try simp only [pA, pB, p1, p2, p3]
          refine WL.nil ?_
          try simp only [pA, pB, p1, p2, p3]
          go_upto_region 8 with fail
          refine WL.start ?_
          refine tK (.bool true) ?_
          refine tK (.pointer (some ⟨gk1, 4, none⟩)) ?_
          refine tW (.agg (#[.int .i64 c.f0, .int .i64 c.f1])) (exec_load 29 _ rfl ⟨gk1, 4, none⟩ (by kernel_rfl) (.agg (#[.int .i64 c.f0, .int .i64 c.f1])) (ld27 (cs := Cm.cs c) (HF.out.box 0 _ _ _ rfl) rfl rfl)) ?_
          refine tW (.agg (#[.int .i64 0, .int .i64 0])) (exec_build 29 _ rfl (#[.int .i64 0, .int .i64 0]) (by kernel_rfl)) ?_
          try simp only [pA, pB, p1, p2, p3]
          cases q22 : (eqF c.f0 c.f1 0 0)
          ·skip
           refine tW (.bool true) (exec_bin .neq 29 _ _ _ rfl (.agg (#[.int .i64 c.f0, .int .i64 c.f1])) (.agg (#[.int .i64 0, .int .i64 0])) (.bool true) (by kernel_rfl) (by kernel_rfl) (by kernel_rfl) (by rw [eqF_neq, q22]; try rfl)) ?_
           refine tW (.bool false) (exec_bin .neq 4 _ _ _ rfl (.bool true) (.bool true) (.bool false) (by kernel_rfl) (by kernel_rfl) (by kernel_rfl) (by kernel_rfl)) ?_
           refine tK (.bool false) ?_
           refine tK (.bool true) ?_
           refine tK (.bool true) ?_
           refine tK (.pointer (some ⟨gk1, 4, none⟩)) ?_
           refine tW (.agg (#[.int .i64 c.f0, .int .i64 c.f1])) (exec_load 29 _ rfl ⟨gk1, 4, none⟩ (by kernel_rfl) (.agg (#[.int .i64 c.f0, .int .i64 c.f1])) (ld27 (cs := Cm.cs c) (HF.out.box 0 _ _ _ rfl) rfl rfl)) ?_
           try simp only [pA, pB, p1, p2, p3]
           cases q23 : (fileB c.f0 c.f1)
           ·skip
            refine wp_callW 21 #[.agg (#[.int .i64 c.f0, .int .i64 c.f1])] (by kernel_rfl) _ (file_any _ _ _) (by kernel_rfl) ?_
            rintro e wk5 ⟨rfl, hk⟩
            have HF : Hid (Fr No w (wk5) [(gk1, 31, Cm.cells c)]) := HF.out.no hk
            clear hk
            refine ⟨.bool false, by rw [q23], ?_⟩
            try simp only [pA, pB, p1, p2, p3]
            refine tK (.bool true) ?_
            refine tK (.bool true) ?_
            refine tK (.bool true) ?_
            refine tK (.bool true) ?_
            refine sK ?_
            refine sK ?_
            refine sK ?_
            refine sK ?_
            refine sK ?_
            refine sK ?_
            refine tK (.bool true) ?_
            refine tK (.bool true) ?_
            refine sK ?_
            refine sK ?_
            refine sK ?_
            refine sK ?_
            refine sK ?_
            refine sK ?_
            refine sK ?_
            refine tK (.bool true) ?_
            try simp only [pA, pB, p1, p2, p3]
            refine WL.nil ?_
            try simp only [pA, pB, p1, p2, p3]
            go_upto_region 9 with fail
            refine WL.start ?_
            refine tK (.bool false) ?_
            try simp only [pA, pB, p1, p2, p3]
            refine WL.nil ?_
            try simp only [pA, pB, p1, p2, p3]
            have hv : cmdB c = false := by simp [cmdB, q1, q2, q3, q4, q5, q13, q20, q21, q22, q23]
            go_wp2
            rw [HC.out]
            exact ⟨by rw [hv]; rfl, HF.out.kept⟩
           ·skip
            refine wp_callW 21 #[.agg (#[.int .i64 c.f0, .int .i64 c.f1])] (by kernel_rfl) _ (file_any _ _ _) (by kernel_rfl) ?_
            rintro e wk6 ⟨rfl, hk⟩
            have HF : Hid (Fr No w (wk6) [(gk1, 31, Cm.cells c)]) := HF.out.no hk
            clear hk
            refine ⟨.bool true, by rw [q23], ?_⟩
            try simp only [pA, pB, p1, p2, p3]
            refine tK (.bool false) ?_
            refine tK (.bool false) ?_
            refine tK (.bool false) ?_
            refine tK (.bool false) ?_
            refine tK (.bool true) ?_
            refine tK (.pointer (some ⟨gk1, 6, none⟩)) ?_
            refine tW (.agg (#[.int .i64 c.g0, .int .i64 c.g1])) (exec_load 29 _ rfl ⟨gk1, 6, none⟩ (by kernel_rfl) (.agg (#[.int .i64 c.g0, .int .i64 c.g1])) (ld27 (cs := Cm.cs c) (HF.out.box 0 _ _ _ rfl) rfl rfl)) ?_
            refine tW (.agg (#[.int .i64 0, .int .i64 0])) (exec_build 29 _ rfl (#[.int .i64 0, .int .i64 0]) (by kernel_rfl)) ?_
            try simp only [pA, pB, p1, p2, p3]
            cases q24 : (eqF c.g0 c.g1 0 0)
            ·skip
             refine tW (.bool true) (exec_bin .neq 29 _ _ _ rfl (.agg (#[.int .i64 c.g0, .int .i64 c.g1])) (.agg (#[.int .i64 0, .int .i64 0])) (.bool true) (by kernel_rfl) (by kernel_rfl) (by kernel_rfl) (by rw [eqF_neq, q24]; try rfl)) ?_
             refine tW (.bool false) (exec_bin .neq 4 _ _ _ rfl (.bool true) (.bool true) (.bool false) (by kernel_rfl) (by kernel_rfl) (by kernel_rfl) (by kernel_rfl)) ?_
             refine tK (.bool false) ?_
             refine tK (.bool false) ?_
             refine tK (.bool true) ?_
             refine tK (.bool true) ?_
             refine tK (.pointer (some ⟨gk1, 6, none⟩)) ?_
             refine tW (.agg (#[.int .i64 c.g0, .int .i64 c.g1])) (exec_load 29 _ rfl ⟨gk1, 6, none⟩ (by kernel_rfl) (.agg (#[.int .i64 c.g0, .int .i64 c.g1])) (ld27 (cs := Cm.cs c) (HF.out.box 0 _ _ _ rfl) rfl rfl)) ?_
             try simp only [pA, pB, p1, p2, p3]
             cases q25 : (fileB c.g0 c.g1)
             ·skip
              refine wp_callW 21 #[.agg (#[.int .i64 c.g0, .int .i64 c.g1])] (by kernel_rfl) _ (file_any _ _ _) (by kernel_rfl) ?_
              rintro e wk7 ⟨rfl, hk⟩
              have HF : Hid (Fr No w (wk7) [(gk1, 31, Cm.cells c)]) := HF.out.no hk
              clear hk
              refine ⟨.bool false, by rw [q25], ?_⟩
              try simp only [pA, pB, p1, p2, p3]
              refine tK (.bool true) ?_
              refine tK (.bool true) ?_
              refine tK (.bool true) ?_
              try simp only [pA, pB, p1, p2, p3]
              refine WL.nil ?_
              try simp only [pA, pB, p1, p2, p3]
              go_upto_region 9 with fail
              refine WL.start ?_
              refine tK (.bool false) ?_
              try simp only [pA, pB, p1, p2, p3]
              refine WL.nil ?_
              try simp only [pA, pB, p1, p2, p3]
              have hv : cmdB c = false := by simp [cmdB, q1, q2, q3, q4, q5, q13, q20, q21, q22, q23, q24, q25]
              go_wp2
              rw [HC.out]
              exact ⟨by rw [hv]; rfl, HF.out.kept⟩
             ·skip
              refine wp_callW 21 #[.agg (#[.int .i64 c.g0, .int .i64 c.g1])] (by kernel_rfl) _ (file_any _ _ _) (by kernel_rfl) ?_
              rintro e wk8 ⟨rfl, hk⟩
              have HF : Hid (Fr No w (wk8) [(gk1, 31, Cm.cells c)]) := HF.out.no hk
              clear hk
              refine ⟨.bool true, by rw [q25], ?_⟩
              try simp only [pA, pB, p1, p2, p3]
              refine tK (.bool false) ?_
              refine tK (.bool false) ?_
              refine tK (.bool false) ?_
              try simp only [pA, pB, p1, p2, p3]
              refine WL.nil ?_
              try simp only [pA, pB, p1, p2, p3]
              go_upto_region 10 with fail
              refine WL.start ?_
              refine tK (.pointer (some ⟨gk1, 8, none⟩)) ?_
              refine tW (.int .i64 c.sz) (exec_load 3 _ rfl ⟨gk1, 8, none⟩ (by kernel_rfl) (.int .i64 c.sz) (ld3 ((HF.out.box 0 _ _ _ rfl).cell 8))) ?_
              try simp only [pA, pB, p1, p2, p3]
              cases q26 : (inB c.sz 0 4294967296)
              ·skip
               refine wp_callW 19 #[.int .i64 c.sz, .int .i64 0, .int .i64 4294967296] (by kernel_rfl) _ (within_any _ _ _ _) (by kernel_rfl) ?_
               rintro e wq ⟨rfl, hwq⟩
               rw [hwq]
               clear hwq wq
               refine ⟨.bool false, by rw [q26], ?_⟩
               try simp only [pA, pB, p1, p2, p3]
               refine tK (.bool false) ?_
               refine sK ?_
               refine sK ?_
               refine sK ?_
               refine sK ?_
               refine sK ?_
               refine sK ?_
               refine tK (.bool false) ?_
               refine tK (.bool false) ?_
               try simp only [pA, pB, p1, p2, p3]
               refine WL.nil ?_
               try simp only [pA, pB, p1, p2, p3]
               have hv : cmdB c = false := by simp [cmdB, q1, q2, q3, q4, q5, q13, q20, q21, q22, q23, q24, q25, q26]
               go_wp2
               rw [HC.out]
               exact ⟨by rw [hv]; rfl, HF.out.kept⟩
              ·skip
               refine wp_callW 19 #[.int .i64 c.sz, .int .i64 0, .int .i64 4294967296] (by kernel_rfl) _ (within_any _ _ _ _) (by kernel_rfl) ?_
               rintro e wq ⟨rfl, hwq⟩
               rw [hwq]
               clear hwq wq
               refine ⟨.bool true, by rw [q26], ?_⟩
               try simp only [pA, pB, p1, p2, p3]
               refine tK (.bool true) ?_
               refine tK (.bool true) ?_
               refine tK (.bool true) ?_
               refine sK ?_
               refine sK ?_
               refine sK ?_
               refine tK (.bool true) ?_
               refine tK (.bool true) ?_
               refine tK (.bool true) ?_
               try simp only [pA, pB, p1, p2, p3]
               refine WL.nil ?_
               try simp only [pA, pB, p1, p2, p3]
               have hv : cmdB c = true := by simp [cmdB, q1, q2, q3, q4, q5, q13, q20, q21, q22, q23, q24, q25, q26]
               go_wp2
               rw [HC.out]
               exact ⟨by rw [hv]; rfl, HF.out.kept⟩
            ·skip
             refine tW (.bool false) (exec_bin .neq 29 _ _ _ rfl (.agg (#[.int .i64 c.g0, .int .i64 c.g1])) (.agg (#[.int .i64 0, .int .i64 0])) (.bool false) (by kernel_rfl) (by kernel_rfl) (by kernel_rfl) (by rw [eqF_neq, q24]; try rfl)) ?_
             refine tW (.bool true) (exec_bin .neq 4 _ _ _ rfl (.bool true) (.bool false) (.bool true) (by kernel_rfl) (by kernel_rfl) (by kernel_rfl) (by kernel_rfl)) ?_
             refine tK (.bool true) ?_
             refine tK (.bool true) ?_
             refine sK ?_
             refine sK ?_
             refine sK ?_
             refine sK ?_
             refine sK ?_
             refine sK ?_
             refine sK ?_
             refine tK (.bool true) ?_
             try simp only [pA, pB, p1, p2, p3]
             refine WL.nil ?_
             try simp only [pA, pB, p1, p2, p3]
             go_upto_region 9 with fail
             refine WL.start ?_
             refine tK (.bool false) ?_
             try simp only [pA, pB, p1, p2, p3]
             refine WL.nil ?_
             try simp only [pA, pB, p1, p2, p3]
             have hv : cmdB c = false := by simp [cmdB, q1, q2, q3, q4, q5, q13, q20, q21, q22, q23, q24]
             go_wp2
             rw [HC.out]
             exact ⟨by rw [hv]; rfl, HF.out.kept⟩
          ·skip
           refine tW (.bool false) (exec_bin .neq 29 _ _ _ rfl (.agg (#[.int .i64 c.f0, .int .i64 c.f1])) (.agg (#[.int .i64 0, .int .i64 0])) (.bool false) (by kernel_rfl) (by kernel_rfl) (by kernel_rfl) (by rw [eqF_neq, q22]; try rfl)) ?_
           refine tW (.bool true) (exec_bin .neq 4 _ _ _ rfl (.bool true) (.bool false) (.bool true) (by kernel_rfl) (by kernel_rfl) (by kernel_rfl) (by kernel_rfl)) ?_
           refine tK (.bool true) ?_
           refine sK ?_
           refine sK ?_
           refine sK ?_
           refine sK ?_
           refine sK ?_
           refine sK ?_
           refine sK ?_
           refine tK (.bool true) ?_
           refine tK (.bool true) ?_
           refine sK ?_
           refine sK ?_
           refine sK ?_
           refine sK ?_
           refine sK ?_
           refine sK ?_
           refine tK (.bool true) ?_
           refine tK (.bool true) ?_
           refine sK ?_
           refine sK ?_
           refine sK ?_
           refine sK ?_
           refine sK ?_
           refine sK ?_
           refine sK ?_
           refine tK (.bool true) ?_
           try simp only [pA, pB, p1, p2, p3]
           refine WL.nil ?_
           try simp only [pA, pB, p1, p2, p3]
           go_upto_region 9 with fail
           refine WL.start ?_
           refine tK (.bool false) ?_
           try simp only [pA, pB, p1, p2, p3]
           refine WL.nil ?_
           try simp only [pA, pB, p1, p2, p3]
           have hv : cmdB c = false := by simp [cmdB, q1, q2, q3, q4, q5, q13, q20, q21, q22]
           go_wp2
           rw [HC.out]
           exact ⟨by rw [hv]; rfl, HF.out.kept⟩
        ·skip
         refine tW (.bool false) (exec_bin .neq 9 _ _ _ rfl (.string c.nm) (.string ⟨#[]⟩) (.bool false) (by kernel_rfl) (by kernel_rfl) (by kernel_rfl) (by rw [eqN_neq, q20]; try rfl)) ?_
         refine tW (.bool true) (exec_bin .neq 4 _ _ _ rfl (.bool true) (.bool false) (.bool true) (by kernel_rfl) (by kernel_rfl) (by kernel_rfl) (by kernel_rfl)) ?_
         refine tK (.bool true) ?_
         refine sK ?_
         refine sK ?_
         refine sK ?_
         refine sK ?_
         refine sK ?_
         refine sK ?_
         refine sK ?_
         refine tK (.bool true) ?_
         try simp only [pA, pB, p1, p2, p3]
         refine WL.nil ?_
         try simp only [pA, pB, p1, p2, p3]
         go_upto_region 7 with fail
         refine WL.start ?_
         refine tK (.bool false) ?_
         try simp only [pA, pB, p1, p2, p3]
         refine WL.nil ?_
         try simp only [pA, pB, p1, p2, p3]
         have hv : cmdB c = false := by simp [cmdB, q1, q2, q3, q4, q5, q13, q20]
         go_wp2
         rw [HC.out]
         exact ⟨by rw [hv]; rfl, HF.out.kept⟩
     ·skip
      refine tW (.bool false) (exec_bin .neq 3 _ _ _ rfl (.int .i64 c.k) (.int .i64 4) (.bool false) (by kernel_rfl) (by kernel_rfl) (by kernel_rfl) (by rw [b_neq, q4]; try rfl)) ?_
      refine tK (.bool false) ?_
      try simp only [pA, pB, p1, p2, p3]
      refine WL.nil ?_
      try simp only [pA, pB, p1, p2, p3]
      go_upto_region 4 with fail
      refine WL.start ?_
      refine tK (.pointer (some ⟨gk1, 0, none⟩)) ?_
      refine tW (.int .i64 c.k) (exec_load 3 _ rfl ⟨gk1, 0, none⟩ (by kernel_rfl) (.int .i64 c.k) (ld3 ((HF.out.box 0 _ _ _ rfl).cell 0))) ?_
      try simp only [pA, pB, p1, p2, p3]
      cases q27 : (decide (5 ≤ c.k))
      ·skip
       refine tW (.bool false) (exec_bin .geq 3 _ _ _ rfl (.int .i64 c.k) (.int .i64 5) (.bool false) (by kernel_rfl) (by kernel_rfl) (by kernel_rfl) (by rw [b_geq, q27]; try rfl)) ?_
       refine tK (.bool false) ?_
       try simp only [pA, pB, p1, p2, p3]
       refine WL.nil ?_
       try simp only [pA, pB, p1, p2, p3]
       go_upto_region 5 with fail
       refine WL.start ?_
       refine tK (.pointer (some ⟨gk1, 0, none⟩)) ?_
       refine tW (.int .i64 c.k) (exec_load 3 _ rfl ⟨gk1, 0, none⟩ (by kernel_rfl) (.int .i64 c.k) (ld3 ((HF.out.box 0 _ _ _ rfl).cell 0))) ?_
       try simp only [pA, pB, p1, p2, p3]
       cases q28 : (c.k == 7)
       ·skip
        refine tW (.bool false) (exec_bin .eql 3 _ _ _ rfl (.int .i64 c.k) (.int .i64 7) (.bool false) (by kernel_rfl) (by kernel_rfl) (by kernel_rfl) (by rw [b_eql, q28]; try rfl)) ?_
        refine tK (.bool false) ?_
        try simp only [pA, pB, p1, p2, p3]
        refine WL.nil ?_
        try simp only [pA, pB, p1, p2, p3]
        go_upto_region 6 with fail
        refine WL.start ?_
        refine tK (.bool false) ?_
        refine tK (.pointer (some ⟨gk1, 3, none⟩)) ?_
        refine tW (.string c.nm) (exec_load 9 _ rfl ⟨gk1, 3, none⟩ (by kernel_rfl) (.string c.nm) (ld9 ((HF.out.box 0 _ _ _ rfl).cell 3))) ?_
        try simp only [pA, pB, p1, p2, p3]
        cases q29 : (eqN c.nm ⟨#[]⟩)
        ·skip
         refine tW (.bool true) (exec_bin .neq 9 _ _ _ rfl (.string c.nm) (.string ⟨#[]⟩) (.bool true) (by kernel_rfl) (by kernel_rfl) (by kernel_rfl) (by rw [eqN_neq, q29]; try rfl)) ?_
         refine tW (.bool true) (exec_bin .neq 4 _ _ _ rfl (.bool false) (.bool true) (.bool true) (by kernel_rfl) (by kernel_rfl) (by kernel_rfl) (by kernel_rfl)) ?_
         refine tK (.bool true) ?_
         refine sK ?_
         refine sK ?_
         refine sK ?_
         refine sK ?_
         refine sK ?_
         refine sK ?_
         refine sK ?_
         refine tK (.bool true) ?_
         try simp only [pA, pB, p1, p2, p3]
         refine WL.nil ?_
         try simp only [pA, pB, p1, p2, p3]
         go_upto_region 7 with fail
         refine WL.start ?_
         refine tK (.bool false) ?_
         try simp only [pA, pB, p1, p2, p3]
         refine WL.nil ?_
         try simp only [pA, pB, p1, p2, p3]
         have hv : cmdB c = false := by simp [cmdB, q1, q2, q3, q4, q27, q28, q29]
         go_wp2
         rw [HC.out]
         exact ⟨by rw [hv]; rfl, HF.out.kept⟩
        ·skip
         refine tW (.bool false) (exec_bin .neq 9 _ _ _ rfl (.string c.nm) (.string ⟨#[]⟩) (.bool false) (by kernel_rfl) (by kernel_rfl) (by kernel_rfl) (by rw [eqN_neq, q29]; try rfl)) ?_
         refine tW (.bool false) (exec_bin .neq 4 _ _ _ rfl (.bool false) (.bool false) (.bool false) (by kernel_rfl) (by kernel_rfl) (by kernel_rfl) (by kernel_rfl)) ?_
         refine tK (.bool false) ?_
         refine tK (.bool false) ?_
         refine tK (.bool false) ?_
         refine sK ?_
         refine sK ?_
         refine sK ?_
         refine sK ?_
         refine tK (.bool false) ?_
         refine tK (.bool false) ?_
         try simp only [pA, pB, p1, p2, p3]
         refine WL.nil ?_
         try simp only [pA, pB, p1, p2, p3]
         go_upto_region 8 with fail
         refine WL.start ?_
         refine tK (.bool false) ?_
         refine tK (.pointer (some ⟨gk1, 4, none⟩)) ?_
         refine tW (.agg (#[.int .i64 c.f0, .int .i64 c.f1])) (exec_load 29 _ rfl ⟨gk1, 4, none⟩ (by kernel_rfl) (.agg (#[.int .i64 c.f0, .int .i64 c.f1])) (ld27 (cs := Cm.cs c) (HF.out.box 0 _ _ _ rfl) rfl rfl)) ?_
         refine tW (.agg (#[.int .i64 0, .int .i64 0])) (exec_build 29 _ rfl (#[.int .i64 0, .int .i64 0]) (by kernel_rfl)) ?_
         try simp only [pA, pB, p1, p2, p3]
         cases q30 : (eqF c.f0 c.f1 0 0)
         ·skip
          refine tW (.bool true) (exec_bin .neq 29 _ _ _ rfl (.agg (#[.int .i64 c.f0, .int .i64 c.f1])) (.agg (#[.int .i64 0, .int .i64 0])) (.bool true) (by kernel_rfl) (by kernel_rfl) (by kernel_rfl) (by rw [eqF_neq, q30]; try rfl)) ?_
          refine tW (.bool true) (exec_bin .neq 4 _ _ _ rfl (.bool false) (.bool true) (.bool true) (by kernel_rfl) (by kernel_rfl) (by kernel_rfl) (by kernel_rfl)) ?_
          refine tK (.bool true) ?_
          refine sK ?_
          refine sK ?_
          refine sK ?_
          refine sK ?_
          refine sK ?_
          refine sK ?_
          refine sK ?_
          refine tK (.bool true) ?_
          refine tK (.bool true) ?_
          refine sK ?_
          refine sK ?_
          refine sK ?_
          refine sK ?_
          refine sK ?_
          refine sK ?_
          refine tK (.bool true) ?_
          refine tK (.bool true) ?_
          refine sK ?_
          refine sK ?_
          refine sK ?_
          refine sK ?_
          refine sK ?_
          refine sK ?_
          refine sK ?_
          refine tK (.bool true) ?_
          try simp only [pA, pB, p1, p2, p3]
          refine WL.nil ?_
          try simp only [pA, pB, p1, p2, p3]
          go_upto_region 9 with fail
          refine WL.start ?_
          refine tK (.bool false) ?_
          try simp only [pA, pB, p1, p2, p3]
          refine WL.nil ?_
          try simp only [pA, pB, p1, p2, p3]
          have hv : cmdB c = false := by simp [cmdB, q1, q2, q3, q4, q27, q28, q29, q30]
          go_wp2
          rw [HC.out]
          exact ⟨by rw [hv]; rfl, HF.out.kept⟩
         ·skip
          refine tW (.bool false) (exec_bin .neq 29 _ _ _ rfl (.agg (#[.int .i64 c.f0, .int .i64 c.f1])) (.agg (#[.int .i64 0, .int .i64 0])) (.bool false) (by kernel_rfl) (by kernel_rfl) (by kernel_rfl) (by rw [eqF_neq, q30]; try rfl)) ?_
          refine tW (.bool false) (exec_bin .neq 4 _ _ _ rfl (.bool false) (.bool false) (.bool false) (by kernel_rfl) (by kernel_rfl) (by kernel_rfl) (by kernel_rfl)) ?_
          refine tK (.bool false) ?_
          refine tK (.bool false) ?_
          refine tK (.bool false) ?_
          refine sK ?_
          refine sK ?_
          refine sK ?_
          refine sK ?_
          refine tK (.bool false) ?_
          refine tK (.bool false) ?_
          refine tK (.bool false) ?_
          refine tK (.bool false) ?_
          refine tK (.pointer (some ⟨gk1, 6, none⟩)) ?_
          refine tW (.agg (#[.int .i64 c.g0, .int .i64 c.g1])) (exec_load 29 _ rfl ⟨gk1, 6, none⟩ (by kernel_rfl) (.agg (#[.int .i64 c.g0, .int .i64 c.g1])) (ld27 (cs := Cm.cs c) (HF.out.box 0 _ _ _ rfl) rfl rfl)) ?_
          refine tW (.agg (#[.int .i64 0, .int .i64 0])) (exec_build 29 _ rfl (#[.int .i64 0, .int .i64 0]) (by kernel_rfl)) ?_
          try simp only [pA, pB, p1, p2, p3]
          cases q31 : (eqF c.g0 c.g1 0 0)
          ·skip
           refine tW (.bool true) (exec_bin .neq 29 _ _ _ rfl (.agg (#[.int .i64 c.g0, .int .i64 c.g1])) (.agg (#[.int .i64 0, .int .i64 0])) (.bool true) (by kernel_rfl) (by kernel_rfl) (by kernel_rfl) (by rw [eqF_neq, q31]; try rfl)) ?_
           refine tW (.bool true) (exec_bin .neq 4 _ _ _ rfl (.bool false) (.bool true) (.bool true) (by kernel_rfl) (by kernel_rfl) (by kernel_rfl) (by kernel_rfl)) ?_
           refine tK (.bool true) ?_
           refine tK (.bool true) ?_
           refine sK ?_
           refine sK ?_
           refine sK ?_
           refine sK ?_
           refine sK ?_
           refine sK ?_
           refine sK ?_
           refine tK (.bool true) ?_
           try simp only [pA, pB, p1, p2, p3]
           refine WL.nil ?_
           try simp only [pA, pB, p1, p2, p3]
           go_upto_region 9 with fail
           refine WL.start ?_
           refine tK (.bool false) ?_
           try simp only [pA, pB, p1, p2, p3]
           refine WL.nil ?_
           try simp only [pA, pB, p1, p2, p3]
           have hv : cmdB c = false := by simp [cmdB, q1, q2, q3, q4, q27, q28, q29, q30, q31]
           go_wp2
           rw [HC.out]
           exact ⟨by rw [hv]; rfl, HF.out.kept⟩
          ·skip
           refine tW (.bool false) (exec_bin .neq 29 _ _ _ rfl (.agg (#[.int .i64 c.g0, .int .i64 c.g1])) (.agg (#[.int .i64 0, .int .i64 0])) (.bool false) (by kernel_rfl) (by kernel_rfl) (by kernel_rfl) (by rw [eqF_neq, q31]; try rfl)) ?_
           refine tW (.bool false) (exec_bin .neq 4 _ _ _ rfl (.bool false) (.bool false) (.bool false) (by kernel_rfl) (by kernel_rfl) (by kernel_rfl) (by kernel_rfl)) ?_
           refine tK (.bool false) ?_
           refine tK (.bool false) ?_
           refine tK (.bool false) ?_
           refine tK (.bool false) ?_
           refine sK ?_
           refine sK ?_
           refine sK ?_
           refine sK ?_
           refine tK (.bool false) ?_
           refine tK (.bool false) ?_
           try simp only [pA, pB, p1, p2, p3]
           refine WL.nil ?_
           try simp only [pA, pB, p1, p2, p3]
           go_upto_region 10 with fail
           refine WL.start ?_
           refine tK (.pointer (some ⟨gk1, 8, none⟩)) ?_
           refine tW (.int .i64 c.sz) (exec_load 3 _ rfl ⟨gk1, 8, none⟩ (by kernel_rfl) (.int .i64 c.sz) (ld3 ((HF.out.box 0 _ _ _ rfl).cell 8))) ?_
           try simp only [pA, pB, p1, p2, p3]
           cases q32 : (inB c.sz 0 4294967296)
           ·skip
            refine wp_callW 19 #[.int .i64 c.sz, .int .i64 0, .int .i64 4294967296] (by kernel_rfl) _ (within_any _ _ _ _) (by kernel_rfl) ?_
            rintro e wq ⟨rfl, hwq⟩
            rw [hwq]
            clear hwq wq
            refine ⟨.bool false, by rw [q32], ?_⟩
            try simp only [pA, pB, p1, p2, p3]
            refine tK (.bool false) ?_
            refine sK ?_
            refine sK ?_
            refine sK ?_
            refine sK ?_
            refine sK ?_
            refine sK ?_
            refine tK (.bool false) ?_
            refine tK (.bool false) ?_
            try simp only [pA, pB, p1, p2, p3]
            refine WL.nil ?_
            try simp only [pA, pB, p1, p2, p3]
            have hv : cmdB c = false := by simp [cmdB, q1, q2, q3, q4, q27, q28, q29, q30, q31, q32]
            go_wp2
            rw [HC.out]
            exact ⟨by rw [hv]; rfl, HF.out.kept⟩
           ·skip
            refine wp_callW 19 #[.int .i64 c.sz, .int .i64 0, .int .i64 4294967296] (by kernel_rfl) _ (within_any _ _ _ _) (by kernel_rfl) ?_
            rintro e wq ⟨rfl, hwq⟩
            rw [hwq]
            clear hwq wq
            refine ⟨.bool true, by rw [q32], ?_⟩
            try simp only [pA, pB, p1, p2, p3]
            refine tK (.bool true) ?_
            refine tK (.bool false) ?_
            refine tK (.bool false) ?_
            refine tK (.pointer (some ⟨gk1, 8, none⟩)) ?_
            refine tW (.int .i64 c.sz) (exec_load 3 _ rfl ⟨gk1, 8, none⟩ (by kernel_rfl) (.int .i64 c.sz) (ld3 ((HF.out.box 0 _ _ _ rfl).cell 8))) ?_
            try simp only [pA, pB, p1, p2, p3]
            cases q33 : (c.sz == 0)
            ·skip
             refine tW (.bool false) (exec_bin .eql 3 _ _ _ rfl (.int .i64 c.sz) (.int .i64 0) (.bool false) (by kernel_rfl) (by kernel_rfl) (by kernel_rfl) (by rw [b_eql, q33]; try rfl)) ?_
             refine tK (.bool false) ?_
             refine tK (.bool false) ?_
             refine tK (.bool false) ?_
             try simp only [pA, pB, p1, p2, p3]
             refine WL.nil ?_
             try simp only [pA, pB, p1, p2, p3]
             have hv : cmdB c = false := by simp [cmdB, q1, q2, q3, q4, q27, q28, q29, q30, q31, q32, q33]
             go_wp2
             rw [HC.out]
             exact ⟨by rw [hv]; rfl, HF.out.kept⟩
            ·skip
             refine tW (.bool true) (exec_bin .eql 3 _ _ _ rfl (.int .i64 c.sz) (.int .i64 0) (.bool true) (by kernel_rfl) (by kernel_rfl) (by kernel_rfl) (by rw [b_eql, q33]; try rfl)) ?_
             refine tK (.bool true) ?_
             refine tK (.bool true) ?_
             refine tK (.bool true) ?_
             try simp only [pA, pB, p1, p2, p3]
             refine WL.nil ?_
             try simp only [pA, pB, p1, p2, p3]
             have hv : cmdB c = true := by simp [cmdB, q1, q2, q3, q4, q27, q28, q29, q30, q31, q32, q33]
             go_wp2
             rw [HC.out]
             exact ⟨by rw [hv]; rfl, HF.out.kept⟩
       · simp at q4 q28; omega
      · simp at q4 q27; omega

end Go.Proofs.Ytfemlnfknebalab
