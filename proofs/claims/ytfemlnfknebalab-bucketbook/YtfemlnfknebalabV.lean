import Derived.Test.YtfemlnfknebalabTb
namespace Go.Proofs.Ytfemlnfknebalab
open Go.RowKit
set_option linter.unusedVariables false
set_option linter.unusedSimpArgs false

theorem less_cmp : ∀ a b : List UInt8, Op.bytesLess a b = decide (Lib.compareBytes a b < 0)
  | [], [] => by simp [Op.bytesLess, Lib.compareBytes]
  | [], _ :: _ => by simp [Op.bytesLess, Lib.compareBytes]
  | _ :: _, [] => by simp [Op.bytesLess, Lib.compareBytes]
  | x :: a, y :: b => by
    unfold Op.bytesLess Lib.compareBytes
    by_cases h1 : x < y
    · simp [h1]
    · by_cases h2 : y < x
      · have hne : x ≠ y := fun e => by subst e; exact UInt8.lt_irrefl _ h2
        simp [h1, h2, hne]
      · have : x = y := UInt8.le_antisymm (UInt8.not_lt.1 h2) (UInt8.not_lt.1 h1)
        simp [h1, h2, this, less_cmp a b]
def ltN (a b : ByteArray) : Bool := decide (cmpB a b < 0)
theorem ltN_geq (a b : ByteArray) (w : World) : (binOp .geq 9 (.string a) (.string b)).run Try.prog w = .ok (.bool (!ltN a b)) w := by
  have h : (binOp .geq 9 (.string a) (.string b)).run Try.prog w = .ok (.bool (!Op.bytesLess a.toList b.toList)) w := by kernel_rfl
  rw [h, less_cmp, ByteArray.toList_eq, ByteArray.toList_eq]; rfl
def lastB (l : La) : Bool := if l.er == 102 || l.er == 103 then eqF l.f0 l.f1 0 0 && l.sz == 0 else if l.er == 0 || l.er == 101 || l.er == 104 then fileB l.f0 l.f1 && inB l.sz 0 4294967296 else false
def entB (es : List En) (i : Nat) : Bool := nameB (eAt es i).nm && (decide (i = 0) || ltN (eAt es (i - 1)).nm (eAt es i).nm) && fileB (eAt es i).f0 (eAt es i).f1 && inB (eAt es i).sz 0 4294967296
def lasB (up : Int) (ls : List La) (i : Nat) : Bool := inB (lAt ls i).cl 1 255 && inB (lAt ls i).op 1 1099511627776 && inB (lAt ls i).ins 1 up && (decide (i = 0) || decide ((lAt ls (i - 1)).cl < (lAt ls i).cl)) && lastB (lAt ls i)
def bktB (up : Int) (es : List En) (ls : List La) : Bool := inB up 0 1048576 && decide (es.length ≤ 256) && !(up == 0 && decide (0 < es.length + ls.length)) && (List.range es.length).all (entB es) && (List.range ls.length).all (lasB up ls)
theorem bktB_e {up : Int} {es : List En} {ls : List La} {i : Nat} (hi : i < es.length) (h : entB es i = false) : bktB up es ls = false := by
  have : (List.range es.length).all (entB es) = false := by
    rw [List.all_eq_false]
    exact ⟨i, List.mem_range.2 hi, by rw [h]; simp⟩
  simp [bktB, this]
theorem bktB_l {up : Int} {es : List En} {ls : List La} {i : Nat} (hi : i < ls.length) (h : lasB up ls i = false) : bktB up es ls = false := by
  have : (List.range ls.length).all (lasB up ls) = false := by
    rw [List.all_eq_false]
    exact ⟨i, List.mem_range.2 hi, by rw [h]; simp⟩
  simp [bktB, this]
theorem bktB_t {up : Int} {es : List En} {ls : List La} (h1 : inB up 0 1048576 = true) (h2 : es.length ≤ 256) (h3 : (up == 0 && decide (0 < es.length + ls.length)) = false) (he : ∀ i, i < es.length → entB es i = true) (hl : ∀ i, i < ls.length → lasB up ls i = true) : bktB up es ls = true := by
  simp only [bktB, h1, h3, decide_eq_true h2, Bool.and_eq_true, List.all_eq_true, List.mem_range, Bool.not_false, Bool.and_self, true_and]
  exact ⟨he, hl⟩
set_option maxRecDepth 100000 in
set_option maxHeartbeats 4000000 in
theorem lastB_any (l : La) (w : World) : Calls Try.prog 25 #[.agg (La.cells l)] w (fun e w' => e = .returned (.bool (lastB l)) ∧ Kept No w w') := by
  obtain ⟨C, hC⟩ : ∃ C : Ending → World → Prop, C = (fun e w' => e = .returned (.bool (lastB l)) ∧ Kept No w w') := ⟨_, rfl⟩
  have HC : Hid (C = (fun e w' => e = .returned (.bool (lastB l)) ∧ Kept No w w')) := hC
  rw [← hC]
  clear hC
  have HF : Hid (Fr No w w []) := Fr.start _ _
  go_enter Try.func25, Try.ntmps25
  go_upto_region 0 with fail
  refine WL.start ?_
  refine wp_runW (.pointer (some ⟨w.heap.size, 0, none⟩)) (w.alloc (.cells (La.cells l) 67)) (exec_box 67 _ rfl (La.cells l) (by kernel_rfl)) (by kernel_rfl) ?_
  try simp only [pA, pB, p1, p2, p3]
  have HF : Hid (Fr No w (w.alloc (.cells (La.cells l) 67)) [(w.heap.size, 67, La.cells l)]) := HF.out.alloc _ _
  generalize w.alloc (.cells (La.cells l) 67) = wk2 at HF ⊢
  generalize w.heap.size = gk1 at HF ⊢
  refine tK (.bool false) ?_
  try simp only [pA, pB, p1, p2, p3]
  refine WL.nil ?_
  try simp only [pA, pB, p1, p2, p3]
  go_upto_region 1 with fail
  refine WL.start ?_
  refine tK (.pointer (some ⟨gk1, 3, none⟩)) ?_
  try simp only [pA, pB, p1, p2, p3]
  refine tW (.int .i64 l.er) (exec_load 32 _ rfl ⟨gk1, 3, none⟩ (by kernel_rfl) (.int .i64 l.er) (ld46 ((HF.out.box 0 _ _ _ rfl).cell 3))) ?_
  try simp only [pA, pB, p1, p2, p3]
  refine WL.nil ?_
  try simp only [pA, pB, p1, p2, p3]
  go_upto_region 2 with fail
  refine WL.start ?_
  cases q1 : (l.er == 102)
  ·skip
   refine tW (.bool false) (exec_bin .eql 3 _ _ _ rfl (.int .i64 l.er) (.int .i64 102) (.bool false) (by kernel_rfl) (by kernel_rfl) (by kernel_rfl) (by rw [b_eql, q1]; try rfl)) ?_
   try simp only [pA, pB, p1, p2, p3]
   refine tK (.bool false) ?_
   try simp only [pA, pB, p1, p2, p3]
   refine WL.nil ?_
   try simp only [pA, pB, p1, p2, p3]
   go_upto_region 3 with fail
   refine WL.start ?_
   cases q2 : (l.er == 103)
   ·skip
    refine tW (.bool false) (exec_bin .eql 3 _ _ _ rfl (.int .i64 l.er) (.int .i64 103) (.bool false) (by kernel_rfl) (by kernel_rfl) (by kernel_rfl) (by rw [b_eql, q2]; try rfl)) ?_
    try simp only [pA, pB, p1, p2, p3]
    refine tK (.bool false) ?_
    try simp only [pA, pB, p1, p2, p3]
    refine WL.nil ?_
    try simp only [pA, pB, p1, p2, p3]
    go_upto_region 5 with fail
    refine WL.start ?_
    cases q3 : (l.er == 0)
    ·skip
     refine tW (.bool false) (exec_bin .eql 3 _ _ _ rfl (.int .i64 l.er) (.int .i64 0) (.bool false) (by kernel_rfl) (by kernel_rfl) (by kernel_rfl) (by rw [b_eql, q3]; try rfl)) ?_
     try simp only [pA, pB, p1, p2, p3]
     refine tK (.bool false) ?_
     try simp only [pA, pB, p1, p2, p3]
     refine WL.nil ?_
     try simp only [pA, pB, p1, p2, p3]
     go_upto_region 6 with fail
     refine WL.start ?_
     cases q4 : (l.er == 101)
     ·skip
      refine tW (.bool false) (exec_bin .eql 3 _ _ _ rfl (.int .i64 l.er) (.int .i64 101) (.bool false) (by kernel_rfl) (by kernel_rfl) (by kernel_rfl) (by rw [b_eql, q4]; try rfl)) ?_
      try simp only [pA, pB, p1, p2, p3]
      refine tK (.bool false) ?_
      try simp only [pA, pB, p1, p2, p3]
      refine WL.nil ?_
      try simp only [pA, pB, p1, p2, p3]
      go_upto_region 7 with fail
      refine WL.start ?_
      cases q5 : (l.er == 104)
      ·skip
       refine tW (.bool false) (exec_bin .eql 3 _ _ _ rfl (.int .i64 l.er) (.int .i64 104) (.bool false) (by kernel_rfl) (by kernel_rfl) (by kernel_rfl) (by rw [b_eql, q5]; try rfl)) ?_
       try simp only [pA, pB, p1, p2, p3]
       refine tK (.bool false) ?_
       try simp only [pA, pB, p1, p2, p3]
       refine WL.nil ?_
       try simp only [pA, pB, p1, p2, p3]
       go_upto_region 9 with fail
       refine WL.start ?_
       refine tK (.bool false) ?_
       try simp only [pA, pB, p1, p2, p3]
       refine WL.nil ?_
       try simp only [pA, pB, p1, p2, p3]
       have hv : lastB l = false := by simp [lastB, q1, q2, q3, q4, q5]
       go_wp2
       rw [HC.out]
       exact ⟨by rw [hv]; rfl, HF.out.kept⟩
      ·skip
       refine tW (.bool true) (exec_bin .eql 3 _ _ _ rfl (.int .i64 l.er) (.int .i64 104) (.bool true) (by kernel_rfl) (by kernel_rfl) (by kernel_rfl) (by rw [b_eql, q5]; try rfl)) ?_
       try simp only [pA, pB, p1, p2, p3]
       refine tK (.bool true) ?_
       try simp only [pA, pB, p1, p2, p3]
       refine WL.nil ?_
       try simp only [pA, pB, p1, p2, p3]
       go_upto_region 8 with fail
       refine WL.start ?_
       refine tK (.pointer (some ⟨gk1, 4, none⟩)) ?_
       try simp only [pA, pB, p1, p2, p3]
       refine tW (.agg (#[.int .i64 l.f0, .int .i64 l.f1])) (exec_load 29 _ rfl ⟨gk1, 4, none⟩ (by kernel_rfl) (.agg (#[.int .i64 l.f0, .int .i64 l.f1])) (ld27 (cs := La.cs l) (HF.out.box 0 _ _ _ rfl) rfl rfl)) ?_
       try simp only [pA, pB, p1, p2, p3]
       cases q6 : (fileB l.f0 l.f1)
       ·skip
        refine wp_callW 21 #[.agg (#[.int .i64 l.f0, .int .i64 l.f1])] (by kernel_rfl) _ (file_any _ _ _) (by kernel_rfl) ?_
        rintro e wk3 ⟨rfl, hk⟩
        have HF : Hid (Fr No w (wk3) [(gk1, 67, La.cells l)]) := HF.out.no hk
        clear hk
        refine ⟨.bool false, by rw [q6], ?_⟩
        try simp only [pA, pB, p1, p2, p3]
        refine tK (.bool false) ?_
        try simp only [pA, pB, p1, p2, p3]
        refine sK ?_
        try simp only [pA, pB, p1, p2, p3]
        refine sK ?_
        try simp only [pA, pB, p1, p2, p3]
        refine sK ?_
        try simp only [pA, pB, p1, p2, p3]
        refine tK (.bool false) ?_
        try simp only [pA, pB, p1, p2, p3]
        refine tK (.bool false) ?_
        try simp only [pA, pB, p1, p2, p3]
        refine WL.nil ?_
        try simp only [pA, pB, p1, p2, p3]
        have hv : lastB l = false := by simp [lastB, q1, q2, q3, q4, q5, q6]
        go_wp2
        rw [HC.out]
        exact ⟨by rw [hv]; rfl, HF.out.kept⟩
       ·skip
        refine wp_callW 21 #[.agg (#[.int .i64 l.f0, .int .i64 l.f1])] (by kernel_rfl) _ (file_any _ _ _) (by kernel_rfl) ?_
        rintro e wk4 ⟨rfl, hk⟩
        have HF : Hid (Fr No w (wk4) [(gk1, 67, La.cells l)]) := HF.out.no hk
        clear hk
        refine ⟨.bool true, by rw [q6], ?_⟩
        try simp only [pA, pB, p1, p2, p3]
        refine tK (.bool true) ?_
        try simp only [pA, pB, p1, p2, p3]
        refine tK (.pointer (some ⟨gk1, 6, none⟩)) ?_
        try simp only [pA, pB, p1, p2, p3]
        refine tW (.int .i64 l.sz) (exec_load 3 _ rfl ⟨gk1, 6, none⟩ (by kernel_rfl) (.int .i64 l.sz) (ld3 ((HF.out.box 0 _ _ _ rfl).cell 6))) ?_
        try simp only [pA, pB, p1, p2, p3]
        cases q7 : (inB l.sz 0 4294967296)
        ·skip
         refine wp_callW 19 #[.int .i64 l.sz, .int .i64 0, .int .i64 4294967296] (by kernel_rfl) _ (within_any _ _ _ _) (by kernel_rfl) ?_
         rintro e wq ⟨rfl, hwq⟩
         rw [hwq]
         clear hwq wq
         refine ⟨.bool false, by rw [q7], ?_⟩
         try simp only [pA, pB, p1, p2, p3]
         refine tK (.bool false) ?_
         try simp only [pA, pB, p1, p2, p3]
         refine tK (.bool false) ?_
         try simp only [pA, pB, p1, p2, p3]
         refine WL.nil ?_
         try simp only [pA, pB, p1, p2, p3]
         have hv : lastB l = false := by simp [lastB, q1, q2, q3, q4, q5, q6, q7]
         go_wp2
         rw [HC.out]
         exact ⟨by rw [hv]; rfl, HF.out.kept⟩
        ·skip
         refine wp_callW 19 #[.int .i64 l.sz, .int .i64 0, .int .i64 4294967296] (by kernel_rfl) _ (within_any _ _ _ _) (by kernel_rfl) ?_
         rintro e wq ⟨rfl, hwq⟩
         rw [hwq]
         clear hwq wq
         refine ⟨.bool true, by rw [q7], ?_⟩
         try simp only [pA, pB, p1, p2, p3]
         refine tK (.bool true) ?_
         try simp only [pA, pB, p1, p2, p3]
         refine tK (.bool true) ?_
         try simp only [pA, pB, p1, p2, p3]
         refine WL.nil ?_
         try simp only [pA, pB, p1, p2, p3]
         have hv : lastB l = true := by simp [lastB, q1, q2, q3, q4, q5, q6, q7]
         go_wp2
         rw [HC.out]
         exact ⟨by rw [hv]; rfl, HF.out.kept⟩
     ·skip
      refine tW (.bool true) (exec_bin .eql 3 _ _ _ rfl (.int .i64 l.er) (.int .i64 101) (.bool true) (by kernel_rfl) (by kernel_rfl) (by kernel_rfl) (by rw [b_eql, q4]; try rfl)) ?_
      try simp only [pA, pB, p1, p2, p3]
      refine tK (.bool true) ?_
      try simp only [pA, pB, p1, p2, p3]
      refine WL.nil ?_
      try simp only [pA, pB, p1, p2, p3]
      go_upto_region 8 with fail
      refine WL.start ?_
      refine tK (.pointer (some ⟨gk1, 4, none⟩)) ?_
      try simp only [pA, pB, p1, p2, p3]
      refine tW (.agg (#[.int .i64 l.f0, .int .i64 l.f1])) (exec_load 29 _ rfl ⟨gk1, 4, none⟩ (by kernel_rfl) (.agg (#[.int .i64 l.f0, .int .i64 l.f1])) (ld27 (cs := La.cs l) (HF.out.box 0 _ _ _ rfl) rfl rfl)) ?_
      try simp only [pA, pB, p1, p2, p3]
      cases q8 : (fileB l.f0 l.f1)
      ·skip
       refine wp_callW 21 #[.agg (#[.int .i64 l.f0, .int .i64 l.f1])] (by kernel_rfl) _ (file_any _ _ _) (by kernel_rfl) ?_
       rintro e wk5 ⟨rfl, hk⟩
       have HF : Hid (Fr No w (wk5) [(gk1, 67, La.cells l)]) := HF.out.no hk
       clear hk
       refine ⟨.bool false, by rw [q8], ?_⟩
       try simp only [pA, pB, p1, p2, p3]
       refine tK (.bool false) ?_
       try simp only [pA, pB, p1, p2, p3]
       refine sK ?_
       try simp only [pA, pB, p1, p2, p3]
       refine sK ?_
       try simp only [pA, pB, p1, p2, p3]
       refine sK ?_
       try simp only [pA, pB, p1, p2, p3]
       refine tK (.bool false) ?_
       try simp only [pA, pB, p1, p2, p3]
       refine tK (.bool false) ?_
       try simp only [pA, pB, p1, p2, p3]
       refine WL.nil ?_
       try simp only [pA, pB, p1, p2, p3]
       have hv : lastB l = false := by simp [lastB, q1, q2, q3, q4, q8]
       go_wp2
       rw [HC.out]
       exact ⟨by rw [hv]; rfl, HF.out.kept⟩
      ·skip
       refine wp_callW 21 #[.agg (#[.int .i64 l.f0, .int .i64 l.f1])] (by kernel_rfl) _ (file_any _ _ _) (by kernel_rfl) ?_
       rintro e wk6 ⟨rfl, hk⟩
       have HF : Hid (Fr No w (wk6) [(gk1, 67, La.cells l)]) := HF.out.no hk
       clear hk
       refine ⟨.bool true, by rw [q8], ?_⟩
       try simp only [pA, pB, p1, p2, p3]
       refine tK (.bool true) ?_
       try simp only [pA, pB, p1, p2, p3]
       refine tK (.pointer (some ⟨gk1, 6, none⟩)) ?_
       try simp only [pA, pB, p1, p2, p3]
       refine tW (.int .i64 l.sz) (exec_load 3 _ rfl ⟨gk1, 6, none⟩ (by kernel_rfl) (.int .i64 l.sz) (ld3 ((HF.out.box 0 _ _ _ rfl).cell 6))) ?_
       try simp only [pA, pB, p1, p2, p3]
       cases q9 : (inB l.sz 0 4294967296)
       ·skip
        refine wp_callW 19 #[.int .i64 l.sz, .int .i64 0, .int .i64 4294967296] (by kernel_rfl) _ (within_any _ _ _ _) (by kernel_rfl) ?_
        rintro e wq ⟨rfl, hwq⟩
        rw [hwq]
        clear hwq wq
        refine ⟨.bool false, by rw [q9], ?_⟩
        try simp only [pA, pB, p1, p2, p3]
        refine tK (.bool false) ?_
        try simp only [pA, pB, p1, p2, p3]
        refine tK (.bool false) ?_
        try simp only [pA, pB, p1, p2, p3]
        refine WL.nil ?_
        try simp only [pA, pB, p1, p2, p3]
        have hv : lastB l = false := by simp [lastB, q1, q2, q3, q4, q8, q9]
        go_wp2
        rw [HC.out]
        exact ⟨by rw [hv]; rfl, HF.out.kept⟩
       ·skip
        refine wp_callW 19 #[.int .i64 l.sz, .int .i64 0, .int .i64 4294967296] (by kernel_rfl) _ (within_any _ _ _ _) (by kernel_rfl) ?_
        rintro e wq ⟨rfl, hwq⟩
        rw [hwq]
        clear hwq wq
        refine ⟨.bool true, by rw [q9], ?_⟩
        try simp only [pA, pB, p1, p2, p3]
        refine tK (.bool true) ?_
        try simp only [pA, pB, p1, p2, p3]
        refine tK (.bool true) ?_
        try simp only [pA, pB, p1, p2, p3]
        refine WL.nil ?_
        try simp only [pA, pB, p1, p2, p3]
        have hv : lastB l = true := by simp [lastB, q1, q2, q3, q4, q8, q9]
        go_wp2
        rw [HC.out]
        exact ⟨by rw [hv]; rfl, HF.out.kept⟩
    ·skip
     refine tW (.bool true) (exec_bin .eql 3 _ _ _ rfl (.int .i64 l.er) (.int .i64 0) (.bool true) (by kernel_rfl) (by kernel_rfl) (by kernel_rfl) (by rw [b_eql, q3]; try rfl)) ?_
     try simp only [pA, pB, p1, p2, p3]
     refine tK (.bool true) ?_
     try simp only [pA, pB, p1, p2, p3]
     refine WL.nil ?_
     try simp only [pA, pB, p1, p2, p3]
     go_upto_region 8 with fail
     refine WL.start ?_
     refine tK (.pointer (some ⟨gk1, 4, none⟩)) ?_
     try simp only [pA, pB, p1, p2, p3]
     refine tW (.agg (#[.int .i64 l.f0, .int .i64 l.f1])) (exec_load 29 _ rfl ⟨gk1, 4, none⟩ (by kernel_rfl) (.agg (#[.int .i64 l.f0, .int .i64 l.f1])) (ld27 (cs := La.cs l) (HF.out.box 0 _ _ _ rfl) rfl rfl)) ?_
     try simp only [pA, pB, p1, p2, p3]
     cases q10 : (fileB l.f0 l.f1)
     ·skip
      refine wp_callW 21 #[.agg (#[.int .i64 l.f0, .int .i64 l.f1])] (by kernel_rfl) _ (file_any _ _ _) (by kernel_rfl) ?_
      rintro e wk7 ⟨rfl, hk⟩
      have HF : Hid (Fr No w (wk7) [(gk1, 67, La.cells l)]) := HF.out.no hk
      clear hk
      refine ⟨.bool false, by rw [q10], ?_⟩
      try simp only [pA, pB, p1, p2, p3]
      refine tK (.bool false) ?_
      try simp only [pA, pB, p1, p2, p3]
      refine sK ?_
      try simp only [pA, pB, p1, p2, p3]
      refine sK ?_
      try simp only [pA, pB, p1, p2, p3]
      refine sK ?_
      try simp only [pA, pB, p1, p2, p3]
      refine tK (.bool false) ?_
      try simp only [pA, pB, p1, p2, p3]
      refine tK (.bool false) ?_
      try simp only [pA, pB, p1, p2, p3]
      refine WL.nil ?_
      try simp only [pA, pB, p1, p2, p3]
      have hv : lastB l = false := by simp [lastB, q1, q2, q3, q10]
      go_wp2
      rw [HC.out]
      exact ⟨by rw [hv]; rfl, HF.out.kept⟩
     ·skip
      refine wp_callW 21 #[.agg (#[.int .i64 l.f0, .int .i64 l.f1])] (by kernel_rfl) _ (file_any _ _ _) (by kernel_rfl) ?_
      rintro e wk8 ⟨rfl, hk⟩
      have HF : Hid (Fr No w (wk8) [(gk1, 67, La.cells l)]) := HF.out.no hk
      clear hk
      refine ⟨.bool true, by rw [q10], ?_⟩
      try simp only [pA, pB, p1, p2, p3]
      refine tK (.bool true) ?_
      try simp only [pA, pB, p1, p2, p3]
      refine tK (.pointer (some ⟨gk1, 6, none⟩)) ?_
      try simp only [pA, pB, p1, p2, p3]
      refine tW (.int .i64 l.sz) (exec_load 3 _ rfl ⟨gk1, 6, none⟩ (by kernel_rfl) (.int .i64 l.sz) (ld3 ((HF.out.box 0 _ _ _ rfl).cell 6))) ?_
      try simp only [pA, pB, p1, p2, p3]
      cases q11 : (inB l.sz 0 4294967296)
      ·skip
       refine wp_callW 19 #[.int .i64 l.sz, .int .i64 0, .int .i64 4294967296] (by kernel_rfl) _ (within_any _ _ _ _) (by kernel_rfl) ?_
       rintro e wq ⟨rfl, hwq⟩
       rw [hwq]
       clear hwq wq
       refine ⟨.bool false, by rw [q11], ?_⟩
       try simp only [pA, pB, p1, p2, p3]
       refine tK (.bool false) ?_
       try simp only [pA, pB, p1, p2, p3]
       refine tK (.bool false) ?_
       try simp only [pA, pB, p1, p2, p3]
       refine WL.nil ?_
       try simp only [pA, pB, p1, p2, p3]
       have hv : lastB l = false := by simp [lastB, q1, q2, q3, q10, q11]
       go_wp2
       rw [HC.out]
       exact ⟨by rw [hv]; rfl, HF.out.kept⟩
      ·skip
       refine wp_callW 19 #[.int .i64 l.sz, .int .i64 0, .int .i64 4294967296] (by kernel_rfl) _ (within_any _ _ _ _) (by kernel_rfl) ?_
       rintro e wq ⟨rfl, hwq⟩
       rw [hwq]
       clear hwq wq
       refine ⟨.bool true, by rw [q11], ?_⟩
       try simp only [pA, pB, p1, p2, p3]
       refine tK (.bool true) ?_
       try simp only [pA, pB, p1, p2, p3]
       refine tK (.bool true) ?_
       try simp only [pA, pB, p1, p2, p3]
       refine WL.nil ?_
       try simp only [pA, pB, p1, p2, p3]
       have hv : lastB l = true := by simp [lastB, q1, q2, q3, q10, q11]
       go_wp2
       rw [HC.out]
       exact ⟨by rw [hv]; rfl, HF.out.kept⟩
   ·skip
    refine tW (.bool true) (exec_bin .eql 3 _ _ _ rfl (.int .i64 l.er) (.int .i64 103) (.bool true) (by kernel_rfl) (by kernel_rfl) (by kernel_rfl) (by rw [b_eql, q2]; try rfl)) ?_
    try simp only [pA, pB, p1, p2, p3]
    refine tK (.bool true) ?_
    try simp only [pA, pB, p1, p2, p3]
    refine WL.nil ?_
    try simp only [pA, pB, p1, p2, p3]
    go_upto_region 4 with fail
    refine WL.start ?_
    refine tK (.pointer (some ⟨gk1, 4, none⟩)) ?_
    try simp only [pA, pB, p1, p2, p3]
    refine tW (.agg (#[.int .i64 l.f0, .int .i64 l.f1])) (exec_load 29 _ rfl ⟨gk1, 4, none⟩ (by kernel_rfl) (.agg (#[.int .i64 l.f0, .int .i64 l.f1])) (ld27 (cs := La.cs l) (HF.out.box 0 _ _ _ rfl) rfl rfl)) ?_
    try simp only [pA, pB, p1, p2, p3]
    refine tW (.agg (#[.int .i64 0, .int .i64 0])) (exec_build 29 _ rfl (#[.int .i64 0, .int .i64 0]) (by kernel_rfl)) ?_
    try simp only [pA, pB, p1, p2, p3]
    cases q12 : (eqF l.f0 l.f1 0 0)
    ·skip
     refine tW (.bool false) (exec_bin .eql 29 _ _ _ rfl (.agg (#[.int .i64 l.f0, .int .i64 l.f1])) (.agg (#[.int .i64 0, .int .i64 0])) (.bool false) (by kernel_rfl) (by kernel_rfl) (by kernel_rfl) (by rw [eqF_eql, q12]; try rfl)) ?_
     try simp only [pA, pB, p1, p2, p3]
     refine tK (.bool false) ?_
     try simp only [pA, pB, p1, p2, p3]
     refine sK ?_
     try simp only [pA, pB, p1, p2, p3]
     refine sK ?_
     try simp only [pA, pB, p1, p2, p3]
     refine sK ?_
     try simp only [pA, pB, p1, p2, p3]
     refine tK (.bool false) ?_
     try simp only [pA, pB, p1, p2, p3]
     refine tK (.bool false) ?_
     try simp only [pA, pB, p1, p2, p3]
     refine WL.nil ?_
     try simp only [pA, pB, p1, p2, p3]
     have hv : lastB l = false := by simp [lastB, q1, q2, q12]
     go_wp2
     rw [HC.out]
     exact ⟨by rw [hv]; rfl, HF.out.kept⟩
    ·skip
     refine tW (.bool true) (exec_bin .eql 29 _ _ _ rfl (.agg (#[.int .i64 l.f0, .int .i64 l.f1])) (.agg (#[.int .i64 0, .int .i64 0])) (.bool true) (by kernel_rfl) (by kernel_rfl) (by kernel_rfl) (by rw [eqF_eql, q12]; try rfl)) ?_
     try simp only [pA, pB, p1, p2, p3]
     refine tK (.bool true) ?_
     try simp only [pA, pB, p1, p2, p3]
     refine tK (.pointer (some ⟨gk1, 6, none⟩)) ?_
     try simp only [pA, pB, p1, p2, p3]
     refine tW (.int .i64 l.sz) (exec_load 3 _ rfl ⟨gk1, 6, none⟩ (by kernel_rfl) (.int .i64 l.sz) (ld3 ((HF.out.box 0 _ _ _ rfl).cell 6))) ?_
     try simp only [pA, pB, p1, p2, p3]
     cases q13 : (l.sz == 0)
     ·skip
      refine tW (.bool false) (exec_bin .eql 3 _ _ _ rfl (.int .i64 l.sz) (.int .i64 0) (.bool false) (by kernel_rfl) (by kernel_rfl) (by kernel_rfl) (by rw [b_eql, q13]; try rfl)) ?_
      try simp only [pA, pB, p1, p2, p3]
      refine tK (.bool false) ?_
      try simp only [pA, pB, p1, p2, p3]
      refine tK (.bool false) ?_
      try simp only [pA, pB, p1, p2, p3]
      refine WL.nil ?_
      try simp only [pA, pB, p1, p2, p3]
      have hv : lastB l = false := by simp [lastB, q1, q2, q12, q13]
      go_wp2
      rw [HC.out]
      exact ⟨by rw [hv]; rfl, HF.out.kept⟩
     ·skip
      refine tW (.bool true) (exec_bin .eql 3 _ _ _ rfl (.int .i64 l.sz) (.int .i64 0) (.bool true) (by kernel_rfl) (by kernel_rfl) (by kernel_rfl) (by rw [b_eql, q13]; try rfl)) ?_
      try simp only [pA, pB, p1, p2, p3]
      refine tK (.bool true) ?_
      try simp only [pA, pB, p1, p2, p3]
      refine tK (.bool true) ?_
      try simp only [pA, pB, p1, p2, p3]
      refine WL.nil ?_
      try simp only [pA, pB, p1, p2, p3]
      have hv : lastB l = true := by simp [lastB, q1, q2, q12, q13]
      go_wp2
      rw [HC.out]
      exact ⟨by rw [hv]; rfl, HF.out.kept⟩
  ·skip
   refine tW (.bool true) (exec_bin .eql 3 _ _ _ rfl (.int .i64 l.er) (.int .i64 102) (.bool true) (by kernel_rfl) (by kernel_rfl) (by kernel_rfl) (by rw [b_eql, q1]; try rfl)) ?_
   try simp only [pA, pB, p1, p2, p3]
   refine tK (.bool true) ?_
   try simp only [pA, pB, p1, p2, p3]
   refine WL.nil ?_
   try simp only [pA, pB, p1, p2, p3]
   go_upto_region 4 with fail
   refine WL.start ?_
   refine tK (.pointer (some ⟨gk1, 4, none⟩)) ?_
   try simp only [pA, pB, p1, p2, p3]
   refine tW (.agg (#[.int .i64 l.f0, .int .i64 l.f1])) (exec_load 29 _ rfl ⟨gk1, 4, none⟩ (by kernel_rfl) (.agg (#[.int .i64 l.f0, .int .i64 l.f1])) (ld27 (cs := La.cs l) (HF.out.box 0 _ _ _ rfl) rfl rfl)) ?_
   try simp only [pA, pB, p1, p2, p3]
   refine tW (.agg (#[.int .i64 0, .int .i64 0])) (exec_build 29 _ rfl (#[.int .i64 0, .int .i64 0]) (by kernel_rfl)) ?_
   try simp only [pA, pB, p1, p2, p3]
   cases q14 : (eqF l.f0 l.f1 0 0)
   ·skip
    refine tW (.bool false) (exec_bin .eql 29 _ _ _ rfl (.agg (#[.int .i64 l.f0, .int .i64 l.f1])) (.agg (#[.int .i64 0, .int .i64 0])) (.bool false) (by kernel_rfl) (by kernel_rfl) (by kernel_rfl) (by rw [eqF_eql, q14]; try rfl)) ?_
    try simp only [pA, pB, p1, p2, p3]
    refine tK (.bool false) ?_
    try simp only [pA, pB, p1, p2, p3]
    refine sK ?_
    try simp only [pA, pB, p1, p2, p3]
    refine sK ?_
    try simp only [pA, pB, p1, p2, p3]
    refine sK ?_
    try simp only [pA, pB, p1, p2, p3]
    refine tK (.bool false) ?_
    try simp only [pA, pB, p1, p2, p3]
    refine tK (.bool false) ?_
    try simp only [pA, pB, p1, p2, p3]
    refine WL.nil ?_
    try simp only [pA, pB, p1, p2, p3]
    have hv : lastB l = false := by simp [lastB, q1, q14]
    go_wp2
    rw [HC.out]
    exact ⟨by rw [hv]; rfl, HF.out.kept⟩
   ·skip
    refine tW (.bool true) (exec_bin .eql 29 _ _ _ rfl (.agg (#[.int .i64 l.f0, .int .i64 l.f1])) (.agg (#[.int .i64 0, .int .i64 0])) (.bool true) (by kernel_rfl) (by kernel_rfl) (by kernel_rfl) (by rw [eqF_eql, q14]; try rfl)) ?_
    try simp only [pA, pB, p1, p2, p3]
    refine tK (.bool true) ?_
    try simp only [pA, pB, p1, p2, p3]
    refine tK (.pointer (some ⟨gk1, 6, none⟩)) ?_
    try simp only [pA, pB, p1, p2, p3]
    refine tW (.int .i64 l.sz) (exec_load 3 _ rfl ⟨gk1, 6, none⟩ (by kernel_rfl) (.int .i64 l.sz) (ld3 ((HF.out.box 0 _ _ _ rfl).cell 6))) ?_
    try simp only [pA, pB, p1, p2, p3]
    cases q15 : (l.sz == 0)
    ·skip
     refine tW (.bool false) (exec_bin .eql 3 _ _ _ rfl (.int .i64 l.sz) (.int .i64 0) (.bool false) (by kernel_rfl) (by kernel_rfl) (by kernel_rfl) (by rw [b_eql, q15]; try rfl)) ?_
     try simp only [pA, pB, p1, p2, p3]
     refine tK (.bool false) ?_
     try simp only [pA, pB, p1, p2, p3]
     refine tK (.bool false) ?_
     try simp only [pA, pB, p1, p2, p3]
     refine WL.nil ?_
     try simp only [pA, pB, p1, p2, p3]
     have hv : lastB l = false := by simp [lastB, q1, q14, q15]
     go_wp2
     rw [HC.out]
     exact ⟨by rw [hv]; rfl, HF.out.kept⟩
    ·skip
     refine tW (.bool true) (exec_bin .eql 3 _ _ _ rfl (.int .i64 l.sz) (.int .i64 0) (.bool true) (by kernel_rfl) (by kernel_rfl) (by kernel_rfl) (by rw [b_eql, q15]; try rfl)) ?_
     try simp only [pA, pB, p1, p2, p3]
     refine tK (.bool true) ?_
     try simp only [pA, pB, p1, p2, p3]
     refine tK (.bool true) ?_
     try simp only [pA, pB, p1, p2, p3]
     refine WL.nil ?_
     try simp only [pA, pB, p1, p2, p3]
     have hv : lastB l = true := by simp [lastB, q1, q14, q15]
     go_wp2
     rw [HC.out]
     exact ⟨by rw [hv]; rfl, HF.out.kept⟩
def sameE (x y : List En) : Bool := decide (x.length = y.length) && (List.range x.length).all (fun i => eqE (eAt x i) (eAt y i))
theorem sameE_f {x y : List En} {i : Nat} (hi : i < x.length) (h : eqE (eAt x i) (eAt y i) = false) : sameE x y = false := by
  have : (List.range x.length).all (fun i => eqE (eAt x i) (eAt y i)) = false := by
    rw [List.all_eq_false]
    exact ⟨i, List.mem_range.2 hi, by rw [h]; simp⟩
  simp [sameE, this]
theorem sameE_t {x y : List En} (hl : x.length = y.length) (h : ∀ i, i < x.length → eqE (eAt x i) (eAt y i) = true) : sameE x y = true := by
  simp only [sameE, decide_eq_true hl, Bool.true_and, List.all_eq_true, List.mem_range]
  exact h
theorem sameE_iff {x y : List En} : sameE x y = true ↔ x = y := by
  constructor
  · intro h
    simp only [sameE, Bool.and_eq_true, decide_eq_true_eq, List.all_eq_true, List.mem_range] at h
    apply List.ext_getElem?
    intro i
    by_cases hi : i < x.length
    · rw [eAt_some hi, eAt_some (show i < y.length by omega), eqE_iff.1 (h.2 i hi)]
    · rw [List.getElem?_eq_none (by omega), List.getElem?_eq_none (by omega)]
  · rintro rfl
    exact sameE_t rfl (fun i _ => eqE_iff.2 rfl)
set_option maxRecDepth 100000 in
set_option maxHeartbeats 4000000 in
theorem sameE_any (a : Option Addr) (n c : Nat) (b : Option Addr) (m d : Nat) (x y : List En) (w : World) (hx : RdE w ⟨a, n, c⟩ x) (hy : RdE w ⟨b, m, d⟩ y) (hbn : n ≤ 140737488355328) : Calls Try.prog 12 #[.slice a n c, .slice b m d] w (fun e w' => e = .returned (.bool (sameE x y)) ∧ Kept No w w') := by
  obtain ⟨C, hC⟩ : ∃ C : Ending → World → Prop, C = (fun e w' => e = .returned (.bool (sameE x y)) ∧ Kept No w w') := ⟨_, rfl⟩
  have HC : Hid (C = (fun e w' => e = .returned (.bool (sameE x y)) ∧ Kept No w w')) := hC
  rw [← hC]
  clear hC
  have hxl : x.length = n := hx.len
  have hyl : y.length = m := hy.len
  have HX : Hid (Es w a x) := hx.row
  have HY : Hid (Es w b y) := hy.row
  clear hx hy
  by_cases hnm : n = m
  · have HSf : Hid (∀ i, i < n → eqE (eAt x i) (eAt y i) = false → sameE x y = false) := fun i hi h => sameE_f (by omega) h
    have HSt : Hid ((∀ i, i < n → eqE (eAt x i) (eAt y i) = true) → sameE x y = true) := fun h => sameE_t (by omega) (fun i hi => h i (by omega))
    have HXL : Hid (x.length = n) := hxl
    have HYL : Hid (y.length = m) := hyl
    clear hxl hyl
    subst hnm
    go_enter Try.func12, Try.ntmps12
    go_wp2
    go_loopw [5] (fun v5 wr => ∃ i : Nat, v5 = .int .i64 ((i : Nat) : Int) ∧ i ≤ n ∧ Hid (∀ j, j < i → eqE (eAt x j) (eAt y j) = true) ∧ Hid (Kept No w wr)) (fun i _ => n - (intOf i).toNat)
    case atStart => exact ⟨0, by go_num, by omega, fun j hj => absurd hj (Nat.not_lt_zero _), Kept.refl _ _⟩
    case round =>
      obtain ⟨i, rfl, hi, HP, HK⟩ := hrel
      by_cases hlt : i < n
      · have hlt' : (i : Int) < (n : Int) := by omega
        obtain ⟨xb, xo, rfl, hcx⟩ := Es.at HX.out (i := i) (by rw [HXL.out]; exact hlt)
        obtain ⟨yb, yo, rfl, hcy⟩ := Es.at HY.out (i := i) (by rw [HYL.out]; exact hlt)
        have HCX : Hid (∀ (j : Nat) v, (eAt x i).cs[j]? = some v → w.cell? ⟨xb, xo + i * 4 + j, none⟩ = some v) := hcx
        have HCY : Hid (∀ (j : Nat) v, (eAt y i).cs[j]? = some v → w.cell? ⟨yb, yo + i * 4 + j, none⟩ = some v) := hcy
        have HN1 : Hid (eqE (eAt x i) (eAt y i) = false → sameE x y = false) := HSf.out i hlt
        have HY1 : Hid (eqE (eAt x i) (eAt y i) = true → ∀ j, j < i + 1 → eqE (eAt x j) (eAt y j) = true) := fun h j hj => by
          by_cases e : j = i
          · rw [e]; exact h
          · exact HP.out j (by omega)
        clear hcx hcy HSf
        generalize eAt x i = p at HCX HN1 HY1
        generalize eAt y i = q at HCY HN1 HY1
        go_upto_region 6 with fail
        refine wp_region_held_drew (S := fun w' => Kept No w w') rfl HK.out.drew (fun hH => ?_)
        refine aK (i := 0) (oi := { dst := some 17, op := Op.move (Operand.tmp 0), type := 23, pos := "law.go:29", after := #[], guard := none }) (v := .slice (some ⟨xb, xo, none⟩) n c) hH ?_
        try simp only [pA, pB, p1, p2, p3]
        refine aK (i := 1) (oi := { dst := some 18, op := Op.move (Operand.tmp 5), type := 3, pos := "law.go:29", after := #[], guard := none }) (v := .int .i64 ((i : Nat) : Int)) hH ?_
        try simp only [pA, pB, p1, p2, p3]
        refine aT (i := 2) (oi := { dst := some 19, op := Op.indexAddr 23 (Operand.tmp 17) (Operand.tmp 18), type := 0, pos := "law.go:29", after := #[{ on := 0, ground := Ground.data }, { on := 1, ground := Ground.data }], guard := none }) (v := .pointer (some ⟨xb, xo + i * 4, none⟩)) (fun w' hw => exec_ixA 23 4 Try.und22e Try.size22e _ _ rfl xb xo n c i (by kernel_rfl) (by kernel_rfl) hlt) hH ?_
        try simp only [pA, pB, p1, p2, p3]
        refine aT (i := 3) (oi := { dst := some 20, op := Op.load 34 (Operand.tmp 19), type := 34, pos := "law.go:29", after := #[{ on := 2, ground := Ground.data }], guard := none }) (v := .agg (En.cells p)) (fun w' hw => exec_load 34 _ rfl ⟨xb, xo + i * 4, none⟩ (by kernel_rfl) (.agg (En.cells p)) (load_E (fun j v h => hw.cell (HCX.out j v h) (fun e => e)))) hH ?_
        try simp only [pA, pB, p1, p2, p3]
        refine aK (i := 4) (oi := { dst := some 21, op := Op.move (Operand.tmp 1), type := 23, pos := "law.go:29", after := #[], guard := none }) (v := .slice (some ⟨yb, yo, none⟩) n d) hH ?_
        try simp only [pA, pB, p1, p2, p3]
        refine aK (i := 5) (oi := { dst := some 22, op := Op.move (Operand.tmp 5), type := 3, pos := "law.go:29", after := #[], guard := none }) (v := .int .i64 ((i : Nat) : Int)) hH ?_
        try simp only [pA, pB, p1, p2, p3]
        refine aT (i := 6) (oi := { dst := some 23, op := Op.indexAddr 23 (Operand.tmp 21) (Operand.tmp 22), type := 0, pos := "law.go:29", after := #[{ on := 4, ground := Ground.data }, { on := 5, ground := Ground.data }], guard := none }) (v := .pointer (some ⟨yb, yo + i * 4, none⟩)) (fun w' hw => exec_ixA 23 4 Try.und22e Try.size22e _ _ rfl yb yo n d i (by kernel_rfl) (by kernel_rfl) hlt) hH ?_
        try simp only [pA, pB, p1, p2, p3]
        refine aT (i := 7) (oi := { dst := some 24, op := Op.load 34 (Operand.tmp 23), type := 34, pos := "law.go:29", after := #[{ on := 6, ground := Ground.data }], guard := none }) (v := .agg (En.cells q)) (fun w' hw => exec_load 34 _ rfl ⟨yb, yo + i * 4, none⟩ (by kernel_rfl) (.agg (En.cells q)) (load_E (fun j v h => hw.cell (HCY.out j v h) (fun e => e)))) hH ?_
        try simp only [pA, pB, p1, p2, p3]
        cases q1 : (eqE p q)
        ·skip
         refine aT (i := 8) (oi := { dst := some 25, op := Op.binOp BinOp.neq 34 (Operand.tmp 20) (Operand.tmp 24) 34, type := 4, pos := "law.go:29", after := #[{ on := 3, ground := Ground.data }, { on := 7, ground := Ground.data }], guard := none }) (v := .bool true) (fun w' hw => exec_bin .neq 34 _ _ _ rfl (.agg (En.cells p)) (.agg (En.cells q)) (.bool true) (by kernel_rfl) (by kernel_rfl) (by kernel_rfl) (by rw [eqE_neq, q1]; try rfl)) hH ?_
         try simp only [pA, pB, p1, p2, p3]
         refine wpAnyH_done (by kernel_rfl) ?_ _
         try simp only [pA, pB, p1, p2, p3]
         clear hH
         have HV : Hid (sameE x y = false) := HN1.out q1
         clear HN1 HY1
         go_wp2
         rw [HC.out]
         exact ⟨by rw [HV.out]; rfl, HK.out.drew⟩
        ·skip
         refine aT (i := 8) (oi := { dst := some 25, op := Op.binOp BinOp.neq 34 (Operand.tmp 20) (Operand.tmp 24) 34, type := 4, pos := "law.go:29", after := #[{ on := 3, ground := Ground.data }, { on := 7, ground := Ground.data }], guard := none }) (v := .bool false) (fun w' hw => exec_bin .neq 34 _ _ _ rfl (.agg (En.cells p)) (.agg (En.cells q)) (.bool false) (by kernel_rfl) (by kernel_rfl) (by kernel_rfl) (by rw [eqE_neq, q1]; try rfl)) hH ?_
         try simp only [pA, pB, p1, p2, p3]
         refine wpAnyH_done (by kernel_rfl) ?_ _
         try simp only [pA, pB, p1, p2, p3]
         clear hH
         have HP2 : Hid (∀ j, j < i + 1 → eqE (eAt x j) (eAt y j) = true) := HY1.out q1
         clear HN1 HY1 HP
         go_wp2
         go_roundw
         case rel => exact ⟨i + 1, by go_num, by omega, HP2, HK.out.drew⟩
         case measure => simp [intOf]; omega
      · have hlt' : ¬ (i : Int) < (n : Int) := by omega
        have HV : Hid (sameE x y = true) := HSt.out (fun j hj => HP.out j (by omega))
        go_wp2
        rw [HC.out]
        exact ⟨by rw [HV.out], HK.out⟩
  · have hnm' : ¬ (n : Int) = (m : Int) := by omega
    have HV : Hid (sameE x y = false) := by
      have : ¬ x.length = y.length := by omega
      simp [Hid, sameE, this]
    clear hxl hyl
    go_enter Try.func12, Try.ntmps12
    go_wp2
    rw [HC.out]
    exact ⟨by rw [HV.out]; rfl, Kept.refl _ _⟩
def sameL (x y : List La) : Bool := decide (x.length = y.length) && (List.range x.length).all (fun i => eqL (lAt x i) (lAt y i))
theorem sameL_f {x y : List La} {i : Nat} (hi : i < x.length) (h : eqL (lAt x i) (lAt y i) = false) : sameL x y = false := by
  have : (List.range x.length).all (fun i => eqL (lAt x i) (lAt y i)) = false := by
    rw [List.all_eq_false]
    exact ⟨i, List.mem_range.2 hi, by rw [h]; simp⟩
  simp [sameL, this]
theorem sameL_t {x y : List La} (hl : x.length = y.length) (h : ∀ i, i < x.length → eqL (lAt x i) (lAt y i) = true) : sameL x y = true := by
  simp only [sameL, decide_eq_true hl, Bool.true_and, List.all_eq_true, List.mem_range]
  exact h
theorem sameL_iff {x y : List La} : sameL x y = true ↔ x = y := by
  constructor
  · intro h
    simp only [sameL, Bool.and_eq_true, decide_eq_true_eq, List.all_eq_true, List.mem_range] at h
    apply List.ext_getElem?
    intro i
    by_cases hi : i < x.length
    · rw [lAt_some hi, lAt_some (show i < y.length by omega), eqL_iff.1 (h.2 i hi)]
    · rw [List.getElem?_eq_none (by omega), List.getElem?_eq_none (by omega)]
  · rintro rfl
    exact sameL_t rfl (fun i _ => eqL_iff.2 rfl)
set_option maxRecDepth 100000 in
set_option maxHeartbeats 4000000 in
theorem sameL_any (a : Option Addr) (n c : Nat) (b : Option Addr) (m d : Nat) (x y : List La) (w : World) (hx : RdL w ⟨a, n, c⟩ x) (hy : RdL w ⟨b, m, d⟩ y) (hbn : n ≤ 140737488355328) : Calls Try.prog 27 #[.slice a n c, .slice b m d] w (fun e w' => e = .returned (.bool (sameL x y)) ∧ Kept No w w') := by
  obtain ⟨C, hC⟩ : ∃ C : Ending → World → Prop, C = (fun e w' => e = .returned (.bool (sameL x y)) ∧ Kept No w w') := ⟨_, rfl⟩
  have HC : Hid (C = (fun e w' => e = .returned (.bool (sameL x y)) ∧ Kept No w w')) := hC
  rw [← hC]
  clear hC
  have hxl : x.length = n := hx.len
  have hyl : y.length = m := hy.len
  have HX : Hid (Ls w a x) := hx.row
  have HY : Hid (Ls w b y) := hy.row
  clear hx hy
  by_cases hnm : n = m
  · have HSf : Hid (∀ i, i < n → eqL (lAt x i) (lAt y i) = false → sameL x y = false) := fun i hi h => sameL_f (by omega) h
    have HSt : Hid ((∀ i, i < n → eqL (lAt x i) (lAt y i) = true) → sameL x y = true) := fun h => sameL_t (by omega) (fun i hi => h i (by omega))
    have HXL : Hid (x.length = n) := hxl
    have HYL : Hid (y.length = m) := hyl
    clear hxl hyl
    subst hnm
    go_enter Try.func27, Try.ntmps27
    go_wp2
    go_loopw [5] (fun v5 wr => ∃ i : Nat, v5 = .int .i64 ((i : Nat) : Int) ∧ i ≤ n ∧ Hid (∀ j, j < i → eqL (lAt x j) (lAt y j) = true) ∧ Hid (Kept No w wr)) (fun i _ => n - (intOf i).toNat)
    case atStart => exact ⟨0, by go_num, by omega, fun j hj => absurd hj (Nat.not_lt_zero _), Kept.refl _ _⟩
    case round =>
      obtain ⟨i, rfl, hi, HP, HK⟩ := hrel
      by_cases hlt : i < n
      · have hlt' : (i : Int) < (n : Int) := by omega
        obtain ⟨xb, xo, rfl, hcx⟩ := Ls.at HX.out (i := i) (by rw [HXL.out]; exact hlt)
        obtain ⟨yb, yo, rfl, hcy⟩ := Ls.at HY.out (i := i) (by rw [HYL.out]; exact hlt)
        have HCX : Hid (∀ (j : Nat) v, (lAt x i).cs[j]? = some v → w.cell? ⟨xb, xo + i * 7 + j, none⟩ = some v) := hcx
        have HCY : Hid (∀ (j : Nat) v, (lAt y i).cs[j]? = some v → w.cell? ⟨yb, yo + i * 7 + j, none⟩ = some v) := hcy
        have HN1 : Hid (eqL (lAt x i) (lAt y i) = false → sameL x y = false) := HSf.out i hlt
        have HY1 : Hid (eqL (lAt x i) (lAt y i) = true → ∀ j, j < i + 1 → eqL (lAt x j) (lAt y j) = true) := fun h j hj => by
          by_cases e : j = i
          · rw [e]; exact h
          · exact HP.out j (by omega)
        clear hcx hcy HSf
        generalize lAt x i = p at HCX HN1 HY1
        generalize lAt y i = q at HCY HN1 HY1
        go_upto_region 6 with fail
        refine wp_region_held_drew (S := fun w' => Kept No w w') rfl HK.out.drew (fun hH => ?_)
        refine aK (i := 0) (oi := { dst := some 17, op := Op.move (Operand.tmp 0), type := 24, pos := "law.go:41", after := #[], guard := none }) (v := .slice (some ⟨xb, xo, none⟩) n c) hH ?_
        try simp only [pA, pB, p1, p2, p3]
        refine aK (i := 1) (oi := { dst := some 18, op := Op.move (Operand.tmp 5), type := 3, pos := "law.go:41", after := #[], guard := none }) (v := .int .i64 ((i : Nat) : Int)) hH ?_
        try simp only [pA, pB, p1, p2, p3]
        refine aT (i := 2) (oi := { dst := some 19, op := Op.indexAddr 24 (Operand.tmp 17) (Operand.tmp 18), type := 0, pos := "law.go:41", after := #[{ on := 0, ground := Ground.data }, { on := 1, ground := Ground.data }], guard := none }) (v := .pointer (some ⟨xb, xo + i * 7, none⟩)) (fun w' hw => exec_ixA 24 7 Try.und23e Try.size23e _ _ rfl xb xo n c i (by kernel_rfl) (by kernel_rfl) hlt) hH ?_
        try simp only [pA, pB, p1, p2, p3]
        refine aT (i := 3) (oi := { dst := some 20, op := Op.load 67 (Operand.tmp 19), type := 67, pos := "law.go:41", after := #[{ on := 2, ground := Ground.data }], guard := none }) (v := .agg (La.cells p)) (fun w' hw => exec_load 67 _ rfl ⟨xb, xo + i * 7, none⟩ (by kernel_rfl) (.agg (La.cells p)) (load_L (fun j v h => hw.cell (HCX.out j v h) (fun e => e)))) hH ?_
        try simp only [pA, pB, p1, p2, p3]
        refine aK (i := 4) (oi := { dst := some 21, op := Op.move (Operand.tmp 1), type := 24, pos := "law.go:41", after := #[], guard := none }) (v := .slice (some ⟨yb, yo, none⟩) n d) hH ?_
        try simp only [pA, pB, p1, p2, p3]
        refine aK (i := 5) (oi := { dst := some 22, op := Op.move (Operand.tmp 5), type := 3, pos := "law.go:41", after := #[], guard := none }) (v := .int .i64 ((i : Nat) : Int)) hH ?_
        try simp only [pA, pB, p1, p2, p3]
        refine aT (i := 6) (oi := { dst := some 23, op := Op.indexAddr 24 (Operand.tmp 21) (Operand.tmp 22), type := 0, pos := "law.go:41", after := #[{ on := 4, ground := Ground.data }, { on := 5, ground := Ground.data }], guard := none }) (v := .pointer (some ⟨yb, yo + i * 7, none⟩)) (fun w' hw => exec_ixA 24 7 Try.und23e Try.size23e _ _ rfl yb yo n d i (by kernel_rfl) (by kernel_rfl) hlt) hH ?_
        try simp only [pA, pB, p1, p2, p3]
        refine aT (i := 7) (oi := { dst := some 24, op := Op.load 67 (Operand.tmp 23), type := 67, pos := "law.go:41", after := #[{ on := 6, ground := Ground.data }], guard := none }) (v := .agg (La.cells q)) (fun w' hw => exec_load 67 _ rfl ⟨yb, yo + i * 7, none⟩ (by kernel_rfl) (.agg (La.cells q)) (load_L (fun j v h => hw.cell (HCY.out j v h) (fun e => e)))) hH ?_
        try simp only [pA, pB, p1, p2, p3]
        cases q1 : (eqL p q)
        ·skip
         refine aT (i := 8) (oi := { dst := some 25, op := Op.binOp BinOp.neq 67 (Operand.tmp 20) (Operand.tmp 24) 67, type := 4, pos := "law.go:41", after := #[{ on := 3, ground := Ground.data }, { on := 7, ground := Ground.data }], guard := none }) (v := .bool true) (fun w' hw => exec_bin .neq 67 _ _ _ rfl (.agg (La.cells p)) (.agg (La.cells q)) (.bool true) (by kernel_rfl) (by kernel_rfl) (by kernel_rfl) (by rw [eqL_neq, q1]; try rfl)) hH ?_
         try simp only [pA, pB, p1, p2, p3]
         refine wpAnyH_done (by kernel_rfl) ?_ _
         try simp only [pA, pB, p1, p2, p3]
         clear hH
         have HV : Hid (sameL x y = false) := HN1.out q1
         clear HN1 HY1
         go_wp2
         rw [HC.out]
         exact ⟨by rw [HV.out]; rfl, HK.out.drew⟩
        ·skip
         refine aT (i := 8) (oi := { dst := some 25, op := Op.binOp BinOp.neq 67 (Operand.tmp 20) (Operand.tmp 24) 67, type := 4, pos := "law.go:41", after := #[{ on := 3, ground := Ground.data }, { on := 7, ground := Ground.data }], guard := none }) (v := .bool false) (fun w' hw => exec_bin .neq 67 _ _ _ rfl (.agg (La.cells p)) (.agg (La.cells q)) (.bool false) (by kernel_rfl) (by kernel_rfl) (by kernel_rfl) (by rw [eqL_neq, q1]; try rfl)) hH ?_
         try simp only [pA, pB, p1, p2, p3]
         refine wpAnyH_done (by kernel_rfl) ?_ _
         try simp only [pA, pB, p1, p2, p3]
         clear hH
         have HP2 : Hid (∀ j, j < i + 1 → eqL (lAt x j) (lAt y j) = true) := HY1.out q1
         clear HN1 HY1 HP
         go_wp2
         go_roundw
         case rel => exact ⟨i + 1, by go_num, by omega, HP2, HK.out.drew⟩
         case measure => simp [intOf]; omega
      · have hlt' : ¬ (i : Int) < (n : Int) := by omega
        have HV : Hid (sameL x y = true) := HSt.out (fun j hj => HP.out j (by omega))
        go_wp2
        rw [HC.out]
        exact ⟨by rw [HV.out], HK.out⟩
  · have hnm' : ¬ (n : Int) = (m : Int) := by omega
    have HV : Hid (sameL x y = false) := by
      have : ¬ x.length = y.length := by omega
      simp [Hid, sameL, this]
    clear hxl hyl
    go_enter Try.func27, Try.ntmps27
    go_wp2
    rw [HC.out]
    exact ⟨by rw [HV.out]; rfl, Kept.refl _ _⟩

end Go.Proofs.Ytfemlnfknebalab
