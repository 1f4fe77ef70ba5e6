import Derived.Test.YtapjnanenfcdjaaP
namespace Go.Proofs.Ytapjnanenfcdjaa
open Go.RowKit
set_option linter.unusedVariables false
set_option linter.unusedSimpArgs false

def callI (i : In) (x : Sx) : In := if x.k == 1 then prepI i x.b else if x.k == 2 then accI i x.b x.c else if x.k == 3 then lrnI i x.c else i
def callM (i : In) (x : Sx) : Mg := if x.k == 1 then prepM i x.b else if x.k == 2 then accM i x.b else mZ
def callB (i : In) (x : Sx) : Bool := if x.k == 1 then prepB i x.b else if x.k == 2 then accB i x.b x.c else if x.k == 3 then lrnB i x.c else false
def toldB (i now : In) (m : Mg) (x : Sx) : Bool :=
  if m.k == 16 then i.d && eqC m.c i.c
  else if m.k == 14 then eqS m.s i.p && lessB x.b.n x.b.c m.s.n m.s.c
  else if m.k == 13 then (x.k == 1) && (eqS m.s x.b && (eqS now.p x.b && (eqS m.h now.a && eqC m.c now.c)))
  else if m.k == 15 then (x.k == 2) && (eqS m.s x.b && (eqS now.a x.b && eqC now.c x.c))
  else false

theorem lt_irrefl (a : Sp) : lt a a = false := by simp [lt, lessB]
theorem lt_trans' {a b c : Sp} (h : lt a b = false) (k : lt b c = false) : lt a c = false := by
  simp only [lt, lessB, Bool.or_eq_false_iff, Bool.and_eq_false_iff, decide_eq_false_iff_not] at *
  omega
theorem inst_parts {i : In} (h : instB i = true) (hd : i.d = false) : ((noneB i.p = true ∨ oneB i.p = true) ∧ lt i.p i.a = false) ∧ (if noneB i.a then eqC i.c cZ else oneB i.a && cmdB i.c) = true := by
  unfold instB at h
  rw [hd] at h
  simp only [Bool.false_eq_true, if_false] at h
  cases h1 : noneB i.p <;> cases h2 : oneB i.p <;> cases h3 : lt i.p i.a <;> simp [h1, h2, h3] at h ⊢ <;> exact h
theorem one_none {s : Sp} (h : oneB s = true) : noneB s = false := by
  simp only [oneB, inB, Bool.and_eq_true, decide_eq_true_eq] at h
  cases hn : noneB s
  · rfl
  · simp [noneB] at hn; omega
theorem inst_call {i : In} {x : Sx} (h : instB i = true) (h1 : (x.k == 3) = true ∨ oneB x.b = true) (h2 : (x.k == 1) = true ∨ cmdB x.c = true) : instB (callI i x) = true := by
  unfold callI
  cases k1 : (x.k == 1)
  · cases k2 : (x.k == 2)
    · cases k3 : (x.k == 3)
      · exact h
      · simp only [if_true, if_false, Bool.false_eq_true]
        unfold lrnI
        cases hd : i.d
        · have hc : cmdB x.c = true := by rcases h2 with e | e; rw [k1] at e; cases e; exact e
          simp [instB, noneB, sZ, hc]
        · exact h
    · have hb : oneB x.b = true := by
        rcases h1 with e | e
        · simp at k2 e; omega
        · exact e
      have hc : cmdB x.c = true := by rcases h2 with e | e; rw [k1] at e; cases e; exact e
      simp only [if_true, if_false, Bool.false_eq_true]
      unfold accI
      cases hr : refB i x.b
      · simp only [Bool.false_eq_true, if_false]
        simp [instB, lt_irrefl, one_none hb, hb, hc]
      · exact h
  · have hb : oneB x.b = true := by
      rcases h1 with e | e
      · simp at k1 e; omega
      · exact e
    simp only [if_true]
    unfold prepI
    cases hr : refB i x.b
    · simp only [Bool.false_eq_true, if_false]
      unfold refB at hr
      simp only [Bool.or_eq_false_iff] at hr
      obtain ⟨p1, p2⟩ := inst_parts h hr.1
      have h3 : lt x.b i.a = false := lt_trans' hr.2 p1.2
      simp only [instB, hr.1, hb, one_none hb, h3, Bool.false_eq_true, if_false, Bool.not_true, Bool.and_false, Bool.or_false]
      exact p2
    · exact h
theorem callB_eq (i : In) (x : Sx) : callB i x = !eqI (callI i x) i := by
  unfold callB callI
  cases k1 : (x.k == 1)
  · cases k2 : (x.k == 2)
    · cases k3 : (x.k == 3)
      · simp [eqI_refl]
      · simp only [if_true, if_false, Bool.false_eq_true]
        unfold lrnB lrnI
        cases i.d <;> simp [eqI_refl]
    · simp only [if_true, if_false, Bool.false_eq_true]
      unfold accB accI
      cases refB i x.b <;> simp [eqI_refl]
  · simp only [if_true]
    unfold prepB prepI
    cases refB i x.b <;> simp [eqI_refl]
theorem call_dec {i : In} {x : Sx} (hd : i.d = true) : callI i x = i ∧ callB i x = false := by
  have hr : ∀ b, refB i b = true := fun b => by simp [refB, hd]
  have e : callI i x = i := by simp [callI, prepI, accI, lrnI, hr, hd]
  exact ⟨e, by rw [callB_eq, e, eqI_refl]; rfl⟩
theorem call_up {i : In} {x : Sx} (h : instB i = true) (hd : (callI i x).d = false) : lt (callI i x).p i.p = false ∧ lt (callI i x).a i.a = false := by
  have hid : i.d = false := by
    cases e : i.d
    · rfl
    · rw [(call_dec e).1, e] at hd; cases hd
  obtain ⟨p1, p2⟩ := inst_parts h hid
  unfold callI at hd ⊢
  cases k1 : (x.k == 1)
  · cases k2 : (x.k == 2)
    · cases k3 : (x.k == 3)
      · exact ⟨lt_irrefl _, lt_irrefl _⟩
      · rw [k1, k2, k3] at hd
        simp [lrnI, hid] at hd
    · simp only [if_true, if_false, Bool.false_eq_true]
      unfold accI
      cases hr : refB i x.b
      · unfold refB at hr
        simp only [Bool.or_eq_false_iff] at hr
        exact ⟨hr.2, lt_trans' hr.2 p1.2⟩
      · exact ⟨lt_irrefl _, lt_irrefl _⟩
  · simp only [if_true]
    unfold prepI
    cases hr : refB i x.b
    · unfold refB at hr
      simp only [Bool.or_eq_false_iff] at hr
      exact ⟨hr.2, lt_irrefl _⟩
    · exact ⟨lt_irrefl _, lt_irrefl _⟩
theorem told_true (i : In) (x : Sx) (hk : (x.k == 1) = true ∨ (x.k == 2) = true) : toldB i (callI i x) (callM i x) x = true := by
  unfold callI callM
  cases k1 : (x.k == 1)
  · have k2 : (x.k == 2) = true := by rcases hk with e | e; rw [k1] at e; cases e; exact e
    rw [k2]
    simp only [if_true, if_false, Bool.false_eq_true]
    unfold accI accM
    cases hr : refB i x.b
    · simp [toldB, k2, eqS_refl, eqC_refl]
    · unfold refM
      cases hd : i.d
      · have hl : lt x.b i.p = true := by unfold refB at hr; rw [hd] at hr; simpa using hr
        have hl' : lessB x.b.n x.b.c i.p.n i.p.c = true := hl
        simp [toldB, hl, hl', eqS_refl]
      · simp [toldB, hd, eqC_refl]
  · simp only [if_true]
    unfold prepI prepM
    cases hr : refB i x.b
    · simp [toldB, k1, eqS_refl, eqC_refl]
    · unfold refM
      cases hd : i.d
      · have hl : lt x.b i.p = true := by unfold refB at hr; rw [hd] at hr; simpa using hr
        have hl' : lessB x.b.n x.b.c i.p.n i.p.c = true := hl
        simp [toldB, hl, hl', eqS_refl]
      · simp [toldB, hd, eqC_refl]

set_option maxRecDepth 100000 in
set_option maxHeartbeats 4000000 in
theorem call_any (i : In) (x : Sx) (w : World) : Calls Try.prog 18 #[.agg i.cells, .agg x.cells] w (fun e w' => e = .returned (.tuple #[.agg (callI i x).cells, .agg (callM i x).cells, .bool (callB i x)]) ∧ Kept No w w') := by
  obtain ⟨w1, hw1⟩ : ∃ w1, w1 = (((w.alloc (.cells i.cells 29)).alloc (.cells x.cells 38)).alloc (.cells iZ.cells 29)).alloc (.cells mZ.cells 52) := ⟨_, rfl⟩
  obtain ⟨N, hN⟩ : ∃ N, N = w.heap.size := ⟨_, rfl⟩
  have hal := al4 w i.cells 29 x.cells 38 iZ.cells 29 mZ.cells 52
  rw [← hw1, ← hN] at hal
  obtain ⟨hk1, hb0, hb1, hb2, hb3, hs1⟩ := hal
  have HK : Hid (Kept No w w1) := hk1
  obtain ⟨N1, hN1⟩ : ∃ n, n = N + 1 := ⟨_, rfl⟩
  obtain ⟨N2, hN2⟩ : ∃ n, n = N1 + 1 := ⟨_, rfl⟩
  obtain ⟨N3, hN3⟩ : ∃ n, n = N2 + 1 := ⟨_, rfl⟩
  rw [← hN1, ← hN2, ← hN3] at hb3
  rw [← hN1, ← hN2] at hb2
  rw [← hN1] at hb1
  have HI : Hid (Box w1 (N) 29 (i.cells)) := hb0
  have HX : Hid (Box w1 (N1) 38 (x.cells)) := hb1
  have HR : Hid (Box w1 (N2) 29 (iZ.cells)) := hb2
  have HM : Hid (Box w1 (N3) 52 (mZ.cells)) := hb3
  have HO : Hid (w.heap.size ≤ N ∧ N < N1 ∧ N1 < N2 ∧ N2 < N3) := by show _ ∧ _; omega
  have HLT : Hid (N3 < w1.heap.size) := hb3.lt
  clear hk1 hb0 hb1 hb2 hb3 hs1
  go_enter Try.func18, Try.ntmps18
  go_upto_region 1 with (first
    | (refine wp_boxV rfl 29 _ rfl i.cells rfl w.heap.size rfl ?_)
    | (refine wp_boxV rfl 38 _ rfl x.cells rfl (w.heap.size + 1) (by simp) ?_)
    | (refine wp_allocT rfl 29 rfl iZ.cells zero29 (w.heap.size + 1 + 1) (by simp) ?_)
    | (refine wp_allocT rfl 52 rfl mZ.cells zero52 (w.heap.size + 1 + 1 + 1) (by simp) ?_))
  rw [← hw1, ← hN, ← hN1, ← hN2, ← hN3]
  clear hw1 hN hN1 hN2 hN3
  refine WL.start ?_
  refine wp_takeW (o := { dst := some 9, op := Op.fieldAddr 38 (Operand.tmp 3) 0, type := 0, pos := "outright.go:46", after := #[], guard := none }) (.pointer (some ⟨N1, 0, none⟩)) (by kernel_rfl) (by kernel_rfl) ?_
  try simp only [Act.put, List.setIfInBounds_toArray, List.set_cons_zero, List.set_cons_succ]
  refine wp_takeW (o := { dst := some 10, op := Op.load 3 (Operand.tmp 9), type := 3, pos := "outright.go:46", after := #[{ on := 0, ground := Ground.data }], guard := none }) (.int .i64 x.k) (exec_load 3 _ rfl ⟨N1, 0, none⟩ (by kernel_rfl) (.int .i64 x.k) (load_N (HX.out.cell 0))) (by kernel_rfl) ?_
  try simp only [Act.put, List.setIfInBounds_toArray, List.set_cons_zero, List.set_cons_succ]
  refine WL.nil ?_
  try simp only [Act.put, List.setIfInBounds_toArray, List.set_cons_zero, List.set_cons_succ]
  go_upto_region 2 with fail
  refine WL.start ?_
  cases q1 : (x.k == 1)
  · skip
    refine wp_takeW (o := { dst := some 12, op := Op.binOp BinOp.eql 3 (Operand.tmp 10) (Operand.const (Value.int IntKind.i64 1)) 3, type := 4, pos := "outright.go:47", after := #[], guard := none }) (.bool false) (exec_bin .eql 3 _ _ _ rfl (.int .i64 x.k) (.int .i64 1) (.bool false) (by kernel_rfl) (by kernel_rfl) (by kernel_rfl) (by rw [eqlN, q1]; try rfl)) (by kernel_rfl) ?_
    try simp only [Act.put, List.setIfInBounds_toArray, List.set_cons_zero, List.set_cons_succ]
    refine wp_takeW (o := { dst := some 11, op := Op.assign (Operand.tmp 12), type := 4, pos := "outright.go:47", after := #[{ on := 0, ground := Ground.data }], guard := none }) (.bool false) (by kernel_rfl) (by kernel_rfl) ?_
    try simp only [Act.put, List.setIfInBounds_toArray, List.set_cons_zero, List.set_cons_succ]
    refine WL.nil ?_
    try simp only [Act.put, List.setIfInBounds_toArray, List.set_cons_zero, List.set_cons_succ]
    go_upto_region 4 with fail
    refine WL.start ?_
    cases q2 : (x.k == 2)
    · skip
      refine wp_takeW (o := { dst := some 21, op := Op.binOp BinOp.eql 3 (Operand.tmp 10) (Operand.const (Value.int IntKind.i64 2)) 3, type := 4, pos := "outright.go:49", after := #[], guard := none }) (.bool false) (exec_bin .eql 3 _ _ _ rfl (.int .i64 x.k) (.int .i64 2) (.bool false) (by kernel_rfl) (by kernel_rfl) (by kernel_rfl) (by rw [eqlN, q2]; try rfl)) (by kernel_rfl) ?_
      try simp only [Act.put, List.setIfInBounds_toArray, List.set_cons_zero, List.set_cons_succ]
      refine wp_takeW (o := { dst := some 20, op := Op.assign (Operand.tmp 21), type := 4, pos := "outright.go:49", after := #[{ on := 0, ground := Ground.data }], guard := none }) (.bool false) (by kernel_rfl) (by kernel_rfl) ?_
      try simp only [Act.put, List.setIfInBounds_toArray, List.set_cons_zero, List.set_cons_succ]
      refine WL.nil ?_
      try simp only [Act.put, List.setIfInBounds_toArray, List.set_cons_zero, List.set_cons_succ]
      go_upto_region 6 with fail
      refine WL.start ?_
      cases q3 : (x.k == 3)
      · skip
        refine wp_takeW (o := { dst := some 32, op := Op.binOp BinOp.eql 3 (Operand.tmp 10) (Operand.const (Value.int IntKind.i64 3)) 3, type := 4, pos := "outright.go:51", after := #[], guard := none }) (.bool false) (exec_bin .eql 3 _ _ _ rfl (.int .i64 x.k) (.int .i64 3) (.bool false) (by kernel_rfl) (by kernel_rfl) (by kernel_rfl) (by rw [eqlN, q3]; try rfl)) (by kernel_rfl) ?_
        try simp only [Act.put, List.setIfInBounds_toArray, List.set_cons_zero, List.set_cons_succ]
        refine wp_takeW (o := { dst := some 31, op := Op.assign (Operand.tmp 32), type := 4, pos := "outright.go:51", after := #[{ on := 0, ground := Ground.data }], guard := none }) (.bool false) (by kernel_rfl) (by kernel_rfl) ?_
        try simp only [Act.put, List.setIfInBounds_toArray, List.set_cons_zero, List.set_cons_succ]
        refine WL.nil ?_
        try simp only [Act.put, List.setIfInBounds_toArray, List.set_cons_zero, List.set_cons_succ]
        go_upto_region 9 with fail
        refine WL.start ?_
        refine wp_takeW (o := { dst := some 43, op := Op.load 29 (Operand.tmp 2), type := 29, pos := "outright.go:55", after := #[], guard := none }) (.agg i.cells) (exec_load 29 _ rfl ⟨N, 0, none⟩ (by kernel_rfl) (.agg i.cells) (load_I HI.out)) (by kernel_rfl) ?_
        try simp only [Act.put, List.setIfInBounds_toArray, List.set_cons_zero, List.set_cons_succ]
        refine wp_takeW (o := { dst := some 44, op := Op.build 52 #[], type := 52, pos := "outright.go:55", after := #[{ on := 2, ground := Ground.gcOnly Departure.lateStores }], guard := none }) (.agg (mZ.cells)) (exec_build 52 _ rfl (mZ.cells) (by kernel_rfl)) (by kernel_rfl) ?_
        try simp only [Act.put, List.setIfInBounds_toArray, List.set_cons_zero, List.set_cons_succ]
        refine wp_storeW (o := { dst := none, op := Op.store 29 (Operand.tmp 4) (Operand.tmp 43), type := 0, pos := "outright.go:55", after := #[{ on := 0, ground := Ground.data }, { on := 0, ground := Ground.phase }, { on := 1, ground := Ground.textOnly Departure.lateStores }], guard := none }) 29 _ _ rfl ⟨N2, 0, none⟩ (.agg i.cells) (by kernel_rfl) (by kernel_rfl) _ (store_I HR.out rfl) (by kernel_rfl) ?_
        try simp only [Act.put, List.setIfInBounds_toArray, List.set_cons_zero, List.set_cons_succ]
        have HLT : Hid (N3 < (w1.setRow N2 (i.cells)).heap.size) := by show _ < _; rw [setRow_size]; exact HLT.out
        have HI : Hid (Box (w1.setRow N2 (i.cells)) (N) 29 (i.cells)) := HI.out.rowNe (by have := HO.out; omega) _
        have HX : Hid (Box (w1.setRow N2 (i.cells)) (N1) 38 (x.cells)) := HX.out.rowNe (by have := HO.out; omega) _
        have HR : Hid (Box (w1.setRow N2 (i.cells)) (N2) 29 (i.cells)) := HR.out.setRow _
        have HM : Hid (Box (w1.setRow N2 (i.cells)) (N3) 52 (mZ.cells)) := HM.out.rowNe (by have := HO.out; omega) _
        have HK : Hid (Kept No w (w1.setRow N2 (i.cells))) := HK.out.newRow (by have := HO.out; omega) _
        generalize w1.setRow N2 (i.cells) = wk1 at HI HX HR HM HK HLT ⊢
        refine wp_storeW (o := { dst := none, op := Op.store 52 (Operand.tmp 5) (Operand.tmp 44), type := 0, pos := "outright.go:55", after := #[{ on := 1, ground := Ground.data }, { on := 2, ground := Ground.chain }, { on := 0, ground := Ground.phase }, { on := 1, ground := Ground.phase }, { on := 2, ground := Ground.phase }], guard := none }) 52 _ _ rfl ⟨N3, 0, none⟩ (.agg (mZ.cells)) (by kernel_rfl) (by kernel_rfl) _ (store_M HM.out rfl) (by kernel_rfl) ?_
        try simp only [Act.put, List.setIfInBounds_toArray, List.set_cons_zero, List.set_cons_succ]
        have HLT : Hid (N3 < (wk1.setRow N3 (mZ.cells)).heap.size) := by show _ < _; rw [setRow_size]; exact HLT.out
        have HI : Hid (Box (wk1.setRow N3 (mZ.cells)) (N) 29 (i.cells)) := HI.out.rowNe (by have := HO.out; omega) _
        have HX : Hid (Box (wk1.setRow N3 (mZ.cells)) (N1) 38 (x.cells)) := HX.out.rowNe (by have := HO.out; omega) _
        have HR : Hid (Box (wk1.setRow N3 (mZ.cells)) (N2) 29 (i.cells)) := HR.out.rowNe (by have := HO.out; omega) _
        have HM : Hid (Box (wk1.setRow N3 (mZ.cells)) (N3) 52 (mZ.cells)) := HM.out.setRow _
        have HK : Hid (Kept No w (wk1.setRow N3 (mZ.cells))) := HK.out.newRow (by have := HO.out; omega) _
        generalize wk1.setRow N3 (mZ.cells) = wk2 at HI HX HR HM HK HLT ⊢
        refine wp_takeW (o := { dst := some 6, op := Op.assign (Operand.const (Value.bool false)), type := 4, pos := "outright.go:55", after := #[{ on := 3, ground := Ground.chain }, { on := 0, ground := Ground.phase }, { on := 1, ground := Ground.phase }, { on := 2, ground := Ground.phase }, { on := 3, ground := Ground.phase }], guard := none }) (.bool false) (by kernel_rfl) (by kernel_rfl) ?_
        try simp only [Act.put, List.setIfInBounds_toArray, List.set_cons_zero, List.set_cons_succ]
        refine WL.nil ?_
        try simp only [Act.put, List.setIfInBounds_toArray, List.set_cons_zero, List.set_cons_succ]
        have hI : callI i x = i := by simp [callI, q1, q2, q3]
        have hM : callM i x = mZ := by simp [callM, q1, q2, q3]
        have hB : callB i x = false := by simp [callB, q1, q2, q3]
        go_wp2
        refine bodyPost_ret (results_row2_tmp (by rfl) _ _ N2 N3 (i.cells) (mZ.cells) (by rfl) (by rfl) (load_I HR.out) (load_M HM.out)) rfl ?_
        rw [hI, hM, hB]
        exact ⟨rfl, HK.out⟩
      · skip
        refine wp_takeW (o := { dst := some 32, op := Op.binOp BinOp.eql 3 (Operand.tmp 10) (Operand.const (Value.int IntKind.i64 3)) 3, type := 4, pos := "outright.go:51", after := #[], guard := none }) (.bool true) (exec_bin .eql 3 _ _ _ rfl (.int .i64 x.k) (.int .i64 3) (.bool true) (by kernel_rfl) (by kernel_rfl) (by kernel_rfl) (by rw [eqlN, q3]; try rfl)) (by kernel_rfl) ?_
        try simp only [Act.put, List.setIfInBounds_toArray, List.set_cons_zero, List.set_cons_succ]
        refine wp_takeW (o := { dst := some 31, op := Op.assign (Operand.tmp 32), type := 4, pos := "outright.go:51", after := #[{ on := 0, ground := Ground.data }], guard := none }) (.bool true) (by kernel_rfl) (by kernel_rfl) ?_
        try simp only [Act.put, List.setIfInBounds_toArray, List.set_cons_zero, List.set_cons_succ]
        refine WL.nil ?_
        try simp only [Act.put, List.setIfInBounds_toArray, List.set_cons_zero, List.set_cons_succ]
        go_upto_region 7 with fail
        refine WL.start ?_
        refine wp_takeW (o := { dst := some 34, op := Op.load 29 (Operand.tmp 2), type := 29, pos := "outright.go:52", after := #[], guard := none }) (.agg i.cells) (exec_load 29 _ rfl ⟨N, 0, none⟩ (by kernel_rfl) (.agg i.cells) (load_I HI.out)) (by kernel_rfl) ?_
        try simp only [Act.put, List.setIfInBounds_toArray, List.set_cons_zero, List.set_cons_succ]
        refine wp_takeW (o := { dst := some 35, op := Op.fieldAddr 38 (Operand.tmp 3) 2, type := 0, pos := "outright.go:52", after := #[], guard := none }) (.pointer (some ⟨N1, 3, none⟩)) (by kernel_rfl) (by kernel_rfl) ?_
        try simp only [Act.put, List.setIfInBounds_toArray, List.set_cons_zero, List.set_cons_succ]
        refine wp_takeW (o := { dst := some 36, op := Op.load 27 (Operand.tmp 35), type := 27, pos := "outright.go:52", after := #[{ on := 1, ground := Ground.data }], guard := none }) (.agg x.c.cells) (exec_load 27 _ rfl ⟨N1, 3, none⟩ (by kernel_rfl) (.agg x.c.cells) (load_XC HX.out)) (by kernel_rfl) ?_
        try simp only [Act.put, List.setIfInBounds_toArray, List.set_cons_zero, List.set_cons_succ]
        refine wp_callW (o := { dst := some 37, op := Op.call { callee := Callee.value (Operand.func 15), args := #[Operand.tmp 34, Operand.tmp 36], argTypes := #[29, 27] }, type := 56, pos := "outright.go:52", after := #[{ on := 0, ground := Ground.data }, { on := 2, ground := Ground.data }], guard := none }) 15 #[.agg i.cells, .agg x.c.cells] (by kernel_rfl) _ (lrn_any i x.c _) (by kernel_rfl) ?_
        rintro e wk3 ⟨rfl, hk⟩
        have HI : Hid (Box wk3 (N) 29 (i.cells)) := HI.out.kept hk (fun e => e)
        have HX : Hid (Box wk3 (N1) 38 (x.cells)) := HX.out.kept hk (fun e => e)
        have HR : Hid (Box wk3 (N2) 29 (iZ.cells)) := HR.out.kept hk (fun e => e)
        have HM : Hid (Box wk3 (N3) 52 (mZ.cells)) := HM.out.kept hk (fun e => e)
        have HK : Hid (Kept No w wk3) := HK.out.then hk
        have HLT : Hid (N3 < wk3.heap.size) := Nat.lt_of_lt_of_le HLT.out hk.size
        clear hk
        refine ⟨.tuple #[.agg (lrnI i x.c).cells, .bool (lrnB i x.c)], rfl, ?_⟩
        try simp only [Act.put, List.setIfInBounds_toArray, List.set_cons_zero, List.set_cons_succ]
        refine wp_takeW (o := { dst := some 33, op := Op.move (Operand.tmp 37), type := 56, pos := "outright.go:52", after := #[{ on := 3, ground := Ground.data }], guard := none }) (.tuple #[.agg (lrnI i x.c).cells, .bool (lrnB i x.c)]) (by kernel_rfl) (by kernel_rfl) ?_
        try simp only [Act.put, List.setIfInBounds_toArray, List.set_cons_zero, List.set_cons_succ]
        refine wp_takeW (o := { dst := some 38, op := Op.extract (Operand.tmp 33) 0, type := 29, pos := "outright.go:52", after := #[{ on := 4, ground := Ground.data }], guard := none }) (.agg (lrnI i x.c).cells) (by kernel_rfl) (by kernel_rfl) ?_
        try simp only [Act.put, List.setIfInBounds_toArray, List.set_cons_zero, List.set_cons_succ]
        refine wp_takeW (o := { dst := some 39, op := Op.extract (Operand.tmp 33) 1, type := 4, pos := "outright.go:52", after := #[{ on := 4, ground := Ground.data }, { on := 8, ground := Ground.gcOnly Departure.lateStores }], guard := none }) (.bool (lrnB i x.c)) (by kernel_rfl) (by kernel_rfl) ?_
        try simp only [Act.put, List.setIfInBounds_toArray, List.set_cons_zero, List.set_cons_succ]
        refine wp_allocW (o := { dst := some 7, op := Op.alloc 29, type := 0, pos := "outright.go:52", after := #[], guard := none }) 29 rfl (iZ.cells) zero29 wk3.heap.size rfl (by kernel_rfl) ?_
        try simp only [Act.put, List.setIfInBounds_toArray, List.set_cons_zero, List.set_cons_succ]
        have HL : Hid (Box (wk3.alloc (.cells (iZ.cells) 29)) wk3.heap.size 29 (iZ.cells)) := Box.new _ _ _
        have HI : Hid (Box (wk3.alloc (.cells (iZ.cells) 29)) (N) 29 (i.cells)) := HI.out.alloc _
        have HX : Hid (Box (wk3.alloc (.cells (iZ.cells) 29)) (N1) 38 (x.cells)) := HX.out.alloc _
        have HR : Hid (Box (wk3.alloc (.cells (iZ.cells) 29)) (N2) 29 (iZ.cells)) := HR.out.alloc _
        have HM : Hid (Box (wk3.alloc (.cells (iZ.cells) 29)) (N3) 52 (mZ.cells)) := HM.out.alloc _
        have HK : Hid (Kept No w (wk3.alloc (.cells (iZ.cells) 29))) := HK.out.alloc _
        have HO : Hid (w.heap.size ≤ N ∧ N < N1 ∧ N1 < N2 ∧ N2 < N3 ∧ N3 < wk3.heap.size) := by
          have h := HO.out
          have l := HLT.out
          show _ ∧ _
          omega
        have HLT : Hid (wk3.heap.size < (wk3.alloc (.cells (iZ.cells) 29)).heap.size) := by show _ < _; simp
        generalize wk3.alloc (.cells (iZ.cells) 29) = wk4 at HI HX HR HM HL HK HLT ⊢
        generalize wk3.heap.size = L7 at HL HO HLT ⊢
        refine wp_storeW (o := { dst := none, op := Op.store 29 (Operand.tmp 7) (Operand.tmp 38), type := 0, pos := "outright.go:52", after := #[{ on := 7, ground := Ground.data }, { on := 5, ground := Ground.data }, { on := 3, ground := Ground.chain }, { on := 0, ground := Ground.phase }, { on := 1, ground := Ground.phase }, { on := 2, ground := Ground.phase }, { on := 3, ground := Ground.phase }, { on := 4, ground := Ground.phase }, { on := 5, ground := Ground.phase }, { on := 6, ground := Ground.textOnly Departure.lateStores }, { on := 7, ground := Ground.phase }], guard := none }) 29 _ _ rfl ⟨L7, 0, none⟩ (.agg (lrnI i x.c).cells) (by kernel_rfl) (by kernel_rfl) _ (store_I HL.out rfl) (by kernel_rfl) ?_
        try simp only [Act.put, List.setIfInBounds_toArray, List.set_cons_zero, List.set_cons_succ]
        have HLT : Hid (L7 < (wk4.setRow L7 ((lrnI i x.c).cells)).heap.size) := by show _ < _; rw [setRow_size]; exact HLT.out
        have HI : Hid (Box (wk4.setRow L7 ((lrnI i x.c).cells)) (N) 29 (i.cells)) := HI.out.rowNe (by have := HO.out; omega) _
        have HX : Hid (Box (wk4.setRow L7 ((lrnI i x.c).cells)) (N1) 38 (x.cells)) := HX.out.rowNe (by have := HO.out; omega) _
        have HR : Hid (Box (wk4.setRow L7 ((lrnI i x.c).cells)) (N2) 29 (iZ.cells)) := HR.out.rowNe (by have := HO.out; omega) _
        have HM : Hid (Box (wk4.setRow L7 ((lrnI i x.c).cells)) (N3) 52 (mZ.cells)) := HM.out.rowNe (by have := HO.out; omega) _
        have HL : Hid (Box (wk4.setRow L7 ((lrnI i x.c).cells)) (L7) 29 ((lrnI i x.c).cells)) := HL.out.setRow _
        have HK : Hid (Kept No w (wk4.setRow L7 ((lrnI i x.c).cells))) := HK.out.newRow (by have := HO.out; omega) _
        generalize wk4.setRow L7 ((lrnI i x.c).cells) = wk5 at HI HX HR HM HL HK HLT ⊢
        refine wp_takeW (o := { dst := some 8, op := Op.assign (Operand.tmp 39), type := 4, pos := "outright.go:52", after := #[{ on := 6, ground := Ground.data }, { on := 8, ground := Ground.chain }, { on := 0, ground := Ground.phase }, { on := 1, ground := Ground.phase }, { on := 2, ground := Ground.phase }, { on := 3, ground := Ground.phase }, { on := 4, ground := Ground.phase }, { on := 5, ground := Ground.phase }, { on := 6, ground := Ground.phase }, { on := 7, ground := Ground.phase }, { on := 8, ground := Ground.phase }], guard := none }) (.bool (lrnB i x.c)) (by kernel_rfl) (by kernel_rfl) ?_
        try simp only [Act.put, List.setIfInBounds_toArray, List.set_cons_zero, List.set_cons_succ]
        refine WL.nil ?_
        try simp only [Act.put, List.setIfInBounds_toArray, List.set_cons_zero, List.set_cons_succ]
        go_upto_region 8 with fail
        refine WL.start ?_
        refine wp_takeW (o := { dst := some 40, op := Op.load 29 (Operand.tmp 7), type := 29, pos := "outright.go:53", after := #[], guard := none }) (.agg ((lrnI i x.c).cells)) (exec_load 29 _ rfl ⟨L7, 0, none⟩ (by kernel_rfl) (.agg ((lrnI i x.c).cells)) (load_I HL.out)) (by kernel_rfl) ?_
        try simp only [Act.put, List.setIfInBounds_toArray, List.set_cons_zero, List.set_cons_succ]
        refine wp_takeW (o := { dst := some 41, op := Op.build 52 #[], type := 52, pos := "outright.go:53", after := #[{ on := 3, ground := Ground.gcOnly Departure.lateStores }], guard := none }) (.agg (mZ.cells)) (exec_build 52 _ rfl (mZ.cells) (by kernel_rfl)) (by kernel_rfl) ?_
        try simp only [Act.put, List.setIfInBounds_toArray, List.set_cons_zero, List.set_cons_succ]
        refine wp_takeW (o := { dst := some 42, op := Op.move (Operand.tmp 8), type := 4, pos := "outright.go:53", after := #[{ on := 4, ground := Ground.gcOnly Departure.lateStores }], guard := none }) (.bool (lrnB i x.c)) (by kernel_rfl) (by kernel_rfl) ?_
        try simp only [Act.put, List.setIfInBounds_toArray, List.set_cons_zero, List.set_cons_succ]
        refine wp_storeW (o := { dst := none, op := Op.store 29 (Operand.tmp 4) (Operand.tmp 40), type := 0, pos := "outright.go:53", after := #[{ on := 0, ground := Ground.data }, { on := 0, ground := Ground.phase }, { on := 1, ground := Ground.textOnly Departure.lateStores }, { on := 2, ground := Ground.textOnly Departure.lateStores }], guard := none }) 29 _ _ rfl ⟨N2, 0, none⟩ (.agg ((lrnI i x.c).cells)) (by kernel_rfl) (by kernel_rfl) _ (store_I HR.out rfl) (by kernel_rfl) ?_
        try simp only [Act.put, List.setIfInBounds_toArray, List.set_cons_zero, List.set_cons_succ]
        have HLT : Hid (L7 < (wk5.setRow N2 ((lrnI i x.c).cells)).heap.size) := by show _ < _; rw [setRow_size]; exact HLT.out
        have HI : Hid (Box (wk5.setRow N2 ((lrnI i x.c).cells)) (N) 29 (i.cells)) := HI.out.rowNe (by have := HO.out; omega) _
        have HX : Hid (Box (wk5.setRow N2 ((lrnI i x.c).cells)) (N1) 38 (x.cells)) := HX.out.rowNe (by have := HO.out; omega) _
        have HR : Hid (Box (wk5.setRow N2 ((lrnI i x.c).cells)) (N2) 29 ((lrnI i x.c).cells)) := HR.out.setRow _
        have HM : Hid (Box (wk5.setRow N2 ((lrnI i x.c).cells)) (N3) 52 (mZ.cells)) := HM.out.rowNe (by have := HO.out; omega) _
        have HL : Hid (Box (wk5.setRow N2 ((lrnI i x.c).cells)) (L7) 29 ((lrnI i x.c).cells)) := HL.out.rowNe (by have := HO.out; omega) _
        have HK : Hid (Kept No w (wk5.setRow N2 ((lrnI i x.c).cells))) := HK.out.newRow (by have := HO.out; omega) _
        generalize wk5.setRow N2 ((lrnI i x.c).cells) = wk6 at HI HX HR HM HL HK HLT ⊢
        refine wp_storeW (o := { dst := none, op := Op.store 52 (Operand.tmp 5) (Operand.tmp 41), type := 0, pos := "outright.go:53", after := #[{ on := 1, ground := Ground.data }, { on := 3, ground := Ground.chain }, { on := 0, ground := Ground.phase }, { on := 1, ground := Ground.phase }, { on := 2, ground := Ground.textOnly Departure.lateStores }, { on := 3, ground := Ground.phase }], guard := none }) 52 _ _ rfl ⟨N3, 0, none⟩ (.agg (mZ.cells)) (by kernel_rfl) (by kernel_rfl) _ (store_M HM.out rfl) (by kernel_rfl) ?_
        try simp only [Act.put, List.setIfInBounds_toArray, List.set_cons_zero, List.set_cons_succ]
        have HLT : Hid (L7 < (wk6.setRow N3 (mZ.cells)).heap.size) := by show _ < _; rw [setRow_size]; exact HLT.out
        have HI : Hid (Box (wk6.setRow N3 (mZ.cells)) (N) 29 (i.cells)) := HI.out.rowNe (by have := HO.out; omega) _
        have HX : Hid (Box (wk6.setRow N3 (mZ.cells)) (N1) 38 (x.cells)) := HX.out.rowNe (by have := HO.out; omega) _
        have HR : Hid (Box (wk6.setRow N3 (mZ.cells)) (N2) 29 ((lrnI i x.c).cells)) := HR.out.rowNe (by have := HO.out; omega) _
        have HM : Hid (Box (wk6.setRow N3 (mZ.cells)) (N3) 52 (mZ.cells)) := HM.out.setRow _
        have HL : Hid (Box (wk6.setRow N3 (mZ.cells)) (L7) 29 ((lrnI i x.c).cells)) := HL.out.rowNe (by have := HO.out; omega) _
        have HK : Hid (Kept No w (wk6.setRow N3 (mZ.cells))) := HK.out.newRow (by have := HO.out; omega) _
        generalize wk6.setRow N3 (mZ.cells) = wk7 at HI HX HR HM HL HK HLT ⊢
        refine wp_takeW (o := { dst := some 6, op := Op.assign (Operand.tmp 42), type := 4, pos := "outright.go:53", after := #[{ on := 2, ground := Ground.data }, { on := 4, ground := Ground.chain }, { on := 0, ground := Ground.phase }, { on := 1, ground := Ground.phase }, { on := 2, ground := Ground.phase }, { on := 3, ground := Ground.phase }, { on := 4, ground := Ground.phase }], guard := none }) (.bool (lrnB i x.c)) (by kernel_rfl) (by kernel_rfl) ?_
        try simp only [Act.put, List.setIfInBounds_toArray, List.set_cons_zero, List.set_cons_succ]
        refine WL.nil ?_
        try simp only [Act.put, List.setIfInBounds_toArray, List.set_cons_zero, List.set_cons_succ]
        have hI : callI i x = (lrnI i x.c) := by simp [callI, q1, q2, q3]
        have hM : callM i x = mZ := by simp [callM, q1, q2, q3]
        have hB : callB i x = (lrnB i x.c) := by simp [callB, q1, q2, q3]
        go_wp2
        refine bodyPost_ret (results_row2_tmp (by rfl) _ _ N2 N3 ((lrnI i x.c).cells) (mZ.cells) (by rfl) (by rfl) (load_I HR.out) (load_M HM.out)) rfl ?_
        rw [hI, hM, hB]
        exact ⟨rfl, HK.out⟩
    · skip
      refine wp_takeW (o := { dst := some 21, op := Op.binOp BinOp.eql 3 (Operand.tmp 10) (Operand.const (Value.int IntKind.i64 2)) 3, type := 4, pos := "outright.go:49", after := #[], guard := none }) (.bool true) (exec_bin .eql 3 _ _ _ rfl (.int .i64 x.k) (.int .i64 2) (.bool true) (by kernel_rfl) (by kernel_rfl) (by kernel_rfl) (by rw [eqlN, q2]; try rfl)) (by kernel_rfl) ?_
      try simp only [Act.put, List.setIfInBounds_toArray, List.set_cons_zero, List.set_cons_succ]
      refine wp_takeW (o := { dst := some 20, op := Op.assign (Operand.tmp 21), type := 4, pos := "outright.go:49", after := #[{ on := 0, ground := Ground.data }], guard := none }) (.bool true) (by kernel_rfl) (by kernel_rfl) ?_
      try simp only [Act.put, List.setIfInBounds_toArray, List.set_cons_zero, List.set_cons_succ]
      refine WL.nil ?_
      try simp only [Act.put, List.setIfInBounds_toArray, List.set_cons_zero, List.set_cons_succ]
      go_upto_region 5 with fail
      refine WL.start ?_
      refine wp_takeW (o := { dst := some 22, op := Op.load 29 (Operand.tmp 2), type := 29, pos := "outright.go:50", after := #[], guard := none }) (.agg i.cells) (exec_load 29 _ rfl ⟨N, 0, none⟩ (by kernel_rfl) (.agg i.cells) (load_I HI.out)) (by kernel_rfl) ?_
      try simp only [Act.put, List.setIfInBounds_toArray, List.set_cons_zero, List.set_cons_succ]
      refine wp_takeW (o := { dst := some 23, op := Op.fieldAddr 38 (Operand.tmp 3) 1, type := 0, pos := "outright.go:50", after := #[], guard := none }) (.pointer (some ⟨N1, 1, none⟩)) (by kernel_rfl) (by kernel_rfl) ?_
      try simp only [Act.put, List.setIfInBounds_toArray, List.set_cons_zero, List.set_cons_succ]
      refine wp_takeW (o := { dst := some 24, op := Op.load 23 (Operand.tmp 23), type := 23, pos := "outright.go:50", after := #[{ on := 1, ground := Ground.data }], guard := none }) (.agg #[.int .i64 x.b.n, .int .i64 x.b.c]) (exec_load 23 _ rfl ⟨N1, 1, none⟩ (by kernel_rfl) (.agg #[.int .i64 x.b.n, .int .i64 x.b.c]) (load_S HX.out x.partB)) (by kernel_rfl) ?_
      try simp only [Act.put, List.setIfInBounds_toArray, List.set_cons_zero, List.set_cons_succ]
      refine wp_takeW (o := { dst := some 25, op := Op.fieldAddr 38 (Operand.tmp 3) 2, type := 0, pos := "outright.go:50", after := #[], guard := none }) (.pointer (some ⟨N1, 3, none⟩)) (by kernel_rfl) (by kernel_rfl) ?_
      try simp only [Act.put, List.setIfInBounds_toArray, List.set_cons_zero, List.set_cons_succ]
      refine wp_takeW (o := { dst := some 26, op := Op.load 27 (Operand.tmp 25), type := 27, pos := "outright.go:50", after := #[{ on := 3, ground := Ground.data }], guard := none }) (.agg x.c.cells) (exec_load 27 _ rfl ⟨N1, 3, none⟩ (by kernel_rfl) (.agg x.c.cells) (load_XC HX.out)) (by kernel_rfl) ?_
      try simp only [Act.put, List.setIfInBounds_toArray, List.set_cons_zero, List.set_cons_succ]
      refine wp_callW (o := { dst := some 27, op := Op.call { callee := Callee.value (Operand.func 13), args := #[Operand.tmp 22, Operand.tmp 24, Operand.tmp 26], argTypes := #[29, 23, 27] }, type := 53, pos := "outright.go:50", after := #[{ on := 0, ground := Ground.data }, { on := 2, ground := Ground.data }, { on := 4, ground := Ground.data }], guard := none }) 13 #[.agg i.cells, .agg #[.int .i64 x.b.n, .int .i64 x.b.c], .agg x.c.cells] (by kernel_rfl) _ (acc_any i x.b x.c _) (by kernel_rfl) ?_
      rintro e wk8 ⟨rfl, hk⟩
      have HI : Hid (Box wk8 (N) 29 (i.cells)) := HI.out.kept hk (fun e => e)
      have HX : Hid (Box wk8 (N1) 38 (x.cells)) := HX.out.kept hk (fun e => e)
      have HR : Hid (Box wk8 (N2) 29 (iZ.cells)) := HR.out.kept hk (fun e => e)
      have HM : Hid (Box wk8 (N3) 52 (mZ.cells)) := HM.out.kept hk (fun e => e)
      have HK : Hid (Kept No w wk8) := HK.out.then hk
      have HLT : Hid (N3 < wk8.heap.size) := Nat.lt_of_lt_of_le HLT.out hk.size
      clear hk
      refine ⟨.tuple #[.agg (accI i x.b x.c).cells, .agg (accM i x.b).cells, .bool (accB i x.b x.c)], rfl, ?_⟩
      try simp only [Act.put, List.setIfInBounds_toArray, List.set_cons_zero, List.set_cons_succ]
      refine wp_takeW (o := { dst := some 28, op := Op.extract (Operand.tmp 27) 0, type := 29, pos := "outright.go:50", after := #[{ on := 5, ground := Ground.data }], guard := none }) (.agg (accI i x.b x.c).cells) (by kernel_rfl) (by kernel_rfl) ?_
      try simp only [Act.put, List.setIfInBounds_toArray, List.set_cons_zero, List.set_cons_succ]
      refine wp_takeW (o := { dst := some 29, op := Op.extract (Operand.tmp 27) 1, type := 52, pos := "outright.go:50", after := #[{ on := 5, ground := Ground.data }], guard := none }) (.agg (accM i x.b).cells) (by kernel_rfl) (by kernel_rfl) ?_
      try simp only [Act.put, List.setIfInBounds_toArray, List.set_cons_zero, List.set_cons_succ]
      refine wp_takeW (o := { dst := some 30, op := Op.extract (Operand.tmp 27) 2, type := 4, pos := "outright.go:50", after := #[{ on := 5, ground := Ground.data }], guard := none }) (.bool (accB i x.b x.c)) (by kernel_rfl) (by kernel_rfl) ?_
      try simp only [Act.put, List.setIfInBounds_toArray, List.set_cons_zero, List.set_cons_succ]
      refine wp_storeW (o := { dst := none, op := Op.store 29 (Operand.tmp 4) (Operand.tmp 28), type := 0, pos := "outright.go:50", after := #[{ on := 6, ground := Ground.data }, { on := 5, ground := Ground.chain }, { on := 0, ground := Ground.phase }, { on := 1, ground := Ground.phase }, { on := 2, ground := Ground.phase }, { on := 3, ground := Ground.phase }, { on := 4, ground := Ground.phase }, { on := 5, ground := Ground.phase }, { on := 6, ground := Ground.phase }, { on := 7, ground := Ground.phase }, { on := 8, ground := Ground.phase }], guard := none }) 29 _ _ rfl ⟨N2, 0, none⟩ (.agg (accI i x.b x.c).cells) (by kernel_rfl) (by kernel_rfl) _ (store_I HR.out rfl) (by kernel_rfl) ?_
      try simp only [Act.put, List.setIfInBounds_toArray, List.set_cons_zero, List.set_cons_succ]
      have HLT : Hid (N3 < (wk8.setRow N2 ((accI i x.b x.c).cells)).heap.size) := by show _ < _; rw [setRow_size]; exact HLT.out
      have HI : Hid (Box (wk8.setRow N2 ((accI i x.b x.c).cells)) (N) 29 (i.cells)) := HI.out.rowNe (by have := HO.out; omega) _
      have HX : Hid (Box (wk8.setRow N2 ((accI i x.b x.c).cells)) (N1) 38 (x.cells)) := HX.out.rowNe (by have := HO.out; omega) _
      have HR : Hid (Box (wk8.setRow N2 ((accI i x.b x.c).cells)) (N2) 29 ((accI i x.b x.c).cells)) := HR.out.setRow _
      have HM : Hid (Box (wk8.setRow N2 ((accI i x.b x.c).cells)) (N3) 52 (mZ.cells)) := HM.out.rowNe (by have := HO.out; omega) _
      have HK : Hid (Kept No w (wk8.setRow N2 ((accI i x.b x.c).cells))) := HK.out.newRow (by have := HO.out; omega) _
      generalize wk8.setRow N2 ((accI i x.b x.c).cells) = wk9 at HI HX HR HM HK HLT ⊢
      refine wp_storeW (o := { dst := none, op := Op.store 52 (Operand.tmp 5) (Operand.tmp 29), type := 0, pos := "outright.go:50", after := #[{ on := 7, ground := Ground.data }, { on := 9, ground := Ground.chain }, { on := 0, ground := Ground.phase }, { on := 1, ground := Ground.phase }, { on := 2, ground := Ground.phase }, { on := 3, ground := Ground.phase }, { on := 4, ground := Ground.phase }, { on := 5, ground := Ground.phase }, { on := 6, ground := Ground.phase }, { on := 7, ground := Ground.phase }, { on := 8, ground := Ground.phase }, { on := 9, ground := Ground.phase }], guard := none }) 52 _ _ rfl ⟨N3, 0, none⟩ (.agg (accM i x.b).cells) (by kernel_rfl) (by kernel_rfl) _ (store_M HM.out rfl) (by kernel_rfl) ?_
      try simp only [Act.put, List.setIfInBounds_toArray, List.set_cons_zero, List.set_cons_succ]
      have HLT : Hid (N3 < (wk9.setRow N3 ((accM i x.b).cells)).heap.size) := by show _ < _; rw [setRow_size]; exact HLT.out
      have HI : Hid (Box (wk9.setRow N3 ((accM i x.b).cells)) (N) 29 (i.cells)) := HI.out.rowNe (by have := HO.out; omega) _
      have HX : Hid (Box (wk9.setRow N3 ((accM i x.b).cells)) (N1) 38 (x.cells)) := HX.out.rowNe (by have := HO.out; omega) _
      have HR : Hid (Box (wk9.setRow N3 ((accM i x.b).cells)) (N2) 29 ((accI i x.b x.c).cells)) := HR.out.rowNe (by have := HO.out; omega) _
      have HM : Hid (Box (wk9.setRow N3 ((accM i x.b).cells)) (N3) 52 ((accM i x.b).cells)) := HM.out.setRow _
      have HK : Hid (Kept No w (wk9.setRow N3 ((accM i x.b).cells))) := HK.out.newRow (by have := HO.out; omega) _
      generalize wk9.setRow N3 ((accM i x.b).cells) = wk10 at HI HX HR HM HK HLT ⊢
      refine wp_takeW (o := { dst := some 6, op := Op.assign (Operand.tmp 30), type := 4, pos := "outright.go:50", after := #[{ on := 8, ground := Ground.data }, { on := 10, ground := Ground.chain }, { on := 0, ground := Ground.phase }, { on := 1, ground := Ground.phase }, { on := 2, ground := Ground.phase }, { on := 3, ground := Ground.phase }, { on := 4, ground := Ground.phase }, { on := 5, ground := Ground.phase }, { on := 6, ground := Ground.phase }, { on := 7, ground := Ground.phase }, { on := 8, ground := Ground.phase }, { on := 9, ground := Ground.phase }, { on := 10, ground := Ground.phase }], guard := none }) (.bool (accB i x.b x.c)) (by kernel_rfl) (by kernel_rfl) ?_
      try simp only [Act.put, List.setIfInBounds_toArray, List.set_cons_zero, List.set_cons_succ]
      refine WL.nil ?_
      try simp only [Act.put, List.setIfInBounds_toArray, List.set_cons_zero, List.set_cons_succ]
      have hI : callI i x = (accI i x.b x.c) := by simp [callI, q1, q2]
      have hM : callM i x = (accM i x.b) := by simp [callM, q1, q2]
      have hB : callB i x = (accB i x.b x.c) := by simp [callB, q1, q2]
      go_wp2
      refine bodyPost_ret (results_row2_tmp (by rfl) _ _ N2 N3 ((accI i x.b x.c).cells) ((accM i x.b).cells) (by rfl) (by rfl) (load_I HR.out) (load_M HM.out)) rfl ?_
      rw [hI, hM, hB]
      exact ⟨rfl, HK.out⟩
  · skip
    refine wp_takeW (o := { dst := some 12, op := Op.binOp BinOp.eql 3 (Operand.tmp 10) (Operand.const (Value.int IntKind.i64 1)) 3, type := 4, pos := "outright.go:47", after := #[], guard := none }) (.bool true) (exec_bin .eql 3 _ _ _ rfl (.int .i64 x.k) (.int .i64 1) (.bool true) (by kernel_rfl) (by kernel_rfl) (by kernel_rfl) (by rw [eqlN, q1]; try rfl)) (by kernel_rfl) ?_
    try simp only [Act.put, List.setIfInBounds_toArray, List.set_cons_zero, List.set_cons_succ]
    refine wp_takeW (o := { dst := some 11, op := Op.assign (Operand.tmp 12), type := 4, pos := "outright.go:47", after := #[{ on := 0, ground := Ground.data }], guard := none }) (.bool true) (by kernel_rfl) (by kernel_rfl) ?_
    try simp only [Act.put, List.setIfInBounds_toArray, List.set_cons_zero, List.set_cons_succ]
    refine WL.nil ?_
    try simp only [Act.put, List.setIfInBounds_toArray, List.set_cons_zero, List.set_cons_succ]
    go_upto_region 3 with fail
    refine WL.start ?_
    refine wp_takeW (o := { dst := some 13, op := Op.load 29 (Operand.tmp 2), type := 29, pos := "outright.go:48", after := #[], guard := none }) (.agg i.cells) (exec_load 29 _ rfl ⟨N, 0, none⟩ (by kernel_rfl) (.agg i.cells) (load_I HI.out)) (by kernel_rfl) ?_
    try simp only [Act.put, List.setIfInBounds_toArray, List.set_cons_zero, List.set_cons_succ]
    refine wp_takeW (o := { dst := some 14, op := Op.fieldAddr 38 (Operand.tmp 3) 1, type := 0, pos := "outright.go:48", after := #[], guard := none }) (.pointer (some ⟨N1, 1, none⟩)) (by kernel_rfl) (by kernel_rfl) ?_
    try simp only [Act.put, List.setIfInBounds_toArray, List.set_cons_zero, List.set_cons_succ]
    refine wp_takeW (o := { dst := some 15, op := Op.load 23 (Operand.tmp 14), type := 23, pos := "outright.go:48", after := #[{ on := 1, ground := Ground.data }], guard := none }) (.agg #[.int .i64 x.b.n, .int .i64 x.b.c]) (exec_load 23 _ rfl ⟨N1, 1, none⟩ (by kernel_rfl) (.agg #[.int .i64 x.b.n, .int .i64 x.b.c]) (load_S HX.out x.partB)) (by kernel_rfl) ?_
    try simp only [Act.put, List.setIfInBounds_toArray, List.set_cons_zero, List.set_cons_succ]
    refine wp_callW (o := { dst := some 16, op := Op.call { callee := Callee.value (Operand.func 11), args := #[Operand.tmp 13, Operand.tmp 15], argTypes := #[29, 23] }, type := 53, pos := "outright.go:48", after := #[{ on := 0, ground := Ground.data }, { on := 2, ground := Ground.data }], guard := none }) 11 #[.agg i.cells, .agg #[.int .i64 x.b.n, .int .i64 x.b.c]] (by kernel_rfl) _ (prep_any i x.b _) (by kernel_rfl) ?_
    rintro e wk11 ⟨rfl, hk⟩
    have HI : Hid (Box wk11 (N) 29 (i.cells)) := HI.out.kept hk (fun e => e)
    have HX : Hid (Box wk11 (N1) 38 (x.cells)) := HX.out.kept hk (fun e => e)
    have HR : Hid (Box wk11 (N2) 29 (iZ.cells)) := HR.out.kept hk (fun e => e)
    have HM : Hid (Box wk11 (N3) 52 (mZ.cells)) := HM.out.kept hk (fun e => e)
    have HK : Hid (Kept No w wk11) := HK.out.then hk
    have HLT : Hid (N3 < wk11.heap.size) := Nat.lt_of_lt_of_le HLT.out hk.size
    clear hk
    refine ⟨.tuple #[.agg (prepI i x.b).cells, .agg (prepM i x.b).cells, .bool (prepB i x.b)], rfl, ?_⟩
    try simp only [Act.put, List.setIfInBounds_toArray, List.set_cons_zero, List.set_cons_succ]
    refine wp_takeW (o := { dst := some 17, op := Op.extract (Operand.tmp 16) 0, type := 29, pos := "outright.go:48", after := #[{ on := 3, ground := Ground.data }], guard := none }) (.agg (prepI i x.b).cells) (by kernel_rfl) (by kernel_rfl) ?_
    try simp only [Act.put, List.setIfInBounds_toArray, List.set_cons_zero, List.set_cons_succ]
    refine wp_takeW (o := { dst := some 18, op := Op.extract (Operand.tmp 16) 1, type := 52, pos := "outright.go:48", after := #[{ on := 3, ground := Ground.data }], guard := none }) (.agg (prepM i x.b).cells) (by kernel_rfl) (by kernel_rfl) ?_
    try simp only [Act.put, List.setIfInBounds_toArray, List.set_cons_zero, List.set_cons_succ]
    refine wp_takeW (o := { dst := some 19, op := Op.extract (Operand.tmp 16) 2, type := 4, pos := "outright.go:48", after := #[{ on := 3, ground := Ground.data }], guard := none }) (.bool (prepB i x.b)) (by kernel_rfl) (by kernel_rfl) ?_
    try simp only [Act.put, List.setIfInBounds_toArray, List.set_cons_zero, List.set_cons_succ]
    refine wp_storeW (o := { dst := none, op := Op.store 29 (Operand.tmp 4) (Operand.tmp 17), type := 0, pos := "outright.go:48", after := #[{ on := 4, ground := Ground.data }, { on := 3, ground := Ground.chain }, { on := 0, ground := Ground.phase }, { on := 1, ground := Ground.phase }, { on := 2, ground := Ground.phase }, { on := 3, ground := Ground.phase }, { on := 4, ground := Ground.phase }, { on := 5, ground := Ground.phase }, { on := 6, ground := Ground.phase }], guard := none }) 29 _ _ rfl ⟨N2, 0, none⟩ (.agg (prepI i x.b).cells) (by kernel_rfl) (by kernel_rfl) _ (store_I HR.out rfl) (by kernel_rfl) ?_
    try simp only [Act.put, List.setIfInBounds_toArray, List.set_cons_zero, List.set_cons_succ]
    have HLT : Hid (N3 < (wk11.setRow N2 ((prepI i x.b).cells)).heap.size) := by show _ < _; rw [setRow_size]; exact HLT.out
    have HI : Hid (Box (wk11.setRow N2 ((prepI i x.b).cells)) (N) 29 (i.cells)) := HI.out.rowNe (by have := HO.out; omega) _
    have HX : Hid (Box (wk11.setRow N2 ((prepI i x.b).cells)) (N1) 38 (x.cells)) := HX.out.rowNe (by have := HO.out; omega) _
    have HR : Hid (Box (wk11.setRow N2 ((prepI i x.b).cells)) (N2) 29 ((prepI i x.b).cells)) := HR.out.setRow _
    have HM : Hid (Box (wk11.setRow N2 ((prepI i x.b).cells)) (N3) 52 (mZ.cells)) := HM.out.rowNe (by have := HO.out; omega) _
    have HK : Hid (Kept No w (wk11.setRow N2 ((prepI i x.b).cells))) := HK.out.newRow (by have := HO.out; omega) _
    generalize wk11.setRow N2 ((prepI i x.b).cells) = wk12 at HI HX HR HM HK HLT ⊢
    refine wp_storeW (o := { dst := none, op := Op.store 52 (Operand.tmp 5) (Operand.tmp 18), type := 0, pos := "outright.go:48", after := #[{ on := 5, ground := Ground.data }, { on := 7, ground := Ground.chain }, { on := 0, ground := Ground.phase }, { on := 1, ground := Ground.phase }, { on := 2, ground := Ground.phase }, { on := 3, ground := Ground.phase }, { on := 4, ground := Ground.phase }, { on := 5, ground := Ground.phase }, { on := 6, ground := Ground.phase }, { on := 7, ground := Ground.phase }], guard := none }) 52 _ _ rfl ⟨N3, 0, none⟩ (.agg (prepM i x.b).cells) (by kernel_rfl) (by kernel_rfl) _ (store_M HM.out rfl) (by kernel_rfl) ?_
    try simp only [Act.put, List.setIfInBounds_toArray, List.set_cons_zero, List.set_cons_succ]
    have HLT : Hid (N3 < (wk12.setRow N3 ((prepM i x.b).cells)).heap.size) := by show _ < _; rw [setRow_size]; exact HLT.out
    have HI : Hid (Box (wk12.setRow N3 ((prepM i x.b).cells)) (N) 29 (i.cells)) := HI.out.rowNe (by have := HO.out; omega) _
    have HX : Hid (Box (wk12.setRow N3 ((prepM i x.b).cells)) (N1) 38 (x.cells)) := HX.out.rowNe (by have := HO.out; omega) _
    have HR : Hid (Box (wk12.setRow N3 ((prepM i x.b).cells)) (N2) 29 ((prepI i x.b).cells)) := HR.out.rowNe (by have := HO.out; omega) _
    have HM : Hid (Box (wk12.setRow N3 ((prepM i x.b).cells)) (N3) 52 ((prepM i x.b).cells)) := HM.out.setRow _
    have HK : Hid (Kept No w (wk12.setRow N3 ((prepM i x.b).cells))) := HK.out.newRow (by have := HO.out; omega) _
    generalize wk12.setRow N3 ((prepM i x.b).cells) = wk13 at HI HX HR HM HK HLT ⊢
    refine wp_takeW (o := { dst := some 6, op := Op.assign (Operand.tmp 19), type := 4, pos := "outright.go:48", after := #[{ on := 6, ground := Ground.data }, { on := 8, ground := Ground.chain }, { on := 0, ground := Ground.phase }, { on := 1, ground := Ground.phase }, { on := 2, ground := Ground.phase }, { on := 3, ground := Ground.phase }, { on := 4, ground := Ground.phase }, { on := 5, ground := Ground.phase }, { on := 6, ground := Ground.phase }, { on := 7, ground := Ground.phase }, { on := 8, ground := Ground.phase }], guard := none }) (.bool (prepB i x.b)) (by kernel_rfl) (by kernel_rfl) ?_
    try simp only [Act.put, List.setIfInBounds_toArray, List.set_cons_zero, List.set_cons_succ]
    refine WL.nil ?_
    try simp only [Act.put, List.setIfInBounds_toArray, List.set_cons_zero, List.set_cons_succ]
    have hI : callI i x = (prepI i x.b) := by simp [callI, q1]
    have hM : callM i x = (prepM i x.b) := by simp [callM, q1]
    have hB : callB i x = (prepB i x.b) := by simp [callB, q1]
    go_wp2
    refine bodyPost_ret (results_row2_tmp (by rfl) _ _ N2 N3 ((prepI i x.b).cells) ((prepM i x.b).cells) (by rfl) (by rfl) (load_I HR.out) (load_M HM.out)) rfl ?_
    rw [hI, hM, hB]
    exact ⟨rfl, HK.out⟩

set_option maxRecDepth 100000 in
set_option maxHeartbeats 4000000 in
theorem told_any (i now : In) (m : Mg) (x : Sx) (w : World) : Calls Try.prog 20 #[.agg i.cells, .agg now.cells, .agg m.cells, .agg x.cells] w (fun e w' => e = .returned (.bool (toldB i now m x)) ∧ Kept No w w') := by
  obtain ⟨w1, hw1⟩ : ∃ w1, w1 = (((w.alloc (.cells i.cells 29)).alloc (.cells now.cells 29)).alloc (.cells m.cells 52)).alloc (.cells x.cells 38) := ⟨_, rfl⟩
  obtain ⟨N, hN⟩ : ∃ N, N = w.heap.size := ⟨_, rfl⟩
  have hal := al4 w i.cells 29 now.cells 29 m.cells 52 x.cells 38
  rw [← hw1, ← hN] at hal
  obtain ⟨hk1, hb0, hb1, hb2, hb3, hs1⟩ := hal
  have HK : Hid (Kept No w w1) := hk1
  obtain ⟨N1, hN1⟩ : ∃ n, n = N + 1 := ⟨_, rfl⟩
  obtain ⟨N2, hN2⟩ : ∃ n, n = N1 + 1 := ⟨_, rfl⟩
  obtain ⟨N3, hN3⟩ : ∃ n, n = N2 + 1 := ⟨_, rfl⟩
  rw [← hN1, ← hN2, ← hN3] at hb3
  rw [← hN1, ← hN2] at hb2
  rw [← hN1] at hb1
  have HI : Hid (Box w1 (N) 29 (i.cells)) := hb0
  have HJ : Hid (Box w1 (N1) 29 (now.cells)) := hb1
  have HM : Hid (Box w1 (N2) 52 (m.cells)) := hb2
  have HX : Hid (Box w1 (N3) 38 (x.cells)) := hb3
  have HO : Hid (w.heap.size ≤ N ∧ N < N1 ∧ N1 < N2 ∧ N2 < N3) := by show _ ∧ _; omega
  have HLT : Hid (N3 < w1.heap.size) := hb3.lt
  clear hk1 hb0 hb1 hb2 hb3 hs1
  go_enter Try.func20, Try.ntmps20
  go_upto_region 1 with (first
    | (refine wp_boxV rfl 29 _ rfl i.cells rfl w.heap.size rfl ?_)
    | (refine wp_boxV rfl 29 _ rfl now.cells rfl (w.heap.size + 1) (by simp) ?_)
    | (refine wp_boxV rfl 52 _ rfl m.cells rfl (w.heap.size + 1 + 1) (by simp) ?_)
    | (refine wp_boxV rfl 38 _ rfl x.cells rfl (w.heap.size + 1 + 1 + 1) (by simp) ?_))
  rw [← hw1, ← hN, ← hN1, ← hN2, ← hN3]
  clear hw1 hN hN1 hN2 hN3
  refine WL.start ?_
  refine wp_takeW (o := { dst := some 9, op := Op.fieldAddr 52 (Operand.tmp 6) 3, type := 0, pos := "outright.go:60", after := #[], guard := none }) (.pointer (some ⟨N2, 5, none⟩)) (by kernel_rfl) (by kernel_rfl) ?_
  try simp only [Act.put, List.setIfInBounds_toArray, List.set_cons_zero, List.set_cons_succ]
  refine wp_takeW (o := { dst := some 10, op := Op.load 3 (Operand.tmp 9), type := 3, pos := "outright.go:60", after := #[{ on := 0, ground := Ground.data }], guard := none }) (.int .i64 0) (exec_load 3 _ rfl ⟨N2, 5, none⟩ (by kernel_rfl) (.int .i64 0) (load_N (HM.out.cell 5))) (by kernel_rfl) ?_
  try simp only [Act.put, List.setIfInBounds_toArray, List.set_cons_zero, List.set_cons_succ]
  refine wp_takeW (o := { dst := some 11, op := Op.binOp BinOp.neq 3 (Operand.tmp 10) (Operand.const (Value.int IntKind.i64 0)) 3, type := 4, pos := "outright.go:60", after := #[{ on := 1, ground := Ground.data }], guard := none }) (.bool false) (exec_bin .neq 3 _ _ _ rfl (.int .i64 0) (.int .i64 0) (.bool false) (by kernel_rfl) (by kernel_rfl) (by kernel_rfl) (by kernel_rfl)) (by kernel_rfl) ?_
  try simp only [Act.put, List.setIfInBounds_toArray, List.set_cons_zero, List.set_cons_succ]
  refine wp_takeW (o := { dst := some 12, op := Op.move (Operand.tmp 11), type := 4, pos := "outright.go:60", after := #[{ on := 2, ground := Ground.data }], guard := none }) (.bool false) (by kernel_rfl) (by kernel_rfl) ?_
  try simp only [Act.put, List.setIfInBounds_toArray, List.set_cons_zero, List.set_cons_succ]
  refine wp_takeW (o := { dst := some 13, op := Op.fieldAddr 52 (Operand.tmp 6) 4, type := 0, pos := "outright.go:60", after := #[{ on := 3, ground := Ground.guard }], guard := some (3, false) }) (.pointer (some ⟨N2, 6, none⟩)) (by kernel_rfl) (by kernel_rfl) ?_
  try simp only [Act.put, List.setIfInBounds_toArray, List.set_cons_zero, List.set_cons_succ]
  refine wp_takeW (o := { dst := some 14, op := Op.load 3 (Operand.tmp 13), type := 3, pos := "outright.go:60", after := #[{ on := 4, ground := Ground.data }, { on := 3, ground := Ground.guard }], guard := some (3, false) }) (.int .i64 0) (exec_load 3 _ rfl ⟨N2, 6, none⟩ (by kernel_rfl) (.int .i64 0) (load_N (HM.out.cell 6))) (by kernel_rfl) ?_
  try simp only [Act.put, List.setIfInBounds_toArray, List.set_cons_zero, List.set_cons_succ]
  refine wp_takeW (o := { dst := some 15, op := Op.binOp BinOp.neq 3 (Operand.tmp 14) (Operand.const (Value.int IntKind.i64 0)) 3, type := 4, pos := "outright.go:60", after := #[{ on := 5, ground := Ground.data }, { on := 3, ground := Ground.guard }], guard := some (3, false) }) (.bool false) (exec_bin .neq 3 _ _ _ rfl (.int .i64 0) (.int .i64 0) (.bool false) (by kernel_rfl) (by kernel_rfl) (by kernel_rfl) (by kernel_rfl)) (by kernel_rfl) ?_
  try simp only [Act.put, List.setIfInBounds_toArray, List.set_cons_zero, List.set_cons_succ]
  refine wp_takeW (o := { dst := some 16, op := Op.pick (Operand.tmp 12) (Operand.const (Value.bool true)) (Operand.tmp 15), type := 4, pos := "outright.go:60", after := #[{ on := 3, ground := Ground.data }, { on := 6, ground := Ground.data }], guard := none }) (.bool false) (by kernel_rfl) (by kernel_rfl) ?_
  try simp only [Act.put, List.setIfInBounds_toArray, List.set_cons_zero, List.set_cons_succ]
  refine wp_takeW (o := { dst := some 17, op := Op.move (Operand.tmp 16), type := 4, pos := "outright.go:60", after := #[{ on := 7, ground := Ground.data }, { on := 3, ground := Ground.chain }], guard := none }) (.bool false) (by kernel_rfl) (by kernel_rfl) ?_
  try simp only [Act.put, List.setIfInBounds_toArray, List.set_cons_zero, List.set_cons_succ]
  refine wp_takeW (o := { dst := some 18, op := Op.fieldAddr 52 (Operand.tmp 6) 5, type := 0, pos := "outright.go:60", after := #[{ on := 8, ground := Ground.guard }], guard := some (8, false) }) (.pointer (some ⟨N2, 7, none⟩)) (by kernel_rfl) (by kernel_rfl) ?_
  try simp only [Act.put, List.setIfInBounds_toArray, List.set_cons_zero, List.set_cons_succ]
  refine wp_takeW (o := { dst := some 19, op := Op.load 44 (Operand.tmp 18), type := 44, pos := "outright.go:60", after := #[{ on := 9, ground := Ground.data }, { on := 8, ground := Ground.guard }], guard := some (8, false) }) (.agg #[.int .i64 0, .int .i64 0, .int .i64 0, .int .i64 0]) (exec_load 44 _ rfl ⟨N2, 7, none⟩ (by kernel_rfl) (.agg #[.int .i64 0, .int .i64 0, .int .i64 0, .int .i64 0]) (run_load_part HM.out m.partKey Try.und44 rfl Try.size44)) (by kernel_rfl) ?_
  try simp only [Act.put, List.setIfInBounds_toArray, List.set_cons_zero, List.set_cons_succ]
  refine wp_takeW (o := { dst := some 20, op := Op.build 44 #[], type := 44, pos := "outright.go:60", after := #[{ on := 8, ground := Ground.guard }], guard := some (8, false) }) (.agg (#[.int .i64 0, .int .i64 0, .int .i64 0, .int .i64 0])) (exec_build 44 _ rfl (#[.int .i64 0, .int .i64 0, .int .i64 0, .int .i64 0]) (by kernel_rfl)) (by kernel_rfl) ?_
  try simp only [Act.put, List.setIfInBounds_toArray, List.set_cons_zero, List.set_cons_succ]
  refine wp_takeW (o := { dst := some 21, op := Op.binOp BinOp.neq 44 (Operand.tmp 19) (Operand.tmp 20) 44, type := 4, pos := "outright.go:60", after := #[{ on := 10, ground := Ground.data }, { on := 11, ground := Ground.data }, { on := 8, ground := Ground.guard }], guard := some (8, false) }) (.bool false) (exec_bin .neq 44 _ _ _ rfl (.agg #[.int .i64 0, .int .i64 0, .int .i64 0, .int .i64 0]) (.agg (#[.int .i64 0, .int .i64 0, .int .i64 0, .int .i64 0])) (.bool false) (by kernel_rfl) (by kernel_rfl) (by kernel_rfl) (neq44 _)) (by kernel_rfl) ?_
  try simp only [Act.put, List.setIfInBounds_toArray, List.set_cons_zero, List.set_cons_succ]
  refine wp_takeW (o := { dst := some 22, op := Op.pick (Operand.tmp 17) (Operand.const (Value.bool true)) (Operand.tmp 21), type := 4, pos := "outright.go:60", after := #[{ on := 8, ground := Ground.data }, { on := 12, ground := Ground.data }], guard := none }) (.bool false) (by kernel_rfl) (by kernel_rfl) ?_
  try simp only [Act.put, List.setIfInBounds_toArray, List.set_cons_zero, List.set_cons_succ]
  refine wp_takeW (o := { dst := some 23, op := Op.move (Operand.tmp 22), type := 4, pos := "outright.go:60", after := #[{ on := 13, ground := Ground.data }, { on := 8, ground := Ground.chain }], guard := none }) (.bool false) (by kernel_rfl) (by kernel_rfl) ?_
  try simp only [Act.put, List.setIfInBounds_toArray, List.set_cons_zero, List.set_cons_succ]
  refine wp_takeW (o := { dst := some 24, op := Op.fieldAddr 52 (Operand.tmp 6) 8, type := 0, pos := "outright.go:60", after := #[{ on := 14, ground := Ground.guard }], guard := some (14, false) }) (.pointer (some ⟨N2, 15, none⟩)) (by kernel_rfl) (by kernel_rfl) ?_
  try simp only [Act.put, List.setIfInBounds_toArray, List.set_cons_zero, List.set_cons_succ]
  refine wp_takeW (o := { dst := some 25, op := Op.load 45 (Operand.tmp 24), type := 45, pos := "outright.go:60", after := #[{ on := 15, ground := Ground.data }, { on := 14, ground := Ground.guard }], guard := some (14, false) }) (.slice none 0 0) (exec_load 45 _ rfl ⟨N2, 15, none⟩ (by kernel_rfl) (.slice none 0 0) (load_one (HM.out.cell 15) Try.und45 rfl)) (by kernel_rfl) ?_
  try simp only [Act.put, List.setIfInBounds_toArray, List.set_cons_zero, List.set_cons_succ]
  refine wp_takeW (o := { dst := some 26, op := Op.call { callee := Callee.builtin Builtin.len, args := #[Operand.tmp 25], argTypes := #[45] }, type := 3, pos := "outright.go:60", after := #[{ on := 16, ground := Ground.data }, { on := 14, ground := Ground.guard }], guard := some (14, false) }) (.int .i64 0) (by kernel_rfl) (by kernel_rfl) ?_
  try simp only [Act.put, List.setIfInBounds_toArray, List.set_cons_zero, List.set_cons_succ]
  refine wp_takeW (o := { dst := some 27, op := Op.binOp BinOp.gtr 3 (Operand.tmp 26) (Operand.const (Value.int IntKind.i64 0)) 3, type := 4, pos := "outright.go:60", after := #[{ on := 17, ground := Ground.data }, { on := 14, ground := Ground.guard }], guard := some (14, false) }) (.bool false) (exec_bin .gtr 3 _ _ _ rfl (.int .i64 0) (.int .i64 0) (.bool false) (by kernel_rfl) (by kernel_rfl) (by kernel_rfl) (by kernel_rfl)) (by kernel_rfl) ?_
  try simp only [Act.put, List.setIfInBounds_toArray, List.set_cons_zero, List.set_cons_succ]
  refine wp_takeW (o := { dst := some 28, op := Op.pick (Operand.tmp 23) (Operand.const (Value.bool true)) (Operand.tmp 27), type := 4, pos := "outright.go:60", after := #[{ on := 14, ground := Ground.data }, { on := 18, ground := Ground.data }], guard := none }) (.bool false) (by kernel_rfl) (by kernel_rfl) ?_
  try simp only [Act.put, List.setIfInBounds_toArray, List.set_cons_zero, List.set_cons_succ]
  refine wp_takeW (o := { dst := some 29, op := Op.move (Operand.tmp 28), type := 4, pos := "outright.go:60", after := #[{ on := 19, ground := Ground.data }, { on := 14, ground := Ground.chain }], guard := none }) (.bool false) (by kernel_rfl) (by kernel_rfl) ?_
  try simp only [Act.put, List.setIfInBounds_toArray, List.set_cons_zero, List.set_cons_succ]
  refine wp_takeW (o := { dst := some 30, op := Op.fieldAddr 52 (Operand.tmp 6) 11, type := 0, pos := "outright.go:60", after := #[{ on := 20, ground := Ground.guard }], guard := some (20, false) }) (.pointer (some ⟨N2, 28, none⟩)) (by kernel_rfl) (by kernel_rfl) ?_
  try simp only [Act.put, List.setIfInBounds_toArray, List.set_cons_zero, List.set_cons_succ]
  refine wp_takeW (o := { dst := some 31, op := Op.load 50 (Operand.tmp 30), type := 50, pos := "outright.go:60", after := #[{ on := 21, ground := Ground.data }, { on := 20, ground := Ground.guard }], guard := some (20, false) }) (.slice none 0 0) (exec_load 50 _ rfl ⟨N2, 28, none⟩ (by kernel_rfl) (.slice none 0 0) (load_one (HM.out.cell 28) Try.und50 rfl)) (by kernel_rfl) ?_
  try simp only [Act.put, List.setIfInBounds_toArray, List.set_cons_zero, List.set_cons_succ]
  refine wp_takeW (o := { dst := some 32, op := Op.call { callee := Callee.builtin Builtin.len, args := #[Operand.tmp 31], argTypes := #[50] }, type := 3, pos := "outright.go:60", after := #[{ on := 22, ground := Ground.data }, { on := 20, ground := Ground.guard }], guard := some (20, false) }) (.int .i64 0) (by kernel_rfl) (by kernel_rfl) ?_
  try simp only [Act.put, List.setIfInBounds_toArray, List.set_cons_zero, List.set_cons_succ]
  refine wp_takeW (o := { dst := some 33, op := Op.binOp BinOp.gtr 3 (Operand.tmp 32) (Operand.const (Value.int IntKind.i64 0)) 3, type := 4, pos := "outright.go:60", after := #[{ on := 23, ground := Ground.data }, { on := 20, ground := Ground.guard }], guard := some (20, false) }) (.bool false) (exec_bin .gtr 3 _ _ _ rfl (.int .i64 0) (.int .i64 0) (.bool false) (by kernel_rfl) (by kernel_rfl) (by kernel_rfl) (by kernel_rfl)) (by kernel_rfl) ?_
  try simp only [Act.put, List.setIfInBounds_toArray, List.set_cons_zero, List.set_cons_succ]
  refine wp_takeW (o := { dst := some 34, op := Op.pick (Operand.tmp 29) (Operand.const (Value.bool true)) (Operand.tmp 33), type := 4, pos := "outright.go:60", after := #[{ on := 20, ground := Ground.data }, { on := 24, ground := Ground.data }], guard := none }) (.bool false) (by kernel_rfl) (by kernel_rfl) ?_
  try simp only [Act.put, List.setIfInBounds_toArray, List.set_cons_zero, List.set_cons_succ]
  refine wp_takeW (o := { dst := some 35, op := Op.move (Operand.tmp 34), type := 4, pos := "outright.go:60", after := #[{ on := 25, ground := Ground.data }, { on := 20, ground := Ground.chain }], guard := none }) (.bool false) (by kernel_rfl) (by kernel_rfl) ?_
  try simp only [Act.put, List.setIfInBounds_toArray, List.set_cons_zero, List.set_cons_succ]
  refine wp_takeW (o := { dst := some 36, op := Op.fieldAddr 52 (Operand.tmp 6) 12, type := 0, pos := "outright.go:60", after := #[{ on := 26, ground := Ground.guard }], guard := some (26, false) }) (.pointer (some ⟨N2, 29, none⟩)) (by kernel_rfl) (by kernel_rfl) ?_
  try simp only [Act.put, List.setIfInBounds_toArray, List.set_cons_zero, List.set_cons_succ]
  refine wp_takeW (o := { dst := some 37, op := Op.load 4 (Operand.tmp 36), type := 4, pos := "outright.go:60", after := #[{ on := 27, ground := Ground.data }, { on := 26, ground := Ground.guard }], guard := some (26, false) }) (.bool false) (exec_load 4 _ rfl ⟨N2, 29, none⟩ (by kernel_rfl) (.bool false) (load_B (HM.out.cell 29))) (by kernel_rfl) ?_
  try simp only [Act.put, List.setIfInBounds_toArray, List.set_cons_zero, List.set_cons_succ]
  refine wp_takeW (o := { dst := some 38, op := Op.pick (Operand.tmp 35) (Operand.const (Value.bool true)) (Operand.tmp 37), type := 4, pos := "outright.go:60", after := #[{ on := 26, ground := Ground.data }, { on := 28, ground := Ground.data }], guard := none }) (.bool false) (by kernel_rfl) (by kernel_rfl) ?_
  try simp only [Act.put, List.setIfInBounds_toArray, List.set_cons_zero, List.set_cons_succ]
  refine wp_takeW (o := { dst := some 39, op := Op.move (Operand.tmp 38), type := 4, pos := "outright.go:60", after := #[{ on := 29, ground := Ground.data }, { on := 26, ground := Ground.chain }], guard := none }) (.bool false) (by kernel_rfl) (by kernel_rfl) ?_
  try simp only [Act.put, List.setIfInBounds_toArray, List.set_cons_zero, List.set_cons_succ]
  refine wp_takeW (o := { dst := some 40, op := Op.fieldAddr 52 (Operand.tmp 6) 10, type := 0, pos := "outright.go:60", after := #[{ on := 30, ground := Ground.guard }], guard := some (30, false) }) (.pointer (some ⟨N2, 25, none⟩)) (by kernel_rfl) (by kernel_rfl) ?_
  try simp only [Act.put, List.setIfInBounds_toArray, List.set_cons_zero, List.set_cons_succ]
  refine wp_takeW (o := { dst := some 41, op := Op.fieldAddr 49 (Operand.tmp 40) 0, type := 0, pos := "outright.go:60", after := #[{ on := 31, ground := Ground.data }, { on := 30, ground := Ground.guard }], guard := some (30, false) }) (.pointer (some ⟨N2, 25, none⟩)) (by kernel_rfl) (by kernel_rfl) ?_
  try simp only [Act.put, List.setIfInBounds_toArray, List.set_cons_zero, List.set_cons_succ]
  refine wp_takeW (o := { dst := some 42, op := Op.load 3 (Operand.tmp 41), type := 3, pos := "outright.go:60", after := #[{ on := 32, ground := Ground.data }, { on := 30, ground := Ground.guard }], guard := some (30, false) }) (.int .i64 0) (exec_load 3 _ rfl ⟨N2, 25, none⟩ (by kernel_rfl) (.int .i64 0) (load_N (HM.out.cell 25))) (by kernel_rfl) ?_
  try simp only [Act.put, List.setIfInBounds_toArray, List.set_cons_zero, List.set_cons_succ]
  refine wp_takeW (o := { dst := some 43, op := Op.binOp BinOp.neq 3 (Operand.tmp 42) (Operand.const (Value.int IntKind.i64 0)) 3, type := 4, pos := "outright.go:60", after := #[{ on := 33, ground := Ground.data }, { on := 30, ground := Ground.guard }], guard := some (30, false) }) (.bool false) (exec_bin .neq 3 _ _ _ rfl (.int .i64 0) (.int .i64 0) (.bool false) (by kernel_rfl) (by kernel_rfl) (by kernel_rfl) (by kernel_rfl)) (by kernel_rfl) ?_
  try simp only [Act.put, List.setIfInBounds_toArray, List.set_cons_zero, List.set_cons_succ]
  refine wp_takeW (o := { dst := some 44, op := Op.pick (Operand.tmp 39) (Operand.const (Value.bool true)) (Operand.tmp 43), type := 4, pos := "outright.go:60", after := #[{ on := 30, ground := Ground.data }, { on := 34, ground := Ground.data }], guard := none }) (.bool false) (by kernel_rfl) (by kernel_rfl) ?_
  try simp only [Act.put, List.setIfInBounds_toArray, List.set_cons_zero, List.set_cons_succ]
  refine WL.nil ?_
  try simp only [Act.put, List.setIfInBounds_toArray, List.set_cons_zero, List.set_cons_succ]
  go_upto_region 3 with fail
  refine WL.start ?_
  refine wp_takeW (o := { dst := some 45, op := Op.fieldAddr 52 (Operand.tmp 6) 0, type := 0, pos := "outright.go:63", after := #[], guard := none }) (.pointer (some ⟨N2, 0, none⟩)) (by kernel_rfl) (by kernel_rfl) ?_
  try simp only [Act.put, List.setIfInBounds_toArray, List.set_cons_zero, List.set_cons_succ]
  refine wp_takeW (o := { dst := some 46, op := Op.load 3 (Operand.tmp 45), type := 3, pos := "outright.go:63", after := #[{ on := 0, ground := Ground.data }], guard := none }) (.int .i64 m.k) (exec_load 3 _ rfl ⟨N2, 0, none⟩ (by kernel_rfl) (.int .i64 m.k) (load_N (HM.out.cell 0))) (by kernel_rfl) ?_
  try simp only [Act.put, List.setIfInBounds_toArray, List.set_cons_zero, List.set_cons_succ]
  refine WL.nil ?_
  try simp only [Act.put, List.setIfInBounds_toArray, List.set_cons_zero, List.set_cons_succ]
  go_upto_region 4 with fail
  refine WL.start ?_
  cases q1 : (m.k == 16)
  · skip
    refine wp_takeW (o := { dst := some 48, op := Op.binOp BinOp.eql 3 (Operand.tmp 46) (Operand.const (Value.int IntKind.i64 16)) 3, type := 4, pos := "outright.go:64", after := #[], guard := none }) (.bool false) (exec_bin .eql 3 _ _ _ rfl (.int .i64 m.k) (.int .i64 16) (.bool false) (by kernel_rfl) (by kernel_rfl) (by kernel_rfl) (by rw [eqlN, q1]; try rfl)) (by kernel_rfl) ?_
    try simp only [Act.put, List.setIfInBounds_toArray, List.set_cons_zero, List.set_cons_succ]
    refine wp_takeW (o := { dst := some 47, op := Op.assign (Operand.tmp 48), type := 4, pos := "outright.go:64", after := #[{ on := 0, ground := Ground.data }], guard := none }) (.bool false) (by kernel_rfl) (by kernel_rfl) ?_
    try simp only [Act.put, List.setIfInBounds_toArray, List.set_cons_zero, List.set_cons_succ]
    refine WL.nil ?_
    try simp only [Act.put, List.setIfInBounds_toArray, List.set_cons_zero, List.set_cons_succ]
    go_upto_region 6 with fail
    refine WL.start ?_
    cases q2 : (m.k == 14)
    · skip
      refine wp_takeW (o := { dst := some 59, op := Op.binOp BinOp.eql 3 (Operand.tmp 46) (Operand.const (Value.int IntKind.i64 14)) 3, type := 4, pos := "outright.go:66", after := #[], guard := none }) (.bool false) (exec_bin .eql 3 _ _ _ rfl (.int .i64 m.k) (.int .i64 14) (.bool false) (by kernel_rfl) (by kernel_rfl) (by kernel_rfl) (by rw [eqlN, q2]; try rfl)) (by kernel_rfl) ?_
      try simp only [Act.put, List.setIfInBounds_toArray, List.set_cons_zero, List.set_cons_succ]
      refine wp_takeW (o := { dst := some 58, op := Op.assign (Operand.tmp 59), type := 4, pos := "outright.go:66", after := #[{ on := 0, ground := Ground.data }], guard := none }) (.bool false) (by kernel_rfl) (by kernel_rfl) ?_
      try simp only [Act.put, List.setIfInBounds_toArray, List.set_cons_zero, List.set_cons_succ]
      refine WL.nil ?_
      try simp only [Act.put, List.setIfInBounds_toArray, List.set_cons_zero, List.set_cons_succ]
      go_upto_region 8 with fail
      refine WL.start ?_
      cases q3 : (m.k == 13)
      · skip
        refine wp_takeW (o := { dst := some 73, op := Op.binOp BinOp.eql 3 (Operand.tmp 46) (Operand.const (Value.int IntKind.i64 13)) 3, type := 4, pos := "outright.go:68", after := #[], guard := none }) (.bool false) (exec_bin .eql 3 _ _ _ rfl (.int .i64 m.k) (.int .i64 13) (.bool false) (by kernel_rfl) (by kernel_rfl) (by kernel_rfl) (by rw [eqlN, q3]; try rfl)) (by kernel_rfl) ?_
        try simp only [Act.put, List.setIfInBounds_toArray, List.set_cons_zero, List.set_cons_succ]
        refine wp_takeW (o := { dst := some 72, op := Op.assign (Operand.tmp 73), type := 4, pos := "outright.go:68", after := #[{ on := 0, ground := Ground.data }], guard := none }) (.bool false) (by kernel_rfl) (by kernel_rfl) ?_
        try simp only [Act.put, List.setIfInBounds_toArray, List.set_cons_zero, List.set_cons_succ]
        refine WL.nil ?_
        try simp only [Act.put, List.setIfInBounds_toArray, List.set_cons_zero, List.set_cons_succ]
        go_upto_region 10 with fail
        refine WL.start ?_
        cases q4 : (m.k == 15)
        · skip
          refine wp_takeW (o := { dst := some 106, op := Op.binOp BinOp.eql 3 (Operand.tmp 46) (Operand.const (Value.int IntKind.i64 15)) 3, type := 4, pos := "outright.go:70", after := #[], guard := none }) (.bool false) (exec_bin .eql 3 _ _ _ rfl (.int .i64 m.k) (.int .i64 15) (.bool false) (by kernel_rfl) (by kernel_rfl) (by kernel_rfl) (by rw [eqlN, q4]; try rfl)) (by kernel_rfl) ?_
          try simp only [Act.put, List.setIfInBounds_toArray, List.set_cons_zero, List.set_cons_succ]
          refine wp_takeW (o := { dst := some 105, op := Op.assign (Operand.tmp 106), type := 4, pos := "outright.go:70", after := #[{ on := 0, ground := Ground.data }], guard := none }) (.bool false) (by kernel_rfl) (by kernel_rfl) ?_
          try simp only [Act.put, List.setIfInBounds_toArray, List.set_cons_zero, List.set_cons_succ]
          refine WL.nil ?_
          try simp only [Act.put, List.setIfInBounds_toArray, List.set_cons_zero, List.set_cons_succ]
          have hv : toldB i now m x = false := by first | (simp only [toldB, q1, q2, q3, q4]; rfl) | simp [toldB, q1, q2, q3, q4]
          go_wp2
          go_ret
          exact ⟨by rw [hv]; rfl, HK.out⟩
        · skip
          refine wp_takeW (o := { dst := some 106, op := Op.binOp BinOp.eql 3 (Operand.tmp 46) (Operand.const (Value.int IntKind.i64 15)) 3, type := 4, pos := "outright.go:70", after := #[], guard := none }) (.bool true) (exec_bin .eql 3 _ _ _ rfl (.int .i64 m.k) (.int .i64 15) (.bool true) (by kernel_rfl) (by kernel_rfl) (by kernel_rfl) (by rw [eqlN, q4]; try rfl)) (by kernel_rfl) ?_
          try simp only [Act.put, List.setIfInBounds_toArray, List.set_cons_zero, List.set_cons_succ]
          refine wp_takeW (o := { dst := some 105, op := Op.assign (Operand.tmp 106), type := 4, pos := "outright.go:70", after := #[{ on := 0, ground := Ground.data }], guard := none }) (.bool true) (by kernel_rfl) (by kernel_rfl) ?_
          try simp only [Act.put, List.setIfInBounds_toArray, List.set_cons_zero, List.set_cons_succ]
          refine WL.nil ?_
          try simp only [Act.put, List.setIfInBounds_toArray, List.set_cons_zero, List.set_cons_succ]
          go_upto_region 11 with fail
          refine WL.start ?_
          refine wp_takeW (o := { dst := some 107, op := Op.fieldAddr 38 (Operand.tmp 7) 0, type := 0, pos := "outright.go:71", after := #[], guard := none }) (.pointer (some ⟨N3, 0, none⟩)) (by kernel_rfl) (by kernel_rfl) ?_
          try simp only [Act.put, List.setIfInBounds_toArray, List.set_cons_zero, List.set_cons_succ]
          refine wp_takeW (o := { dst := some 108, op := Op.load 3 (Operand.tmp 107), type := 3, pos := "outright.go:71", after := #[{ on := 0, ground := Ground.data }], guard := none }) (.int .i64 x.k) (exec_load 3 _ rfl ⟨N3, 0, none⟩ (by kernel_rfl) (.int .i64 x.k) (load_N (HX.out.cell 0))) (by kernel_rfl) ?_
          try simp only [Act.put, List.setIfInBounds_toArray, List.set_cons_zero, List.set_cons_succ]
          cases q5 : (x.k == 2)
          · skip
            refine wp_takeW (o := { dst := some 109, op := Op.binOp BinOp.eql 3 (Operand.tmp 108) (Operand.const (Value.int IntKind.i64 2)) 3, type := 4, pos := "outright.go:71", after := #[{ on := 1, ground := Ground.data }], guard := none }) (.bool false) (exec_bin .eql 3 _ _ _ rfl (.int .i64 x.k) (.int .i64 2) (.bool false) (by kernel_rfl) (by kernel_rfl) (by kernel_rfl) (by rw [eqlN, q5]; try rfl)) (by kernel_rfl) ?_
            try simp only [Act.put, List.setIfInBounds_toArray, List.set_cons_zero, List.set_cons_succ]
            refine wp_takeW (o := { dst := some 110, op := Op.move (Operand.tmp 109), type := 4, pos := "outright.go:71", after := #[{ on := 2, ground := Ground.data }], guard := none }) (.bool false) (by kernel_rfl) (by kernel_rfl) ?_
            try simp only [Act.put, List.setIfInBounds_toArray, List.set_cons_zero, List.set_cons_succ]
            refine wp_skip (o := { dst := some 111, op := Op.fieldAddr 52 (Operand.tmp 6) 6, type := 0, pos := "outright.go:71", after := #[{ on := 3, ground := Ground.guard }], guard := some (3, true) }) (by kernel_rfl) ?_
            try simp only [Act.put, List.setIfInBounds_toArray, List.set_cons_zero, List.set_cons_succ]
            refine wp_skip (o := { dst := some 112, op := Op.load 23 (Operand.tmp 111), type := 23, pos := "outright.go:71", after := #[{ on := 4, ground := Ground.data }, { on := 3, ground := Ground.guard }], guard := some (3, true) }) (by kernel_rfl) ?_
            try simp only [Act.put, List.setIfInBounds_toArray, List.set_cons_zero, List.set_cons_succ]
            refine wp_skip (o := { dst := some 113, op := Op.fieldAddr 38 (Operand.tmp 7) 1, type := 0, pos := "outright.go:71", after := #[{ on := 3, ground := Ground.guard }], guard := some (3, true) }) (by kernel_rfl) ?_
            try simp only [Act.put, List.setIfInBounds_toArray, List.set_cons_zero, List.set_cons_succ]
            refine wp_skip (o := { dst := some 114, op := Op.load 23 (Operand.tmp 113), type := 23, pos := "outright.go:71", after := #[{ on := 6, ground := Ground.data }, { on := 3, ground := Ground.guard }], guard := some (3, true) }) (by kernel_rfl) ?_
            try simp only [Act.put, List.setIfInBounds_toArray, List.set_cons_zero, List.set_cons_succ]
            refine wp_skip (o := { dst := some 115, op := Op.binOp BinOp.eql 23 (Operand.tmp 112) (Operand.tmp 114) 23, type := 4, pos := "outright.go:71", after := #[{ on := 5, ground := Ground.data }, { on := 7, ground := Ground.data }, { on := 3, ground := Ground.guard }], guard := some (3, true) }) (by kernel_rfl) ?_
            try simp only [Act.put, List.setIfInBounds_toArray, List.set_cons_zero, List.set_cons_succ]
            refine wp_takeW (o := { dst := some 116, op := Op.pick (Operand.tmp 110) (Operand.tmp 115) (Operand.const (Value.bool false)), type := 4, pos := "outright.go:71", after := #[{ on := 3, ground := Ground.data }, { on := 8, ground := Ground.data }], guard := none }) (.bool false) (by kernel_rfl) (by kernel_rfl) ?_
            try simp only [Act.put, List.setIfInBounds_toArray, List.set_cons_zero, List.set_cons_succ]
            refine wp_takeW (o := { dst := some 117, op := Op.move (Operand.tmp 116), type := 4, pos := "outright.go:71", after := #[{ on := 9, ground := Ground.data }, { on := 3, ground := Ground.chain }], guard := none }) (.bool false) (by kernel_rfl) (by kernel_rfl) ?_
            try simp only [Act.put, List.setIfInBounds_toArray, List.set_cons_zero, List.set_cons_succ]
            refine wp_skip (o := { dst := some 118, op := Op.fieldAddr 29 (Operand.tmp 5) 1, type := 0, pos := "outright.go:71", after := #[{ on := 10, ground := Ground.guard }], guard := some (10, true) }) (by kernel_rfl) ?_
            try simp only [Act.put, List.setIfInBounds_toArray, List.set_cons_zero, List.set_cons_succ]
            refine wp_skip (o := { dst := some 119, op := Op.load 23 (Operand.tmp 118), type := 23, pos := "outright.go:71", after := #[{ on := 11, ground := Ground.data }, { on := 10, ground := Ground.guard }], guard := some (10, true) }) (by kernel_rfl) ?_
            try simp only [Act.put, List.setIfInBounds_toArray, List.set_cons_zero, List.set_cons_succ]
            refine wp_skip (o := { dst := some 120, op := Op.fieldAddr 38 (Operand.tmp 7) 1, type := 0, pos := "outright.go:71", after := #[{ on := 10, ground := Ground.guard }], guard := some (10, true) }) (by kernel_rfl) ?_
            try simp only [Act.put, List.setIfInBounds_toArray, List.set_cons_zero, List.set_cons_succ]
            refine wp_skip (o := { dst := some 121, op := Op.load 23 (Operand.tmp 120), type := 23, pos := "outright.go:71", after := #[{ on := 13, ground := Ground.data }, { on := 10, ground := Ground.guard }], guard := some (10, true) }) (by kernel_rfl) ?_
            try simp only [Act.put, List.setIfInBounds_toArray, List.set_cons_zero, List.set_cons_succ]
            refine wp_skip (o := { dst := some 122, op := Op.binOp BinOp.eql 23 (Operand.tmp 119) (Operand.tmp 121) 23, type := 4, pos := "outright.go:71", after := #[{ on := 12, ground := Ground.data }, { on := 14, ground := Ground.data }, { on := 10, ground := Ground.guard }], guard := some (10, true) }) (by kernel_rfl) ?_
            try simp only [Act.put, List.setIfInBounds_toArray, List.set_cons_zero, List.set_cons_succ]
            refine wp_takeW (o := { dst := some 123, op := Op.pick (Operand.tmp 117) (Operand.tmp 122) (Operand.const (Value.bool false)), type := 4, pos := "outright.go:71", after := #[{ on := 10, ground := Ground.data }, { on := 15, ground := Ground.data }], guard := none }) (.bool false) (by kernel_rfl) (by kernel_rfl) ?_
            try simp only [Act.put, List.setIfInBounds_toArray, List.set_cons_zero, List.set_cons_succ]
            refine wp_takeW (o := { dst := some 124, op := Op.move (Operand.tmp 123), type := 4, pos := "outright.go:71", after := #[{ on := 16, ground := Ground.data }, { on := 10, ground := Ground.chain }], guard := none }) (.bool false) (by kernel_rfl) (by kernel_rfl) ?_
            try simp only [Act.put, List.setIfInBounds_toArray, List.set_cons_zero, List.set_cons_succ]
            refine wp_skip (o := { dst := some 125, op := Op.fieldAddr 29 (Operand.tmp 5) 2, type := 0, pos := "outright.go:71", after := #[{ on := 17, ground := Ground.guard }], guard := some (17, true) }) (by kernel_rfl) ?_
            try simp only [Act.put, List.setIfInBounds_toArray, List.set_cons_zero, List.set_cons_succ]
            refine wp_skip (o := { dst := some 126, op := Op.load 27 (Operand.tmp 125), type := 27, pos := "outright.go:71", after := #[{ on := 18, ground := Ground.data }, { on := 17, ground := Ground.guard }], guard := some (17, true) }) (by kernel_rfl) ?_
            try simp only [Act.put, List.setIfInBounds_toArray, List.set_cons_zero, List.set_cons_succ]
            refine wp_skip (o := { dst := some 127, op := Op.fieldAddr 38 (Operand.tmp 7) 2, type := 0, pos := "outright.go:71", after := #[{ on := 17, ground := Ground.guard }], guard := some (17, true) }) (by kernel_rfl) ?_
            try simp only [Act.put, List.setIfInBounds_toArray, List.set_cons_zero, List.set_cons_succ]
            refine wp_skip (o := { dst := some 128, op := Op.load 27 (Operand.tmp 127), type := 27, pos := "outright.go:71", after := #[{ on := 20, ground := Ground.data }, { on := 17, ground := Ground.guard }], guard := some (17, true) }) (by kernel_rfl) ?_
            try simp only [Act.put, List.setIfInBounds_toArray, List.set_cons_zero, List.set_cons_succ]
            refine wp_skip (o := { dst := some 129, op := Op.binOp BinOp.eql 27 (Operand.tmp 126) (Operand.tmp 128) 27, type := 4, pos := "outright.go:71", after := #[{ on := 19, ground := Ground.data }, { on := 21, ground := Ground.data }, { on := 17, ground := Ground.guard }], guard := some (17, true) }) (by kernel_rfl) ?_
            try simp only [Act.put, List.setIfInBounds_toArray, List.set_cons_zero, List.set_cons_succ]
            refine wp_takeW (o := { dst := some 130, op := Op.pick (Operand.tmp 124) (Operand.tmp 129) (Operand.const (Value.bool false)), type := 4, pos := "outright.go:71", after := #[{ on := 17, ground := Ground.data }, { on := 22, ground := Ground.data }], guard := none }) (.bool false) (by kernel_rfl) (by kernel_rfl) ?_
            try simp only [Act.put, List.setIfInBounds_toArray, List.set_cons_zero, List.set_cons_succ]
            refine wp_takeW (o := { dst := some 8, op := Op.assign (Operand.tmp 130), type := 4, pos := "outright.go:71", after := #[{ on := 23, ground := Ground.data }, { on := 17, ground := Ground.chain }, { on := 0, ground := Ground.phase }, { on := 1, ground := Ground.phase }, { on := 2, ground := Ground.phase }, { on := 3, ground := Ground.phase }, { on := 4, ground := Ground.phase }, { on := 5, ground := Ground.phase }, { on := 6, ground := Ground.phase }, { on := 7, ground := Ground.phase }, { on := 8, ground := Ground.phase }, { on := 9, ground := Ground.phase }, { on := 10, ground := Ground.phase }, { on := 11, ground := Ground.phase }, { on := 12, ground := Ground.phase }, { on := 13, ground := Ground.phase }, { on := 14, ground := Ground.phase }, { on := 15, ground := Ground.phase }, { on := 16, ground := Ground.phase }, { on := 17, ground := Ground.phase }, { on := 18, ground := Ground.phase }, { on := 19, ground := Ground.phase }, { on := 20, ground := Ground.phase }, { on := 21, ground := Ground.phase }, { on := 22, ground := Ground.phase }, { on := 23, ground := Ground.phase }], guard := none }) (.bool false) (by kernel_rfl) (by kernel_rfl) ?_
            try simp only [Act.put, List.setIfInBounds_toArray, List.set_cons_zero, List.set_cons_succ]
            refine WL.nil ?_
            try simp only [Act.put, List.setIfInBounds_toArray, List.set_cons_zero, List.set_cons_succ]
            have hv : toldB i now m x = false := by first | (simp only [toldB, q1, q2, q3, q4, q5]; rfl) | simp [toldB, q1, q2, q3, q4, q5]
            go_wp2
            go_ret
            exact ⟨by rw [hv]; rfl, HK.out⟩
          · skip
            refine wp_takeW (o := { dst := some 109, op := Op.binOp BinOp.eql 3 (Operand.tmp 108) (Operand.const (Value.int IntKind.i64 2)) 3, type := 4, pos := "outright.go:71", after := #[{ on := 1, ground := Ground.data }], guard := none }) (.bool true) (exec_bin .eql 3 _ _ _ rfl (.int .i64 x.k) (.int .i64 2) (.bool true) (by kernel_rfl) (by kernel_rfl) (by kernel_rfl) (by rw [eqlN, q5]; try rfl)) (by kernel_rfl) ?_
            try simp only [Act.put, List.setIfInBounds_toArray, List.set_cons_zero, List.set_cons_succ]
            refine wp_takeW (o := { dst := some 110, op := Op.move (Operand.tmp 109), type := 4, pos := "outright.go:71", after := #[{ on := 2, ground := Ground.data }], guard := none }) (.bool true) (by kernel_rfl) (by kernel_rfl) ?_
            try simp only [Act.put, List.setIfInBounds_toArray, List.set_cons_zero, List.set_cons_succ]
            refine wp_takeW (o := { dst := some 111, op := Op.fieldAddr 52 (Operand.tmp 6) 6, type := 0, pos := "outright.go:71", after := #[{ on := 3, ground := Ground.guard }], guard := some (3, true) }) (.pointer (some ⟨N2, 11, none⟩)) (by kernel_rfl) (by kernel_rfl) ?_
            try simp only [Act.put, List.setIfInBounds_toArray, List.set_cons_zero, List.set_cons_succ]
            refine wp_takeW (o := { dst := some 112, op := Op.load 23 (Operand.tmp 111), type := 23, pos := "outright.go:71", after := #[{ on := 4, ground := Ground.data }, { on := 3, ground := Ground.guard }], guard := some (3, true) }) (.agg #[.int .i64 m.s.n, .int .i64 m.s.c]) (exec_load 23 _ rfl ⟨N2, 11, none⟩ (by kernel_rfl) (.agg #[.int .i64 m.s.n, .int .i64 m.s.c]) (load_S HM.out m.partS)) (by kernel_rfl) ?_
            try simp only [Act.put, List.setIfInBounds_toArray, List.set_cons_zero, List.set_cons_succ]
            refine wp_takeW (o := { dst := some 113, op := Op.fieldAddr 38 (Operand.tmp 7) 1, type := 0, pos := "outright.go:71", after := #[{ on := 3, ground := Ground.guard }], guard := some (3, true) }) (.pointer (some ⟨N3, 1, none⟩)) (by kernel_rfl) (by kernel_rfl) ?_
            try simp only [Act.put, List.setIfInBounds_toArray, List.set_cons_zero, List.set_cons_succ]
            refine wp_takeW (o := { dst := some 114, op := Op.load 23 (Operand.tmp 113), type := 23, pos := "outright.go:71", after := #[{ on := 6, ground := Ground.data }, { on := 3, ground := Ground.guard }], guard := some (3, true) }) (.agg #[.int .i64 x.b.n, .int .i64 x.b.c]) (exec_load 23 _ rfl ⟨N3, 1, none⟩ (by kernel_rfl) (.agg #[.int .i64 x.b.n, .int .i64 x.b.c]) (load_S HX.out x.partB)) (by kernel_rfl) ?_
            try simp only [Act.put, List.setIfInBounds_toArray, List.set_cons_zero, List.set_cons_succ]
            cases q6 : (eqS m.s x.b)
            · skip
              refine wp_takeW (o := { dst := some 115, op := Op.binOp BinOp.eql 23 (Operand.tmp 112) (Operand.tmp 114) 23, type := 4, pos := "outright.go:71", after := #[{ on := 5, ground := Ground.data }, { on := 7, ground := Ground.data }, { on := 3, ground := Ground.guard }], guard := some (3, true) }) (.bool false) (exec_bin .eql 23 _ _ _ rfl (.agg #[.int .i64 m.s.n, .int .i64 m.s.c]) (.agg #[.int .i64 x.b.n, .int .i64 x.b.c]) (.bool false) (by kernel_rfl) (by kernel_rfl) (guard_S _ (.inl rfl) _ _ _ _ _) (by rw [eqlS m.s x.b, q6]; try rfl)) (by kernel_rfl) ?_
              try simp only [Act.put, List.setIfInBounds_toArray, List.set_cons_zero, List.set_cons_succ]
              refine wp_takeW (o := { dst := some 116, op := Op.pick (Operand.tmp 110) (Operand.tmp 115) (Operand.const (Value.bool false)), type := 4, pos := "outright.go:71", after := #[{ on := 3, ground := Ground.data }, { on := 8, ground := Ground.data }], guard := none }) (.bool false) (by kernel_rfl) (by kernel_rfl) ?_
              try simp only [Act.put, List.setIfInBounds_toArray, List.set_cons_zero, List.set_cons_succ]
              refine wp_takeW (o := { dst := some 117, op := Op.move (Operand.tmp 116), type := 4, pos := "outright.go:71", after := #[{ on := 9, ground := Ground.data }, { on := 3, ground := Ground.chain }], guard := none }) (.bool false) (by kernel_rfl) (by kernel_rfl) ?_
              try simp only [Act.put, List.setIfInBounds_toArray, List.set_cons_zero, List.set_cons_succ]
              refine wp_skip (o := { dst := some 118, op := Op.fieldAddr 29 (Operand.tmp 5) 1, type := 0, pos := "outright.go:71", after := #[{ on := 10, ground := Ground.guard }], guard := some (10, true) }) (by kernel_rfl) ?_
              try simp only [Act.put, List.setIfInBounds_toArray, List.set_cons_zero, List.set_cons_succ]
              refine wp_skip (o := { dst := some 119, op := Op.load 23 (Operand.tmp 118), type := 23, pos := "outright.go:71", after := #[{ on := 11, ground := Ground.data }, { on := 10, ground := Ground.guard }], guard := some (10, true) }) (by kernel_rfl) ?_
              try simp only [Act.put, List.setIfInBounds_toArray, List.set_cons_zero, List.set_cons_succ]
              refine wp_skip (o := { dst := some 120, op := Op.fieldAddr 38 (Operand.tmp 7) 1, type := 0, pos := "outright.go:71", after := #[{ on := 10, ground := Ground.guard }], guard := some (10, true) }) (by kernel_rfl) ?_
              try simp only [Act.put, List.setIfInBounds_toArray, List.set_cons_zero, List.set_cons_succ]
              refine wp_skip (o := { dst := some 121, op := Op.load 23 (Operand.tmp 120), type := 23, pos := "outright.go:71", after := #[{ on := 13, ground := Ground.data }, { on := 10, ground := Ground.guard }], guard := some (10, true) }) (by kernel_rfl) ?_
              try simp only [Act.put, List.setIfInBounds_toArray, List.set_cons_zero, List.set_cons_succ]
              refine wp_skip (o := { dst := some 122, op := Op.binOp BinOp.eql 23 (Operand.tmp 119) (Operand.tmp 121) 23, type := 4, pos := "outright.go:71", after := #[{ on := 12, ground := Ground.data }, { on := 14, ground := Ground.data }, { on := 10, ground := Ground.guard }], guard := some (10, true) }) (by kernel_rfl) ?_
              try simp only [Act.put, List.setIfInBounds_toArray, List.set_cons_zero, List.set_cons_succ]
              refine wp_takeW (o := { dst := some 123, op := Op.pick (Operand.tmp 117) (Operand.tmp 122) (Operand.const (Value.bool false)), type := 4, pos := "outright.go:71", after := #[{ on := 10, ground := Ground.data }, { on := 15, ground := Ground.data }], guard := none }) (.bool false) (by kernel_rfl) (by kernel_rfl) ?_
              try simp only [Act.put, List.setIfInBounds_toArray, List.set_cons_zero, List.set_cons_succ]
              refine wp_takeW (o := { dst := some 124, op := Op.move (Operand.tmp 123), type := 4, pos := "outright.go:71", after := #[{ on := 16, ground := Ground.data }, { on := 10, ground := Ground.chain }], guard := none }) (.bool false) (by kernel_rfl) (by kernel_rfl) ?_
              try simp only [Act.put, List.setIfInBounds_toArray, List.set_cons_zero, List.set_cons_succ]
              refine wp_skip (o := { dst := some 125, op := Op.fieldAddr 29 (Operand.tmp 5) 2, type := 0, pos := "outright.go:71", after := #[{ on := 17, ground := Ground.guard }], guard := some (17, true) }) (by kernel_rfl) ?_
              try simp only [Act.put, List.setIfInBounds_toArray, List.set_cons_zero, List.set_cons_succ]
              refine wp_skip (o := { dst := some 126, op := Op.load 27 (Operand.tmp 125), type := 27, pos := "outright.go:71", after := #[{ on := 18, ground := Ground.data }, { on := 17, ground := Ground.guard }], guard := some (17, true) }) (by kernel_rfl) ?_
              try simp only [Act.put, List.setIfInBounds_toArray, List.set_cons_zero, List.set_cons_succ]
              refine wp_skip (o := { dst := some 127, op := Op.fieldAddr 38 (Operand.tmp 7) 2, type := 0, pos := "outright.go:71", after := #[{ on := 17, ground := Ground.guard }], guard := some (17, true) }) (by kernel_rfl) ?_
              try simp only [Act.put, List.setIfInBounds_toArray, List.set_cons_zero, List.set_cons_succ]
              refine wp_skip (o := { dst := some 128, op := Op.load 27 (Operand.tmp 127), type := 27, pos := "outright.go:71", after := #[{ on := 20, ground := Ground.data }, { on := 17, ground := Ground.guard }], guard := some (17, true) }) (by kernel_rfl) ?_
              try simp only [Act.put, List.setIfInBounds_toArray, List.set_cons_zero, List.set_cons_succ]
              refine wp_skip (o := { dst := some 129, op := Op.binOp BinOp.eql 27 (Operand.tmp 126) (Operand.tmp 128) 27, type := 4, pos := "outright.go:71", after := #[{ on := 19, ground := Ground.data }, { on := 21, ground := Ground.data }, { on := 17, ground := Ground.guard }], guard := some (17, true) }) (by kernel_rfl) ?_
              try simp only [Act.put, List.setIfInBounds_toArray, List.set_cons_zero, List.set_cons_succ]
              refine wp_takeW (o := { dst := some 130, op := Op.pick (Operand.tmp 124) (Operand.tmp 129) (Operand.const (Value.bool false)), type := 4, pos := "outright.go:71", after := #[{ on := 17, ground := Ground.data }, { on := 22, ground := Ground.data }], guard := none }) (.bool false) (by kernel_rfl) (by kernel_rfl) ?_
              try simp only [Act.put, List.setIfInBounds_toArray, List.set_cons_zero, List.set_cons_succ]
              refine wp_takeW (o := { dst := some 8, op := Op.assign (Operand.tmp 130), type := 4, pos := "outright.go:71", after := #[{ on := 23, ground := Ground.data }, { on := 17, ground := Ground.chain }, { on := 0, ground := Ground.phase }, { on := 1, ground := Ground.phase }, { on := 2, ground := Ground.phase }, { on := 3, ground := Ground.phase }, { on := 4, ground := Ground.phase }, { on := 5, ground := Ground.phase }, { on := 6, ground := Ground.phase }, { on := 7, ground := Ground.phase }, { on := 8, ground := Ground.phase }, { on := 9, ground := Ground.phase }, { on := 10, ground := Ground.phase }, { on := 11, ground := Ground.phase }, { on := 12, ground := Ground.phase }, { on := 13, ground := Ground.phase }, { on := 14, ground := Ground.phase }, { on := 15, ground := Ground.phase }, { on := 16, ground := Ground.phase }, { on := 17, ground := Ground.phase }, { on := 18, ground := Ground.phase }, { on := 19, ground := Ground.phase }, { on := 20, ground := Ground.phase }, { on := 21, ground := Ground.phase }, { on := 22, ground := Ground.phase }, { on := 23, ground := Ground.phase }], guard := none }) (.bool false) (by kernel_rfl) (by kernel_rfl) ?_
              try simp only [Act.put, List.setIfInBounds_toArray, List.set_cons_zero, List.set_cons_succ]
              refine WL.nil ?_
              try simp only [Act.put, List.setIfInBounds_toArray, List.set_cons_zero, List.set_cons_succ]
              have hv : toldB i now m x = false := by first | (simp only [toldB, q1, q2, q3, q4, q5, q6]; rfl) | simp [toldB, q1, q2, q3, q4, q5, q6]
              go_wp2
              go_ret
              exact ⟨by rw [hv]; rfl, HK.out⟩
            · skip
              refine wp_takeW (o := { dst := some 115, op := Op.binOp BinOp.eql 23 (Operand.tmp 112) (Operand.tmp 114) 23, type := 4, pos := "outright.go:71", after := #[{ on := 5, ground := Ground.data }, { on := 7, ground := Ground.data }, { on := 3, ground := Ground.guard }], guard := some (3, true) }) (.bool true) (exec_bin .eql 23 _ _ _ rfl (.agg #[.int .i64 m.s.n, .int .i64 m.s.c]) (.agg #[.int .i64 x.b.n, .int .i64 x.b.c]) (.bool true) (by kernel_rfl) (by kernel_rfl) (guard_S _ (.inl rfl) _ _ _ _ _) (by rw [eqlS m.s x.b, q6]; try rfl)) (by kernel_rfl) ?_
              try simp only [Act.put, List.setIfInBounds_toArray, List.set_cons_zero, List.set_cons_succ]
              refine wp_takeW (o := { dst := some 116, op := Op.pick (Operand.tmp 110) (Operand.tmp 115) (Operand.const (Value.bool false)), type := 4, pos := "outright.go:71", after := #[{ on := 3, ground := Ground.data }, { on := 8, ground := Ground.data }], guard := none }) (.bool true) (by kernel_rfl) (by kernel_rfl) ?_
              try simp only [Act.put, List.setIfInBounds_toArray, List.set_cons_zero, List.set_cons_succ]
              refine wp_takeW (o := { dst := some 117, op := Op.move (Operand.tmp 116), type := 4, pos := "outright.go:71", after := #[{ on := 9, ground := Ground.data }, { on := 3, ground := Ground.chain }], guard := none }) (.bool true) (by kernel_rfl) (by kernel_rfl) ?_
              try simp only [Act.put, List.setIfInBounds_toArray, List.set_cons_zero, List.set_cons_succ]
              refine wp_takeW (o := { dst := some 118, op := Op.fieldAddr 29 (Operand.tmp 5) 1, type := 0, pos := "outright.go:71", after := #[{ on := 10, ground := Ground.guard }], guard := some (10, true) }) (.pointer (some ⟨N1, 2, none⟩)) (by kernel_rfl) (by kernel_rfl) ?_
              try simp only [Act.put, List.setIfInBounds_toArray, List.set_cons_zero, List.set_cons_succ]
              refine wp_takeW (o := { dst := some 119, op := Op.load 23 (Operand.tmp 118), type := 23, pos := "outright.go:71", after := #[{ on := 11, ground := Ground.data }, { on := 10, ground := Ground.guard }], guard := some (10, true) }) (.agg #[.int .i64 now.a.n, .int .i64 now.a.c]) (exec_load 23 _ rfl ⟨N1, 2, none⟩ (by kernel_rfl) (.agg #[.int .i64 now.a.n, .int .i64 now.a.c]) (load_S HJ.out now.partA)) (by kernel_rfl) ?_
              try simp only [Act.put, List.setIfInBounds_toArray, List.set_cons_zero, List.set_cons_succ]
              refine wp_takeW (o := { dst := some 120, op := Op.fieldAddr 38 (Operand.tmp 7) 1, type := 0, pos := "outright.go:71", after := #[{ on := 10, ground := Ground.guard }], guard := some (10, true) }) (.pointer (some ⟨N3, 1, none⟩)) (by kernel_rfl) (by kernel_rfl) ?_
              try simp only [Act.put, List.setIfInBounds_toArray, List.set_cons_zero, List.set_cons_succ]
              refine wp_takeW (o := { dst := some 121, op := Op.load 23 (Operand.tmp 120), type := 23, pos := "outright.go:71", after := #[{ on := 13, ground := Ground.data }, { on := 10, ground := Ground.guard }], guard := some (10, true) }) (.agg #[.int .i64 x.b.n, .int .i64 x.b.c]) (exec_load 23 _ rfl ⟨N3, 1, none⟩ (by kernel_rfl) (.agg #[.int .i64 x.b.n, .int .i64 x.b.c]) (load_S HX.out x.partB)) (by kernel_rfl) ?_
              try simp only [Act.put, List.setIfInBounds_toArray, List.set_cons_zero, List.set_cons_succ]
              cases q7 : (eqS now.a x.b)
              · skip
                refine wp_takeW (o := { dst := some 122, op := Op.binOp BinOp.eql 23 (Operand.tmp 119) (Operand.tmp 121) 23, type := 4, pos := "outright.go:71", after := #[{ on := 12, ground := Ground.data }, { on := 14, ground := Ground.data }, { on := 10, ground := Ground.guard }], guard := some (10, true) }) (.bool false) (exec_bin .eql 23 _ _ _ rfl (.agg #[.int .i64 now.a.n, .int .i64 now.a.c]) (.agg #[.int .i64 x.b.n, .int .i64 x.b.c]) (.bool false) (by kernel_rfl) (by kernel_rfl) (guard_S _ (.inl rfl) _ _ _ _ _) (by rw [eqlS now.a x.b, q7]; try rfl)) (by kernel_rfl) ?_
                try simp only [Act.put, List.setIfInBounds_toArray, List.set_cons_zero, List.set_cons_succ]
                refine wp_takeW (o := { dst := some 123, op := Op.pick (Operand.tmp 117) (Operand.tmp 122) (Operand.const (Value.bool false)), type := 4, pos := "outright.go:71", after := #[{ on := 10, ground := Ground.data }, { on := 15, ground := Ground.data }], guard := none }) (.bool false) (by kernel_rfl) (by kernel_rfl) ?_
                try simp only [Act.put, List.setIfInBounds_toArray, List.set_cons_zero, List.set_cons_succ]
                refine wp_takeW (o := { dst := some 124, op := Op.move (Operand.tmp 123), type := 4, pos := "outright.go:71", after := #[{ on := 16, ground := Ground.data }, { on := 10, ground := Ground.chain }], guard := none }) (.bool false) (by kernel_rfl) (by kernel_rfl) ?_
                try simp only [Act.put, List.setIfInBounds_toArray, List.set_cons_zero, List.set_cons_succ]
                refine wp_skip (o := { dst := some 125, op := Op.fieldAddr 29 (Operand.tmp 5) 2, type := 0, pos := "outright.go:71", after := #[{ on := 17, ground := Ground.guard }], guard := some (17, true) }) (by kernel_rfl) ?_
                try simp only [Act.put, List.setIfInBounds_toArray, List.set_cons_zero, List.set_cons_succ]
                refine wp_skip (o := { dst := some 126, op := Op.load 27 (Operand.tmp 125), type := 27, pos := "outright.go:71", after := #[{ on := 18, ground := Ground.data }, { on := 17, ground := Ground.guard }], guard := some (17, true) }) (by kernel_rfl) ?_
                try simp only [Act.put, List.setIfInBounds_toArray, List.set_cons_zero, List.set_cons_succ]
                refine wp_skip (o := { dst := some 127, op := Op.fieldAddr 38 (Operand.tmp 7) 2, type := 0, pos := "outright.go:71", after := #[{ on := 17, ground := Ground.guard }], guard := some (17, true) }) (by kernel_rfl) ?_
                try simp only [Act.put, List.setIfInBounds_toArray, List.set_cons_zero, List.set_cons_succ]
                refine wp_skip (o := { dst := some 128, op := Op.load 27 (Operand.tmp 127), type := 27, pos := "outright.go:71", after := #[{ on := 20, ground := Ground.data }, { on := 17, ground := Ground.guard }], guard := some (17, true) }) (by kernel_rfl) ?_
                try simp only [Act.put, List.setIfInBounds_toArray, List.set_cons_zero, List.set_cons_succ]
                refine wp_skip (o := { dst := some 129, op := Op.binOp BinOp.eql 27 (Operand.tmp 126) (Operand.tmp 128) 27, type := 4, pos := "outright.go:71", after := #[{ on := 19, ground := Ground.data }, { on := 21, ground := Ground.data }, { on := 17, ground := Ground.guard }], guard := some (17, true) }) (by kernel_rfl) ?_
                try simp only [Act.put, List.setIfInBounds_toArray, List.set_cons_zero, List.set_cons_succ]
                refine wp_takeW (o := { dst := some 130, op := Op.pick (Operand.tmp 124) (Operand.tmp 129) (Operand.const (Value.bool false)), type := 4, pos := "outright.go:71", after := #[{ on := 17, ground := Ground.data }, { on := 22, ground := Ground.data }], guard := none }) (.bool false) (by kernel_rfl) (by kernel_rfl) ?_
                try simp only [Act.put, List.setIfInBounds_toArray, List.set_cons_zero, List.set_cons_succ]
                refine wp_takeW (o := { dst := some 8, op := Op.assign (Operand.tmp 130), type := 4, pos := "outright.go:71", after := #[{ on := 23, ground := Ground.data }, { on := 17, ground := Ground.chain }, { on := 0, ground := Ground.phase }, { on := 1, ground := Ground.phase }, { on := 2, ground := Ground.phase }, { on := 3, ground := Ground.phase }, { on := 4, ground := Ground.phase }, { on := 5, ground := Ground.phase }, { on := 6, ground := Ground.phase }, { on := 7, ground := Ground.phase }, { on := 8, ground := Ground.phase }, { on := 9, ground := Ground.phase }, { on := 10, ground := Ground.phase }, { on := 11, ground := Ground.phase }, { on := 12, ground := Ground.phase }, { on := 13, ground := Ground.phase }, { on := 14, ground := Ground.phase }, { on := 15, ground := Ground.phase }, { on := 16, ground := Ground.phase }, { on := 17, ground := Ground.phase }, { on := 18, ground := Ground.phase }, { on := 19, ground := Ground.phase }, { on := 20, ground := Ground.phase }, { on := 21, ground := Ground.phase }, { on := 22, ground := Ground.phase }, { on := 23, ground := Ground.phase }], guard := none }) (.bool false) (by kernel_rfl) (by kernel_rfl) ?_
                try simp only [Act.put, List.setIfInBounds_toArray, List.set_cons_zero, List.set_cons_succ]
                refine WL.nil ?_
                try simp only [Act.put, List.setIfInBounds_toArray, List.set_cons_zero, List.set_cons_succ]
                have hv : toldB i now m x = false := by first | (simp only [toldB, q1, q2, q3, q4, q5, q6, q7]; rfl) | simp [toldB, q1, q2, q3, q4, q5, q6, q7]
                go_wp2
                go_ret
                exact ⟨by rw [hv]; rfl, HK.out⟩
              · skip
                refine wp_takeW (o := { dst := some 122, op := Op.binOp BinOp.eql 23 (Operand.tmp 119) (Operand.tmp 121) 23, type := 4, pos := "outright.go:71", after := #[{ on := 12, ground := Ground.data }, { on := 14, ground := Ground.data }, { on := 10, ground := Ground.guard }], guard := some (10, true) }) (.bool true) (exec_bin .eql 23 _ _ _ rfl (.agg #[.int .i64 now.a.n, .int .i64 now.a.c]) (.agg #[.int .i64 x.b.n, .int .i64 x.b.c]) (.bool true) (by kernel_rfl) (by kernel_rfl) (guard_S _ (.inl rfl) _ _ _ _ _) (by rw [eqlS now.a x.b, q7]; try rfl)) (by kernel_rfl) ?_
                try simp only [Act.put, List.setIfInBounds_toArray, List.set_cons_zero, List.set_cons_succ]
                refine wp_takeW (o := { dst := some 123, op := Op.pick (Operand.tmp 117) (Operand.tmp 122) (Operand.const (Value.bool false)), type := 4, pos := "outright.go:71", after := #[{ on := 10, ground := Ground.data }, { on := 15, ground := Ground.data }], guard := none }) (.bool true) (by kernel_rfl) (by kernel_rfl) ?_
                try simp only [Act.put, List.setIfInBounds_toArray, List.set_cons_zero, List.set_cons_succ]
                refine wp_takeW (o := { dst := some 124, op := Op.move (Operand.tmp 123), type := 4, pos := "outright.go:71", after := #[{ on := 16, ground := Ground.data }, { on := 10, ground := Ground.chain }], guard := none }) (.bool true) (by kernel_rfl) (by kernel_rfl) ?_
                try simp only [Act.put, List.setIfInBounds_toArray, List.set_cons_zero, List.set_cons_succ]
                refine wp_takeW (o := { dst := some 125, op := Op.fieldAddr 29 (Operand.tmp 5) 2, type := 0, pos := "outright.go:71", after := #[{ on := 17, ground := Ground.guard }], guard := some (17, true) }) (.pointer (some ⟨N1, 4, none⟩)) (by kernel_rfl) (by kernel_rfl) ?_
                try simp only [Act.put, List.setIfInBounds_toArray, List.set_cons_zero, List.set_cons_succ]
                refine wp_takeW (o := { dst := some 126, op := Op.load 27 (Operand.tmp 125), type := 27, pos := "outright.go:71", after := #[{ on := 18, ground := Ground.data }, { on := 17, ground := Ground.guard }], guard := some (17, true) }) (.agg now.c.cells) (exec_load 27 _ rfl ⟨N1, 4, none⟩ (by kernel_rfl) (.agg now.c.cells) (load_IC HJ.out)) (by kernel_rfl) ?_
                try simp only [Act.put, List.setIfInBounds_toArray, List.set_cons_zero, List.set_cons_succ]
                refine wp_takeW (o := { dst := some 127, op := Op.fieldAddr 38 (Operand.tmp 7) 2, type := 0, pos := "outright.go:71", after := #[{ on := 17, ground := Ground.guard }], guard := some (17, true) }) (.pointer (some ⟨N3, 3, none⟩)) (by kernel_rfl) (by kernel_rfl) ?_
                try simp only [Act.put, List.setIfInBounds_toArray, List.set_cons_zero, List.set_cons_succ]
                refine wp_takeW (o := { dst := some 128, op := Op.load 27 (Operand.tmp 127), type := 27, pos := "outright.go:71", after := #[{ on := 20, ground := Ground.data }, { on := 17, ground := Ground.guard }], guard := some (17, true) }) (.agg x.c.cells) (exec_load 27 _ rfl ⟨N3, 3, none⟩ (by kernel_rfl) (.agg x.c.cells) (load_XC HX.out)) (by kernel_rfl) ?_
                try simp only [Act.put, List.setIfInBounds_toArray, List.set_cons_zero, List.set_cons_succ]
                cases q8 : (eqC now.c x.c)
                · skip
                  refine wp_takeW (o := { dst := some 129, op := Op.binOp BinOp.eql 27 (Operand.tmp 126) (Operand.tmp 128) 27, type := 4, pos := "outright.go:71", after := #[{ on := 19, ground := Ground.data }, { on := 21, ground := Ground.data }, { on := 17, ground := Ground.guard }], guard := some (17, true) }) (.bool false) (exec_bin .eql 27 _ _ _ rfl (.agg now.c.cells) (.agg x.c.cells) (.bool false) (by kernel_rfl) (by kernel_rfl) (guard_C _ (.inl rfl) _ _ _ _ _) (by rw [eqlC, q8]; try rfl)) (by kernel_rfl) ?_
                  try simp only [Act.put, List.setIfInBounds_toArray, List.set_cons_zero, List.set_cons_succ]
                  refine wp_takeW (o := { dst := some 130, op := Op.pick (Operand.tmp 124) (Operand.tmp 129) (Operand.const (Value.bool false)), type := 4, pos := "outright.go:71", after := #[{ on := 17, ground := Ground.data }, { on := 22, ground := Ground.data }], guard := none }) (.bool false) (by kernel_rfl) (by kernel_rfl) ?_
                  try simp only [Act.put, List.setIfInBounds_toArray, List.set_cons_zero, List.set_cons_succ]
                  refine wp_takeW (o := { dst := some 8, op := Op.assign (Operand.tmp 130), type := 4, pos := "outright.go:71", after := #[{ on := 23, ground := Ground.data }, { on := 17, ground := Ground.chain }, { on := 0, ground := Ground.phase }, { on := 1, ground := Ground.phase }, { on := 2, ground := Ground.phase }, { on := 3, ground := Ground.phase }, { on := 4, ground := Ground.phase }, { on := 5, ground := Ground.phase }, { on := 6, ground := Ground.phase }, { on := 7, ground := Ground.phase }, { on := 8, ground := Ground.phase }, { on := 9, ground := Ground.phase }, { on := 10, ground := Ground.phase }, { on := 11, ground := Ground.phase }, { on := 12, ground := Ground.phase }, { on := 13, ground := Ground.phase }, { on := 14, ground := Ground.phase }, { on := 15, ground := Ground.phase }, { on := 16, ground := Ground.phase }, { on := 17, ground := Ground.phase }, { on := 18, ground := Ground.phase }, { on := 19, ground := Ground.phase }, { on := 20, ground := Ground.phase }, { on := 21, ground := Ground.phase }, { on := 22, ground := Ground.phase }, { on := 23, ground := Ground.phase }], guard := none }) (.bool false) (by kernel_rfl) (by kernel_rfl) ?_
                  try simp only [Act.put, List.setIfInBounds_toArray, List.set_cons_zero, List.set_cons_succ]
                  refine WL.nil ?_
                  try simp only [Act.put, List.setIfInBounds_toArray, List.set_cons_zero, List.set_cons_succ]
                  have hv : toldB i now m x = false := by first | (simp only [toldB, q1, q2, q3, q4, q5, q6, q7, q8]; rfl) | simp [toldB, q1, q2, q3, q4, q5, q6, q7, q8]
                  go_wp2
                  go_ret
                  exact ⟨by rw [hv]; rfl, HK.out⟩
                · skip
                  refine wp_takeW (o := { dst := some 129, op := Op.binOp BinOp.eql 27 (Operand.tmp 126) (Operand.tmp 128) 27, type := 4, pos := "outright.go:71", after := #[{ on := 19, ground := Ground.data }, { on := 21, ground := Ground.data }, { on := 17, ground := Ground.guard }], guard := some (17, true) }) (.bool true) (exec_bin .eql 27 _ _ _ rfl (.agg now.c.cells) (.agg x.c.cells) (.bool true) (by kernel_rfl) (by kernel_rfl) (guard_C _ (.inl rfl) _ _ _ _ _) (by rw [eqlC, q8]; try rfl)) (by kernel_rfl) ?_
                  try simp only [Act.put, List.setIfInBounds_toArray, List.set_cons_zero, List.set_cons_succ]
                  refine wp_takeW (o := { dst := some 130, op := Op.pick (Operand.tmp 124) (Operand.tmp 129) (Operand.const (Value.bool false)), type := 4, pos := "outright.go:71", after := #[{ on := 17, ground := Ground.data }, { on := 22, ground := Ground.data }], guard := none }) (.bool true) (by kernel_rfl) (by kernel_rfl) ?_
                  try simp only [Act.put, List.setIfInBounds_toArray, List.set_cons_zero, List.set_cons_succ]
                  refine wp_takeW (o := { dst := some 8, op := Op.assign (Operand.tmp 130), type := 4, pos := "outright.go:71", after := #[{ on := 23, ground := Ground.data }, { on := 17, ground := Ground.chain }, { on := 0, ground := Ground.phase }, { on := 1, ground := Ground.phase }, { on := 2, ground := Ground.phase }, { on := 3, ground := Ground.phase }, { on := 4, ground := Ground.phase }, { on := 5, ground := Ground.phase }, { on := 6, ground := Ground.phase }, { on := 7, ground := Ground.phase }, { on := 8, ground := Ground.phase }, { on := 9, ground := Ground.phase }, { on := 10, ground := Ground.phase }, { on := 11, ground := Ground.phase }, { on := 12, ground := Ground.phase }, { on := 13, ground := Ground.phase }, { on := 14, ground := Ground.phase }, { on := 15, ground := Ground.phase }, { on := 16, ground := Ground.phase }, { on := 17, ground := Ground.phase }, { on := 18, ground := Ground.phase }, { on := 19, ground := Ground.phase }, { on := 20, ground := Ground.phase }, { on := 21, ground := Ground.phase }, { on := 22, ground := Ground.phase }, { on := 23, ground := Ground.phase }], guard := none }) (.bool true) (by kernel_rfl) (by kernel_rfl) ?_
                  try simp only [Act.put, List.setIfInBounds_toArray, List.set_cons_zero, List.set_cons_succ]
                  refine WL.nil ?_
                  try simp only [Act.put, List.setIfInBounds_toArray, List.set_cons_zero, List.set_cons_succ]
                  have hv : toldB i now m x = true := by first | (simp only [toldB, q1, q2, q3, q4, q5, q6, q7, q8]; rfl) | simp [toldB, q1, q2, q3, q4, q5, q6, q7, q8]
                  go_wp2
                  go_ret
                  exact ⟨by rw [hv]; rfl, HK.out⟩
      · skip
        refine wp_takeW (o := { dst := some 73, op := Op.binOp BinOp.eql 3 (Operand.tmp 46) (Operand.const (Value.int IntKind.i64 13)) 3, type := 4, pos := "outright.go:68", after := #[], guard := none }) (.bool true) (exec_bin .eql 3 _ _ _ rfl (.int .i64 m.k) (.int .i64 13) (.bool true) (by kernel_rfl) (by kernel_rfl) (by kernel_rfl) (by rw [eqlN, q3]; try rfl)) (by kernel_rfl) ?_
        try simp only [Act.put, List.setIfInBounds_toArray, List.set_cons_zero, List.set_cons_succ]
        refine wp_takeW (o := { dst := some 72, op := Op.assign (Operand.tmp 73), type := 4, pos := "outright.go:68", after := #[{ on := 0, ground := Ground.data }], guard := none }) (.bool true) (by kernel_rfl) (by kernel_rfl) ?_
        try simp only [Act.put, List.setIfInBounds_toArray, List.set_cons_zero, List.set_cons_succ]
        refine WL.nil ?_
        try simp only [Act.put, List.setIfInBounds_toArray, List.set_cons_zero, List.set_cons_succ]
        go_upto_region 9 with fail
        refine WL.start ?_
        refine wp_takeW (o := { dst := some 74, op := Op.fieldAddr 38 (Operand.tmp 7) 0, type := 0, pos := "outright.go:69", after := #[], guard := none }) (.pointer (some ⟨N3, 0, none⟩)) (by kernel_rfl) (by kernel_rfl) ?_
        try simp only [Act.put, List.setIfInBounds_toArray, List.set_cons_zero, List.set_cons_succ]
        refine wp_takeW (o := { dst := some 75, op := Op.load 3 (Operand.tmp 74), type := 3, pos := "outright.go:69", after := #[{ on := 0, ground := Ground.data }], guard := none }) (.int .i64 x.k) (exec_load 3 _ rfl ⟨N3, 0, none⟩ (by kernel_rfl) (.int .i64 x.k) (load_N (HX.out.cell 0))) (by kernel_rfl) ?_
        try simp only [Act.put, List.setIfInBounds_toArray, List.set_cons_zero, List.set_cons_succ]
        cases q9 : (x.k == 1)
        · skip
          refine wp_takeW (o := { dst := some 76, op := Op.binOp BinOp.eql 3 (Operand.tmp 75) (Operand.const (Value.int IntKind.i64 1)) 3, type := 4, pos := "outright.go:69", after := #[{ on := 1, ground := Ground.data }], guard := none }) (.bool false) (exec_bin .eql 3 _ _ _ rfl (.int .i64 x.k) (.int .i64 1) (.bool false) (by kernel_rfl) (by kernel_rfl) (by kernel_rfl) (by rw [eqlN, q9]; try rfl)) (by kernel_rfl) ?_
          try simp only [Act.put, List.setIfInBounds_toArray, List.set_cons_zero, List.set_cons_succ]
          refine wp_takeW (o := { dst := some 77, op := Op.move (Operand.tmp 76), type := 4, pos := "outright.go:69", after := #[{ on := 2, ground := Ground.data }], guard := none }) (.bool false) (by kernel_rfl) (by kernel_rfl) ?_
          try simp only [Act.put, List.setIfInBounds_toArray, List.set_cons_zero, List.set_cons_succ]
          refine wp_skip (o := { dst := some 78, op := Op.fieldAddr 52 (Operand.tmp 6) 6, type := 0, pos := "outright.go:69", after := #[{ on := 3, ground := Ground.guard }], guard := some (3, true) }) (by kernel_rfl) ?_
          try simp only [Act.put, List.setIfInBounds_toArray, List.set_cons_zero, List.set_cons_succ]
          refine wp_skip (o := { dst := some 79, op := Op.load 23 (Operand.tmp 78), type := 23, pos := "outright.go:69", after := #[{ on := 4, ground := Ground.data }, { on := 3, ground := Ground.guard }], guard := some (3, true) }) (by kernel_rfl) ?_
          try simp only [Act.put, List.setIfInBounds_toArray, List.set_cons_zero, List.set_cons_succ]
          refine wp_skip (o := { dst := some 80, op := Op.fieldAddr 38 (Operand.tmp 7) 1, type := 0, pos := "outright.go:69", after := #[{ on := 3, ground := Ground.guard }], guard := some (3, true) }) (by kernel_rfl) ?_
          try simp only [Act.put, List.setIfInBounds_toArray, List.set_cons_zero, List.set_cons_succ]
          refine wp_skip (o := { dst := some 81, op := Op.load 23 (Operand.tmp 80), type := 23, pos := "outright.go:69", after := #[{ on := 6, ground := Ground.data }, { on := 3, ground := Ground.guard }], guard := some (3, true) }) (by kernel_rfl) ?_
          try simp only [Act.put, List.setIfInBounds_toArray, List.set_cons_zero, List.set_cons_succ]
          refine wp_skip (o := { dst := some 82, op := Op.binOp BinOp.eql 23 (Operand.tmp 79) (Operand.tmp 81) 23, type := 4, pos := "outright.go:69", after := #[{ on := 5, ground := Ground.data }, { on := 7, ground := Ground.data }, { on := 3, ground := Ground.guard }], guard := some (3, true) }) (by kernel_rfl) ?_
          try simp only [Act.put, List.setIfInBounds_toArray, List.set_cons_zero, List.set_cons_succ]
          refine wp_takeW (o := { dst := some 83, op := Op.pick (Operand.tmp 77) (Operand.tmp 82) (Operand.const (Value.bool false)), type := 4, pos := "outright.go:69", after := #[{ on := 3, ground := Ground.data }, { on := 8, ground := Ground.data }], guard := none }) (.bool false) (by kernel_rfl) (by kernel_rfl) ?_
          try simp only [Act.put, List.setIfInBounds_toArray, List.set_cons_zero, List.set_cons_succ]
          refine wp_takeW (o := { dst := some 84, op := Op.move (Operand.tmp 83), type := 4, pos := "outright.go:69", after := #[{ on := 9, ground := Ground.data }, { on := 3, ground := Ground.chain }], guard := none }) (.bool false) (by kernel_rfl) (by kernel_rfl) ?_
          try simp only [Act.put, List.setIfInBounds_toArray, List.set_cons_zero, List.set_cons_succ]
          refine wp_skip (o := { dst := some 85, op := Op.fieldAddr 29 (Operand.tmp 5) 0, type := 0, pos := "outright.go:69", after := #[{ on := 10, ground := Ground.guard }], guard := some (10, true) }) (by kernel_rfl) ?_
          try simp only [Act.put, List.setIfInBounds_toArray, List.set_cons_zero, List.set_cons_succ]
          refine wp_skip (o := { dst := some 86, op := Op.load 23 (Operand.tmp 85), type := 23, pos := "outright.go:69", after := #[{ on := 11, ground := Ground.data }, { on := 10, ground := Ground.guard }], guard := some (10, true) }) (by kernel_rfl) ?_
          try simp only [Act.put, List.setIfInBounds_toArray, List.set_cons_zero, List.set_cons_succ]
          refine wp_skip (o := { dst := some 87, op := Op.fieldAddr 38 (Operand.tmp 7) 1, type := 0, pos := "outright.go:69", after := #[{ on := 10, ground := Ground.guard }], guard := some (10, true) }) (by kernel_rfl) ?_
          try simp only [Act.put, List.setIfInBounds_toArray, List.set_cons_zero, List.set_cons_succ]
          refine wp_skip (o := { dst := some 88, op := Op.load 23 (Operand.tmp 87), type := 23, pos := "outright.go:69", after := #[{ on := 13, ground := Ground.data }, { on := 10, ground := Ground.guard }], guard := some (10, true) }) (by kernel_rfl) ?_
          try simp only [Act.put, List.setIfInBounds_toArray, List.set_cons_zero, List.set_cons_succ]
          refine wp_skip (o := { dst := some 89, op := Op.binOp BinOp.eql 23 (Operand.tmp 86) (Operand.tmp 88) 23, type := 4, pos := "outright.go:69", after := #[{ on := 12, ground := Ground.data }, { on := 14, ground := Ground.data }, { on := 10, ground := Ground.guard }], guard := some (10, true) }) (by kernel_rfl) ?_
          try simp only [Act.put, List.setIfInBounds_toArray, List.set_cons_zero, List.set_cons_succ]
          refine wp_takeW (o := { dst := some 90, op := Op.pick (Operand.tmp 84) (Operand.tmp 89) (Operand.const (Value.bool false)), type := 4, pos := "outright.go:69", after := #[{ on := 10, ground := Ground.data }, { on := 15, ground := Ground.data }], guard := none }) (.bool false) (by kernel_rfl) (by kernel_rfl) ?_
          try simp only [Act.put, List.setIfInBounds_toArray, List.set_cons_zero, List.set_cons_succ]
          refine wp_takeW (o := { dst := some 91, op := Op.move (Operand.tmp 90), type := 4, pos := "outright.go:69", after := #[{ on := 16, ground := Ground.data }, { on := 10, ground := Ground.chain }], guard := none }) (.bool false) (by kernel_rfl) (by kernel_rfl) ?_
          try simp only [Act.put, List.setIfInBounds_toArray, List.set_cons_zero, List.set_cons_succ]
          refine wp_skip (o := { dst := some 92, op := Op.fieldAddr 52 (Operand.tmp 6) 7, type := 0, pos := "outright.go:69", after := #[{ on := 17, ground := Ground.guard }], guard := some (17, true) }) (by kernel_rfl) ?_
          try simp only [Act.put, List.setIfInBounds_toArray, List.set_cons_zero, List.set_cons_succ]
          refine wp_skip (o := { dst := some 93, op := Op.load 23 (Operand.tmp 92), type := 23, pos := "outright.go:69", after := #[{ on := 18, ground := Ground.data }, { on := 17, ground := Ground.guard }], guard := some (17, true) }) (by kernel_rfl) ?_
          try simp only [Act.put, List.setIfInBounds_toArray, List.set_cons_zero, List.set_cons_succ]
          refine wp_skip (o := { dst := some 94, op := Op.fieldAddr 29 (Operand.tmp 5) 1, type := 0, pos := "outright.go:69", after := #[{ on := 17, ground := Ground.guard }], guard := some (17, true) }) (by kernel_rfl) ?_
          try simp only [Act.put, List.setIfInBounds_toArray, List.set_cons_zero, List.set_cons_succ]
          refine wp_skip (o := { dst := some 95, op := Op.load 23 (Operand.tmp 94), type := 23, pos := "outright.go:69", after := #[{ on := 20, ground := Ground.data }, { on := 17, ground := Ground.guard }], guard := some (17, true) }) (by kernel_rfl) ?_
          try simp only [Act.put, List.setIfInBounds_toArray, List.set_cons_zero, List.set_cons_succ]
          refine wp_skip (o := { dst := some 96, op := Op.binOp BinOp.eql 23 (Operand.tmp 93) (Operand.tmp 95) 23, type := 4, pos := "outright.go:69", after := #[{ on := 19, ground := Ground.data }, { on := 21, ground := Ground.data }, { on := 17, ground := Ground.guard }], guard := some (17, true) }) (by kernel_rfl) ?_
          try simp only [Act.put, List.setIfInBounds_toArray, List.set_cons_zero, List.set_cons_succ]
          refine wp_takeW (o := { dst := some 97, op := Op.pick (Operand.tmp 91) (Operand.tmp 96) (Operand.const (Value.bool false)), type := 4, pos := "outright.go:69", after := #[{ on := 17, ground := Ground.data }, { on := 22, ground := Ground.data }], guard := none }) (.bool false) (by kernel_rfl) (by kernel_rfl) ?_
          try simp only [Act.put, List.setIfInBounds_toArray, List.set_cons_zero, List.set_cons_succ]
          refine wp_takeW (o := { dst := some 98, op := Op.move (Operand.tmp 97), type := 4, pos := "outright.go:69", after := #[{ on := 23, ground := Ground.data }, { on := 17, ground := Ground.chain }], guard := none }) (.bool false) (by kernel_rfl) (by kernel_rfl) ?_
          try simp only [Act.put, List.setIfInBounds_toArray, List.set_cons_zero, List.set_cons_succ]
          refine wp_skip (o := { dst := some 99, op := Op.fieldAddr 52 (Operand.tmp 6) 9, type := 0, pos := "outright.go:69", after := #[{ on := 24, ground := Ground.guard }], guard := some (24, true) }) (by kernel_rfl) ?_
          try simp only [Act.put, List.setIfInBounds_toArray, List.set_cons_zero, List.set_cons_succ]
          refine wp_skip (o := { dst := some 100, op := Op.load 27 (Operand.tmp 99), type := 27, pos := "outright.go:69", after := #[{ on := 25, ground := Ground.data }, { on := 24, ground := Ground.guard }], guard := some (24, true) }) (by kernel_rfl) ?_
          try simp only [Act.put, List.setIfInBounds_toArray, List.set_cons_zero, List.set_cons_succ]
          refine wp_skip (o := { dst := some 101, op := Op.fieldAddr 29 (Operand.tmp 5) 2, type := 0, pos := "outright.go:69", after := #[{ on := 24, ground := Ground.guard }], guard := some (24, true) }) (by kernel_rfl) ?_
          try simp only [Act.put, List.setIfInBounds_toArray, List.set_cons_zero, List.set_cons_succ]
          refine wp_skip (o := { dst := some 102, op := Op.load 27 (Operand.tmp 101), type := 27, pos := "outright.go:69", after := #[{ on := 27, ground := Ground.data }, { on := 24, ground := Ground.guard }], guard := some (24, true) }) (by kernel_rfl) ?_
          try simp only [Act.put, List.setIfInBounds_toArray, List.set_cons_zero, List.set_cons_succ]
          refine wp_skip (o := { dst := some 103, op := Op.binOp BinOp.eql 27 (Operand.tmp 100) (Operand.tmp 102) 27, type := 4, pos := "outright.go:69", after := #[{ on := 26, ground := Ground.data }, { on := 28, ground := Ground.data }, { on := 24, ground := Ground.guard }], guard := some (24, true) }) (by kernel_rfl) ?_
          try simp only [Act.put, List.setIfInBounds_toArray, List.set_cons_zero, List.set_cons_succ]
          refine wp_takeW (o := { dst := some 104, op := Op.pick (Operand.tmp 98) (Operand.tmp 103) (Operand.const (Value.bool false)), type := 4, pos := "outright.go:69", after := #[{ on := 24, ground := Ground.data }, { on := 29, ground := Ground.data }], guard := none }) (.bool false) (by kernel_rfl) (by kernel_rfl) ?_
          try simp only [Act.put, List.setIfInBounds_toArray, List.set_cons_zero, List.set_cons_succ]
          refine wp_takeW (o := { dst := some 8, op := Op.assign (Operand.tmp 104), type := 4, pos := "outright.go:69", after := #[{ on := 30, ground := Ground.data }, { on := 24, ground := Ground.chain }, { on := 0, ground := Ground.phase }, { on := 1, ground := Ground.phase }, { on := 2, ground := Ground.phase }, { on := 3, ground := Ground.phase }, { on := 4, ground := Ground.phase }, { on := 5, ground := Ground.phase }, { on := 6, ground := Ground.phase }, { on := 7, ground := Ground.phase }, { on := 8, ground := Ground.phase }, { on := 9, ground := Ground.phase }, { on := 10, ground := Ground.phase }, { on := 11, ground := Ground.phase }, { on := 12, ground := Ground.phase }, { on := 13, ground := Ground.phase }, { on := 14, ground := Ground.phase }, { on := 15, ground := Ground.phase }, { on := 16, ground := Ground.phase }, { on := 17, ground := Ground.phase }, { on := 18, ground := Ground.phase }, { on := 19, ground := Ground.phase }, { on := 20, ground := Ground.phase }, { on := 21, ground := Ground.phase }, { on := 22, ground := Ground.phase }, { on := 23, ground := Ground.phase }, { on := 24, ground := Ground.phase }, { on := 25, ground := Ground.phase }, { on := 26, ground := Ground.phase }, { on := 27, ground := Ground.phase }, { on := 28, ground := Ground.phase }, { on := 29, ground := Ground.phase }, { on := 30, ground := Ground.phase }], guard := none }) (.bool false) (by kernel_rfl) (by kernel_rfl) ?_
          try simp only [Act.put, List.setIfInBounds_toArray, List.set_cons_zero, List.set_cons_succ]
          refine WL.nil ?_
          try simp only [Act.put, List.setIfInBounds_toArray, List.set_cons_zero, List.set_cons_succ]
          have hv : toldB i now m x = false := by first | (simp only [toldB, q1, q2, q3, q9]; rfl) | simp [toldB, q1, q2, q3, q9]
          go_wp2
          go_ret
          exact ⟨by rw [hv]; rfl, HK.out⟩
        · skip
          refine wp_takeW (o := { dst := some 76, op := Op.binOp BinOp.eql 3 (Operand.tmp 75) (Operand.const (Value.int IntKind.i64 1)) 3, type := 4, pos := "outright.go:69", after := #[{ on := 1, ground := Ground.data }], guard := none }) (.bool true) (exec_bin .eql 3 _ _ _ rfl (.int .i64 x.k) (.int .i64 1) (.bool true) (by kernel_rfl) (by kernel_rfl) (by kernel_rfl) (by rw [eqlN, q9]; try rfl)) (by kernel_rfl) ?_
          try simp only [Act.put, List.setIfInBounds_toArray, List.set_cons_zero, List.set_cons_succ]
          refine wp_takeW (o := { dst := some 77, op := Op.move (Operand.tmp 76), type := 4, pos := "outright.go:69", after := #[{ on := 2, ground := Ground.data }], guard := none }) (.bool true) (by kernel_rfl) (by kernel_rfl) ?_
          try simp only [Act.put, List.setIfInBounds_toArray, List.set_cons_zero, List.set_cons_succ]
          refine wp_takeW (o := { dst := some 78, op := Op.fieldAddr 52 (Operand.tmp 6) 6, type := 0, pos := "outright.go:69", after := #[{ on := 3, ground := Ground.guard }], guard := some (3, true) }) (.pointer (some ⟨N2, 11, none⟩)) (by kernel_rfl) (by kernel_rfl) ?_
          try simp only [Act.put, List.setIfInBounds_toArray, List.set_cons_zero, List.set_cons_succ]
          refine wp_takeW (o := { dst := some 79, op := Op.load 23 (Operand.tmp 78), type := 23, pos := "outright.go:69", after := #[{ on := 4, ground := Ground.data }, { on := 3, ground := Ground.guard }], guard := some (3, true) }) (.agg #[.int .i64 m.s.n, .int .i64 m.s.c]) (exec_load 23 _ rfl ⟨N2, 11, none⟩ (by kernel_rfl) (.agg #[.int .i64 m.s.n, .int .i64 m.s.c]) (load_S HM.out m.partS)) (by kernel_rfl) ?_
          try simp only [Act.put, List.setIfInBounds_toArray, List.set_cons_zero, List.set_cons_succ]
          refine wp_takeW (o := { dst := some 80, op := Op.fieldAddr 38 (Operand.tmp 7) 1, type := 0, pos := "outright.go:69", after := #[{ on := 3, ground := Ground.guard }], guard := some (3, true) }) (.pointer (some ⟨N3, 1, none⟩)) (by kernel_rfl) (by kernel_rfl) ?_
          try simp only [Act.put, List.setIfInBounds_toArray, List.set_cons_zero, List.set_cons_succ]
          refine wp_takeW (o := { dst := some 81, op := Op.load 23 (Operand.tmp 80), type := 23, pos := "outright.go:69", after := #[{ on := 6, ground := Ground.data }, { on := 3, ground := Ground.guard }], guard := some (3, true) }) (.agg #[.int .i64 x.b.n, .int .i64 x.b.c]) (exec_load 23 _ rfl ⟨N3, 1, none⟩ (by kernel_rfl) (.agg #[.int .i64 x.b.n, .int .i64 x.b.c]) (load_S HX.out x.partB)) (by kernel_rfl) ?_
          try simp only [Act.put, List.setIfInBounds_toArray, List.set_cons_zero, List.set_cons_succ]
          cases q10 : (eqS m.s x.b)
          · skip
            refine wp_takeW (o := { dst := some 82, op := Op.binOp BinOp.eql 23 (Operand.tmp 79) (Operand.tmp 81) 23, type := 4, pos := "outright.go:69", after := #[{ on := 5, ground := Ground.data }, { on := 7, ground := Ground.data }, { on := 3, ground := Ground.guard }], guard := some (3, true) }) (.bool false) (exec_bin .eql 23 _ _ _ rfl (.agg #[.int .i64 m.s.n, .int .i64 m.s.c]) (.agg #[.int .i64 x.b.n, .int .i64 x.b.c]) (.bool false) (by kernel_rfl) (by kernel_rfl) (guard_S _ (.inl rfl) _ _ _ _ _) (by rw [eqlS m.s x.b, q10]; try rfl)) (by kernel_rfl) ?_
            try simp only [Act.put, List.setIfInBounds_toArray, List.set_cons_zero, List.set_cons_succ]
            refine wp_takeW (o := { dst := some 83, op := Op.pick (Operand.tmp 77) (Operand.tmp 82) (Operand.const (Value.bool false)), type := 4, pos := "outright.go:69", after := #[{ on := 3, ground := Ground.data }, { on := 8, ground := Ground.data }], guard := none }) (.bool false) (by kernel_rfl) (by kernel_rfl) ?_
            try simp only [Act.put, List.setIfInBounds_toArray, List.set_cons_zero, List.set_cons_succ]
            refine wp_takeW (o := { dst := some 84, op := Op.move (Operand.tmp 83), type := 4, pos := "outright.go:69", after := #[{ on := 9, ground := Ground.data }, { on := 3, ground := Ground.chain }], guard := none }) (.bool false) (by kernel_rfl) (by kernel_rfl) ?_
            try simp only [Act.put, List.setIfInBounds_toArray, List.set_cons_zero, List.set_cons_succ]
            refine wp_skip (o := { dst := some 85, op := Op.fieldAddr 29 (Operand.tmp 5) 0, type := 0, pos := "outright.go:69", after := #[{ on := 10, ground := Ground.guard }], guard := some (10, true) }) (by kernel_rfl) ?_
            try simp only [Act.put, List.setIfInBounds_toArray, List.set_cons_zero, List.set_cons_succ]
            refine wp_skip (o := { dst := some 86, op := Op.load 23 (Operand.tmp 85), type := 23, pos := "outright.go:69", after := #[{ on := 11, ground := Ground.data }, { on := 10, ground := Ground.guard }], guard := some (10, true) }) (by kernel_rfl) ?_
            try simp only [Act.put, List.setIfInBounds_toArray, List.set_cons_zero, List.set_cons_succ]
            refine wp_skip (o := { dst := some 87, op := Op.fieldAddr 38 (Operand.tmp 7) 1, type := 0, pos := "outright.go:69", after := #[{ on := 10, ground := Ground.guard }], guard := some (10, true) }) (by kernel_rfl) ?_
            try simp only [Act.put, List.setIfInBounds_toArray, List.set_cons_zero, List.set_cons_succ]
            refine wp_skip (o := { dst := some 88, op := Op.load 23 (Operand.tmp 87), type := 23, pos := "outright.go:69", after := #[{ on := 13, ground := Ground.data }, { on := 10, ground := Ground.guard }], guard := some (10, true) }) (by kernel_rfl) ?_
            try simp only [Act.put, List.setIfInBounds_toArray, List.set_cons_zero, List.set_cons_succ]
            refine wp_skip (o := { dst := some 89, op := Op.binOp BinOp.eql 23 (Operand.tmp 86) (Operand.tmp 88) 23, type := 4, pos := "outright.go:69", after := #[{ on := 12, ground := Ground.data }, { on := 14, ground := Ground.data }, { on := 10, ground := Ground.guard }], guard := some (10, true) }) (by kernel_rfl) ?_
            try simp only [Act.put, List.setIfInBounds_toArray, List.set_cons_zero, List.set_cons_succ]
            refine wp_takeW (o := { dst := some 90, op := Op.pick (Operand.tmp 84) (Operand.tmp 89) (Operand.const (Value.bool false)), type := 4, pos := "outright.go:69", after := #[{ on := 10, ground := Ground.data }, { on := 15, ground := Ground.data }], guard := none }) (.bool false) (by kernel_rfl) (by kernel_rfl) ?_
            try simp only [Act.put, List.setIfInBounds_toArray, List.set_cons_zero, List.set_cons_succ]
            refine wp_takeW (o := { dst := some 91, op := Op.move (Operand.tmp 90), type := 4, pos := "outright.go:69", after := #[{ on := 16, ground := Ground.data }, { on := 10, ground := Ground.chain }], guard := none }) (.bool false) (by kernel_rfl) (by kernel_rfl) ?_
            try simp only [Act.put, List.setIfInBounds_toArray, List.set_cons_zero, List.set_cons_succ]
            refine wp_skip (o := { dst := some 92, op := Op.fieldAddr 52 (Operand.tmp 6) 7, type := 0, pos := "outright.go:69", after := #[{ on := 17, ground := Ground.guard }], guard := some (17, true) }) (by kernel_rfl) ?_
            try simp only [Act.put, List.setIfInBounds_toArray, List.set_cons_zero, List.set_cons_succ]
            refine wp_skip (o := { dst := some 93, op := Op.load 23 (Operand.tmp 92), type := 23, pos := "outright.go:69", after := #[{ on := 18, ground := Ground.data }, { on := 17, ground := Ground.guard }], guard := some (17, true) }) (by kernel_rfl) ?_
            try simp only [Act.put, List.setIfInBounds_toArray, List.set_cons_zero, List.set_cons_succ]
            refine wp_skip (o := { dst := some 94, op := Op.fieldAddr 29 (Operand.tmp 5) 1, type := 0, pos := "outright.go:69", after := #[{ on := 17, ground := Ground.guard }], guard := some (17, true) }) (by kernel_rfl) ?_
            try simp only [Act.put, List.setIfInBounds_toArray, List.set_cons_zero, List.set_cons_succ]
            refine wp_skip (o := { dst := some 95, op := Op.load 23 (Operand.tmp 94), type := 23, pos := "outright.go:69", after := #[{ on := 20, ground := Ground.data }, { on := 17, ground := Ground.guard }], guard := some (17, true) }) (by kernel_rfl) ?_
            try simp only [Act.put, List.setIfInBounds_toArray, List.set_cons_zero, List.set_cons_succ]
            refine wp_skip (o := { dst := some 96, op := Op.binOp BinOp.eql 23 (Operand.tmp 93) (Operand.tmp 95) 23, type := 4, pos := "outright.go:69", after := #[{ on := 19, ground := Ground.data }, { on := 21, ground := Ground.data }, { on := 17, ground := Ground.guard }], guard := some (17, true) }) (by kernel_rfl) ?_
            try simp only [Act.put, List.setIfInBounds_toArray, List.set_cons_zero, List.set_cons_succ]
            refine wp_takeW (o := { dst := some 97, op := Op.pick (Operand.tmp 91) (Operand.tmp 96) (Operand.const (Value.bool false)), type := 4, pos := "outright.go:69", after := #[{ on := 17, ground := Ground.data }, { on := 22, ground := Ground.data }], guard := none }) (.bool false) (by kernel_rfl) (by kernel_rfl) ?_
            try simp only [Act.put, List.setIfInBounds_toArray, List.set_cons_zero, List.set_cons_succ]
            refine wp_takeW (o := { dst := some 98, op := Op.move (Operand.tmp 97), type := 4, pos := "outright.go:69", after := #[{ on := 23, ground := Ground.data }, { on := 17, ground := Ground.chain }], guard := none }) (.bool false) (by kernel_rfl) (by kernel_rfl) ?_
            try simp only [Act.put, List.setIfInBounds_toArray, List.set_cons_zero, List.set_cons_succ]
            refine wp_skip (o := { dst := some 99, op := Op.fieldAddr 52 (Operand.tmp 6) 9, type := 0, pos := "outright.go:69", after := #[{ on := 24, ground := Ground.guard }], guard := some (24, true) }) (by kernel_rfl) ?_
            try simp only [Act.put, List.setIfInBounds_toArray, List.set_cons_zero, List.set_cons_succ]
            refine wp_skip (o := { dst := some 100, op := Op.load 27 (Operand.tmp 99), type := 27, pos := "outright.go:69", after := #[{ on := 25, ground := Ground.data }, { on := 24, ground := Ground.guard }], guard := some (24, true) }) (by kernel_rfl) ?_
            try simp only [Act.put, List.setIfInBounds_toArray, List.set_cons_zero, List.set_cons_succ]
            refine wp_skip (o := { dst := some 101, op := Op.fieldAddr 29 (Operand.tmp 5) 2, type := 0, pos := "outright.go:69", after := #[{ on := 24, ground := Ground.guard }], guard := some (24, true) }) (by kernel_rfl) ?_
            try simp only [Act.put, List.setIfInBounds_toArray, List.set_cons_zero, List.set_cons_succ]
            refine wp_skip (o := { dst := some 102, op := Op.load 27 (Operand.tmp 101), type := 27, pos := "outright.go:69", after := #[{ on := 27, ground := Ground.data }, { on := 24, ground := Ground.guard }], guard := some (24, true) }) (by kernel_rfl) ?_
            try simp only [Act.put, List.setIfInBounds_toArray, List.set_cons_zero, List.set_cons_succ]
            refine wp_skip (o := { dst := some 103, op := Op.binOp BinOp.eql 27 (Operand.tmp 100) (Operand.tmp 102) 27, type := 4, pos := "outright.go:69", after := #[{ on := 26, ground := Ground.data }, { on := 28, ground := Ground.data }, { on := 24, ground := Ground.guard }], guard := some (24, true) }) (by kernel_rfl) ?_
            try simp only [Act.put, List.setIfInBounds_toArray, List.set_cons_zero, List.set_cons_succ]
            refine wp_takeW (o := { dst := some 104, op := Op.pick (Operand.tmp 98) (Operand.tmp 103) (Operand.const (Value.bool false)), type := 4, pos := "outright.go:69", after := #[{ on := 24, ground := Ground.data }, { on := 29, ground := Ground.data }], guard := none }) (.bool false) (by kernel_rfl) (by kernel_rfl) ?_
            try simp only [Act.put, List.setIfInBounds_toArray, List.set_cons_zero, List.set_cons_succ]
            refine wp_takeW (o := { dst := some 8, op := Op.assign (Operand.tmp 104), type := 4, pos := "outright.go:69", after := #[{ on := 30, ground := Ground.data }, { on := 24, ground := Ground.chain }, { on := 0, ground := Ground.phase }, { on := 1, ground := Ground.phase }, { on := 2, ground := Ground.phase }, { on := 3, ground := Ground.phase }, { on := 4, ground := Ground.phase }, { on := 5, ground := Ground.phase }, { on := 6, ground := Ground.phase }, { on := 7, ground := Ground.phase }, { on := 8, ground := Ground.phase }, { on := 9, ground := Ground.phase }, { on := 10, ground := Ground.phase }, { on := 11, ground := Ground.phase }, { on := 12, ground := Ground.phase }, { on := 13, ground := Ground.phase }, { on := 14, ground := Ground.phase }, { on := 15, ground := Ground.phase }, { on := 16, ground := Ground.phase }, { on := 17, ground := Ground.phase }, { on := 18, ground := Ground.phase }, { on := 19, ground := Ground.phase }, { on := 20, ground := Ground.phase }, { on := 21, ground := Ground.phase }, { on := 22, ground := Ground.phase }, { on := 23, ground := Ground.phase }, { on := 24, ground := Ground.phase }, { on := 25, ground := Ground.phase }, { on := 26, ground := Ground.phase }, { on := 27, ground := Ground.phase }, { on := 28, ground := Ground.phase }, { on := 29, ground := Ground.phase }, { on := 30, ground := Ground.phase }], guard := none }) (.bool false) (by kernel_rfl) (by kernel_rfl) ?_
            try simp only [Act.put, List.setIfInBounds_toArray, List.set_cons_zero, List.set_cons_succ]
            refine WL.nil ?_
            try simp only [Act.put, List.setIfInBounds_toArray, List.set_cons_zero, List.set_cons_succ]
            have hv : toldB i now m x = false := by first | (simp only [toldB, q1, q2, q3, q9, q10]; rfl) | simp [toldB, q1, q2, q3, q9, q10]
            go_wp2
            go_ret
            exact ⟨by rw [hv]; rfl, HK.out⟩
          · skip
            refine wp_takeW (o := { dst := some 82, op := Op.binOp BinOp.eql 23 (Operand.tmp 79) (Operand.tmp 81) 23, type := 4, pos := "outright.go:69", after := #[{ on := 5, ground := Ground.data }, { on := 7, ground := Ground.data }, { on := 3, ground := Ground.guard }], guard := some (3, true) }) (.bool true) (exec_bin .eql 23 _ _ _ rfl (.agg #[.int .i64 m.s.n, .int .i64 m.s.c]) (.agg #[.int .i64 x.b.n, .int .i64 x.b.c]) (.bool true) (by kernel_rfl) (by kernel_rfl) (guard_S _ (.inl rfl) _ _ _ _ _) (by rw [eqlS m.s x.b, q10]; try rfl)) (by kernel_rfl) ?_
            try simp only [Act.put, List.setIfInBounds_toArray, List.set_cons_zero, List.set_cons_succ]
            refine wp_takeW (o := { dst := some 83, op := Op.pick (Operand.tmp 77) (Operand.tmp 82) (Operand.const (Value.bool false)), type := 4, pos := "outright.go:69", after := #[{ on := 3, ground := Ground.data }, { on := 8, ground := Ground.data }], guard := none }) (.bool true) (by kernel_rfl) (by kernel_rfl) ?_
            try simp only [Act.put, List.setIfInBounds_toArray, List.set_cons_zero, List.set_cons_succ]
            refine wp_takeW (o := { dst := some 84, op := Op.move (Operand.tmp 83), type := 4, pos := "outright.go:69", after := #[{ on := 9, ground := Ground.data }, { on := 3, ground := Ground.chain }], guard := none }) (.bool true) (by kernel_rfl) (by kernel_rfl) ?_
            try simp only [Act.put, List.setIfInBounds_toArray, List.set_cons_zero, List.set_cons_succ]
            refine wp_takeW (o := { dst := some 85, op := Op.fieldAddr 29 (Operand.tmp 5) 0, type := 0, pos := "outright.go:69", after := #[{ on := 10, ground := Ground.guard }], guard := some (10, true) }) (.pointer (some ⟨N1, 0, none⟩)) (by kernel_rfl) (by kernel_rfl) ?_
            try simp only [Act.put, List.setIfInBounds_toArray, List.set_cons_zero, List.set_cons_succ]
            refine wp_takeW (o := { dst := some 86, op := Op.load 23 (Operand.tmp 85), type := 23, pos := "outright.go:69", after := #[{ on := 11, ground := Ground.data }, { on := 10, ground := Ground.guard }], guard := some (10, true) }) (.agg #[.int .i64 now.p.n, .int .i64 now.p.c]) (exec_load 23 _ rfl ⟨N1, 0, none⟩ (by kernel_rfl) (.agg #[.int .i64 now.p.n, .int .i64 now.p.c]) (load_S HJ.out now.partP)) (by kernel_rfl) ?_
            try simp only [Act.put, List.setIfInBounds_toArray, List.set_cons_zero, List.set_cons_succ]
            refine wp_takeW (o := { dst := some 87, op := Op.fieldAddr 38 (Operand.tmp 7) 1, type := 0, pos := "outright.go:69", after := #[{ on := 10, ground := Ground.guard }], guard := some (10, true) }) (.pointer (some ⟨N3, 1, none⟩)) (by kernel_rfl) (by kernel_rfl) ?_
            try simp only [Act.put, List.setIfInBounds_toArray, List.set_cons_zero, List.set_cons_succ]
            refine wp_takeW (o := { dst := some 88, op := Op.load 23 (Operand.tmp 87), type := 23, pos := "outright.go:69", after := #[{ on := 13, ground := Ground.data }, { on := 10, ground := Ground.guard }], guard := some (10, true) }) (.agg #[.int .i64 x.b.n, .int .i64 x.b.c]) (exec_load 23 _ rfl ⟨N3, 1, none⟩ (by kernel_rfl) (.agg #[.int .i64 x.b.n, .int .i64 x.b.c]) (load_S HX.out x.partB)) (by kernel_rfl) ?_
            try simp only [Act.put, List.setIfInBounds_toArray, List.set_cons_zero, List.set_cons_succ]
            cases q11 : (eqS now.p x.b)
            · skip
              refine wp_takeW (o := { dst := some 89, op := Op.binOp BinOp.eql 23 (Operand.tmp 86) (Operand.tmp 88) 23, type := 4, pos := "outright.go:69", after := #[{ on := 12, ground := Ground.data }, { on := 14, ground := Ground.data }, { on := 10, ground := Ground.guard }], guard := some (10, true) }) (.bool false) (exec_bin .eql 23 _ _ _ rfl (.agg #[.int .i64 now.p.n, .int .i64 now.p.c]) (.agg #[.int .i64 x.b.n, .int .i64 x.b.c]) (.bool false) (by kernel_rfl) (by kernel_rfl) (guard_S _ (.inl rfl) _ _ _ _ _) (by rw [eqlS now.p x.b, q11]; try rfl)) (by kernel_rfl) ?_
              try simp only [Act.put, List.setIfInBounds_toArray, List.set_cons_zero, List.set_cons_succ]
              refine wp_takeW (o := { dst := some 90, op := Op.pick (Operand.tmp 84) (Operand.tmp 89) (Operand.const (Value.bool false)), type := 4, pos := "outright.go:69", after := #[{ on := 10, ground := Ground.data }, { on := 15, ground := Ground.data }], guard := none }) (.bool false) (by kernel_rfl) (by kernel_rfl) ?_
              try simp only [Act.put, List.setIfInBounds_toArray, List.set_cons_zero, List.set_cons_succ]
              refine wp_takeW (o := { dst := some 91, op := Op.move (Operand.tmp 90), type := 4, pos := "outright.go:69", after := #[{ on := 16, ground := Ground.data }, { on := 10, ground := Ground.chain }], guard := none }) (.bool false) (by kernel_rfl) (by kernel_rfl) ?_
              try simp only [Act.put, List.setIfInBounds_toArray, List.set_cons_zero, List.set_cons_succ]
              refine wp_skip (o := { dst := some 92, op := Op.fieldAddr 52 (Operand.tmp 6) 7, type := 0, pos := "outright.go:69", after := #[{ on := 17, ground := Ground.guard }], guard := some (17, true) }) (by kernel_rfl) ?_
              try simp only [Act.put, List.setIfInBounds_toArray, List.set_cons_zero, List.set_cons_succ]
              refine wp_skip (o := { dst := some 93, op := Op.load 23 (Operand.tmp 92), type := 23, pos := "outright.go:69", after := #[{ on := 18, ground := Ground.data }, { on := 17, ground := Ground.guard }], guard := some (17, true) }) (by kernel_rfl) ?_
              try simp only [Act.put, List.setIfInBounds_toArray, List.set_cons_zero, List.set_cons_succ]
              refine wp_skip (o := { dst := some 94, op := Op.fieldAddr 29 (Operand.tmp 5) 1, type := 0, pos := "outright.go:69", after := #[{ on := 17, ground := Ground.guard }], guard := some (17, true) }) (by kernel_rfl) ?_
              try simp only [Act.put, List.setIfInBounds_toArray, List.set_cons_zero, List.set_cons_succ]
              refine wp_skip (o := { dst := some 95, op := Op.load 23 (Operand.tmp 94), type := 23, pos := "outright.go:69", after := #[{ on := 20, ground := Ground.data }, { on := 17, ground := Ground.guard }], guard := some (17, true) }) (by kernel_rfl) ?_
              try simp only [Act.put, List.setIfInBounds_toArray, List.set_cons_zero, List.set_cons_succ]
              refine wp_skip (o := { dst := some 96, op := Op.binOp BinOp.eql 23 (Operand.tmp 93) (Operand.tmp 95) 23, type := 4, pos := "outright.go:69", after := #[{ on := 19, ground := Ground.data }, { on := 21, ground := Ground.data }, { on := 17, ground := Ground.guard }], guard := some (17, true) }) (by kernel_rfl) ?_
              try simp only [Act.put, List.setIfInBounds_toArray, List.set_cons_zero, List.set_cons_succ]
              refine wp_takeW (o := { dst := some 97, op := Op.pick (Operand.tmp 91) (Operand.tmp 96) (Operand.const (Value.bool false)), type := 4, pos := "outright.go:69", after := #[{ on := 17, ground := Ground.data }, { on := 22, ground := Ground.data }], guard := none }) (.bool false) (by kernel_rfl) (by kernel_rfl) ?_
              try simp only [Act.put, List.setIfInBounds_toArray, List.set_cons_zero, List.set_cons_succ]
              refine wp_takeW (o := { dst := some 98, op := Op.move (Operand.tmp 97), type := 4, pos := "outright.go:69", after := #[{ on := 23, ground := Ground.data }, { on := 17, ground := Ground.chain }], guard := none }) (.bool false) (by kernel_rfl) (by kernel_rfl) ?_
              try simp only [Act.put, List.setIfInBounds_toArray, List.set_cons_zero, List.set_cons_succ]
              refine wp_skip (o := { dst := some 99, op := Op.fieldAddr 52 (Operand.tmp 6) 9, type := 0, pos := "outright.go:69", after := #[{ on := 24, ground := Ground.guard }], guard := some (24, true) }) (by kernel_rfl) ?_
              try simp only [Act.put, List.setIfInBounds_toArray, List.set_cons_zero, List.set_cons_succ]
              refine wp_skip (o := { dst := some 100, op := Op.load 27 (Operand.tmp 99), type := 27, pos := "outright.go:69", after := #[{ on := 25, ground := Ground.data }, { on := 24, ground := Ground.guard }], guard := some (24, true) }) (by kernel_rfl) ?_
              try simp only [Act.put, List.setIfInBounds_toArray, List.set_cons_zero, List.set_cons_succ]
              refine wp_skip (o := { dst := some 101, op := Op.fieldAddr 29 (Operand.tmp 5) 2, type := 0, pos := "outright.go:69", after := #[{ on := 24, ground := Ground.guard }], guard := some (24, true) }) (by kernel_rfl) ?_
              try simp only [Act.put, List.setIfInBounds_toArray, List.set_cons_zero, List.set_cons_succ]
              refine wp_skip (o := { dst := some 102, op := Op.load 27 (Operand.tmp 101), type := 27, pos := "outright.go:69", after := #[{ on := 27, ground := Ground.data }, { on := 24, ground := Ground.guard }], guard := some (24, true) }) (by kernel_rfl) ?_
              try simp only [Act.put, List.setIfInBounds_toArray, List.set_cons_zero, List.set_cons_succ]
              refine wp_skip (o := { dst := some 103, op := Op.binOp BinOp.eql 27 (Operand.tmp 100) (Operand.tmp 102) 27, type := 4, pos := "outright.go:69", after := #[{ on := 26, ground := Ground.data }, { on := 28, ground := Ground.data }, { on := 24, ground := Ground.guard }], guard := some (24, true) }) (by kernel_rfl) ?_
              try simp only [Act.put, List.setIfInBounds_toArray, List.set_cons_zero, List.set_cons_succ]
              refine wp_takeW (o := { dst := some 104, op := Op.pick (Operand.tmp 98) (Operand.tmp 103) (Operand.const (Value.bool false)), type := 4, pos := "outright.go:69", after := #[{ on := 24, ground := Ground.data }, { on := 29, ground := Ground.data }], guard := none }) (.bool false) (by kernel_rfl) (by kernel_rfl) ?_
              try simp only [Act.put, List.setIfInBounds_toArray, List.set_cons_zero, List.set_cons_succ]
              refine wp_takeW (o := { dst := some 8, op := Op.assign (Operand.tmp 104), type := 4, pos := "outright.go:69", after := #[{ on := 30, ground := Ground.data }, { on := 24, ground := Ground.chain }, { on := 0, ground := Ground.phase }, { on := 1, ground := Ground.phase }, { on := 2, ground := Ground.phase }, { on := 3, ground := Ground.phase }, { on := 4, ground := Ground.phase }, { on := 5, ground := Ground.phase }, { on := 6, ground := Ground.phase }, { on := 7, ground := Ground.phase }, { on := 8, ground := Ground.phase }, { on := 9, ground := Ground.phase }, { on := 10, ground := Ground.phase }, { on := 11, ground := Ground.phase }, { on := 12, ground := Ground.phase }, { on := 13, ground := Ground.phase }, { on := 14, ground := Ground.phase }, { on := 15, ground := Ground.phase }, { on := 16, ground := Ground.phase }, { on := 17, ground := Ground.phase }, { on := 18, ground := Ground.phase }, { on := 19, ground := Ground.phase }, { on := 20, ground := Ground.phase }, { on := 21, ground := Ground.phase }, { on := 22, ground := Ground.phase }, { on := 23, ground := Ground.phase }, { on := 24, ground := Ground.phase }, { on := 25, ground := Ground.phase }, { on := 26, ground := Ground.phase }, { on := 27, ground := Ground.phase }, { on := 28, ground := Ground.phase }, { on := 29, ground := Ground.phase }, { on := 30, ground := Ground.phase }], guard := none }) (.bool false) (by kernel_rfl) (by kernel_rfl) ?_
              try simp only [Act.put, List.setIfInBounds_toArray, List.set_cons_zero, List.set_cons_succ]
              refine WL.nil ?_
              try simp only [Act.put, List.setIfInBounds_toArray, List.set_cons_zero, List.set_cons_succ]
              have hv : toldB i now m x = false := by first | (simp only [toldB, q1, q2, q3, q9, q10, q11]; rfl) | simp [toldB, q1, q2, q3, q9, q10, q11]
              go_wp2
              go_ret
              exact ⟨by rw [hv]; rfl, HK.out⟩
            · skip
              refine wp_takeW (o := { dst := some 89, op := Op.binOp BinOp.eql 23 (Operand.tmp 86) (Operand.tmp 88) 23, type := 4, pos := "outright.go:69", after := #[{ on := 12, ground := Ground.data }, { on := 14, ground := Ground.data }, { on := 10, ground := Ground.guard }], guard := some (10, true) }) (.bool true) (exec_bin .eql 23 _ _ _ rfl (.agg #[.int .i64 now.p.n, .int .i64 now.p.c]) (.agg #[.int .i64 x.b.n, .int .i64 x.b.c]) (.bool true) (by kernel_rfl) (by kernel_rfl) (guard_S _ (.inl rfl) _ _ _ _ _) (by rw [eqlS now.p x.b, q11]; try rfl)) (by kernel_rfl) ?_
              try simp only [Act.put, List.setIfInBounds_toArray, List.set_cons_zero, List.set_cons_succ]
              refine wp_takeW (o := { dst := some 90, op := Op.pick (Operand.tmp 84) (Operand.tmp 89) (Operand.const (Value.bool false)), type := 4, pos := "outright.go:69", after := #[{ on := 10, ground := Ground.data }, { on := 15, ground := Ground.data }], guard := none }) (.bool true) (by kernel_rfl) (by kernel_rfl) ?_
              try simp only [Act.put, List.setIfInBounds_toArray, List.set_cons_zero, List.set_cons_succ]
              refine wp_takeW (o := { dst := some 91, op := Op.move (Operand.tmp 90), type := 4, pos := "outright.go:69", after := #[{ on := 16, ground := Ground.data }, { on := 10, ground := Ground.chain }], guard := none }) (.bool true) (by kernel_rfl) (by kernel_rfl) ?_
              try simp only [Act.put, List.setIfInBounds_toArray, List.set_cons_zero, List.set_cons_succ]
              refine wp_takeW (o := { dst := some 92, op := Op.fieldAddr 52 (Operand.tmp 6) 7, type := 0, pos := "outright.go:69", after := #[{ on := 17, ground := Ground.guard }], guard := some (17, true) }) (.pointer (some ⟨N2, 13, none⟩)) (by kernel_rfl) (by kernel_rfl) ?_
              try simp only [Act.put, List.setIfInBounds_toArray, List.set_cons_zero, List.set_cons_succ]
              refine wp_takeW (o := { dst := some 93, op := Op.load 23 (Operand.tmp 92), type := 23, pos := "outright.go:69", after := #[{ on := 18, ground := Ground.data }, { on := 17, ground := Ground.guard }], guard := some (17, true) }) (.agg #[.int .i64 m.h.n, .int .i64 m.h.c]) (exec_load 23 _ rfl ⟨N2, 13, none⟩ (by kernel_rfl) (.agg #[.int .i64 m.h.n, .int .i64 m.h.c]) (load_S HM.out m.partH)) (by kernel_rfl) ?_
              try simp only [Act.put, List.setIfInBounds_toArray, List.set_cons_zero, List.set_cons_succ]
              refine wp_takeW (o := { dst := some 94, op := Op.fieldAddr 29 (Operand.tmp 5) 1, type := 0, pos := "outright.go:69", after := #[{ on := 17, ground := Ground.guard }], guard := some (17, true) }) (.pointer (some ⟨N1, 2, none⟩)) (by kernel_rfl) (by kernel_rfl) ?_
              try simp only [Act.put, List.setIfInBounds_toArray, List.set_cons_zero, List.set_cons_succ]
              refine wp_takeW (o := { dst := some 95, op := Op.load 23 (Operand.tmp 94), type := 23, pos := "outright.go:69", after := #[{ on := 20, ground := Ground.data }, { on := 17, ground := Ground.guard }], guard := some (17, true) }) (.agg #[.int .i64 now.a.n, .int .i64 now.a.c]) (exec_load 23 _ rfl ⟨N1, 2, none⟩ (by kernel_rfl) (.agg #[.int .i64 now.a.n, .int .i64 now.a.c]) (load_S HJ.out now.partA)) (by kernel_rfl) ?_
              try simp only [Act.put, List.setIfInBounds_toArray, List.set_cons_zero, List.set_cons_succ]
              cases q12 : (eqS m.h now.a)
              · skip
                refine wp_takeW (o := { dst := some 96, op := Op.binOp BinOp.eql 23 (Operand.tmp 93) (Operand.tmp 95) 23, type := 4, pos := "outright.go:69", after := #[{ on := 19, ground := Ground.data }, { on := 21, ground := Ground.data }, { on := 17, ground := Ground.guard }], guard := some (17, true) }) (.bool false) (exec_bin .eql 23 _ _ _ rfl (.agg #[.int .i64 m.h.n, .int .i64 m.h.c]) (.agg #[.int .i64 now.a.n, .int .i64 now.a.c]) (.bool false) (by kernel_rfl) (by kernel_rfl) (guard_S _ (.inl rfl) _ _ _ _ _) (by rw [eqlS m.h now.a, q12]; try rfl)) (by kernel_rfl) ?_
                try simp only [Act.put, List.setIfInBounds_toArray, List.set_cons_zero, List.set_cons_succ]
                refine wp_takeW (o := { dst := some 97, op := Op.pick (Operand.tmp 91) (Operand.tmp 96) (Operand.const (Value.bool false)), type := 4, pos := "outright.go:69", after := #[{ on := 17, ground := Ground.data }, { on := 22, ground := Ground.data }], guard := none }) (.bool false) (by kernel_rfl) (by kernel_rfl) ?_
                try simp only [Act.put, List.setIfInBounds_toArray, List.set_cons_zero, List.set_cons_succ]
                refine wp_takeW (o := { dst := some 98, op := Op.move (Operand.tmp 97), type := 4, pos := "outright.go:69", after := #[{ on := 23, ground := Ground.data }, { on := 17, ground := Ground.chain }], guard := none }) (.bool false) (by kernel_rfl) (by kernel_rfl) ?_
                try simp only [Act.put, List.setIfInBounds_toArray, List.set_cons_zero, List.set_cons_succ]
                refine wp_skip (o := { dst := some 99, op := Op.fieldAddr 52 (Operand.tmp 6) 9, type := 0, pos := "outright.go:69", after := #[{ on := 24, ground := Ground.guard }], guard := some (24, true) }) (by kernel_rfl) ?_
                try simp only [Act.put, List.setIfInBounds_toArray, List.set_cons_zero, List.set_cons_succ]
                refine wp_skip (o := { dst := some 100, op := Op.load 27 (Operand.tmp 99), type := 27, pos := "outright.go:69", after := #[{ on := 25, ground := Ground.data }, { on := 24, ground := Ground.guard }], guard := some (24, true) }) (by kernel_rfl) ?_
                try simp only [Act.put, List.setIfInBounds_toArray, List.set_cons_zero, List.set_cons_succ]
                refine wp_skip (o := { dst := some 101, op := Op.fieldAddr 29 (Operand.tmp 5) 2, type := 0, pos := "outright.go:69", after := #[{ on := 24, ground := Ground.guard }], guard := some (24, true) }) (by kernel_rfl) ?_
                try simp only [Act.put, List.setIfInBounds_toArray, List.set_cons_zero, List.set_cons_succ]
                refine wp_skip (o := { dst := some 102, op := Op.load 27 (Operand.tmp 101), type := 27, pos := "outright.go:69", after := #[{ on := 27, ground := Ground.data }, { on := 24, ground := Ground.guard }], guard := some (24, true) }) (by kernel_rfl) ?_
                try simp only [Act.put, List.setIfInBounds_toArray, List.set_cons_zero, List.set_cons_succ]
                refine wp_skip (o := { dst := some 103, op := Op.binOp BinOp.eql 27 (Operand.tmp 100) (Operand.tmp 102) 27, type := 4, pos := "outright.go:69", after := #[{ on := 26, ground := Ground.data }, { on := 28, ground := Ground.data }, { on := 24, ground := Ground.guard }], guard := some (24, true) }) (by kernel_rfl) ?_
                try simp only [Act.put, List.setIfInBounds_toArray, List.set_cons_zero, List.set_cons_succ]
                refine wp_takeW (o := { dst := some 104, op := Op.pick (Operand.tmp 98) (Operand.tmp 103) (Operand.const (Value.bool false)), type := 4, pos := "outright.go:69", after := #[{ on := 24, ground := Ground.data }, { on := 29, ground := Ground.data }], guard := none }) (.bool false) (by kernel_rfl) (by kernel_rfl) ?_
                try simp only [Act.put, List.setIfInBounds_toArray, List.set_cons_zero, List.set_cons_succ]
                refine wp_takeW (o := { dst := some 8, op := Op.assign (Operand.tmp 104), type := 4, pos := "outright.go:69", after := #[{ on := 30, ground := Ground.data }, { on := 24, ground := Ground.chain }, { on := 0, ground := Ground.phase }, { on := 1, ground := Ground.phase }, { on := 2, ground := Ground.phase }, { on := 3, ground := Ground.phase }, { on := 4, ground := Ground.phase }, { on := 5, ground := Ground.phase }, { on := 6, ground := Ground.phase }, { on := 7, ground := Ground.phase }, { on := 8, ground := Ground.phase }, { on := 9, ground := Ground.phase }, { on := 10, ground := Ground.phase }, { on := 11, ground := Ground.phase }, { on := 12, ground := Ground.phase }, { on := 13, ground := Ground.phase }, { on := 14, ground := Ground.phase }, { on := 15, ground := Ground.phase }, { on := 16, ground := Ground.phase }, { on := 17, ground := Ground.phase }, { on := 18, ground := Ground.phase }, { on := 19, ground := Ground.phase }, { on := 20, ground := Ground.phase }, { on := 21, ground := Ground.phase }, { on := 22, ground := Ground.phase }, { on := 23, ground := Ground.phase }, { on := 24, ground := Ground.phase }, { on := 25, ground := Ground.phase }, { on := 26, ground := Ground.phase }, { on := 27, ground := Ground.phase }, { on := 28, ground := Ground.phase }, { on := 29, ground := Ground.phase }, { on := 30, ground := Ground.phase }], guard := none }) (.bool false) (by kernel_rfl) (by kernel_rfl) ?_
                try simp only [Act.put, List.setIfInBounds_toArray, List.set_cons_zero, List.set_cons_succ]
                refine WL.nil ?_
                try simp only [Act.put, List.setIfInBounds_toArray, List.set_cons_zero, List.set_cons_succ]
                have hv : toldB i now m x = false := by first | (simp only [toldB, q1, q2, q3, q9, q10, q11, q12]; rfl) | simp [toldB, q1, q2, q3, q9, q10, q11, q12]
                go_wp2
                go_ret
                exact ⟨by rw [hv]; rfl, HK.out⟩
              · skip
                refine wp_takeW (o := { dst := some 96, op := Op.binOp BinOp.eql 23 (Operand.tmp 93) (Operand.tmp 95) 23, type := 4, pos := "outright.go:69", after := #[{ on := 19, ground := Ground.data }, { on := 21, ground := Ground.data }, { on := 17, ground := Ground.guard }], guard := some (17, true) }) (.bool true) (exec_bin .eql 23 _ _ _ rfl (.agg #[.int .i64 m.h.n, .int .i64 m.h.c]) (.agg #[.int .i64 now.a.n, .int .i64 now.a.c]) (.bool true) (by kernel_rfl) (by kernel_rfl) (guard_S _ (.inl rfl) _ _ _ _ _) (by rw [eqlS m.h now.a, q12]; try rfl)) (by kernel_rfl) ?_
                try simp only [Act.put, List.setIfInBounds_toArray, List.set_cons_zero, List.set_cons_succ]
                refine wp_takeW (o := { dst := some 97, op := Op.pick (Operand.tmp 91) (Operand.tmp 96) (Operand.const (Value.bool false)), type := 4, pos := "outright.go:69", after := #[{ on := 17, ground := Ground.data }, { on := 22, ground := Ground.data }], guard := none }) (.bool true) (by kernel_rfl) (by kernel_rfl) ?_
                try simp only [Act.put, List.setIfInBounds_toArray, List.set_cons_zero, List.set_cons_succ]
                refine wp_takeW (o := { dst := some 98, op := Op.move (Operand.tmp 97), type := 4, pos := "outright.go:69", after := #[{ on := 23, ground := Ground.data }, { on := 17, ground := Ground.chain }], guard := none }) (.bool true) (by kernel_rfl) (by kernel_rfl) ?_
                try simp only [Act.put, List.setIfInBounds_toArray, List.set_cons_zero, List.set_cons_succ]
                refine wp_takeW (o := { dst := some 99, op := Op.fieldAddr 52 (Operand.tmp 6) 9, type := 0, pos := "outright.go:69", after := #[{ on := 24, ground := Ground.guard }], guard := some (24, true) }) (.pointer (some ⟨N2, 16, none⟩)) (by kernel_rfl) (by kernel_rfl) ?_
                try simp only [Act.put, List.setIfInBounds_toArray, List.set_cons_zero, List.set_cons_succ]
                refine wp_takeW (o := { dst := some 100, op := Op.load 27 (Operand.tmp 99), type := 27, pos := "outright.go:69", after := #[{ on := 25, ground := Ground.data }, { on := 24, ground := Ground.guard }], guard := some (24, true) }) (.agg m.c.cells) (exec_load 27 _ rfl ⟨N2, 16, none⟩ (by kernel_rfl) (.agg m.c.cells) (load_MC HM.out)) (by kernel_rfl) ?_
                try simp only [Act.put, List.setIfInBounds_toArray, List.set_cons_zero, List.set_cons_succ]
                refine wp_takeW (o := { dst := some 101, op := Op.fieldAddr 29 (Operand.tmp 5) 2, type := 0, pos := "outright.go:69", after := #[{ on := 24, ground := Ground.guard }], guard := some (24, true) }) (.pointer (some ⟨N1, 4, none⟩)) (by kernel_rfl) (by kernel_rfl) ?_
                try simp only [Act.put, List.setIfInBounds_toArray, List.set_cons_zero, List.set_cons_succ]
                refine wp_takeW (o := { dst := some 102, op := Op.load 27 (Operand.tmp 101), type := 27, pos := "outright.go:69", after := #[{ on := 27, ground := Ground.data }, { on := 24, ground := Ground.guard }], guard := some (24, true) }) (.agg now.c.cells) (exec_load 27 _ rfl ⟨N1, 4, none⟩ (by kernel_rfl) (.agg now.c.cells) (load_IC HJ.out)) (by kernel_rfl) ?_
                try simp only [Act.put, List.setIfInBounds_toArray, List.set_cons_zero, List.set_cons_succ]
                cases q13 : (eqC m.c now.c)
                · skip
                  refine wp_takeW (o := { dst := some 103, op := Op.binOp BinOp.eql 27 (Operand.tmp 100) (Operand.tmp 102) 27, type := 4, pos := "outright.go:69", after := #[{ on := 26, ground := Ground.data }, { on := 28, ground := Ground.data }, { on := 24, ground := Ground.guard }], guard := some (24, true) }) (.bool false) (exec_bin .eql 27 _ _ _ rfl (.agg m.c.cells) (.agg now.c.cells) (.bool false) (by kernel_rfl) (by kernel_rfl) (guard_C _ (.inl rfl) _ _ _ _ _) (by rw [eqlC, q13]; try rfl)) (by kernel_rfl) ?_
                  try simp only [Act.put, List.setIfInBounds_toArray, List.set_cons_zero, List.set_cons_succ]
                  refine wp_takeW (o := { dst := some 104, op := Op.pick (Operand.tmp 98) (Operand.tmp 103) (Operand.const (Value.bool false)), type := 4, pos := "outright.go:69", after := #[{ on := 24, ground := Ground.data }, { on := 29, ground := Ground.data }], guard := none }) (.bool false) (by kernel_rfl) (by kernel_rfl) ?_
                  try simp only [Act.put, List.setIfInBounds_toArray, List.set_cons_zero, List.set_cons_succ]
                  refine wp_takeW (o := { dst := some 8, op := Op.assign (Operand.tmp 104), type := 4, pos := "outright.go:69", after := #[{ on := 30, ground := Ground.data }, { on := 24, ground := Ground.chain }, { on := 0, ground := Ground.phase }, { on := 1, ground := Ground.phase }, { on := 2, ground := Ground.phase }, { on := 3, ground := Ground.phase }, { on := 4, ground := Ground.phase }, { on := 5, ground := Ground.phase }, { on := 6, ground := Ground.phase }, { on := 7, ground := Ground.phase }, { on := 8, ground := Ground.phase }, { on := 9, ground := Ground.phase }, { on := 10, ground := Ground.phase }, { on := 11, ground := Ground.phase }, { on := 12, ground := Ground.phase }, { on := 13, ground := Ground.phase }, { on := 14, ground := Ground.phase }, { on := 15, ground := Ground.phase }, { on := 16, ground := Ground.phase }, { on := 17, ground := Ground.phase }, { on := 18, ground := Ground.phase }, { on := 19, ground := Ground.phase }, { on := 20, ground := Ground.phase }, { on := 21, ground := Ground.phase }, { on := 22, ground := Ground.phase }, { on := 23, ground := Ground.phase }, { on := 24, ground := Ground.phase }, { on := 25, ground := Ground.phase }, { on := 26, ground := Ground.phase }, { on := 27, ground := Ground.phase }, { on := 28, ground := Ground.phase }, { on := 29, ground := Ground.phase }, { on := 30, ground := Ground.phase }], guard := none }) (.bool false) (by kernel_rfl) (by kernel_rfl) ?_
                  try simp only [Act.put, List.setIfInBounds_toArray, List.set_cons_zero, List.set_cons_succ]
                  refine WL.nil ?_
                  try simp only [Act.put, List.setIfInBounds_toArray, List.set_cons_zero, List.set_cons_succ]
                  have hv : toldB i now m x = false := by first | (simp only [toldB, q1, q2, q3, q9, q10, q11, q12, q13]; rfl) | simp [toldB, q1, q2, q3, q9, q10, q11, q12, q13]
                  go_wp2
                  go_ret
                  exact ⟨by rw [hv]; rfl, HK.out⟩
                · skip
                  refine wp_takeW (o := { dst := some 103, op := Op.binOp BinOp.eql 27 (Operand.tmp 100) (Operand.tmp 102) 27, type := 4, pos := "outright.go:69", after := #[{ on := 26, ground := Ground.data }, { on := 28, ground := Ground.data }, { on := 24, ground := Ground.guard }], guard := some (24, true) }) (.bool true) (exec_bin .eql 27 _ _ _ rfl (.agg m.c.cells) (.agg now.c.cells) (.bool true) (by kernel_rfl) (by kernel_rfl) (guard_C _ (.inl rfl) _ _ _ _ _) (by rw [eqlC, q13]; try rfl)) (by kernel_rfl) ?_
                  try simp only [Act.put, List.setIfInBounds_toArray, List.set_cons_zero, List.set_cons_succ]
                  refine wp_takeW (o := { dst := some 104, op := Op.pick (Operand.tmp 98) (Operand.tmp 103) (Operand.const (Value.bool false)), type := 4, pos := "outright.go:69", after := #[{ on := 24, ground := Ground.data }, { on := 29, ground := Ground.data }], guard := none }) (.bool true) (by kernel_rfl) (by kernel_rfl) ?_
                  try simp only [Act.put, List.setIfInBounds_toArray, List.set_cons_zero, List.set_cons_succ]
                  refine wp_takeW (o := { dst := some 8, op := Op.assign (Operand.tmp 104), type := 4, pos := "outright.go:69", after := #[{ on := 30, ground := Ground.data }, { on := 24, ground := Ground.chain }, { on := 0, ground := Ground.phase }, { on := 1, ground := Ground.phase }, { on := 2, ground := Ground.phase }, { on := 3, ground := Ground.phase }, { on := 4, ground := Ground.phase }, { on := 5, ground := Ground.phase }, { on := 6, ground := Ground.phase }, { on := 7, ground := Ground.phase }, { on := 8, ground := Ground.phase }, { on := 9, ground := Ground.phase }, { on := 10, ground := Ground.phase }, { on := 11, ground := Ground.phase }, { on := 12, ground := Ground.phase }, { on := 13, ground := Ground.phase }, { on := 14, ground := Ground.phase }, { on := 15, ground := Ground.phase }, { on := 16, ground := Ground.phase }, { on := 17, ground := Ground.phase }, { on := 18, ground := Ground.phase }, { on := 19, ground := Ground.phase }, { on := 20, ground := Ground.phase }, { on := 21, ground := Ground.phase }, { on := 22, ground := Ground.phase }, { on := 23, ground := Ground.phase }, { on := 24, ground := Ground.phase }, { on := 25, ground := Ground.phase }, { on := 26, ground := Ground.phase }, { on := 27, ground := Ground.phase }, { on := 28, ground := Ground.phase }, { on := 29, ground := Ground.phase }, { on := 30, ground := Ground.phase }], guard := none }) (.bool true) (by kernel_rfl) (by kernel_rfl) ?_
                  try simp only [Act.put, List.setIfInBounds_toArray, List.set_cons_zero, List.set_cons_succ]
                  refine WL.nil ?_
                  try simp only [Act.put, List.setIfInBounds_toArray, List.set_cons_zero, List.set_cons_succ]
                  have hv : toldB i now m x = true := by first | (simp only [toldB, q1, q2, q3, q9, q10, q11, q12, q13]; rfl) | simp [toldB, q1, q2, q3, q9, q10, q11, q12, q13]
                  go_wp2
                  go_ret
                  exact ⟨by rw [hv]; rfl, HK.out⟩
    · skip
      refine wp_takeW (o := { dst := some 59, op := Op.binOp BinOp.eql 3 (Operand.tmp 46) (Operand.const (Value.int IntKind.i64 14)) 3, type := 4, pos := "outright.go:66", after := #[], guard := none }) (.bool true) (exec_bin .eql 3 _ _ _ rfl (.int .i64 m.k) (.int .i64 14) (.bool true) (by kernel_rfl) (by kernel_rfl) (by kernel_rfl) (by rw [eqlN, q2]; try rfl)) (by kernel_rfl) ?_
      try simp only [Act.put, List.setIfInBounds_toArray, List.set_cons_zero, List.set_cons_succ]
      refine wp_takeW (o := { dst := some 58, op := Op.assign (Operand.tmp 59), type := 4, pos := "outright.go:66", after := #[{ on := 0, ground := Ground.data }], guard := none }) (.bool true) (by kernel_rfl) (by kernel_rfl) ?_
      try simp only [Act.put, List.setIfInBounds_toArray, List.set_cons_zero, List.set_cons_succ]
      refine WL.nil ?_
      try simp only [Act.put, List.setIfInBounds_toArray, List.set_cons_zero, List.set_cons_succ]
      go_upto_region 7 with fail
      refine WL.start ?_
      refine wp_takeW (o := { dst := some 60, op := Op.fieldAddr 52 (Operand.tmp 6) 6, type := 0, pos := "outright.go:67", after := #[], guard := none }) (.pointer (some ⟨N2, 11, none⟩)) (by kernel_rfl) (by kernel_rfl) ?_
      try simp only [Act.put, List.setIfInBounds_toArray, List.set_cons_zero, List.set_cons_succ]
      refine wp_takeW (o := { dst := some 61, op := Op.load 23 (Operand.tmp 60), type := 23, pos := "outright.go:67", after := #[{ on := 0, ground := Ground.data }], guard := none }) (.agg #[.int .i64 m.s.n, .int .i64 m.s.c]) (exec_load 23 _ rfl ⟨N2, 11, none⟩ (by kernel_rfl) (.agg #[.int .i64 m.s.n, .int .i64 m.s.c]) (load_S HM.out m.partS)) (by kernel_rfl) ?_
      try simp only [Act.put, List.setIfInBounds_toArray, List.set_cons_zero, List.set_cons_succ]
      refine wp_takeW (o := { dst := some 62, op := Op.fieldAddr 29 (Operand.tmp 4) 0, type := 0, pos := "outright.go:67", after := #[], guard := none }) (.pointer (some ⟨N, 0, none⟩)) (by kernel_rfl) (by kernel_rfl) ?_
      try simp only [Act.put, List.setIfInBounds_toArray, List.set_cons_zero, List.set_cons_succ]
      refine wp_takeW (o := { dst := some 63, op := Op.load 23 (Operand.tmp 62), type := 23, pos := "outright.go:67", after := #[{ on := 2, ground := Ground.data }], guard := none }) (.agg #[.int .i64 i.p.n, .int .i64 i.p.c]) (exec_load 23 _ rfl ⟨N, 0, none⟩ (by kernel_rfl) (.agg #[.int .i64 i.p.n, .int .i64 i.p.c]) (load_S HI.out i.partP)) (by kernel_rfl) ?_
      try simp only [Act.put, List.setIfInBounds_toArray, List.set_cons_zero, List.set_cons_succ]
      cases q14 : (eqS m.s i.p)
      · skip
        refine wp_takeW (o := { dst := some 64, op := Op.binOp BinOp.eql 23 (Operand.tmp 61) (Operand.tmp 63) 23, type := 4, pos := "outright.go:67", after := #[{ on := 1, ground := Ground.data }, { on := 3, ground := Ground.data }], guard := none }) (.bool false) (exec_bin .eql 23 _ _ _ rfl (.agg #[.int .i64 m.s.n, .int .i64 m.s.c]) (.agg #[.int .i64 i.p.n, .int .i64 i.p.c]) (.bool false) (by kernel_rfl) (by kernel_rfl) (guard_S _ (.inl rfl) _ _ _ _ _) (by rw [eqlS m.s i.p, q14]; try rfl)) (by kernel_rfl) ?_
        try simp only [Act.put, List.setIfInBounds_toArray, List.set_cons_zero, List.set_cons_succ]
        refine wp_takeW (o := { dst := some 65, op := Op.move (Operand.tmp 64), type := 4, pos := "outright.go:67", after := #[{ on := 4, ground := Ground.data }], guard := none }) (.bool false) (by kernel_rfl) (by kernel_rfl) ?_
        try simp only [Act.put, List.setIfInBounds_toArray, List.set_cons_zero, List.set_cons_succ]
        refine wp_skip (o := { dst := some 66, op := Op.fieldAddr 52 (Operand.tmp 6) 6, type := 0, pos := "outright.go:67", after := #[{ on := 5, ground := Ground.guard }], guard := some (5, true) }) (by kernel_rfl) ?_
        try simp only [Act.put, List.setIfInBounds_toArray, List.set_cons_zero, List.set_cons_succ]
        refine wp_skip (o := { dst := some 67, op := Op.load 23 (Operand.tmp 66), type := 23, pos := "outright.go:67", after := #[{ on := 6, ground := Ground.data }, { on := 5, ground := Ground.guard }], guard := some (5, true) }) (by kernel_rfl) ?_
        try simp only [Act.put, List.setIfInBounds_toArray, List.set_cons_zero, List.set_cons_succ]
        refine wp_skip (o := { dst := some 68, op := Op.fieldAddr 38 (Operand.tmp 7) 1, type := 0, pos := "outright.go:67", after := #[{ on := 5, ground := Ground.guard }], guard := some (5, true) }) (by kernel_rfl) ?_
        try simp only [Act.put, List.setIfInBounds_toArray, List.set_cons_zero, List.set_cons_succ]
        refine wp_skip (o := { dst := some 69, op := Op.load 23 (Operand.tmp 68), type := 23, pos := "outright.go:67", after := #[{ on := 8, ground := Ground.data }, { on := 5, ground := Ground.guard }], guard := some (5, true) }) (by kernel_rfl) ?_
        try simp only [Act.put, List.setIfInBounds_toArray, List.set_cons_zero, List.set_cons_succ]
        refine wp_skip (o := { dst := some 70, op := Op.call { callee := Callee.value (Operand.func 19), args := #[Operand.tmp 67, Operand.tmp 69], argTypes := #[23, 23] }, type := 4, pos := "outright.go:67", after := #[{ on := 7, ground := Ground.data }, { on := 9, ground := Ground.data }, { on := 5, ground := Ground.chain }, { on := 5, ground := Ground.guard }], guard := some (5, true) }) (by kernel_rfl) ?_
        try simp only [Act.put, List.setIfInBounds_toArray, List.set_cons_zero, List.set_cons_succ]
        refine wp_takeW (o := { dst := some 71, op := Op.pick (Operand.tmp 65) (Operand.tmp 70) (Operand.const (Value.bool false)), type := 4, pos := "outright.go:67", after := #[{ on := 5, ground := Ground.data }, { on := 10, ground := Ground.data }], guard := none }) (.bool false) (by kernel_rfl) (by kernel_rfl) ?_
        try simp only [Act.put, List.setIfInBounds_toArray, List.set_cons_zero, List.set_cons_succ]
        refine wp_takeW (o := { dst := some 8, op := Op.assign (Operand.tmp 71), type := 4, pos := "outright.go:67", after := #[{ on := 11, ground := Ground.data }, { on := 10, ground := Ground.chain }, { on := 0, ground := Ground.phase }, { on := 1, ground := Ground.phase }, { on := 2, ground := Ground.phase }, { on := 3, ground := Ground.phase }, { on := 4, ground := Ground.phase }, { on := 5, ground := Ground.phase }, { on := 6, ground := Ground.phase }, { on := 7, ground := Ground.phase }, { on := 8, ground := Ground.phase }, { on := 9, ground := Ground.phase }, { on := 10, ground := Ground.phase }, { on := 11, ground := Ground.phase }], guard := none }) (.bool false) (by kernel_rfl) (by kernel_rfl) ?_
        try simp only [Act.put, List.setIfInBounds_toArray, List.set_cons_zero, List.set_cons_succ]
        refine WL.nil ?_
        try simp only [Act.put, List.setIfInBounds_toArray, List.set_cons_zero, List.set_cons_succ]
        have hv : toldB i now m x = false := by first | (simp only [toldB, q1, q2, q14]; rfl) | simp [toldB, q1, q2, q14]
        go_wp2
        go_ret
        exact ⟨by rw [hv]; rfl, HK.out⟩
      · skip
        refine wp_takeW (o := { dst := some 64, op := Op.binOp BinOp.eql 23 (Operand.tmp 61) (Operand.tmp 63) 23, type := 4, pos := "outright.go:67", after := #[{ on := 1, ground := Ground.data }, { on := 3, ground := Ground.data }], guard := none }) (.bool true) (exec_bin .eql 23 _ _ _ rfl (.agg #[.int .i64 m.s.n, .int .i64 m.s.c]) (.agg #[.int .i64 i.p.n, .int .i64 i.p.c]) (.bool true) (by kernel_rfl) (by kernel_rfl) (guard_S _ (.inl rfl) _ _ _ _ _) (by rw [eqlS m.s i.p, q14]; try rfl)) (by kernel_rfl) ?_
        try simp only [Act.put, List.setIfInBounds_toArray, List.set_cons_zero, List.set_cons_succ]
        refine wp_takeW (o := { dst := some 65, op := Op.move (Operand.tmp 64), type := 4, pos := "outright.go:67", after := #[{ on := 4, ground := Ground.data }], guard := none }) (.bool true) (by kernel_rfl) (by kernel_rfl) ?_
        try simp only [Act.put, List.setIfInBounds_toArray, List.set_cons_zero, List.set_cons_succ]
        refine wp_takeW (o := { dst := some 66, op := Op.fieldAddr 52 (Operand.tmp 6) 6, type := 0, pos := "outright.go:67", after := #[{ on := 5, ground := Ground.guard }], guard := some (5, true) }) (.pointer (some ⟨N2, 11, none⟩)) (by kernel_rfl) (by kernel_rfl) ?_
        try simp only [Act.put, List.setIfInBounds_toArray, List.set_cons_zero, List.set_cons_succ]
        refine wp_takeW (o := { dst := some 67, op := Op.load 23 (Operand.tmp 66), type := 23, pos := "outright.go:67", after := #[{ on := 6, ground := Ground.data }, { on := 5, ground := Ground.guard }], guard := some (5, true) }) (.agg #[.int .i64 m.s.n, .int .i64 m.s.c]) (exec_load 23 _ rfl ⟨N2, 11, none⟩ (by kernel_rfl) (.agg #[.int .i64 m.s.n, .int .i64 m.s.c]) (load_S HM.out m.partS)) (by kernel_rfl) ?_
        try simp only [Act.put, List.setIfInBounds_toArray, List.set_cons_zero, List.set_cons_succ]
        refine wp_takeW (o := { dst := some 68, op := Op.fieldAddr 38 (Operand.tmp 7) 1, type := 0, pos := "outright.go:67", after := #[{ on := 5, ground := Ground.guard }], guard := some (5, true) }) (.pointer (some ⟨N3, 1, none⟩)) (by kernel_rfl) (by kernel_rfl) ?_
        try simp only [Act.put, List.setIfInBounds_toArray, List.set_cons_zero, List.set_cons_succ]
        refine wp_takeW (o := { dst := some 69, op := Op.load 23 (Operand.tmp 68), type := 23, pos := "outright.go:67", after := #[{ on := 8, ground := Ground.data }, { on := 5, ground := Ground.guard }], guard := some (5, true) }) (.agg #[.int .i64 x.b.n, .int .i64 x.b.c]) (exec_load 23 _ rfl ⟨N3, 1, none⟩ (by kernel_rfl) (.agg #[.int .i64 x.b.n, .int .i64 x.b.c]) (load_S HX.out x.partB)) (by kernel_rfl) ?_
        try simp only [Act.put, List.setIfInBounds_toArray, List.set_cons_zero, List.set_cons_succ]
        cases q15 : (lessB x.b.n x.b.c m.s.n m.s.c)
        · skip
          refine wp_callW (o := { dst := some 70, op := Op.call { callee := Callee.value (Operand.func 19), args := #[Operand.tmp 67, Operand.tmp 69], argTypes := #[23, 23] }, type := 4, pos := "outright.go:67", after := #[{ on := 7, ground := Ground.data }, { on := 9, ground := Ground.data }, { on := 5, ground := Ground.chain }, { on := 5, ground := Ground.guard }], guard := some (5, true) }) 19 #[.agg #[.int .i64 m.s.n, .int .i64 m.s.c], .agg #[.int .i64 x.b.n, .int .i64 x.b.c]] (by kernel_rfl) _ (above_any m.s.n m.s.c x.b.n x.b.c _) (by kernel_rfl) ?_
          rintro e wk1 ⟨rfl, hk⟩
          have HI : Hid (Box wk1 (N) 29 (i.cells)) := HI.out.kept hk (fun e => e)
          have HJ : Hid (Box wk1 (N1) 29 (now.cells)) := HJ.out.kept hk (fun e => e)
          have HM : Hid (Box wk1 (N2) 52 (m.cells)) := HM.out.kept hk (fun e => e)
          have HX : Hid (Box wk1 (N3) 38 (x.cells)) := HX.out.kept hk (fun e => e)
          have HK : Hid (Kept No w wk1) := HK.out.then hk
          have HLT : Hid (N3 < wk1.heap.size) := Nat.lt_of_lt_of_le HLT.out hk.size
          clear hk
          refine ⟨.bool false, by rw [q15], ?_⟩
          try simp only [Act.put, List.setIfInBounds_toArray, List.set_cons_zero, List.set_cons_succ]
          refine wp_takeW (o := { dst := some 71, op := Op.pick (Operand.tmp 65) (Operand.tmp 70) (Operand.const (Value.bool false)), type := 4, pos := "outright.go:67", after := #[{ on := 5, ground := Ground.data }, { on := 10, ground := Ground.data }], guard := none }) (.bool false) (by kernel_rfl) (by kernel_rfl) ?_
          try simp only [Act.put, List.setIfInBounds_toArray, List.set_cons_zero, List.set_cons_succ]
          refine wp_takeW (o := { dst := some 8, op := Op.assign (Operand.tmp 71), type := 4, pos := "outright.go:67", after := #[{ on := 11, ground := Ground.data }, { on := 10, ground := Ground.chain }, { on := 0, ground := Ground.phase }, { on := 1, ground := Ground.phase }, { on := 2, ground := Ground.phase }, { on := 3, ground := Ground.phase }, { on := 4, ground := Ground.phase }, { on := 5, ground := Ground.phase }, { on := 6, ground := Ground.phase }, { on := 7, ground := Ground.phase }, { on := 8, ground := Ground.phase }, { on := 9, ground := Ground.phase }, { on := 10, ground := Ground.phase }, { on := 11, ground := Ground.phase }], guard := none }) (.bool false) (by kernel_rfl) (by kernel_rfl) ?_
          try simp only [Act.put, List.setIfInBounds_toArray, List.set_cons_zero, List.set_cons_succ]
          refine WL.nil ?_
          try simp only [Act.put, List.setIfInBounds_toArray, List.set_cons_zero, List.set_cons_succ]
          have hv : toldB i now m x = false := by first | (simp only [toldB, q1, q2, q14, q15]; rfl) | simp [toldB, q1, q2, q14, q15]
          go_wp2
          go_ret
          exact ⟨by rw [hv]; rfl, HK.out⟩
        · skip
          refine wp_callW (o := { dst := some 70, op := Op.call { callee := Callee.value (Operand.func 19), args := #[Operand.tmp 67, Operand.tmp 69], argTypes := #[23, 23] }, type := 4, pos := "outright.go:67", after := #[{ on := 7, ground := Ground.data }, { on := 9, ground := Ground.data }, { on := 5, ground := Ground.chain }, { on := 5, ground := Ground.guard }], guard := some (5, true) }) 19 #[.agg #[.int .i64 m.s.n, .int .i64 m.s.c], .agg #[.int .i64 x.b.n, .int .i64 x.b.c]] (by kernel_rfl) _ (above_any m.s.n m.s.c x.b.n x.b.c _) (by kernel_rfl) ?_
          rintro e wk2 ⟨rfl, hk⟩
          have HI : Hid (Box wk2 (N) 29 (i.cells)) := HI.out.kept hk (fun e => e)
          have HJ : Hid (Box wk2 (N1) 29 (now.cells)) := HJ.out.kept hk (fun e => e)
          have HM : Hid (Box wk2 (N2) 52 (m.cells)) := HM.out.kept hk (fun e => e)
          have HX : Hid (Box wk2 (N3) 38 (x.cells)) := HX.out.kept hk (fun e => e)
          have HK : Hid (Kept No w wk2) := HK.out.then hk
          have HLT : Hid (N3 < wk2.heap.size) := Nat.lt_of_lt_of_le HLT.out hk.size
          clear hk
          refine ⟨.bool true, by rw [q15], ?_⟩
          try simp only [Act.put, List.setIfInBounds_toArray, List.set_cons_zero, List.set_cons_succ]
          refine wp_takeW (o := { dst := some 71, op := Op.pick (Operand.tmp 65) (Operand.tmp 70) (Operand.const (Value.bool false)), type := 4, pos := "outright.go:67", after := #[{ on := 5, ground := Ground.data }, { on := 10, ground := Ground.data }], guard := none }) (.bool true) (by kernel_rfl) (by kernel_rfl) ?_
          try simp only [Act.put, List.setIfInBounds_toArray, List.set_cons_zero, List.set_cons_succ]
          refine wp_takeW (o := { dst := some 8, op := Op.assign (Operand.tmp 71), type := 4, pos := "outright.go:67", after := #[{ on := 11, ground := Ground.data }, { on := 10, ground := Ground.chain }, { on := 0, ground := Ground.phase }, { on := 1, ground := Ground.phase }, { on := 2, ground := Ground.phase }, { on := 3, ground := Ground.phase }, { on := 4, ground := Ground.phase }, { on := 5, ground := Ground.phase }, { on := 6, ground := Ground.phase }, { on := 7, ground := Ground.phase }, { on := 8, ground := Ground.phase }, { on := 9, ground := Ground.phase }, { on := 10, ground := Ground.phase }, { on := 11, ground := Ground.phase }], guard := none }) (.bool true) (by kernel_rfl) (by kernel_rfl) ?_
          try simp only [Act.put, List.setIfInBounds_toArray, List.set_cons_zero, List.set_cons_succ]
          refine WL.nil ?_
          try simp only [Act.put, List.setIfInBounds_toArray, List.set_cons_zero, List.set_cons_succ]
          have hv : toldB i now m x = true := by first | (simp only [toldB, q1, q2, q14, q15]; rfl) | simp [toldB, q1, q2, q14, q15]
          go_wp2
          go_ret
          exact ⟨by rw [hv]; rfl, HK.out⟩
  · skip
    refine wp_takeW (o := { dst := some 48, op := Op.binOp BinOp.eql 3 (Operand.tmp 46) (Operand.const (Value.int IntKind.i64 16)) 3, type := 4, pos := "outright.go:64", after := #[], guard := none }) (.bool true) (exec_bin .eql 3 _ _ _ rfl (.int .i64 m.k) (.int .i64 16) (.bool true) (by kernel_rfl) (by kernel_rfl) (by kernel_rfl) (by rw [eqlN, q1]; try rfl)) (by kernel_rfl) ?_
    try simp only [Act.put, List.setIfInBounds_toArray, List.set_cons_zero, List.set_cons_succ]
    refine wp_takeW (o := { dst := some 47, op := Op.assign (Operand.tmp 48), type := 4, pos := "outright.go:64", after := #[{ on := 0, ground := Ground.data }], guard := none }) (.bool true) (by kernel_rfl) (by kernel_rfl) ?_
    try simp only [Act.put, List.setIfInBounds_toArray, List.set_cons_zero, List.set_cons_succ]
    refine WL.nil ?_
    try simp only [Act.put, List.setIfInBounds_toArray, List.set_cons_zero, List.set_cons_succ]
    go_upto_region 5 with fail
    refine WL.start ?_
    refine wp_takeW (o := { dst := some 49, op := Op.fieldAddr 29 (Operand.tmp 4) 3, type := 0, pos := "outright.go:65", after := #[], guard := none }) (.pointer (some ⟨N, 13, none⟩)) (by kernel_rfl) (by kernel_rfl) ?_
    try simp only [Act.put, List.setIfInBounds_toArray, List.set_cons_zero, List.set_cons_succ]
    cases q16 : (i.d)
    · skip
      refine wp_takeW (o := { dst := some 50, op := Op.load 4 (Operand.tmp 49), type := 4, pos := "outright.go:65", after := #[{ on := 0, ground := Ground.data }], guard := none }) (.bool false) (exec_load 4 _ rfl ⟨N, 13, none⟩ (by kernel_rfl) (.bool false) (by rw [← q16]; exact load_B (In.cel HI.out).2.2.2.2)) (by kernel_rfl) ?_
      try simp only [Act.put, List.setIfInBounds_toArray, List.set_cons_zero, List.set_cons_succ]
      refine wp_takeW (o := { dst := some 51, op := Op.move (Operand.tmp 50), type := 4, pos := "outright.go:65", after := #[{ on := 1, ground := Ground.data }], guard := none }) (.bool false) (by kernel_rfl) (by kernel_rfl) ?_
      try simp only [Act.put, List.setIfInBounds_toArray, List.set_cons_zero, List.set_cons_succ]
      refine wp_skip (o := { dst := some 52, op := Op.fieldAddr 52 (Operand.tmp 6) 9, type := 0, pos := "outright.go:65", after := #[{ on := 2, ground := Ground.guard }], guard := some (2, true) }) (by kernel_rfl) ?_
      try simp only [Act.put, List.setIfInBounds_toArray, List.set_cons_zero, List.set_cons_succ]
      refine wp_skip (o := { dst := some 53, op := Op.load 27 (Operand.tmp 52), type := 27, pos := "outright.go:65", after := #[{ on := 3, ground := Ground.data }, { on := 2, ground := Ground.guard }], guard := some (2, true) }) (by kernel_rfl) ?_
      try simp only [Act.put, List.setIfInBounds_toArray, List.set_cons_zero, List.set_cons_succ]
      refine wp_skip (o := { dst := some 54, op := Op.fieldAddr 29 (Operand.tmp 4) 2, type := 0, pos := "outright.go:65", after := #[{ on := 2, ground := Ground.guard }], guard := some (2, true) }) (by kernel_rfl) ?_
      try simp only [Act.put, List.setIfInBounds_toArray, List.set_cons_zero, List.set_cons_succ]
      refine wp_skip (o := { dst := some 55, op := Op.load 27 (Operand.tmp 54), type := 27, pos := "outright.go:65", after := #[{ on := 5, ground := Ground.data }, { on := 2, ground := Ground.guard }], guard := some (2, true) }) (by kernel_rfl) ?_
      try simp only [Act.put, List.setIfInBounds_toArray, List.set_cons_zero, List.set_cons_succ]
      refine wp_skip (o := { dst := some 56, op := Op.binOp BinOp.eql 27 (Operand.tmp 53) (Operand.tmp 55) 27, type := 4, pos := "outright.go:65", after := #[{ on := 4, ground := Ground.data }, { on := 6, ground := Ground.data }, { on := 2, ground := Ground.guard }], guard := some (2, true) }) (by kernel_rfl) ?_
      try simp only [Act.put, List.setIfInBounds_toArray, List.set_cons_zero, List.set_cons_succ]
      refine wp_takeW (o := { dst := some 57, op := Op.pick (Operand.tmp 51) (Operand.tmp 56) (Operand.const (Value.bool false)), type := 4, pos := "outright.go:65", after := #[{ on := 2, ground := Ground.data }, { on := 7, ground := Ground.data }], guard := none }) (.bool false) (by kernel_rfl) (by kernel_rfl) ?_
      try simp only [Act.put, List.setIfInBounds_toArray, List.set_cons_zero, List.set_cons_succ]
      refine wp_takeW (o := { dst := some 8, op := Op.assign (Operand.tmp 57), type := 4, pos := "outright.go:65", after := #[{ on := 8, ground := Ground.data }, { on := 2, ground := Ground.chain }, { on := 0, ground := Ground.phase }, { on := 1, ground := Ground.phase }, { on := 2, ground := Ground.phase }, { on := 3, ground := Ground.phase }, { on := 4, ground := Ground.phase }, { on := 5, ground := Ground.phase }, { on := 6, ground := Ground.phase }, { on := 7, ground := Ground.phase }, { on := 8, ground := Ground.phase }], guard := none }) (.bool false) (by kernel_rfl) (by kernel_rfl) ?_
      try simp only [Act.put, List.setIfInBounds_toArray, List.set_cons_zero, List.set_cons_succ]
      refine WL.nil ?_
      try simp only [Act.put, List.setIfInBounds_toArray, List.set_cons_zero, List.set_cons_succ]
      have hv : toldB i now m x = false := by first | (simp only [toldB, q1, q16]; rfl) | simp [toldB, q1, q16]
      go_wp2
      go_ret
      exact ⟨by rw [hv]; rfl, HK.out⟩
    · skip
      refine wp_takeW (o := { dst := some 50, op := Op.load 4 (Operand.tmp 49), type := 4, pos := "outright.go:65", after := #[{ on := 0, ground := Ground.data }], guard := none }) (.bool true) (exec_load 4 _ rfl ⟨N, 13, none⟩ (by kernel_rfl) (.bool true) (by rw [← q16]; exact load_B (In.cel HI.out).2.2.2.2)) (by kernel_rfl) ?_
      try simp only [Act.put, List.setIfInBounds_toArray, List.set_cons_zero, List.set_cons_succ]
      refine wp_takeW (o := { dst := some 51, op := Op.move (Operand.tmp 50), type := 4, pos := "outright.go:65", after := #[{ on := 1, ground := Ground.data }], guard := none }) (.bool true) (by kernel_rfl) (by kernel_rfl) ?_
      try simp only [Act.put, List.setIfInBounds_toArray, List.set_cons_zero, List.set_cons_succ]
      refine wp_takeW (o := { dst := some 52, op := Op.fieldAddr 52 (Operand.tmp 6) 9, type := 0, pos := "outright.go:65", after := #[{ on := 2, ground := Ground.guard }], guard := some (2, true) }) (.pointer (some ⟨N2, 16, none⟩)) (by kernel_rfl) (by kernel_rfl) ?_
      try simp only [Act.put, List.setIfInBounds_toArray, List.set_cons_zero, List.set_cons_succ]
      refine wp_takeW (o := { dst := some 53, op := Op.load 27 (Operand.tmp 52), type := 27, pos := "outright.go:65", after := #[{ on := 3, ground := Ground.data }, { on := 2, ground := Ground.guard }], guard := some (2, true) }) (.agg m.c.cells) (exec_load 27 _ rfl ⟨N2, 16, none⟩ (by kernel_rfl) (.agg m.c.cells) (load_MC HM.out)) (by kernel_rfl) ?_
      try simp only [Act.put, List.setIfInBounds_toArray, List.set_cons_zero, List.set_cons_succ]
      refine wp_takeW (o := { dst := some 54, op := Op.fieldAddr 29 (Operand.tmp 4) 2, type := 0, pos := "outright.go:65", after := #[{ on := 2, ground := Ground.guard }], guard := some (2, true) }) (.pointer (some ⟨N, 4, none⟩)) (by kernel_rfl) (by kernel_rfl) ?_
      try simp only [Act.put, List.setIfInBounds_toArray, List.set_cons_zero, List.set_cons_succ]
      refine wp_takeW (o := { dst := some 55, op := Op.load 27 (Operand.tmp 54), type := 27, pos := "outright.go:65", after := #[{ on := 5, ground := Ground.data }, { on := 2, ground := Ground.guard }], guard := some (2, true) }) (.agg i.c.cells) (exec_load 27 _ rfl ⟨N, 4, none⟩ (by kernel_rfl) (.agg i.c.cells) (load_IC HI.out)) (by kernel_rfl) ?_
      try simp only [Act.put, List.setIfInBounds_toArray, List.set_cons_zero, List.set_cons_succ]
      cases q17 : (eqC m.c i.c)
      · skip
        refine wp_takeW (o := { dst := some 56, op := Op.binOp BinOp.eql 27 (Operand.tmp 53) (Operand.tmp 55) 27, type := 4, pos := "outright.go:65", after := #[{ on := 4, ground := Ground.data }, { on := 6, ground := Ground.data }, { on := 2, ground := Ground.guard }], guard := some (2, true) }) (.bool false) (exec_bin .eql 27 _ _ _ rfl (.agg m.c.cells) (.agg i.c.cells) (.bool false) (by kernel_rfl) (by kernel_rfl) (guard_C _ (.inl rfl) _ _ _ _ _) (by rw [eqlC, q17]; try rfl)) (by kernel_rfl) ?_
        try simp only [Act.put, List.setIfInBounds_toArray, List.set_cons_zero, List.set_cons_succ]
        refine wp_takeW (o := { dst := some 57, op := Op.pick (Operand.tmp 51) (Operand.tmp 56) (Operand.const (Value.bool false)), type := 4, pos := "outright.go:65", after := #[{ on := 2, ground := Ground.data }, { on := 7, ground := Ground.data }], guard := none }) (.bool false) (by kernel_rfl) (by kernel_rfl) ?_
        try simp only [Act.put, List.setIfInBounds_toArray, List.set_cons_zero, List.set_cons_succ]
        refine wp_takeW (o := { dst := some 8, op := Op.assign (Operand.tmp 57), type := 4, pos := "outright.go:65", after := #[{ on := 8, ground := Ground.data }, { on := 2, ground := Ground.chain }, { on := 0, ground := Ground.phase }, { on := 1, ground := Ground.phase }, { on := 2, ground := Ground.phase }, { on := 3, ground := Ground.phase }, { on := 4, ground := Ground.phase }, { on := 5, ground := Ground.phase }, { on := 6, ground := Ground.phase }, { on := 7, ground := Ground.phase }, { on := 8, ground := Ground.phase }], guard := none }) (.bool false) (by kernel_rfl) (by kernel_rfl) ?_
        try simp only [Act.put, List.setIfInBounds_toArray, List.set_cons_zero, List.set_cons_succ]
        refine WL.nil ?_
        try simp only [Act.put, List.setIfInBounds_toArray, List.set_cons_zero, List.set_cons_succ]
        have hv : toldB i now m x = false := by first | (simp only [toldB, q1, q16, q17]; rfl) | simp [toldB, q1, q16, q17]
        go_wp2
        go_ret
        exact ⟨by rw [hv]; rfl, HK.out⟩
      · skip
        refine wp_takeW (o := { dst := some 56, op := Op.binOp BinOp.eql 27 (Operand.tmp 53) (Operand.tmp 55) 27, type := 4, pos := "outright.go:65", after := #[{ on := 4, ground := Ground.data }, { on := 6, ground := Ground.data }, { on := 2, ground := Ground.guard }], guard := some (2, true) }) (.bool true) (exec_bin .eql 27 _ _ _ rfl (.agg m.c.cells) (.agg i.c.cells) (.bool true) (by kernel_rfl) (by kernel_rfl) (guard_C _ (.inl rfl) _ _ _ _ _) (by rw [eqlC, q17]; try rfl)) (by kernel_rfl) ?_
        try simp only [Act.put, List.setIfInBounds_toArray, List.set_cons_zero, List.set_cons_succ]
        refine wp_takeW (o := { dst := some 57, op := Op.pick (Operand.tmp 51) (Operand.tmp 56) (Operand.const (Value.bool false)), type := 4, pos := "outright.go:65", after := #[{ on := 2, ground := Ground.data }, { on := 7, ground := Ground.data }], guard := none }) (.bool true) (by kernel_rfl) (by kernel_rfl) ?_
        try simp only [Act.put, List.setIfInBounds_toArray, List.set_cons_zero, List.set_cons_succ]
        refine wp_takeW (o := { dst := some 8, op := Op.assign (Operand.tmp 57), type := 4, pos := "outright.go:65", after := #[{ on := 8, ground := Ground.data }, { on := 2, ground := Ground.chain }, { on := 0, ground := Ground.phase }, { on := 1, ground := Ground.phase }, { on := 2, ground := Ground.phase }, { on := 3, ground := Ground.phase }, { on := 4, ground := Ground.phase }, { on := 5, ground := Ground.phase }, { on := 6, ground := Ground.phase }, { on := 7, ground := Ground.phase }, { on := 8, ground := Ground.phase }], guard := none }) (.bool true) (by kernel_rfl) (by kernel_rfl) ?_
        try simp only [Act.put, List.setIfInBounds_toArray, List.set_cons_zero, List.set_cons_succ]
        refine WL.nil ?_
        try simp only [Act.put, List.setIfInBounds_toArray, List.set_cons_zero, List.set_cons_succ]
        have hv : toldB i now m x = true := by first | (simp only [toldB, q1, q16, q17]; rfl) | simp [toldB, q1, q16, q17]
        go_wp2
        go_ret
        exact ⟨by rw [hv]; rfl, HK.out⟩

end Go.Proofs.Ytapjnanenfcdjaa
