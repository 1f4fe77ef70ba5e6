import Derived.Test.YtapjnanenfcdjaaJ
namespace Go.Proofs.Ytapjnanenfcdjaa
open Go.RowKit
set_option linter.unusedVariables false
set_option linter.unusedSimpArgs false

set_option maxRecDepth 100000 in
set_option maxHeartbeats 4000000 in
theorem inst_any (i : In) (wa : Option Addr) (w : World) : Calls Try.prog 7 #[.agg i.cells, .agg (wideC wa)] w (fun e w' => e = .returned (.bool (instB i)) ∧ Kept No w w') := by
  obtain ⟨w1, hw1⟩ : ∃ w1, w1 = (w.alloc (.cells i.cells 29)).alloc (.cells (wideC wa) 35) := ⟨_, rfl⟩
  obtain ⟨N, hN⟩ : ∃ N, N = w.heap.size := ⟨_, rfl⟩
  have hal := al2 w i.cells 29 (wideC wa) 35
  rw [← hw1, ← hN] at hal
  obtain ⟨hk1, hb0, hb1, -⟩ := hal
  have HK : Hid (Kept No w w1) := hk1
  have HC : Hid (Box w1 N 29 i.cells) := hb0
  have HF : Hid (Box w1 (N + 1) 35 (wideC wa)) := hb1
  clear hk1 hb0 hb1
  go_enter Try.func7, Try.ntmps7
  go_upto_region 1 with (first
    | (refine wp_boxV rfl 29 _ rfl i.cells rfl w.heap.size rfl ?_)
    | (refine wp_boxV rfl 35 _ rfl (wideC wa) rfl (w.heap.size + 1) (by simp) ?_))
  rw [← hw1, ← hN]
  clear hw1 hN
  cases q1 : (i.d)
  · skip
    refine WL.start ?_
    refine wp_takeW (o := { dst := some 5, op := Op.fieldAddr 29 (Operand.tmp 2) 3, type := 0, pos := "ref.go:112", after := #[], guard := none }) (.pointer (some ⟨N, 13, none⟩)) (by kernel_rfl) (by kernel_rfl) ?_
    try simp only [Act.put, List.setIfInBounds_toArray, List.set_cons_zero, List.set_cons_succ]
    refine wp_takeW (o := { dst := some 6, op := Op.load 4 (Operand.tmp 5), type := 4, pos := "ref.go:112", after := #[{ on := 0, ground := Ground.data }], guard := none }) (.bool false) (exec_load 4 _ rfl ⟨N, 13, none⟩ (by kernel_rfl) (.bool false) (by rw [← q1]; exact load_B (In.cel HC.out).2.2.2.2)) (by kernel_rfl) ?_
    try simp only [Act.put, List.setIfInBounds_toArray, List.set_cons_zero, List.set_cons_succ]
    refine WL.nil ?_
    try simp only [Act.put, List.setIfInBounds_toArray, List.set_cons_zero, List.set_cons_succ]
    go_upto_region 3 with fail
    refine WL.start ?_
    refine wp_takeW (o := { dst := some 21, op := Op.fieldAddr 29 (Operand.tmp 2) 0, type := 0, pos := "ref.go:115", after := #[], guard := none }) (.pointer (some ⟨N, 0, none⟩)) (by kernel_rfl) (by kernel_rfl) ?_
    try simp only [Act.put, List.setIfInBounds_toArray, List.set_cons_zero, List.set_cons_succ]
    refine wp_takeW (o := { dst := some 22, op := Op.load 23 (Operand.tmp 21), type := 23, pos := "ref.go:115", after := #[{ on := 0, ground := Ground.data }], guard := none }) (.agg #[.int .i64 i.p.n, .int .i64 i.p.c]) (exec_load 23 _ rfl ⟨N, 0, none⟩ (by kernel_rfl) (.agg #[.int .i64 i.p.n, .int .i64 i.p.c]) (load_S HC.out i.partP)) (by kernel_rfl) ?_
    try simp only [Act.put, List.setIfInBounds_toArray, List.set_cons_zero, List.set_cons_succ]
    cases q2 : (noneB i.p)
    · skip
      refine wp_callW (o := { dst := some 23, op := Op.call { callee := Callee.value (Operand.func 25), args := #[Operand.tmp 22], argTypes := #[23] }, type := 4, pos := "ref.go:115", after := #[{ on := 1, ground := Ground.data }], guard := none }) 25 #[.agg #[.int .i64 i.p.n, .int .i64 i.p.c]] (by kernel_rfl) _ (none_any i.p.n i.p.c _) (by kernel_rfl) ?_
      rintro e wk1 ⟨rfl, hk⟩
      have HC : Hid (Box wk1 N 29 i.cells) := HC.out.kept hk (fun e => e)
      have HF : Hid (Box wk1 (N + 1) 35 (wideC wa)) := HF.out.kept hk (fun e => e)
      have HK : Hid (Kept No w wk1) := HK.out.then hk
      clear hk
      refine ⟨.bool false, by rw [q2], ?_⟩
      try simp only [Act.put, List.setIfInBounds_toArray, List.set_cons_zero, List.set_cons_succ]
      refine wp_takeW (o := { dst := some 24, op := Op.unOp UnOp.not 4 (Operand.tmp 23), type := 4, pos := "ref.go:115", after := #[{ on := 2, ground := Ground.data }], guard := none }) (.bool true) (by kernel_rfl) (by kernel_rfl) ?_
      try simp only [Act.put, List.setIfInBounds_toArray, List.set_cons_zero, List.set_cons_succ]
      refine wp_takeW (o := { dst := some 25, op := Op.move (Operand.tmp 24), type := 4, pos := "ref.go:115", after := #[{ on := 3, ground := Ground.data }, { on := 2, ground := Ground.chain }], guard := none }) (.bool true) (by kernel_rfl) (by kernel_rfl) ?_
      try simp only [Act.put, List.setIfInBounds_toArray, List.set_cons_zero, List.set_cons_succ]
      refine wp_takeW (o := { dst := some 26, op := Op.fieldAddr 29 (Operand.tmp 2) 0, type := 0, pos := "ref.go:115", after := #[{ on := 4, ground := Ground.guard }], guard := some (4, true) }) (.pointer (some ⟨N, 0, none⟩)) (by kernel_rfl) (by kernel_rfl) ?_
      try simp only [Act.put, List.setIfInBounds_toArray, List.set_cons_zero, List.set_cons_succ]
      refine wp_takeW (o := { dst := some 27, op := Op.load 23 (Operand.tmp 26), type := 23, pos := "ref.go:115", after := #[{ on := 5, ground := Ground.data }, { on := 4, ground := Ground.guard }], guard := some (4, true) }) (.agg #[.int .i64 i.p.n, .int .i64 i.p.c]) (exec_load 23 _ rfl ⟨N, 0, none⟩ (by kernel_rfl) (.agg #[.int .i64 i.p.n, .int .i64 i.p.c]) (load_S HC.out i.partP)) (by kernel_rfl) ?_
      try simp only [Act.put, List.setIfInBounds_toArray, List.set_cons_zero, List.set_cons_succ]
      cases q3 : (oneB i.p)
      · skip
        refine wp_callW (o := { dst := some 28, op := Op.call { callee := Callee.value (Operand.func 9), args := #[Operand.tmp 27], argTypes := #[23] }, type := 4, pos := "ref.go:115", after := #[{ on := 6, ground := Ground.data }, { on := 4, ground := Ground.chain }, { on := 4, ground := Ground.guard }], guard := some (4, true) }) 9 #[.agg #[.int .i64 i.p.n, .int .i64 i.p.c]] (by kernel_rfl) _ (one_any i.p.n i.p.c _) (by kernel_rfl) ?_
        rintro e wk2 ⟨rfl, hk⟩
        have HC : Hid (Box wk2 N 29 i.cells) := HC.out.kept hk (fun e => e)
        have HF : Hid (Box wk2 (N + 1) 35 (wideC wa)) := HF.out.kept hk (fun e => e)
        have HK : Hid (Kept No w wk2) := HK.out.then hk
        clear hk
        refine ⟨.bool false, by rw [q3], ?_⟩
        try simp only [Act.put, List.setIfInBounds_toArray, List.set_cons_zero, List.set_cons_succ]
        refine wp_takeW (o := { dst := some 29, op := Op.unOp UnOp.not 4 (Operand.tmp 28), type := 4, pos := "ref.go:115", after := #[{ on := 7, ground := Ground.data }, { on := 4, ground := Ground.guard }], guard := some (4, true) }) (.bool true) (by kernel_rfl) (by kernel_rfl) ?_
        try simp only [Act.put, List.setIfInBounds_toArray, List.set_cons_zero, List.set_cons_succ]
        refine wp_takeW (o := { dst := some 30, op := Op.pick (Operand.tmp 25) (Operand.tmp 29) (Operand.const (Value.bool false)), type := 4, pos := "ref.go:115", after := #[{ on := 4, ground := Ground.data }, { on := 8, ground := Ground.data }], guard := none }) (.bool true) (by kernel_rfl) (by kernel_rfl) ?_
        try simp only [Act.put, List.setIfInBounds_toArray, List.set_cons_zero, List.set_cons_succ]
        refine wp_takeW (o := { dst := some 31, op := Op.move (Operand.tmp 30), type := 4, pos := "ref.go:115", after := #[{ on := 9, ground := Ground.data }, { on := 7, ground := Ground.chain }], guard := none }) (.bool true) (by kernel_rfl) (by kernel_rfl) ?_
        try simp only [Act.put, List.setIfInBounds_toArray, List.set_cons_zero, List.set_cons_succ]
        refine wp_skip (o := { dst := some 32, op := Op.fieldAddr 29 (Operand.tmp 2) 1, type := 0, pos := "ref.go:115", after := #[{ on := 10, ground := Ground.guard }], guard := some (10, false) }) (by kernel_rfl) ?_
        try simp only [Act.put, List.setIfInBounds_toArray, List.set_cons_zero, List.set_cons_succ]
        refine wp_skip (o := { dst := some 33, op := Op.load 23 (Operand.tmp 32), type := 23, pos := "ref.go:115", after := #[{ on := 11, ground := Ground.data }, { on := 10, ground := Ground.guard }], guard := some (10, false) }) (by kernel_rfl) ?_
        try simp only [Act.put, List.setIfInBounds_toArray, List.set_cons_zero, List.set_cons_succ]
        refine wp_skip (o := { dst := some 34, op := Op.fieldAddr 29 (Operand.tmp 2) 0, type := 0, pos := "ref.go:115", after := #[{ on := 10, ground := Ground.guard }], guard := some (10, false) }) (by kernel_rfl) ?_
        try simp only [Act.put, List.setIfInBounds_toArray, List.set_cons_zero, List.set_cons_succ]
        refine wp_skip (o := { dst := some 35, op := Op.load 23 (Operand.tmp 34), type := 23, pos := "ref.go:115", after := #[{ on := 13, ground := Ground.data }, { on := 10, ground := Ground.guard }], guard := some (10, false) }) (by kernel_rfl) ?_
        try simp only [Act.put, List.setIfInBounds_toArray, List.set_cons_zero, List.set_cons_succ]
        refine wp_skip (o := { dst := some 36, op := Op.call { callee := Callee.value (Operand.func 19), args := #[Operand.tmp 33, Operand.tmp 35], argTypes := #[23, 23] }, type := 4, pos := "ref.go:115", after := #[{ on := 12, ground := Ground.data }, { on := 14, ground := Ground.data }, { on := 10, ground := Ground.chain }, { on := 10, ground := Ground.guard }], guard := some (10, false) }) (by kernel_rfl) ?_
        try simp only [Act.put, List.setIfInBounds_toArray, List.set_cons_zero, List.set_cons_succ]
        refine wp_takeW (o := { dst := some 37, op := Op.pick (Operand.tmp 31) (Operand.const (Value.bool true)) (Operand.tmp 36), type := 4, pos := "ref.go:115", after := #[{ on := 10, ground := Ground.data }, { on := 15, ground := Ground.data }], guard := none }) (.bool true) (by kernel_rfl) (by kernel_rfl) ?_
        try simp only [Act.put, List.setIfInBounds_toArray, List.set_cons_zero, List.set_cons_succ]
        refine WL.nil ?_
        try simp only [Act.put, List.setIfInBounds_toArray, List.set_cons_zero, List.set_cons_succ]
        have hv : instB i = false := by first | (simp only [instB, lt, q1, q2, q3]; rfl) | simp [instB, lt, q1, q2, q3]
        go_wp2
        go_ret
        exact ⟨by rw [hv]; rfl, HK.out⟩
      · skip
        refine wp_callW (o := { dst := some 28, op := Op.call { callee := Callee.value (Operand.func 9), args := #[Operand.tmp 27], argTypes := #[23] }, type := 4, pos := "ref.go:115", after := #[{ on := 6, ground := Ground.data }, { on := 4, ground := Ground.chain }, { on := 4, ground := Ground.guard }], guard := some (4, true) }) 9 #[.agg #[.int .i64 i.p.n, .int .i64 i.p.c]] (by kernel_rfl) _ (one_any i.p.n i.p.c _) (by kernel_rfl) ?_
        rintro e wk3 ⟨rfl, hk⟩
        have HC : Hid (Box wk3 N 29 i.cells) := HC.out.kept hk (fun e => e)
        have HF : Hid (Box wk3 (N + 1) 35 (wideC wa)) := HF.out.kept hk (fun e => e)
        have HK : Hid (Kept No w wk3) := HK.out.then hk
        clear hk
        refine ⟨.bool true, by rw [q3], ?_⟩
        try simp only [Act.put, List.setIfInBounds_toArray, List.set_cons_zero, List.set_cons_succ]
        refine wp_takeW (o := { dst := some 29, op := Op.unOp UnOp.not 4 (Operand.tmp 28), type := 4, pos := "ref.go:115", after := #[{ on := 7, ground := Ground.data }, { on := 4, ground := Ground.guard }], guard := some (4, true) }) (.bool false) (by kernel_rfl) (by kernel_rfl) ?_
        try simp only [Act.put, List.setIfInBounds_toArray, List.set_cons_zero, List.set_cons_succ]
        refine wp_takeW (o := { dst := some 30, op := Op.pick (Operand.tmp 25) (Operand.tmp 29) (Operand.const (Value.bool false)), type := 4, pos := "ref.go:115", after := #[{ on := 4, ground := Ground.data }, { on := 8, ground := Ground.data }], guard := none }) (.bool false) (by kernel_rfl) (by kernel_rfl) ?_
        try simp only [Act.put, List.setIfInBounds_toArray, List.set_cons_zero, List.set_cons_succ]
        refine wp_takeW (o := { dst := some 31, op := Op.move (Operand.tmp 30), type := 4, pos := "ref.go:115", after := #[{ on := 9, ground := Ground.data }, { on := 7, ground := Ground.chain }], guard := none }) (.bool false) (by kernel_rfl) (by kernel_rfl) ?_
        try simp only [Act.put, List.setIfInBounds_toArray, List.set_cons_zero, List.set_cons_succ]
        refine wp_takeW (o := { dst := some 32, op := Op.fieldAddr 29 (Operand.tmp 2) 1, type := 0, pos := "ref.go:115", after := #[{ on := 10, ground := Ground.guard }], guard := some (10, false) }) (.pointer (some ⟨N, 2, none⟩)) (by kernel_rfl) (by kernel_rfl) ?_
        try simp only [Act.put, List.setIfInBounds_toArray, List.set_cons_zero, List.set_cons_succ]
        refine wp_takeW (o := { dst := some 33, op := Op.load 23 (Operand.tmp 32), type := 23, pos := "ref.go:115", after := #[{ on := 11, ground := Ground.data }, { on := 10, ground := Ground.guard }], guard := some (10, false) }) (.agg #[.int .i64 i.a.n, .int .i64 i.a.c]) (exec_load 23 _ rfl ⟨N, 2, none⟩ (by kernel_rfl) (.agg #[.int .i64 i.a.n, .int .i64 i.a.c]) (load_S HC.out i.partA)) (by kernel_rfl) ?_
        try simp only [Act.put, List.setIfInBounds_toArray, List.set_cons_zero, List.set_cons_succ]
        refine wp_takeW (o := { dst := some 34, op := Op.fieldAddr 29 (Operand.tmp 2) 0, type := 0, pos := "ref.go:115", after := #[{ on := 10, ground := Ground.guard }], guard := some (10, false) }) (.pointer (some ⟨N, 0, none⟩)) (by kernel_rfl) (by kernel_rfl) ?_
        try simp only [Act.put, List.setIfInBounds_toArray, List.set_cons_zero, List.set_cons_succ]
        refine wp_takeW (o := { dst := some 35, op := Op.load 23 (Operand.tmp 34), type := 23, pos := "ref.go:115", after := #[{ on := 13, ground := Ground.data }, { on := 10, ground := Ground.guard }], guard := some (10, false) }) (.agg #[.int .i64 i.p.n, .int .i64 i.p.c]) (exec_load 23 _ rfl ⟨N, 0, none⟩ (by kernel_rfl) (.agg #[.int .i64 i.p.n, .int .i64 i.p.c]) (load_S HC.out i.partP)) (by kernel_rfl) ?_
        try simp only [Act.put, List.setIfInBounds_toArray, List.set_cons_zero, List.set_cons_succ]
        cases q4 : (lessB i.p.n i.p.c i.a.n i.a.c)
        · skip
          refine wp_callW (o := { dst := some 36, op := Op.call { callee := Callee.value (Operand.func 19), args := #[Operand.tmp 33, Operand.tmp 35], argTypes := #[23, 23] }, type := 4, pos := "ref.go:115", after := #[{ on := 12, ground := Ground.data }, { on := 14, ground := Ground.data }, { on := 10, ground := Ground.chain }, { on := 10, ground := Ground.guard }], guard := some (10, false) }) 19 #[.agg #[.int .i64 i.a.n, .int .i64 i.a.c], .agg #[.int .i64 i.p.n, .int .i64 i.p.c]] (by kernel_rfl) _ (above_any i.a.n i.a.c i.p.n i.p.c _) (by kernel_rfl) ?_
          rintro e wk4 ⟨rfl, hk⟩
          have HC : Hid (Box wk4 N 29 i.cells) := HC.out.kept hk (fun e => e)
          have HF : Hid (Box wk4 (N + 1) 35 (wideC wa)) := HF.out.kept hk (fun e => e)
          have HK : Hid (Kept No w wk4) := HK.out.then hk
          clear hk
          refine ⟨.bool false, by rw [q4], ?_⟩
          try simp only [Act.put, List.setIfInBounds_toArray, List.set_cons_zero, List.set_cons_succ]
          refine wp_takeW (o := { dst := some 37, op := Op.pick (Operand.tmp 31) (Operand.const (Value.bool true)) (Operand.tmp 36), type := 4, pos := "ref.go:115", after := #[{ on := 10, ground := Ground.data }, { on := 15, ground := Ground.data }], guard := none }) (.bool false) (by kernel_rfl) (by kernel_rfl) ?_
          try simp only [Act.put, List.setIfInBounds_toArray, List.set_cons_zero, List.set_cons_succ]
          refine WL.nil ?_
          try simp only [Act.put, List.setIfInBounds_toArray, List.set_cons_zero, List.set_cons_succ]
          go_upto_region 5 with fail
          refine WL.start ?_
          refine wp_takeW (o := { dst := some 38, op := Op.fieldAddr 29 (Operand.tmp 2) 1, type := 0, pos := "ref.go:118", after := #[], guard := none }) (.pointer (some ⟨N, 2, none⟩)) (by kernel_rfl) (by kernel_rfl) ?_
          try simp only [Act.put, List.setIfInBounds_toArray, List.set_cons_zero, List.set_cons_succ]
          refine wp_takeW (o := { dst := some 39, op := Op.load 23 (Operand.tmp 38), type := 23, pos := "ref.go:118", after := #[{ on := 0, ground := Ground.data }], guard := none }) (.agg #[.int .i64 i.a.n, .int .i64 i.a.c]) (exec_load 23 _ rfl ⟨N, 2, none⟩ (by kernel_rfl) (.agg #[.int .i64 i.a.n, .int .i64 i.a.c]) (load_S HC.out i.partA)) (by kernel_rfl) ?_
          try simp only [Act.put, List.setIfInBounds_toArray, List.set_cons_zero, List.set_cons_succ]
          cases q5 : (noneB i.a)
          · skip
            refine wp_callW (o := { dst := some 40, op := Op.call { callee := Callee.value (Operand.func 25), args := #[Operand.tmp 39], argTypes := #[23] }, type := 4, pos := "ref.go:118", after := #[{ on := 1, ground := Ground.data }], guard := none }) 25 #[.agg #[.int .i64 i.a.n, .int .i64 i.a.c]] (by kernel_rfl) _ (none_any i.a.n i.a.c _) (by kernel_rfl) ?_
            rintro e wk5 ⟨rfl, hk⟩
            have HC : Hid (Box wk5 N 29 i.cells) := HC.out.kept hk (fun e => e)
            have HF : Hid (Box wk5 (N + 1) 35 (wideC wa)) := HF.out.kept hk (fun e => e)
            have HK : Hid (Kept No w wk5) := HK.out.then hk
            clear hk
            refine ⟨.bool false, by rw [q5], ?_⟩
            try simp only [Act.put, List.setIfInBounds_toArray, List.set_cons_zero, List.set_cons_succ]
            refine WL.nil ?_
            try simp only [Act.put, List.setIfInBounds_toArray, List.set_cons_zero, List.set_cons_succ]
            go_upto_region 7 with fail
            refine WL.start ?_
            refine wp_takeW (o := { dst := some 44, op := Op.fieldAddr 29 (Operand.tmp 2) 1, type := 0, pos := "ref.go:121", after := #[], guard := none }) (.pointer (some ⟨N, 2, none⟩)) (by kernel_rfl) (by kernel_rfl) ?_
            try simp only [Act.put, List.setIfInBounds_toArray, List.set_cons_zero, List.set_cons_succ]
            refine wp_takeW (o := { dst := some 45, op := Op.load 23 (Operand.tmp 44), type := 23, pos := "ref.go:121", after := #[{ on := 0, ground := Ground.data }], guard := none }) (.agg #[.int .i64 i.a.n, .int .i64 i.a.c]) (exec_load 23 _ rfl ⟨N, 2, none⟩ (by kernel_rfl) (.agg #[.int .i64 i.a.n, .int .i64 i.a.c]) (load_S HC.out i.partA)) (by kernel_rfl) ?_
            try simp only [Act.put, List.setIfInBounds_toArray, List.set_cons_zero, List.set_cons_succ]
            cases q6 : (oneB i.a)
            · skip
              refine wp_callW (o := { dst := some 46, op := Op.call { callee := Callee.value (Operand.func 9), args := #[Operand.tmp 45], argTypes := #[23] }, type := 4, pos := "ref.go:121", after := #[{ on := 1, ground := Ground.data }], guard := none }) 9 #[.agg #[.int .i64 i.a.n, .int .i64 i.a.c]] (by kernel_rfl) _ (one_any i.a.n i.a.c _) (by kernel_rfl) ?_
              rintro e wk6 ⟨rfl, hk⟩
              have HC : Hid (Box wk6 N 29 i.cells) := HC.out.kept hk (fun e => e)
              have HF : Hid (Box wk6 (N + 1) 35 (wideC wa)) := HF.out.kept hk (fun e => e)
              have HK : Hid (Kept No w wk6) := HK.out.then hk
              clear hk
              refine ⟨.bool false, by rw [q6], ?_⟩
              try simp only [Act.put, List.setIfInBounds_toArray, List.set_cons_zero, List.set_cons_succ]
              refine wp_takeW (o := { dst := some 47, op := Op.move (Operand.tmp 46), type := 4, pos := "ref.go:121", after := #[{ on := 2, ground := Ground.data }, { on := 2, ground := Ground.chain }], guard := none }) (.bool false) (by kernel_rfl) (by kernel_rfl) ?_
              try simp only [Act.put, List.setIfInBounds_toArray, List.set_cons_zero, List.set_cons_succ]
              refine wp_skip (o := { dst := some 48, op := Op.fieldAddr 29 (Operand.tmp 2) 2, type := 0, pos := "ref.go:121", after := #[{ on := 3, ground := Ground.guard }], guard := some (3, true) }) (by kernel_rfl) ?_
              try simp only [Act.put, List.setIfInBounds_toArray, List.set_cons_zero, List.set_cons_succ]
              refine wp_skip (o := { dst := some 49, op := Op.load 27 (Operand.tmp 48), type := 27, pos := "ref.go:121", after := #[{ on := 4, ground := Ground.data }, { on := 3, ground := Ground.guard }], guard := some (3, true) }) (by kernel_rfl) ?_
              try simp only [Act.put, List.setIfInBounds_toArray, List.set_cons_zero, List.set_cons_succ]
              refine wp_skip (o := { dst := some 50, op := Op.load 35 (Operand.tmp 3), type := 35, pos := "ref.go:121", after := #[{ on := 3, ground := Ground.guard }], guard := some (3, true) }) (by kernel_rfl) ?_
              try simp only [Act.put, List.setIfInBounds_toArray, List.set_cons_zero, List.set_cons_succ]
              refine wp_skip (o := { dst := some 51, op := Op.call { callee := Callee.value (Operand.func 10), args := #[Operand.tmp 49, Operand.tmp 50], argTypes := #[27, 35] }, type := 4, pos := "ref.go:121", after := #[{ on := 5, ground := Ground.data }, { on := 6, ground := Ground.data }, { on := 3, ground := Ground.chain }, { on := 3, ground := Ground.guard }], guard := some (3, true) }) (by kernel_rfl) ?_
              try simp only [Act.put, List.setIfInBounds_toArray, List.set_cons_zero, List.set_cons_succ]
              refine wp_takeW (o := { dst := some 52, op := Op.pick (Operand.tmp 47) (Operand.tmp 51) (Operand.const (Value.bool false)), type := 4, pos := "ref.go:121", after := #[{ on := 3, ground := Ground.data }, { on := 7, ground := Ground.data }], guard := none }) (.bool false) (by kernel_rfl) (by kernel_rfl) ?_
              try simp only [Act.put, List.setIfInBounds_toArray, List.set_cons_zero, List.set_cons_succ]
              refine wp_takeW (o := { dst := some 4, op := Op.assign (Operand.tmp 52), type := 4, pos := "ref.go:121", after := #[{ on := 8, ground := Ground.data }, { on := 7, ground := Ground.chain }, { on := 0, ground := Ground.phase }, { on := 1, ground := Ground.phase }, { on := 2, ground := Ground.phase }, { on := 3, ground := Ground.phase }, { on := 4, ground := Ground.phase }, { on := 5, ground := Ground.phase }, { on := 6, ground := Ground.phase }, { on := 7, ground := Ground.phase }, { on := 8, ground := Ground.phase }], guard := none }) (.bool false) (by kernel_rfl) (by kernel_rfl) ?_
              try simp only [Act.put, List.setIfInBounds_toArray, List.set_cons_zero, List.set_cons_succ]
              refine WL.nil ?_
              try simp only [Act.put, List.setIfInBounds_toArray, List.set_cons_zero, List.set_cons_succ]
              have hv : instB i = false := by first | (simp only [instB, lt, q1, q2, q3, q4, q5, q6]; rfl) | simp [instB, lt, q1, q2, q3, q4, q5, q6]
              go_wp2
              go_ret
              exact ⟨by rw [hv]; rfl, HK.out⟩
            · skip
              refine wp_callW (o := { dst := some 46, op := Op.call { callee := Callee.value (Operand.func 9), args := #[Operand.tmp 45], argTypes := #[23] }, type := 4, pos := "ref.go:121", after := #[{ on := 1, ground := Ground.data }], guard := none }) 9 #[.agg #[.int .i64 i.a.n, .int .i64 i.a.c]] (by kernel_rfl) _ (one_any i.a.n i.a.c _) (by kernel_rfl) ?_
              rintro e wk7 ⟨rfl, hk⟩
              have HC : Hid (Box wk7 N 29 i.cells) := HC.out.kept hk (fun e => e)
              have HF : Hid (Box wk7 (N + 1) 35 (wideC wa)) := HF.out.kept hk (fun e => e)
              have HK : Hid (Kept No w wk7) := HK.out.then hk
              clear hk
              refine ⟨.bool true, by rw [q6], ?_⟩
              try simp only [Act.put, List.setIfInBounds_toArray, List.set_cons_zero, List.set_cons_succ]
              refine wp_takeW (o := { dst := some 47, op := Op.move (Operand.tmp 46), type := 4, pos := "ref.go:121", after := #[{ on := 2, ground := Ground.data }, { on := 2, ground := Ground.chain }], guard := none }) (.bool true) (by kernel_rfl) (by kernel_rfl) ?_
              try simp only [Act.put, List.setIfInBounds_toArray, List.set_cons_zero, List.set_cons_succ]
              refine wp_takeW (o := { dst := some 48, op := Op.fieldAddr 29 (Operand.tmp 2) 2, type := 0, pos := "ref.go:121", after := #[{ on := 3, ground := Ground.guard }], guard := some (3, true) }) (.pointer (some ⟨N, 4, none⟩)) (by kernel_rfl) (by kernel_rfl) ?_
              try simp only [Act.put, List.setIfInBounds_toArray, List.set_cons_zero, List.set_cons_succ]
              refine wp_takeW (o := { dst := some 49, op := Op.load 27 (Operand.tmp 48), type := 27, pos := "ref.go:121", after := #[{ on := 4, ground := Ground.data }, { on := 3, ground := Ground.guard }], guard := some (3, true) }) (.agg i.c.cells) (exec_load 27 _ rfl ⟨N, 4, none⟩ (by kernel_rfl) (.agg i.c.cells) (load_IC HC.out)) (by kernel_rfl) ?_
              try simp only [Act.put, List.setIfInBounds_toArray, List.set_cons_zero, List.set_cons_succ]
              refine wp_takeW (o := { dst := some 50, op := Op.load 35 (Operand.tmp 3), type := 35, pos := "ref.go:121", after := #[{ on := 3, ground := Ground.guard }], guard := some (3, true) }) (.agg (wideC wa)) (exec_load 35 _ rfl ⟨N + 1, 0, none⟩ (by kernel_rfl) (.agg (wideC wa)) (load_W HF.out)) (by kernel_rfl) ?_
              try simp only [Act.put, List.setIfInBounds_toArray, List.set_cons_zero, List.set_cons_succ]
              cases q7 : (cmdB i.c)
              · skip
                refine wp_callW (o := { dst := some 51, op := Op.call { callee := Callee.value (Operand.func 10), args := #[Operand.tmp 49, Operand.tmp 50], argTypes := #[27, 35] }, type := 4, pos := "ref.go:121", after := #[{ on := 5, ground := Ground.data }, { on := 6, ground := Ground.data }, { on := 3, ground := Ground.chain }, { on := 3, ground := Ground.guard }], guard := some (3, true) }) 10 #[.agg i.c.cells, .agg (wideC wa)] (by kernel_rfl) _ (cmd_any i.c wa _) (by kernel_rfl) ?_
                rintro e wk8 ⟨rfl, hk⟩
                have HC : Hid (Box wk8 N 29 i.cells) := HC.out.kept hk (fun e => e)
                have HF : Hid (Box wk8 (N + 1) 35 (wideC wa)) := HF.out.kept hk (fun e => e)
                have HK : Hid (Kept No w wk8) := HK.out.then hk
                clear hk
                refine ⟨.bool false, by rw [q7], ?_⟩
                try simp only [Act.put, List.setIfInBounds_toArray, List.set_cons_zero, List.set_cons_succ]
                refine wp_takeW (o := { dst := some 52, op := Op.pick (Operand.tmp 47) (Operand.tmp 51) (Operand.const (Value.bool false)), type := 4, pos := "ref.go:121", after := #[{ on := 3, ground := Ground.data }, { on := 7, ground := Ground.data }], guard := none }) (.bool false) (by kernel_rfl) (by kernel_rfl) ?_
                try simp only [Act.put, List.setIfInBounds_toArray, List.set_cons_zero, List.set_cons_succ]
                refine wp_takeW (o := { dst := some 4, op := Op.assign (Operand.tmp 52), type := 4, pos := "ref.go:121", after := #[{ on := 8, ground := Ground.data }, { on := 7, ground := Ground.chain }, { on := 0, ground := Ground.phase }, { on := 1, ground := Ground.phase }, { on := 2, ground := Ground.phase }, { on := 3, ground := Ground.phase }, { on := 4, ground := Ground.phase }, { on := 5, ground := Ground.phase }, { on := 6, ground := Ground.phase }, { on := 7, ground := Ground.phase }, { on := 8, ground := Ground.phase }], guard := none }) (.bool false) (by kernel_rfl) (by kernel_rfl) ?_
                try simp only [Act.put, List.setIfInBounds_toArray, List.set_cons_zero, List.set_cons_succ]
                refine WL.nil ?_
                try simp only [Act.put, List.setIfInBounds_toArray, List.set_cons_zero, List.set_cons_succ]
                have hv : instB i = false := by first | (simp only [instB, lt, q1, q2, q3, q4, q5, q6, q7]; rfl) | simp [instB, lt, q1, q2, q3, q4, q5, q6, q7]
                go_wp2
                go_ret
                exact ⟨by rw [hv]; rfl, HK.out⟩
              · skip
                refine wp_callW (o := { dst := some 51, op := Op.call { callee := Callee.value (Operand.func 10), args := #[Operand.tmp 49, Operand.tmp 50], argTypes := #[27, 35] }, type := 4, pos := "ref.go:121", after := #[{ on := 5, ground := Ground.data }, { on := 6, ground := Ground.data }, { on := 3, ground := Ground.chain }, { on := 3, ground := Ground.guard }], guard := some (3, true) }) 10 #[.agg i.c.cells, .agg (wideC wa)] (by kernel_rfl) _ (cmd_any i.c wa _) (by kernel_rfl) ?_
                rintro e wk9 ⟨rfl, hk⟩
                have HC : Hid (Box wk9 N 29 i.cells) := HC.out.kept hk (fun e => e)
                have HF : Hid (Box wk9 (N + 1) 35 (wideC wa)) := HF.out.kept hk (fun e => e)
                have HK : Hid (Kept No w wk9) := HK.out.then hk
                clear hk
                refine ⟨.bool true, by rw [q7], ?_⟩
                try simp only [Act.put, List.setIfInBounds_toArray, List.set_cons_zero, List.set_cons_succ]
                refine wp_takeW (o := { dst := some 52, op := Op.pick (Operand.tmp 47) (Operand.tmp 51) (Operand.const (Value.bool false)), type := 4, pos := "ref.go:121", after := #[{ on := 3, ground := Ground.data }, { on := 7, ground := Ground.data }], guard := none }) (.bool true) (by kernel_rfl) (by kernel_rfl) ?_
                try simp only [Act.put, List.setIfInBounds_toArray, List.set_cons_zero, List.set_cons_succ]
                refine wp_takeW (o := { dst := some 4, op := Op.assign (Operand.tmp 52), type := 4, pos := "ref.go:121", after := #[{ on := 8, ground := Ground.data }, { on := 7, ground := Ground.chain }, { on := 0, ground := Ground.phase }, { on := 1, ground := Ground.phase }, { on := 2, ground := Ground.phase }, { on := 3, ground := Ground.phase }, { on := 4, ground := Ground.phase }, { on := 5, ground := Ground.phase }, { on := 6, ground := Ground.phase }, { on := 7, ground := Ground.phase }, { on := 8, ground := Ground.phase }], guard := none }) (.bool true) (by kernel_rfl) (by kernel_rfl) ?_
                try simp only [Act.put, List.setIfInBounds_toArray, List.set_cons_zero, List.set_cons_succ]
                refine WL.nil ?_
                try simp only [Act.put, List.setIfInBounds_toArray, List.set_cons_zero, List.set_cons_succ]
                have hv : instB i = true := by first | (simp only [instB, lt, q1, q2, q3, q4, q5, q6, q7]; rfl) | simp [instB, lt, q1, q2, q3, q4, q5, q6, q7]
                go_wp2
                go_ret
                exact ⟨by rw [hv]; rfl, HK.out⟩
          · skip
            refine wp_callW (o := { dst := some 40, op := Op.call { callee := Callee.value (Operand.func 25), args := #[Operand.tmp 39], argTypes := #[23] }, type := 4, pos := "ref.go:118", after := #[{ on := 1, ground := Ground.data }], guard := none }) 25 #[.agg #[.int .i64 i.a.n, .int .i64 i.a.c]] (by kernel_rfl) _ (none_any i.a.n i.a.c _) (by kernel_rfl) ?_
            rintro e wk10 ⟨rfl, hk⟩
            have HC : Hid (Box wk10 N 29 i.cells) := HC.out.kept hk (fun e => e)
            have HF : Hid (Box wk10 (N + 1) 35 (wideC wa)) := HF.out.kept hk (fun e => e)
            have HK : Hid (Kept No w wk10) := HK.out.then hk
            clear hk
            refine ⟨.bool true, by rw [q5], ?_⟩
            try simp only [Act.put, List.setIfInBounds_toArray, List.set_cons_zero, List.set_cons_succ]
            refine WL.nil ?_
            try simp only [Act.put, List.setIfInBounds_toArray, List.set_cons_zero, List.set_cons_succ]
            go_upto_region 6 with fail
            refine WL.start ?_
            refine wp_takeW (o := { dst := some 41, op := Op.fieldAddr 29 (Operand.tmp 2) 2, type := 0, pos := "ref.go:119", after := #[], guard := none }) (.pointer (some ⟨N, 4, none⟩)) (by kernel_rfl) (by kernel_rfl) ?_
            try simp only [Act.put, List.setIfInBounds_toArray, List.set_cons_zero, List.set_cons_succ]
            refine wp_takeW (o := { dst := some 42, op := Op.load 27 (Operand.tmp 41), type := 27, pos := "ref.go:119", after := #[{ on := 0, ground := Ground.data }], guard := none }) (.agg i.c.cells) (exec_load 27 _ rfl ⟨N, 4, none⟩ (by kernel_rfl) (.agg i.c.cells) (load_IC HC.out)) (by kernel_rfl) ?_
            try simp only [Act.put, List.setIfInBounds_toArray, List.set_cons_zero, List.set_cons_succ]
            cases q8 : (eqC i.c cZ)
            · skip
              refine wp_callW (o := { dst := some 43, op := Op.call { callee := Callee.value (Operand.func 26), args := #[Operand.tmp 42], argTypes := #[27] }, type := 4, pos := "ref.go:119", after := #[{ on := 1, ground := Ground.data }], guard := none }) 26 #[.agg i.c.cells] (by kernel_rfl) _ (nocmd_any i.c _) (by kernel_rfl) ?_
              rintro e wk11 ⟨rfl, hk⟩
              have HC : Hid (Box wk11 N 29 i.cells) := HC.out.kept hk (fun e => e)
              have HF : Hid (Box wk11 (N + 1) 35 (wideC wa)) := HF.out.kept hk (fun e => e)
              have HK : Hid (Kept No w wk11) := HK.out.then hk
              clear hk
              refine ⟨.bool false, by rw [q8], ?_⟩
              try simp only [Act.put, List.setIfInBounds_toArray, List.set_cons_zero, List.set_cons_succ]
              refine wp_takeW (o := { dst := some 4, op := Op.assign (Operand.tmp 43), type := 4, pos := "ref.go:119", after := #[{ on := 2, ground := Ground.data }, { on := 2, ground := Ground.chain }, { on := 0, ground := Ground.phase }, { on := 1, ground := Ground.phase }, { on := 2, ground := Ground.phase }], guard := none }) (.bool false) (by kernel_rfl) (by kernel_rfl) ?_
              try simp only [Act.put, List.setIfInBounds_toArray, List.set_cons_zero, List.set_cons_succ]
              refine WL.nil ?_
              try simp only [Act.put, List.setIfInBounds_toArray, List.set_cons_zero, List.set_cons_succ]
              have hv : instB i = false := by first | (simp only [instB, lt, q1, q2, q3, q4, q5, q8]; rfl) | simp [instB, lt, q1, q2, q3, q4, q5, q8]
              go_wp2
              go_ret
              exact ⟨by rw [hv]; rfl, HK.out⟩
            · skip
              refine wp_callW (o := { dst := some 43, op := Op.call { callee := Callee.value (Operand.func 26), args := #[Operand.tmp 42], argTypes := #[27] }, type := 4, pos := "ref.go:119", after := #[{ on := 1, ground := Ground.data }], guard := none }) 26 #[.agg i.c.cells] (by kernel_rfl) _ (nocmd_any i.c _) (by kernel_rfl) ?_
              rintro e wk12 ⟨rfl, hk⟩
              have HC : Hid (Box wk12 N 29 i.cells) := HC.out.kept hk (fun e => e)
              have HF : Hid (Box wk12 (N + 1) 35 (wideC wa)) := HF.out.kept hk (fun e => e)
              have HK : Hid (Kept No w wk12) := HK.out.then hk
              clear hk
              refine ⟨.bool true, by rw [q8], ?_⟩
              try simp only [Act.put, List.setIfInBounds_toArray, List.set_cons_zero, List.set_cons_succ]
              refine wp_takeW (o := { dst := some 4, op := Op.assign (Operand.tmp 43), type := 4, pos := "ref.go:119", after := #[{ on := 2, ground := Ground.data }, { on := 2, ground := Ground.chain }, { on := 0, ground := Ground.phase }, { on := 1, ground := Ground.phase }, { on := 2, ground := Ground.phase }], guard := none }) (.bool true) (by kernel_rfl) (by kernel_rfl) ?_
              try simp only [Act.put, List.setIfInBounds_toArray, List.set_cons_zero, List.set_cons_succ]
              refine WL.nil ?_
              try simp only [Act.put, List.setIfInBounds_toArray, List.set_cons_zero, List.set_cons_succ]
              have hv : instB i = true := by first | (simp only [instB, lt, q1, q2, q3, q4, q5, q8]; rfl) | simp [instB, lt, q1, q2, q3, q4, q5, q8]
              go_wp2
              go_ret
              exact ⟨by rw [hv]; rfl, HK.out⟩
        · skip
          refine wp_callW (o := { dst := some 36, op := Op.call { callee := Callee.value (Operand.func 19), args := #[Operand.tmp 33, Operand.tmp 35], argTypes := #[23, 23] }, type := 4, pos := "ref.go:115", after := #[{ on := 12, ground := Ground.data }, { on := 14, ground := Ground.data }, { on := 10, ground := Ground.chain }, { on := 10, ground := Ground.guard }], guard := some (10, false) }) 19 #[.agg #[.int .i64 i.a.n, .int .i64 i.a.c], .agg #[.int .i64 i.p.n, .int .i64 i.p.c]] (by kernel_rfl) _ (above_any i.a.n i.a.c i.p.n i.p.c _) (by kernel_rfl) ?_
          rintro e wk13 ⟨rfl, hk⟩
          have HC : Hid (Box wk13 N 29 i.cells) := HC.out.kept hk (fun e => e)
          have HF : Hid (Box wk13 (N + 1) 35 (wideC wa)) := HF.out.kept hk (fun e => e)
          have HK : Hid (Kept No w wk13) := HK.out.then hk
          clear hk
          refine ⟨.bool true, by rw [q4], ?_⟩
          try simp only [Act.put, List.setIfInBounds_toArray, List.set_cons_zero, List.set_cons_succ]
          refine wp_takeW (o := { dst := some 37, op := Op.pick (Operand.tmp 31) (Operand.const (Value.bool true)) (Operand.tmp 36), type := 4, pos := "ref.go:115", after := #[{ on := 10, ground := Ground.data }, { on := 15, ground := Ground.data }], guard := none }) (.bool true) (by kernel_rfl) (by kernel_rfl) ?_
          try simp only [Act.put, List.setIfInBounds_toArray, List.set_cons_zero, List.set_cons_succ]
          refine WL.nil ?_
          try simp only [Act.put, List.setIfInBounds_toArray, List.set_cons_zero, List.set_cons_succ]
          have hv : instB i = false := by first | (simp only [instB, lt, q1, q2, q3, q4]; rfl) | simp [instB, lt, q1, q2, q3, q4]
          go_wp2
          go_ret
          exact ⟨by rw [hv]; rfl, HK.out⟩
    · skip
      refine wp_callW (o := { dst := some 23, op := Op.call { callee := Callee.value (Operand.func 25), args := #[Operand.tmp 22], argTypes := #[23] }, type := 4, pos := "ref.go:115", after := #[{ on := 1, ground := Ground.data }], guard := none }) 25 #[.agg #[.int .i64 i.p.n, .int .i64 i.p.c]] (by kernel_rfl) _ (none_any i.p.n i.p.c _) (by kernel_rfl) ?_
      rintro e wk14 ⟨rfl, hk⟩
      have HC : Hid (Box wk14 N 29 i.cells) := HC.out.kept hk (fun e => e)
      have HF : Hid (Box wk14 (N + 1) 35 (wideC wa)) := HF.out.kept hk (fun e => e)
      have HK : Hid (Kept No w wk14) := HK.out.then hk
      clear hk
      refine ⟨.bool true, by rw [q2], ?_⟩
      try simp only [Act.put, List.setIfInBounds_toArray, List.set_cons_zero, List.set_cons_succ]
      refine wp_takeW (o := { dst := some 24, op := Op.unOp UnOp.not 4 (Operand.tmp 23), type := 4, pos := "ref.go:115", after := #[{ on := 2, ground := Ground.data }], guard := none }) (.bool false) (by kernel_rfl) (by kernel_rfl) ?_
      try simp only [Act.put, List.setIfInBounds_toArray, List.set_cons_zero, List.set_cons_succ]
      refine wp_takeW (o := { dst := some 25, op := Op.move (Operand.tmp 24), type := 4, pos := "ref.go:115", after := #[{ on := 3, ground := Ground.data }, { on := 2, ground := Ground.chain }], guard := none }) (.bool false) (by kernel_rfl) (by kernel_rfl) ?_
      try simp only [Act.put, List.setIfInBounds_toArray, List.set_cons_zero, List.set_cons_succ]
      refine wp_skip (o := { dst := some 26, op := Op.fieldAddr 29 (Operand.tmp 2) 0, type := 0, pos := "ref.go:115", after := #[{ on := 4, ground := Ground.guard }], guard := some (4, true) }) (by kernel_rfl) ?_
      try simp only [Act.put, List.setIfInBounds_toArray, List.set_cons_zero, List.set_cons_succ]
      refine wp_skip (o := { dst := some 27, op := Op.load 23 (Operand.tmp 26), type := 23, pos := "ref.go:115", after := #[{ on := 5, ground := Ground.data }, { on := 4, ground := Ground.guard }], guard := some (4, true) }) (by kernel_rfl) ?_
      try simp only [Act.put, List.setIfInBounds_toArray, List.set_cons_zero, List.set_cons_succ]
      refine wp_skip (o := { dst := some 28, op := Op.call { callee := Callee.value (Operand.func 9), args := #[Operand.tmp 27], argTypes := #[23] }, type := 4, pos := "ref.go:115", after := #[{ on := 6, ground := Ground.data }, { on := 4, ground := Ground.chain }, { on := 4, ground := Ground.guard }], guard := some (4, true) }) (by kernel_rfl) ?_
      try simp only [Act.put, List.setIfInBounds_toArray, List.set_cons_zero, List.set_cons_succ]
      refine wp_skip (o := { dst := some 29, op := Op.unOp UnOp.not 4 (Operand.tmp 28), type := 4, pos := "ref.go:115", after := #[{ on := 7, ground := Ground.data }, { on := 4, ground := Ground.guard }], guard := some (4, true) }) (by kernel_rfl) ?_
      try simp only [Act.put, List.setIfInBounds_toArray, List.set_cons_zero, List.set_cons_succ]
      refine wp_takeW (o := { dst := some 30, op := Op.pick (Operand.tmp 25) (Operand.tmp 29) (Operand.const (Value.bool false)), type := 4, pos := "ref.go:115", after := #[{ on := 4, ground := Ground.data }, { on := 8, ground := Ground.data }], guard := none }) (.bool false) (by kernel_rfl) (by kernel_rfl) ?_
      try simp only [Act.put, List.setIfInBounds_toArray, List.set_cons_zero, List.set_cons_succ]
      refine wp_takeW (o := { dst := some 31, op := Op.move (Operand.tmp 30), type := 4, pos := "ref.go:115", after := #[{ on := 9, ground := Ground.data }, { on := 7, ground := Ground.chain }], guard := none }) (.bool false) (by kernel_rfl) (by kernel_rfl) ?_
      try simp only [Act.put, List.setIfInBounds_toArray, List.set_cons_zero, List.set_cons_succ]
      refine wp_takeW (o := { dst := some 32, op := Op.fieldAddr 29 (Operand.tmp 2) 1, type := 0, pos := "ref.go:115", after := #[{ on := 10, ground := Ground.guard }], guard := some (10, false) }) (.pointer (some ⟨N, 2, none⟩)) (by kernel_rfl) (by kernel_rfl) ?_
      try simp only [Act.put, List.setIfInBounds_toArray, List.set_cons_zero, List.set_cons_succ]
      refine wp_takeW (o := { dst := some 33, op := Op.load 23 (Operand.tmp 32), type := 23, pos := "ref.go:115", after := #[{ on := 11, ground := Ground.data }, { on := 10, ground := Ground.guard }], guard := some (10, false) }) (.agg #[.int .i64 i.a.n, .int .i64 i.a.c]) (exec_load 23 _ rfl ⟨N, 2, none⟩ (by kernel_rfl) (.agg #[.int .i64 i.a.n, .int .i64 i.a.c]) (load_S HC.out i.partA)) (by kernel_rfl) ?_
      try simp only [Act.put, List.setIfInBounds_toArray, List.set_cons_zero, List.set_cons_succ]
      refine wp_takeW (o := { dst := some 34, op := Op.fieldAddr 29 (Operand.tmp 2) 0, type := 0, pos := "ref.go:115", after := #[{ on := 10, ground := Ground.guard }], guard := some (10, false) }) (.pointer (some ⟨N, 0, none⟩)) (by kernel_rfl) (by kernel_rfl) ?_
      try simp only [Act.put, List.setIfInBounds_toArray, List.set_cons_zero, List.set_cons_succ]
      refine wp_takeW (o := { dst := some 35, op := Op.load 23 (Operand.tmp 34), type := 23, pos := "ref.go:115", after := #[{ on := 13, ground := Ground.data }, { on := 10, ground := Ground.guard }], guard := some (10, false) }) (.agg #[.int .i64 i.p.n, .int .i64 i.p.c]) (exec_load 23 _ rfl ⟨N, 0, none⟩ (by kernel_rfl) (.agg #[.int .i64 i.p.n, .int .i64 i.p.c]) (load_S HC.out i.partP)) (by kernel_rfl) ?_
      try simp only [Act.put, List.setIfInBounds_toArray, List.set_cons_zero, List.set_cons_succ]
      cases q9 : (lessB i.p.n i.p.c i.a.n i.a.c)
      · skip
        refine wp_callW (o := { dst := some 36, op := Op.call { callee := Callee.value (Operand.func 19), args := #[Operand.tmp 33, Operand.tmp 35], argTypes := #[23, 23] }, type := 4, pos := "ref.go:115", after := #[{ on := 12, ground := Ground.data }, { on := 14, ground := Ground.data }, { on := 10, ground := Ground.chain }, { on := 10, ground := Ground.guard }], guard := some (10, false) }) 19 #[.agg #[.int .i64 i.a.n, .int .i64 i.a.c], .agg #[.int .i64 i.p.n, .int .i64 i.p.c]] (by kernel_rfl) _ (above_any i.a.n i.a.c i.p.n i.p.c _) (by kernel_rfl) ?_
        rintro e wk15 ⟨rfl, hk⟩
        have HC : Hid (Box wk15 N 29 i.cells) := HC.out.kept hk (fun e => e)
        have HF : Hid (Box wk15 (N + 1) 35 (wideC wa)) := HF.out.kept hk (fun e => e)
        have HK : Hid (Kept No w wk15) := HK.out.then hk
        clear hk
        refine ⟨.bool false, by rw [q9], ?_⟩
        try simp only [Act.put, List.setIfInBounds_toArray, List.set_cons_zero, List.set_cons_succ]
        refine wp_takeW (o := { dst := some 37, op := Op.pick (Operand.tmp 31) (Operand.const (Value.bool true)) (Operand.tmp 36), type := 4, pos := "ref.go:115", after := #[{ on := 10, ground := Ground.data }, { on := 15, ground := Ground.data }], guard := none }) (.bool false) (by kernel_rfl) (by kernel_rfl) ?_
        try simp only [Act.put, List.setIfInBounds_toArray, List.set_cons_zero, List.set_cons_succ]
        refine WL.nil ?_
        try simp only [Act.put, List.setIfInBounds_toArray, List.set_cons_zero, List.set_cons_succ]
        go_upto_region 5 with fail
        refine WL.start ?_
        refine wp_takeW (o := { dst := some 38, op := Op.fieldAddr 29 (Operand.tmp 2) 1, type := 0, pos := "ref.go:118", after := #[], guard := none }) (.pointer (some ⟨N, 2, none⟩)) (by kernel_rfl) (by kernel_rfl) ?_
        try simp only [Act.put, List.setIfInBounds_toArray, List.set_cons_zero, List.set_cons_succ]
        refine wp_takeW (o := { dst := some 39, op := Op.load 23 (Operand.tmp 38), type := 23, pos := "ref.go:118", after := #[{ on := 0, ground := Ground.data }], guard := none }) (.agg #[.int .i64 i.a.n, .int .i64 i.a.c]) (exec_load 23 _ rfl ⟨N, 2, none⟩ (by kernel_rfl) (.agg #[.int .i64 i.a.n, .int .i64 i.a.c]) (load_S HC.out i.partA)) (by kernel_rfl) ?_
        try simp only [Act.put, List.setIfInBounds_toArray, List.set_cons_zero, List.set_cons_succ]
        cases q10 : (noneB i.a)
        · skip
          refine wp_callW (o := { dst := some 40, op := Op.call { callee := Callee.value (Operand.func 25), args := #[Operand.tmp 39], argTypes := #[23] }, type := 4, pos := "ref.go:118", after := #[{ on := 1, ground := Ground.data }], guard := none }) 25 #[.agg #[.int .i64 i.a.n, .int .i64 i.a.c]] (by kernel_rfl) _ (none_any i.a.n i.a.c _) (by kernel_rfl) ?_
          rintro e wk16 ⟨rfl, hk⟩
          have HC : Hid (Box wk16 N 29 i.cells) := HC.out.kept hk (fun e => e)
          have HF : Hid (Box wk16 (N + 1) 35 (wideC wa)) := HF.out.kept hk (fun e => e)
          have HK : Hid (Kept No w wk16) := HK.out.then hk
          clear hk
          refine ⟨.bool false, by rw [q10], ?_⟩
          try simp only [Act.put, List.setIfInBounds_toArray, List.set_cons_zero, List.set_cons_succ]
          refine WL.nil ?_
          try simp only [Act.put, List.setIfInBounds_toArray, List.set_cons_zero, List.set_cons_succ]
          go_upto_region 7 with fail
          refine WL.start ?_
          refine wp_takeW (o := { dst := some 44, op := Op.fieldAddr 29 (Operand.tmp 2) 1, type := 0, pos := "ref.go:121", after := #[], guard := none }) (.pointer (some ⟨N, 2, none⟩)) (by kernel_rfl) (by kernel_rfl) ?_
          try simp only [Act.put, List.setIfInBounds_toArray, List.set_cons_zero, List.set_cons_succ]
          refine wp_takeW (o := { dst := some 45, op := Op.load 23 (Operand.tmp 44), type := 23, pos := "ref.go:121", after := #[{ on := 0, ground := Ground.data }], guard := none }) (.agg #[.int .i64 i.a.n, .int .i64 i.a.c]) (exec_load 23 _ rfl ⟨N, 2, none⟩ (by kernel_rfl) (.agg #[.int .i64 i.a.n, .int .i64 i.a.c]) (load_S HC.out i.partA)) (by kernel_rfl) ?_
          try simp only [Act.put, List.setIfInBounds_toArray, List.set_cons_zero, List.set_cons_succ]
          cases q11 : (oneB i.a)
          · skip
            refine wp_callW (o := { dst := some 46, op := Op.call { callee := Callee.value (Operand.func 9), args := #[Operand.tmp 45], argTypes := #[23] }, type := 4, pos := "ref.go:121", after := #[{ on := 1, ground := Ground.data }], guard := none }) 9 #[.agg #[.int .i64 i.a.n, .int .i64 i.a.c]] (by kernel_rfl) _ (one_any i.a.n i.a.c _) (by kernel_rfl) ?_
            rintro e wk17 ⟨rfl, hk⟩
            have HC : Hid (Box wk17 N 29 i.cells) := HC.out.kept hk (fun e => e)
            have HF : Hid (Box wk17 (N + 1) 35 (wideC wa)) := HF.out.kept hk (fun e => e)
            have HK : Hid (Kept No w wk17) := HK.out.then hk
            clear hk
            refine ⟨.bool false, by rw [q11], ?_⟩
            try simp only [Act.put, List.setIfInBounds_toArray, List.set_cons_zero, List.set_cons_succ]
            refine wp_takeW (o := { dst := some 47, op := Op.move (Operand.tmp 46), type := 4, pos := "ref.go:121", after := #[{ on := 2, ground := Ground.data }, { on := 2, ground := Ground.chain }], guard := none }) (.bool false) (by kernel_rfl) (by kernel_rfl) ?_
            try simp only [Act.put, List.setIfInBounds_toArray, List.set_cons_zero, List.set_cons_succ]
            refine wp_skip (o := { dst := some 48, op := Op.fieldAddr 29 (Operand.tmp 2) 2, type := 0, pos := "ref.go:121", after := #[{ on := 3, ground := Ground.guard }], guard := some (3, true) }) (by kernel_rfl) ?_
            try simp only [Act.put, List.setIfInBounds_toArray, List.set_cons_zero, List.set_cons_succ]
            refine wp_skip (o := { dst := some 49, op := Op.load 27 (Operand.tmp 48), type := 27, pos := "ref.go:121", after := #[{ on := 4, ground := Ground.data }, { on := 3, ground := Ground.guard }], guard := some (3, true) }) (by kernel_rfl) ?_
            try simp only [Act.put, List.setIfInBounds_toArray, List.set_cons_zero, List.set_cons_succ]
            refine wp_skip (o := { dst := some 50, op := Op.load 35 (Operand.tmp 3), type := 35, pos := "ref.go:121", after := #[{ on := 3, ground := Ground.guard }], guard := some (3, true) }) (by kernel_rfl) ?_
            try simp only [Act.put, List.setIfInBounds_toArray, List.set_cons_zero, List.set_cons_succ]
            refine wp_skip (o := { dst := some 51, op := Op.call { callee := Callee.value (Operand.func 10), args := #[Operand.tmp 49, Operand.tmp 50], argTypes := #[27, 35] }, type := 4, pos := "ref.go:121", after := #[{ on := 5, ground := Ground.data }, { on := 6, ground := Ground.data }, { on := 3, ground := Ground.chain }, { on := 3, ground := Ground.guard }], guard := some (3, true) }) (by kernel_rfl) ?_
            try simp only [Act.put, List.setIfInBounds_toArray, List.set_cons_zero, List.set_cons_succ]
            refine wp_takeW (o := { dst := some 52, op := Op.pick (Operand.tmp 47) (Operand.tmp 51) (Operand.const (Value.bool false)), type := 4, pos := "ref.go:121", after := #[{ on := 3, ground := Ground.data }, { on := 7, ground := Ground.data }], guard := none }) (.bool false) (by kernel_rfl) (by kernel_rfl) ?_
            try simp only [Act.put, List.setIfInBounds_toArray, List.set_cons_zero, List.set_cons_succ]
            refine wp_takeW (o := { dst := some 4, op := Op.assign (Operand.tmp 52), type := 4, pos := "ref.go:121", after := #[{ on := 8, ground := Ground.data }, { on := 7, ground := Ground.chain }, { on := 0, ground := Ground.phase }, { on := 1, ground := Ground.phase }, { on := 2, ground := Ground.phase }, { on := 3, ground := Ground.phase }, { on := 4, ground := Ground.phase }, { on := 5, ground := Ground.phase }, { on := 6, ground := Ground.phase }, { on := 7, ground := Ground.phase }, { on := 8, ground := Ground.phase }], guard := none }) (.bool false) (by kernel_rfl) (by kernel_rfl) ?_
            try simp only [Act.put, List.setIfInBounds_toArray, List.set_cons_zero, List.set_cons_succ]
            refine WL.nil ?_
            try simp only [Act.put, List.setIfInBounds_toArray, List.set_cons_zero, List.set_cons_succ]
            have hv : instB i = false := by first | (simp only [instB, lt, q1, q2, q9, q10, q11]; rfl) | simp [instB, lt, q1, q2, q9, q10, q11]
            go_wp2
            go_ret
            exact ⟨by rw [hv]; rfl, HK.out⟩
          · skip
            refine wp_callW (o := { dst := some 46, op := Op.call { callee := Callee.value (Operand.func 9), args := #[Operand.tmp 45], argTypes := #[23] }, type := 4, pos := "ref.go:121", after := #[{ on := 1, ground := Ground.data }], guard := none }) 9 #[.agg #[.int .i64 i.a.n, .int .i64 i.a.c]] (by kernel_rfl) _ (one_any i.a.n i.a.c _) (by kernel_rfl) ?_
            rintro e wk18 ⟨rfl, hk⟩
            have HC : Hid (Box wk18 N 29 i.cells) := HC.out.kept hk (fun e => e)
            have HF : Hid (Box wk18 (N + 1) 35 (wideC wa)) := HF.out.kept hk (fun e => e)
            have HK : Hid (Kept No w wk18) := HK.out.then hk
            clear hk
            refine ⟨.bool true, by rw [q11], ?_⟩
            try simp only [Act.put, List.setIfInBounds_toArray, List.set_cons_zero, List.set_cons_succ]
            refine wp_takeW (o := { dst := some 47, op := Op.move (Operand.tmp 46), type := 4, pos := "ref.go:121", after := #[{ on := 2, ground := Ground.data }, { on := 2, ground := Ground.chain }], guard := none }) (.bool true) (by kernel_rfl) (by kernel_rfl) ?_
            try simp only [Act.put, List.setIfInBounds_toArray, List.set_cons_zero, List.set_cons_succ]
            refine wp_takeW (o := { dst := some 48, op := Op.fieldAddr 29 (Operand.tmp 2) 2, type := 0, pos := "ref.go:121", after := #[{ on := 3, ground := Ground.guard }], guard := some (3, true) }) (.pointer (some ⟨N, 4, none⟩)) (by kernel_rfl) (by kernel_rfl) ?_
            try simp only [Act.put, List.setIfInBounds_toArray, List.set_cons_zero, List.set_cons_succ]
            refine wp_takeW (o := { dst := some 49, op := Op.load 27 (Operand.tmp 48), type := 27, pos := "ref.go:121", after := #[{ on := 4, ground := Ground.data }, { on := 3, ground := Ground.guard }], guard := some (3, true) }) (.agg i.c.cells) (exec_load 27 _ rfl ⟨N, 4, none⟩ (by kernel_rfl) (.agg i.c.cells) (load_IC HC.out)) (by kernel_rfl) ?_
            try simp only [Act.put, List.setIfInBounds_toArray, List.set_cons_zero, List.set_cons_succ]
            refine wp_takeW (o := { dst := some 50, op := Op.load 35 (Operand.tmp 3), type := 35, pos := "ref.go:121", after := #[{ on := 3, ground := Ground.guard }], guard := some (3, true) }) (.agg (wideC wa)) (exec_load 35 _ rfl ⟨N + 1, 0, none⟩ (by kernel_rfl) (.agg (wideC wa)) (load_W HF.out)) (by kernel_rfl) ?_
            try simp only [Act.put, List.setIfInBounds_toArray, List.set_cons_zero, List.set_cons_succ]
            cases q12 : (cmdB i.c)
            · skip
              refine wp_callW (o := { dst := some 51, op := Op.call { callee := Callee.value (Operand.func 10), args := #[Operand.tmp 49, Operand.tmp 50], argTypes := #[27, 35] }, type := 4, pos := "ref.go:121", after := #[{ on := 5, ground := Ground.data }, { on := 6, ground := Ground.data }, { on := 3, ground := Ground.chain }, { on := 3, ground := Ground.guard }], guard := some (3, true) }) 10 #[.agg i.c.cells, .agg (wideC wa)] (by kernel_rfl) _ (cmd_any i.c wa _) (by kernel_rfl) ?_
              rintro e wk19 ⟨rfl, hk⟩
              have HC : Hid (Box wk19 N 29 i.cells) := HC.out.kept hk (fun e => e)
              have HF : Hid (Box wk19 (N + 1) 35 (wideC wa)) := HF.out.kept hk (fun e => e)
              have HK : Hid (Kept No w wk19) := HK.out.then hk
              clear hk
              refine ⟨.bool false, by rw [q12], ?_⟩
              try simp only [Act.put, List.setIfInBounds_toArray, List.set_cons_zero, List.set_cons_succ]
              refine wp_takeW (o := { dst := some 52, op := Op.pick (Operand.tmp 47) (Operand.tmp 51) (Operand.const (Value.bool false)), type := 4, pos := "ref.go:121", after := #[{ on := 3, ground := Ground.data }, { on := 7, ground := Ground.data }], guard := none }) (.bool false) (by kernel_rfl) (by kernel_rfl) ?_
              try simp only [Act.put, List.setIfInBounds_toArray, List.set_cons_zero, List.set_cons_succ]
              refine wp_takeW (o := { dst := some 4, op := Op.assign (Operand.tmp 52), type := 4, pos := "ref.go:121", after := #[{ on := 8, ground := Ground.data }, { on := 7, ground := Ground.chain }, { on := 0, ground := Ground.phase }, { on := 1, ground := Ground.phase }, { on := 2, ground := Ground.phase }, { on := 3, ground := Ground.phase }, { on := 4, ground := Ground.phase }, { on := 5, ground := Ground.phase }, { on := 6, ground := Ground.phase }, { on := 7, ground := Ground.phase }, { on := 8, ground := Ground.phase }], guard := none }) (.bool false) (by kernel_rfl) (by kernel_rfl) ?_
              try simp only [Act.put, List.setIfInBounds_toArray, List.set_cons_zero, List.set_cons_succ]
              refine WL.nil ?_
              try simp only [Act.put, List.setIfInBounds_toArray, List.set_cons_zero, List.set_cons_succ]
              have hv : instB i = false := by first | (simp only [instB, lt, q1, q2, q9, q10, q11, q12]; rfl) | simp [instB, lt, q1, q2, q9, q10, q11, q12]
              go_wp2
              go_ret
              exact ⟨by rw [hv]; rfl, HK.out⟩
            · skip
              refine wp_callW (o := { dst := some 51, op := Op.call { callee := Callee.value (Operand.func 10), args := #[Operand.tmp 49, Operand.tmp 50], argTypes := #[27, 35] }, type := 4, pos := "ref.go:121", after := #[{ on := 5, ground := Ground.data }, { on := 6, ground := Ground.data }, { on := 3, ground := Ground.chain }, { on := 3, ground := Ground.guard }], guard := some (3, true) }) 10 #[.agg i.c.cells, .agg (wideC wa)] (by kernel_rfl) _ (cmd_any i.c wa _) (by kernel_rfl) ?_
              rintro e wk20 ⟨rfl, hk⟩
              have HC : Hid (Box wk20 N 29 i.cells) := HC.out.kept hk (fun e => e)
              have HF : Hid (Box wk20 (N + 1) 35 (wideC wa)) := HF.out.kept hk (fun e => e)
              have HK : Hid (Kept No w wk20) := HK.out.then hk
              clear hk
              refine ⟨.bool true, by rw [q12], ?_⟩
              try simp only [Act.put, List.setIfInBounds_toArray, List.set_cons_zero, List.set_cons_succ]
              refine wp_takeW (o := { dst := some 52, op := Op.pick (Operand.tmp 47) (Operand.tmp 51) (Operand.const (Value.bool false)), type := 4, pos := "ref.go:121", after := #[{ on := 3, ground := Ground.data }, { on := 7, ground := Ground.data }], guard := none }) (.bool true) (by kernel_rfl) (by kernel_rfl) ?_
              try simp only [Act.put, List.setIfInBounds_toArray, List.set_cons_zero, List.set_cons_succ]
              refine wp_takeW (o := { dst := some 4, op := Op.assign (Operand.tmp 52), type := 4, pos := "ref.go:121", after := #[{ on := 8, ground := Ground.data }, { on := 7, ground := Ground.chain }, { on := 0, ground := Ground.phase }, { on := 1, ground := Ground.phase }, { on := 2, ground := Ground.phase }, { on := 3, ground := Ground.phase }, { on := 4, ground := Ground.phase }, { on := 5, ground := Ground.phase }, { on := 6, ground := Ground.phase }, { on := 7, ground := Ground.phase }, { on := 8, ground := Ground.phase }], guard := none }) (.bool true) (by kernel_rfl) (by kernel_rfl) ?_
              try simp only [Act.put, List.setIfInBounds_toArray, List.set_cons_zero, List.set_cons_succ]
              refine WL.nil ?_
              try simp only [Act.put, List.setIfInBounds_toArray, List.set_cons_zero, List.set_cons_succ]
              have hv : instB i = true := by first | (simp only [instB, lt, q1, q2, q9, q10, q11, q12]; rfl) | simp [instB, lt, q1, q2, q9, q10, q11, q12]
              go_wp2
              go_ret
              exact ⟨by rw [hv]; rfl, HK.out⟩
        · skip
          refine wp_callW (o := { dst := some 40, op := Op.call { callee := Callee.value (Operand.func 25), args := #[Operand.tmp 39], argTypes := #[23] }, type := 4, pos := "ref.go:118", after := #[{ on := 1, ground := Ground.data }], guard := none }) 25 #[.agg #[.int .i64 i.a.n, .int .i64 i.a.c]] (by kernel_rfl) _ (none_any i.a.n i.a.c _) (by kernel_rfl) ?_
          rintro e wk21 ⟨rfl, hk⟩
          have HC : Hid (Box wk21 N 29 i.cells) := HC.out.kept hk (fun e => e)
          have HF : Hid (Box wk21 (N + 1) 35 (wideC wa)) := HF.out.kept hk (fun e => e)
          have HK : Hid (Kept No w wk21) := HK.out.then hk
          clear hk
          refine ⟨.bool true, by rw [q10], ?_⟩
          try simp only [Act.put, List.setIfInBounds_toArray, List.set_cons_zero, List.set_cons_succ]
          refine WL.nil ?_
          try simp only [Act.put, List.setIfInBounds_toArray, List.set_cons_zero, List.set_cons_succ]
          go_upto_region 6 with fail
          refine WL.start ?_
          refine wp_takeW (o := { dst := some 41, op := Op.fieldAddr 29 (Operand.tmp 2) 2, type := 0, pos := "ref.go:119", after := #[], guard := none }) (.pointer (some ⟨N, 4, none⟩)) (by kernel_rfl) (by kernel_rfl) ?_
          try simp only [Act.put, List.setIfInBounds_toArray, List.set_cons_zero, List.set_cons_succ]
          refine wp_takeW (o := { dst := some 42, op := Op.load 27 (Operand.tmp 41), type := 27, pos := "ref.go:119", after := #[{ on := 0, ground := Ground.data }], guard := none }) (.agg i.c.cells) (exec_load 27 _ rfl ⟨N, 4, none⟩ (by kernel_rfl) (.agg i.c.cells) (load_IC HC.out)) (by kernel_rfl) ?_
          try simp only [Act.put, List.setIfInBounds_toArray, List.set_cons_zero, List.set_cons_succ]
          cases q13 : (eqC i.c cZ)
          · skip
            refine wp_callW (o := { dst := some 43, op := Op.call { callee := Callee.value (Operand.func 26), args := #[Operand.tmp 42], argTypes := #[27] }, type := 4, pos := "ref.go:119", after := #[{ on := 1, ground := Ground.data }], guard := none }) 26 #[.agg i.c.cells] (by kernel_rfl) _ (nocmd_any i.c _) (by kernel_rfl) ?_
            rintro e wk22 ⟨rfl, hk⟩
            have HC : Hid (Box wk22 N 29 i.cells) := HC.out.kept hk (fun e => e)
            have HF : Hid (Box wk22 (N + 1) 35 (wideC wa)) := HF.out.kept hk (fun e => e)
            have HK : Hid (Kept No w wk22) := HK.out.then hk
            clear hk
            refine ⟨.bool false, by rw [q13], ?_⟩
            try simp only [Act.put, List.setIfInBounds_toArray, List.set_cons_zero, List.set_cons_succ]
            refine wp_takeW (o := { dst := some 4, op := Op.assign (Operand.tmp 43), type := 4, pos := "ref.go:119", after := #[{ on := 2, ground := Ground.data }, { on := 2, ground := Ground.chain }, { on := 0, ground := Ground.phase }, { on := 1, ground := Ground.phase }, { on := 2, ground := Ground.phase }], guard := none }) (.bool false) (by kernel_rfl) (by kernel_rfl) ?_
            try simp only [Act.put, List.setIfInBounds_toArray, List.set_cons_zero, List.set_cons_succ]
            refine WL.nil ?_
            try simp only [Act.put, List.setIfInBounds_toArray, List.set_cons_zero, List.set_cons_succ]
            have hv : instB i = false := by first | (simp only [instB, lt, q1, q2, q9, q10, q13]; rfl) | simp [instB, lt, q1, q2, q9, q10, q13]
            go_wp2
            go_ret
            exact ⟨by rw [hv]; rfl, HK.out⟩
          · skip
            refine wp_callW (o := { dst := some 43, op := Op.call { callee := Callee.value (Operand.func 26), args := #[Operand.tmp 42], argTypes := #[27] }, type := 4, pos := "ref.go:119", after := #[{ on := 1, ground := Ground.data }], guard := none }) 26 #[.agg i.c.cells] (by kernel_rfl) _ (nocmd_any i.c _) (by kernel_rfl) ?_
            rintro e wk23 ⟨rfl, hk⟩
            have HC : Hid (Box wk23 N 29 i.cells) := HC.out.kept hk (fun e => e)
            have HF : Hid (Box wk23 (N + 1) 35 (wideC wa)) := HF.out.kept hk (fun e => e)
            have HK : Hid (Kept No w wk23) := HK.out.then hk
            clear hk
            refine ⟨.bool true, by rw [q13], ?_⟩
            try simp only [Act.put, List.setIfInBounds_toArray, List.set_cons_zero, List.set_cons_succ]
            refine wp_takeW (o := { dst := some 4, op := Op.assign (Operand.tmp 43), type := 4, pos := "ref.go:119", after := #[{ on := 2, ground := Ground.data }, { on := 2, ground := Ground.chain }, { on := 0, ground := Ground.phase }, { on := 1, ground := Ground.phase }, { on := 2, ground := Ground.phase }], guard := none }) (.bool true) (by kernel_rfl) (by kernel_rfl) ?_
            try simp only [Act.put, List.setIfInBounds_toArray, List.set_cons_zero, List.set_cons_succ]
            refine WL.nil ?_
            try simp only [Act.put, List.setIfInBounds_toArray, List.set_cons_zero, List.set_cons_succ]
            have hv : instB i = true := by first | (simp only [instB, lt, q1, q2, q9, q10, q13]; rfl) | simp [instB, lt, q1, q2, q9, q10, q13]
            go_wp2
            go_ret
            exact ⟨by rw [hv]; rfl, HK.out⟩
      · skip
        refine wp_callW (o := { dst := some 36, op := Op.call { callee := Callee.value (Operand.func 19), args := #[Operand.tmp 33, Operand.tmp 35], argTypes := #[23, 23] }, type := 4, pos := "ref.go:115", after := #[{ on := 12, ground := Ground.data }, { on := 14, ground := Ground.data }, { on := 10, ground := Ground.chain }, { on := 10, ground := Ground.guard }], guard := some (10, false) }) 19 #[.agg #[.int .i64 i.a.n, .int .i64 i.a.c], .agg #[.int .i64 i.p.n, .int .i64 i.p.c]] (by kernel_rfl) _ (above_any i.a.n i.a.c i.p.n i.p.c _) (by kernel_rfl) ?_
        rintro e wk24 ⟨rfl, hk⟩
        have HC : Hid (Box wk24 N 29 i.cells) := HC.out.kept hk (fun e => e)
        have HF : Hid (Box wk24 (N + 1) 35 (wideC wa)) := HF.out.kept hk (fun e => e)
        have HK : Hid (Kept No w wk24) := HK.out.then hk
        clear hk
        refine ⟨.bool true, by rw [q9], ?_⟩
        try simp only [Act.put, List.setIfInBounds_toArray, List.set_cons_zero, List.set_cons_succ]
        refine wp_takeW (o := { dst := some 37, op := Op.pick (Operand.tmp 31) (Operand.const (Value.bool true)) (Operand.tmp 36), type := 4, pos := "ref.go:115", after := #[{ on := 10, ground := Ground.data }, { on := 15, ground := Ground.data }], guard := none }) (.bool true) (by kernel_rfl) (by kernel_rfl) ?_
        try simp only [Act.put, List.setIfInBounds_toArray, List.set_cons_zero, List.set_cons_succ]
        refine WL.nil ?_
        try simp only [Act.put, List.setIfInBounds_toArray, List.set_cons_zero, List.set_cons_succ]
        have hv : instB i = false := by first | (simp only [instB, lt, q1, q2, q9]; rfl) | simp [instB, lt, q1, q2, q9]
        go_wp2
        go_ret
        exact ⟨by rw [hv]; rfl, HK.out⟩
  · skip
    refine WL.start ?_
    refine wp_takeW (o := { dst := some 5, op := Op.fieldAddr 29 (Operand.tmp 2) 3, type := 0, pos := "ref.go:112", after := #[], guard := none }) (.pointer (some ⟨N, 13, none⟩)) (by kernel_rfl) (by kernel_rfl) ?_
    try simp only [Act.put, List.setIfInBounds_toArray, List.set_cons_zero, List.set_cons_succ]
    refine wp_takeW (o := { dst := some 6, op := Op.load 4 (Operand.tmp 5), type := 4, pos := "ref.go:112", after := #[{ on := 0, ground := Ground.data }], guard := none }) (.bool true) (exec_load 4 _ rfl ⟨N, 13, none⟩ (by kernel_rfl) (.bool true) (by rw [← q1]; exact load_B (In.cel HC.out).2.2.2.2)) (by kernel_rfl) ?_
    try simp only [Act.put, List.setIfInBounds_toArray, List.set_cons_zero, List.set_cons_succ]
    refine WL.nil ?_
    try simp only [Act.put, List.setIfInBounds_toArray, List.set_cons_zero, List.set_cons_succ]
    go_upto_region 2 with fail
    refine WL.start ?_
    refine wp_takeW (o := { dst := some 7, op := Op.fieldAddr 29 (Operand.tmp 2) 0, type := 0, pos := "ref.go:113", after := #[], guard := none }) (.pointer (some ⟨N, 0, none⟩)) (by kernel_rfl) (by kernel_rfl) ?_
    try simp only [Act.put, List.setIfInBounds_toArray, List.set_cons_zero, List.set_cons_succ]
    refine wp_takeW (o := { dst := some 8, op := Op.load 23 (Operand.tmp 7), type := 23, pos := "ref.go:113", after := #[{ on := 0, ground := Ground.data }], guard := none }) (.agg #[.int .i64 i.p.n, .int .i64 i.p.c]) (exec_load 23 _ rfl ⟨N, 0, none⟩ (by kernel_rfl) (.agg #[.int .i64 i.p.n, .int .i64 i.p.c]) (load_S HC.out i.partP)) (by kernel_rfl) ?_
    try simp only [Act.put, List.setIfInBounds_toArray, List.set_cons_zero, List.set_cons_succ]
    cases q14 : (noneB i.p)
    · skip
      refine wp_callW (o := { dst := some 9, op := Op.call { callee := Callee.value (Operand.func 25), args := #[Operand.tmp 8], argTypes := #[23] }, type := 4, pos := "ref.go:113", after := #[{ on := 1, ground := Ground.data }], guard := none }) 25 #[.agg #[.int .i64 i.p.n, .int .i64 i.p.c]] (by kernel_rfl) _ (none_any i.p.n i.p.c _) (by kernel_rfl) ?_
      rintro e wk25 ⟨rfl, hk⟩
      have HC : Hid (Box wk25 N 29 i.cells) := HC.out.kept hk (fun e => e)
      have HF : Hid (Box wk25 (N + 1) 35 (wideC wa)) := HF.out.kept hk (fun e => e)
      have HK : Hid (Kept No w wk25) := HK.out.then hk
      clear hk
      refine ⟨.bool false, by rw [q14], ?_⟩
      try simp only [Act.put, List.setIfInBounds_toArray, List.set_cons_zero, List.set_cons_succ]
      refine wp_takeW (o := { dst := some 10, op := Op.move (Operand.tmp 9), type := 4, pos := "ref.go:113", after := #[{ on := 2, ground := Ground.data }, { on := 2, ground := Ground.chain }], guard := none }) (.bool false) (by kernel_rfl) (by kernel_rfl) ?_
      try simp only [Act.put, List.setIfInBounds_toArray, List.set_cons_zero, List.set_cons_succ]
      refine wp_skip (o := { dst := some 11, op := Op.fieldAddr 29 (Operand.tmp 2) 1, type := 0, pos := "ref.go:113", after := #[{ on := 3, ground := Ground.guard }], guard := some (3, true) }) (by kernel_rfl) ?_
      try simp only [Act.put, List.setIfInBounds_toArray, List.set_cons_zero, List.set_cons_succ]
      refine wp_skip (o := { dst := some 12, op := Op.load 23 (Operand.tmp 11), type := 23, pos := "ref.go:113", after := #[{ on := 4, ground := Ground.data }, { on := 3, ground := Ground.guard }], guard := some (3, true) }) (by kernel_rfl) ?_
      try simp only [Act.put, List.setIfInBounds_toArray, List.set_cons_zero, List.set_cons_succ]
      refine wp_skip (o := { dst := some 13, op := Op.call { callee := Callee.value (Operand.func 25), args := #[Operand.tmp 12], argTypes := #[23] }, type := 4, pos := "ref.go:113", after := #[{ on := 5, ground := Ground.data }, { on := 3, ground := Ground.chain }, { on := 3, ground := Ground.guard }], guard := some (3, true) }) (by kernel_rfl) ?_
      try simp only [Act.put, List.setIfInBounds_toArray, List.set_cons_zero, List.set_cons_succ]
      refine wp_takeW (o := { dst := some 14, op := Op.pick (Operand.tmp 10) (Operand.tmp 13) (Operand.const (Value.bool false)), type := 4, pos := "ref.go:113", after := #[{ on := 3, ground := Ground.data }, { on := 6, ground := Ground.data }], guard := none }) (.bool false) (by kernel_rfl) (by kernel_rfl) ?_
      try simp only [Act.put, List.setIfInBounds_toArray, List.set_cons_zero, List.set_cons_succ]
      refine wp_takeW (o := { dst := some 15, op := Op.move (Operand.tmp 14), type := 4, pos := "ref.go:113", after := #[{ on := 7, ground := Ground.data }, { on := 6, ground := Ground.chain }], guard := none }) (.bool false) (by kernel_rfl) (by kernel_rfl) ?_
      try simp only [Act.put, List.setIfInBounds_toArray, List.set_cons_zero, List.set_cons_succ]
      refine wp_skip (o := { dst := some 16, op := Op.fieldAddr 29 (Operand.tmp 2) 2, type := 0, pos := "ref.go:113", after := #[{ on := 8, ground := Ground.guard }], guard := some (8, true) }) (by kernel_rfl) ?_
      try simp only [Act.put, List.setIfInBounds_toArray, List.set_cons_zero, List.set_cons_succ]
      refine wp_skip (o := { dst := some 17, op := Op.load 27 (Operand.tmp 16), type := 27, pos := "ref.go:113", after := #[{ on := 9, ground := Ground.data }, { on := 8, ground := Ground.guard }], guard := some (8, true) }) (by kernel_rfl) ?_
      try simp only [Act.put, List.setIfInBounds_toArray, List.set_cons_zero, List.set_cons_succ]
      refine wp_skip (o := { dst := some 18, op := Op.load 35 (Operand.tmp 3), type := 35, pos := "ref.go:113", after := #[{ on := 8, ground := Ground.guard }], guard := some (8, true) }) (by kernel_rfl) ?_
      try simp only [Act.put, List.setIfInBounds_toArray, List.set_cons_zero, List.set_cons_succ]
      refine wp_skip (o := { dst := some 19, op := Op.call { callee := Callee.value (Operand.func 10), args := #[Operand.tmp 17, Operand.tmp 18], argTypes := #[27, 35] }, type := 4, pos := "ref.go:113", after := #[{ on := 10, ground := Ground.data }, { on := 11, ground := Ground.data }, { on := 8, ground := Ground.chain }, { on := 8, ground := Ground.guard }], guard := some (8, true) }) (by kernel_rfl) ?_
      try simp only [Act.put, List.setIfInBounds_toArray, List.set_cons_zero, List.set_cons_succ]
      refine wp_takeW (o := { dst := some 20, op := Op.pick (Operand.tmp 15) (Operand.tmp 19) (Operand.const (Value.bool false)), type := 4, pos := "ref.go:113", after := #[{ on := 8, ground := Ground.data }, { on := 12, ground := Ground.data }], guard := none }) (.bool false) (by kernel_rfl) (by kernel_rfl) ?_
      try simp only [Act.put, List.setIfInBounds_toArray, List.set_cons_zero, List.set_cons_succ]
      refine wp_takeW (o := { dst := some 4, op := Op.assign (Operand.tmp 20), type := 4, pos := "ref.go:113", after := #[{ on := 13, ground := Ground.data }, { on := 12, ground := Ground.chain }, { on := 0, ground := Ground.phase }, { on := 1, ground := Ground.phase }, { on := 2, ground := Ground.phase }, { on := 3, ground := Ground.phase }, { on := 4, ground := Ground.phase }, { on := 5, ground := Ground.phase }, { on := 6, ground := Ground.phase }, { on := 7, ground := Ground.phase }, { on := 8, ground := Ground.phase }, { on := 9, ground := Ground.phase }, { on := 10, ground := Ground.phase }, { on := 11, ground := Ground.phase }, { on := 12, ground := Ground.phase }, { on := 13, ground := Ground.phase }], guard := none }) (.bool false) (by kernel_rfl) (by kernel_rfl) ?_
      try simp only [Act.put, List.setIfInBounds_toArray, List.set_cons_zero, List.set_cons_succ]
      refine WL.nil ?_
      try simp only [Act.put, List.setIfInBounds_toArray, List.set_cons_zero, List.set_cons_succ]
      have hv : instB i = false := by first | (simp only [instB, lt, q1, q14]; rfl) | simp [instB, lt, q1, q14]
      go_wp2
      go_ret
      exact ⟨by rw [hv]; rfl, HK.out⟩
    · skip
      refine wp_callW (o := { dst := some 9, op := Op.call { callee := Callee.value (Operand.func 25), args := #[Operand.tmp 8], argTypes := #[23] }, type := 4, pos := "ref.go:113", after := #[{ on := 1, ground := Ground.data }], guard := none }) 25 #[.agg #[.int .i64 i.p.n, .int .i64 i.p.c]] (by kernel_rfl) _ (none_any i.p.n i.p.c _) (by kernel_rfl) ?_
      rintro e wk26 ⟨rfl, hk⟩
      have HC : Hid (Box wk26 N 29 i.cells) := HC.out.kept hk (fun e => e)
      have HF : Hid (Box wk26 (N + 1) 35 (wideC wa)) := HF.out.kept hk (fun e => e)
      have HK : Hid (Kept No w wk26) := HK.out.then hk
      clear hk
      refine ⟨.bool true, by rw [q14], ?_⟩
      try simp only [Act.put, List.setIfInBounds_toArray, List.set_cons_zero, List.set_cons_succ]
      refine wp_takeW (o := { dst := some 10, op := Op.move (Operand.tmp 9), type := 4, pos := "ref.go:113", after := #[{ on := 2, ground := Ground.data }, { on := 2, ground := Ground.chain }], guard := none }) (.bool true) (by kernel_rfl) (by kernel_rfl) ?_
      try simp only [Act.put, List.setIfInBounds_toArray, List.set_cons_zero, List.set_cons_succ]
      refine wp_takeW (o := { dst := some 11, op := Op.fieldAddr 29 (Operand.tmp 2) 1, type := 0, pos := "ref.go:113", after := #[{ on := 3, ground := Ground.guard }], guard := some (3, true) }) (.pointer (some ⟨N, 2, none⟩)) (by kernel_rfl) (by kernel_rfl) ?_
      try simp only [Act.put, List.setIfInBounds_toArray, List.set_cons_zero, List.set_cons_succ]
      refine wp_takeW (o := { dst := some 12, op := Op.load 23 (Operand.tmp 11), type := 23, pos := "ref.go:113", after := #[{ on := 4, ground := Ground.data }, { on := 3, ground := Ground.guard }], guard := some (3, true) }) (.agg #[.int .i64 i.a.n, .int .i64 i.a.c]) (exec_load 23 _ rfl ⟨N, 2, none⟩ (by kernel_rfl) (.agg #[.int .i64 i.a.n, .int .i64 i.a.c]) (load_S HC.out i.partA)) (by kernel_rfl) ?_
      try simp only [Act.put, List.setIfInBounds_toArray, List.set_cons_zero, List.set_cons_succ]
      cases q15 : (noneB i.a)
      · skip
        refine wp_callW (o := { dst := some 13, op := Op.call { callee := Callee.value (Operand.func 25), args := #[Operand.tmp 12], argTypes := #[23] }, type := 4, pos := "ref.go:113", after := #[{ on := 5, ground := Ground.data }, { on := 3, ground := Ground.chain }, { on := 3, ground := Ground.guard }], guard := some (3, true) }) 25 #[.agg #[.int .i64 i.a.n, .int .i64 i.a.c]] (by kernel_rfl) _ (none_any i.a.n i.a.c _) (by kernel_rfl) ?_
        rintro e wk27 ⟨rfl, hk⟩
        have HC : Hid (Box wk27 N 29 i.cells) := HC.out.kept hk (fun e => e)
        have HF : Hid (Box wk27 (N + 1) 35 (wideC wa)) := HF.out.kept hk (fun e => e)
        have HK : Hid (Kept No w wk27) := HK.out.then hk
        clear hk
        refine ⟨.bool false, by rw [q15], ?_⟩
        try simp only [Act.put, List.setIfInBounds_toArray, List.set_cons_zero, List.set_cons_succ]
        refine wp_takeW (o := { dst := some 14, op := Op.pick (Operand.tmp 10) (Operand.tmp 13) (Operand.const (Value.bool false)), type := 4, pos := "ref.go:113", after := #[{ on := 3, ground := Ground.data }, { on := 6, ground := Ground.data }], guard := none }) (.bool false) (by kernel_rfl) (by kernel_rfl) ?_
        try simp only [Act.put, List.setIfInBounds_toArray, List.set_cons_zero, List.set_cons_succ]
        refine wp_takeW (o := { dst := some 15, op := Op.move (Operand.tmp 14), type := 4, pos := "ref.go:113", after := #[{ on := 7, ground := Ground.data }, { on := 6, ground := Ground.chain }], guard := none }) (.bool false) (by kernel_rfl) (by kernel_rfl) ?_
        try simp only [Act.put, List.setIfInBounds_toArray, List.set_cons_zero, List.set_cons_succ]
        refine wp_skip (o := { dst := some 16, op := Op.fieldAddr 29 (Operand.tmp 2) 2, type := 0, pos := "ref.go:113", after := #[{ on := 8, ground := Ground.guard }], guard := some (8, true) }) (by kernel_rfl) ?_
        try simp only [Act.put, List.setIfInBounds_toArray, List.set_cons_zero, List.set_cons_succ]
        refine wp_skip (o := { dst := some 17, op := Op.load 27 (Operand.tmp 16), type := 27, pos := "ref.go:113", after := #[{ on := 9, ground := Ground.data }, { on := 8, ground := Ground.guard }], guard := some (8, true) }) (by kernel_rfl) ?_
        try simp only [Act.put, List.setIfInBounds_toArray, List.set_cons_zero, List.set_cons_succ]
        refine wp_skip (o := { dst := some 18, op := Op.load 35 (Operand.tmp 3), type := 35, pos := "ref.go:113", after := #[{ on := 8, ground := Ground.guard }], guard := some (8, true) }) (by kernel_rfl) ?_
        try simp only [Act.put, List.setIfInBounds_toArray, List.set_cons_zero, List.set_cons_succ]
        refine wp_skip (o := { dst := some 19, op := Op.call { callee := Callee.value (Operand.func 10), args := #[Operand.tmp 17, Operand.tmp 18], argTypes := #[27, 35] }, type := 4, pos := "ref.go:113", after := #[{ on := 10, ground := Ground.data }, { on := 11, ground := Ground.data }, { on := 8, ground := Ground.chain }, { on := 8, ground := Ground.guard }], guard := some (8, true) }) (by kernel_rfl) ?_
        try simp only [Act.put, List.setIfInBounds_toArray, List.set_cons_zero, List.set_cons_succ]
        refine wp_takeW (o := { dst := some 20, op := Op.pick (Operand.tmp 15) (Operand.tmp 19) (Operand.const (Value.bool false)), type := 4, pos := "ref.go:113", after := #[{ on := 8, ground := Ground.data }, { on := 12, ground := Ground.data }], guard := none }) (.bool false) (by kernel_rfl) (by kernel_rfl) ?_
        try simp only [Act.put, List.setIfInBounds_toArray, List.set_cons_zero, List.set_cons_succ]
        refine wp_takeW (o := { dst := some 4, op := Op.assign (Operand.tmp 20), type := 4, pos := "ref.go:113", after := #[{ on := 13, ground := Ground.data }, { on := 12, ground := Ground.chain }, { on := 0, ground := Ground.phase }, { on := 1, ground := Ground.phase }, { on := 2, ground := Ground.phase }, { on := 3, ground := Ground.phase }, { on := 4, ground := Ground.phase }, { on := 5, ground := Ground.phase }, { on := 6, ground := Ground.phase }, { on := 7, ground := Ground.phase }, { on := 8, ground := Ground.phase }, { on := 9, ground := Ground.phase }, { on := 10, ground := Ground.phase }, { on := 11, ground := Ground.phase }, { on := 12, ground := Ground.phase }, { on := 13, ground := Ground.phase }], guard := none }) (.bool false) (by kernel_rfl) (by kernel_rfl) ?_
        try simp only [Act.put, List.setIfInBounds_toArray, List.set_cons_zero, List.set_cons_succ]
        refine WL.nil ?_
        try simp only [Act.put, List.setIfInBounds_toArray, List.set_cons_zero, List.set_cons_succ]
        have hv : instB i = false := by first | (simp only [instB, lt, q1, q14, q15]; rfl) | simp [instB, lt, q1, q14, q15]
        go_wp2
        go_ret
        exact ⟨by rw [hv]; rfl, HK.out⟩
      · skip
        refine wp_callW (o := { dst := some 13, op := Op.call { callee := Callee.value (Operand.func 25), args := #[Operand.tmp 12], argTypes := #[23] }, type := 4, pos := "ref.go:113", after := #[{ on := 5, ground := Ground.data }, { on := 3, ground := Ground.chain }, { on := 3, ground := Ground.guard }], guard := some (3, true) }) 25 #[.agg #[.int .i64 i.a.n, .int .i64 i.a.c]] (by kernel_rfl) _ (none_any i.a.n i.a.c _) (by kernel_rfl) ?_
        rintro e wk28 ⟨rfl, hk⟩
        have HC : Hid (Box wk28 N 29 i.cells) := HC.out.kept hk (fun e => e)
        have HF : Hid (Box wk28 (N + 1) 35 (wideC wa)) := HF.out.kept hk (fun e => e)
        have HK : Hid (Kept No w wk28) := HK.out.then hk
        clear hk
        refine ⟨.bool true, by rw [q15], ?_⟩
        try simp only [Act.put, List.setIfInBounds_toArray, List.set_cons_zero, List.set_cons_succ]
        refine wp_takeW (o := { dst := some 14, op := Op.pick (Operand.tmp 10) (Operand.tmp 13) (Operand.const (Value.bool false)), type := 4, pos := "ref.go:113", after := #[{ on := 3, ground := Ground.data }, { on := 6, ground := Ground.data }], guard := none }) (.bool true) (by kernel_rfl) (by kernel_rfl) ?_
        try simp only [Act.put, List.setIfInBounds_toArray, List.set_cons_zero, List.set_cons_succ]
        refine wp_takeW (o := { dst := some 15, op := Op.move (Operand.tmp 14), type := 4, pos := "ref.go:113", after := #[{ on := 7, ground := Ground.data }, { on := 6, ground := Ground.chain }], guard := none }) (.bool true) (by kernel_rfl) (by kernel_rfl) ?_
        try simp only [Act.put, List.setIfInBounds_toArray, List.set_cons_zero, List.set_cons_succ]
        refine wp_takeW (o := { dst := some 16, op := Op.fieldAddr 29 (Operand.tmp 2) 2, type := 0, pos := "ref.go:113", after := #[{ on := 8, ground := Ground.guard }], guard := some (8, true) }) (.pointer (some ⟨N, 4, none⟩)) (by kernel_rfl) (by kernel_rfl) ?_
        try simp only [Act.put, List.setIfInBounds_toArray, List.set_cons_zero, List.set_cons_succ]
        refine wp_takeW (o := { dst := some 17, op := Op.load 27 (Operand.tmp 16), type := 27, pos := "ref.go:113", after := #[{ on := 9, ground := Ground.data }, { on := 8, ground := Ground.guard }], guard := some (8, true) }) (.agg i.c.cells) (exec_load 27 _ rfl ⟨N, 4, none⟩ (by kernel_rfl) (.agg i.c.cells) (load_IC HC.out)) (by kernel_rfl) ?_
        try simp only [Act.put, List.setIfInBounds_toArray, List.set_cons_zero, List.set_cons_succ]
        refine wp_takeW (o := { dst := some 18, op := Op.load 35 (Operand.tmp 3), type := 35, pos := "ref.go:113", after := #[{ on := 8, ground := Ground.guard }], guard := some (8, true) }) (.agg (wideC wa)) (exec_load 35 _ rfl ⟨N + 1, 0, none⟩ (by kernel_rfl) (.agg (wideC wa)) (load_W HF.out)) (by kernel_rfl) ?_
        try simp only [Act.put, List.setIfInBounds_toArray, List.set_cons_zero, List.set_cons_succ]
        cases q16 : (cmdB i.c)
        · skip
          refine wp_callW (o := { dst := some 19, op := Op.call { callee := Callee.value (Operand.func 10), args := #[Operand.tmp 17, Operand.tmp 18], argTypes := #[27, 35] }, type := 4, pos := "ref.go:113", after := #[{ on := 10, ground := Ground.data }, { on := 11, ground := Ground.data }, { on := 8, ground := Ground.chain }, { on := 8, ground := Ground.guard }], guard := some (8, true) }) 10 #[.agg i.c.cells, .agg (wideC wa)] (by kernel_rfl) _ (cmd_any i.c wa _) (by kernel_rfl) ?_
          rintro e wk29 ⟨rfl, hk⟩
          have HC : Hid (Box wk29 N 29 i.cells) := HC.out.kept hk (fun e => e)
          have HF : Hid (Box wk29 (N + 1) 35 (wideC wa)) := HF.out.kept hk (fun e => e)
          have HK : Hid (Kept No w wk29) := HK.out.then hk
          clear hk
          refine ⟨.bool false, by rw [q16], ?_⟩
          try simp only [Act.put, List.setIfInBounds_toArray, List.set_cons_zero, List.set_cons_succ]
          refine wp_takeW (o := { dst := some 20, op := Op.pick (Operand.tmp 15) (Operand.tmp 19) (Operand.const (Value.bool false)), type := 4, pos := "ref.go:113", after := #[{ on := 8, ground := Ground.data }, { on := 12, ground := Ground.data }], guard := none }) (.bool false) (by kernel_rfl) (by kernel_rfl) ?_
          try simp only [Act.put, List.setIfInBounds_toArray, List.set_cons_zero, List.set_cons_succ]
          refine wp_takeW (o := { dst := some 4, op := Op.assign (Operand.tmp 20), type := 4, pos := "ref.go:113", after := #[{ on := 13, ground := Ground.data }, { on := 12, ground := Ground.chain }, { on := 0, ground := Ground.phase }, { on := 1, ground := Ground.phase }, { on := 2, ground := Ground.phase }, { on := 3, ground := Ground.phase }, { on := 4, ground := Ground.phase }, { on := 5, ground := Ground.phase }, { on := 6, ground := Ground.phase }, { on := 7, ground := Ground.phase }, { on := 8, ground := Ground.phase }, { on := 9, ground := Ground.phase }, { on := 10, ground := Ground.phase }, { on := 11, ground := Ground.phase }, { on := 12, ground := Ground.phase }, { on := 13, ground := Ground.phase }], guard := none }) (.bool false) (by kernel_rfl) (by kernel_rfl) ?_
          try simp only [Act.put, List.setIfInBounds_toArray, List.set_cons_zero, List.set_cons_succ]
          refine WL.nil ?_
          try simp only [Act.put, List.setIfInBounds_toArray, List.set_cons_zero, List.set_cons_succ]
          have hv : instB i = false := by first | (simp only [instB, lt, q1, q14, q15, q16]; rfl) | simp [instB, lt, q1, q14, q15, q16]
          go_wp2
          go_ret
          exact ⟨by rw [hv]; rfl, HK.out⟩
        · skip
          refine wp_callW (o := { dst := some 19, op := Op.call { callee := Callee.value (Operand.func 10), args := #[Operand.tmp 17, Operand.tmp 18], argTypes := #[27, 35] }, type := 4, pos := "ref.go:113", after := #[{ on := 10, ground := Ground.data }, { on := 11, ground := Ground.data }, { on := 8, ground := Ground.chain }, { on := 8, ground := Ground.guard }], guard := some (8, true) }) 10 #[.agg i.c.cells, .agg (wideC wa)] (by kernel_rfl) _ (cmd_any i.c wa _) (by kernel_rfl) ?_
          rintro e wk30 ⟨rfl, hk⟩
          have HC : Hid (Box wk30 N 29 i.cells) := HC.out.kept hk (fun e => e)
          have HF : Hid (Box wk30 (N + 1) 35 (wideC wa)) := HF.out.kept hk (fun e => e)
          have HK : Hid (Kept No w wk30) := HK.out.then hk
          clear hk
          refine ⟨.bool true, by rw [q16], ?_⟩
          try simp only [Act.put, List.setIfInBounds_toArray, List.set_cons_zero, List.set_cons_succ]
          refine wp_takeW (o := { dst := some 20, op := Op.pick (Operand.tmp 15) (Operand.tmp 19) (Operand.const (Value.bool false)), type := 4, pos := "ref.go:113", after := #[{ on := 8, ground := Ground.data }, { on := 12, ground := Ground.data }], guard := none }) (.bool true) (by kernel_rfl) (by kernel_rfl) ?_
          try simp only [Act.put, List.setIfInBounds_toArray, List.set_cons_zero, List.set_cons_succ]
          refine wp_takeW (o := { dst := some 4, op := Op.assign (Operand.tmp 20), type := 4, pos := "ref.go:113", after := #[{ on := 13, ground := Ground.data }, { on := 12, ground := Ground.chain }, { on := 0, ground := Ground.phase }, { on := 1, ground := Ground.phase }, { on := 2, ground := Ground.phase }, { on := 3, ground := Ground.phase }, { on := 4, ground := Ground.phase }, { on := 5, ground := Ground.phase }, { on := 6, ground := Ground.phase }, { on := 7, ground := Ground.phase }, { on := 8, ground := Ground.phase }, { on := 9, ground := Ground.phase }, { on := 10, ground := Ground.phase }, { on := 11, ground := Ground.phase }, { on := 12, ground := Ground.phase }, { on := 13, ground := Ground.phase }], guard := none }) (.bool true) (by kernel_rfl) (by kernel_rfl) ?_
          try simp only [Act.put, List.setIfInBounds_toArray, List.set_cons_zero, List.set_cons_succ]
          refine WL.nil ?_
          try simp only [Act.put, List.setIfInBounds_toArray, List.set_cons_zero, List.set_cons_succ]
          have hv : instB i = true := by first | (simp only [instB, lt, q1, q14, q15, q16]; rfl) | simp [instB, lt, q1, q14, q15, q16]
          go_wp2
          go_ret
          exact ⟨by rw [hv]; rfl, HK.out⟩

end Go.Proofs.Ytapjnanenfcdjaa
