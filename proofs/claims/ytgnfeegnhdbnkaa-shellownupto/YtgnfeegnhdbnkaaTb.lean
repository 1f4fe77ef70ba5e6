import Derived.Test.YtgnfeegnhdbnkaaTa
namespace Go.Proofs.Ytgnfeegnhdbnkaa
open Go.RowKit Go.Lib
set_option linter.unusedVariables false
set_option linter.unusedSimpArgs false

theorem b_remN (x y : Nat) (yi : Int) (hy : yi = (y : Int)) (h0 : 0 < y) (w : World) : (binOp .rem 3 (.int .i64 (x : Int)) (.int .i64 yi)).run Try.prog w = .ok (.int .i64 ((x % y : Nat) : Int)) w := by
  subst hy
  rw [binOp_rem]
  unfold Op.intDiv
  rw [if_neg (by omega)]
  show Result.ok (Value.int .i64 ((x : Int).tmod (y : Int))) w = _
  rw [Int.tmod_eq_emod_of_nonneg (by omega)]
  rfl
theorem b_quoN (x y : Nat) (yi : Int) (hy : yi = (y : Int)) (h0 : 0 < y) (hx : x ≤ 4611686018427387904) (w : World) : (binOp .quo 3 (.int .i64 (x : Int)) (.int .i64 yi)).run Try.prog w = .ok (.int .i64 ((x / y : Nat) : Int)) w := by
  subst hy
  rw [binOp_quo]
  unfold Op.intDiv
  rw [if_neg (by omega)]
  show Result.ok (Value.int .i64 (IntKind.i64.wrap ((x : Int).tdiv (y : Int)))) w = _
  have h1 : x / y ≤ x := Nat.div_le_self x y
  rw [Int.tdiv_eq_ediv_of_nonneg (by omega), ← Int.natCast_ediv]
  generalize x / y = z at h1 ⊢
  rw [wrap_id _ (by omega) (by omega)]
theorem u8V_n (n : Nat) (h : n ≤ 255) : u8V (UInt8.ofNat n) = .int .u8 (n : Int) := by
  unfold u8V
  rw [UInt8.toNat_ofNat']
  congr 1
  omega
set_option maxRecDepth 100000 in
set_option maxHeartbeats 4000000 in
theorem marked_f : ∀ (f n : Nat), n < f → f ≤ 100000000000 → ∀ w, Calls Try.prog 12 #[.int .i64 (n : Int)] w (fun e w' => e = .returned (.string (bs (mkF f n))) ∧ Kept No w w') := by
  intro f
  induction f with
  | zero => intro n h; omega
  | succ f ih0 =>
    intro n hn hf w
    have ih : ∀ n, n < f → f ≤ 100000000000 → ∀ w, Calls Try.prog 12 #[.int .i64 (n : Int)] w (fun e w' => e = .returned (.string (bs (mkF f n))) ∧ Kept No w w') := ih0
    obtain ⟨C, hC⟩ : ∃ C : Ending → World → Prop, C = (fun e w' => e = .returned (.string (bs (mkF (f + 1) n))) ∧ Kept No w w') := ⟨_, rfl⟩
    have HC : Hid (C = (fun e w' => e = .returned (.string (bs (mkF (f + 1) n))) ∧ Kept No w w')) := hC
    rw [← hC]
    clear hC ih0
    have HK : Hid (Kept No w w) := Kept.refl _ _
    by_cases hlt : n < 10
    · skip
      have hc : ((n : Nat) : Int) < 10 := by omega
      have HI : Hid (n < 10) := hlt
      clear hlt hn hf
      go_enter Try.func12, Try.ntmps12
      go_upto_region 0 with fail
      refine WL.start ?_
      refine tK (.string ⟨#[]⟩) ?_
      try simp only [pA, pB, p1, p2, p3]
      refine WL.nil ?_
      try simp only [pA, pB, p1, p2, p3]
      go_upto_region 1 with fail
      refine WL.start ?_
      refine tK (.int .i64 (n : Int)) ?_
      try simp only [pA, pB, p1, p2, p3]
      refine tW (.bool true) (exec_bin .lss 3 _ _ _ rfl (.int .i64 (n : Int)) (.int .i64 10) (.bool true) (by kernel_rfl) (by kernel_rfl) (by kernel_rfl) (by rw [b_lss, decide_eq_true hc])) ?_
      try simp only [pA, pB, p1, p2, p3]
      refine WL.nil ?_
      try simp only [pA, pB, p1, p2, p3]
      go_upto_region 2 with fail
      refine WL.start ?_
      refine tK (.int .i64 (n : Int)) ?_
      try simp only [pA, pB, p1, p2, p3]
      refine tW (.int .i64 ((48 + n : Nat) : Int)) (exec_bin .add 3 _ _ _ rfl (.int .i64 48) (.int .i64 (n : Int)) (.int .i64 ((48 + n : Nat) : Int)) (by kernel_rfl) (by kernel_rfl) (by kernel_rfl) (b_add _ _ _ (by have := HI.out; rw [wrap_id _ (by omega) (by omega)]; omega) _)) ?_
      try simp only [pA, pB, p1, p2, p3]
      refine tW (.int .u8 ((48 + n : Nat) : Int)) (exec_conv _ 3 5 rfl _ _ (by kernel_rfl) (c_u8 _ (by have := HI.out; omega) (by have := HI.out; omega) _)) ?_
      try simp only [pA, pB, p1, p2, p3]
      have HK : Hid (Kept No w (w.alloc (.cells [.int .u8 ((48 + n : Nat) : Int)].toArray 5))) := HK.out.alloc _
      have HX : Hid (Box (w.alloc (.cells [.int .u8 ((48 + n : Nat) : Int)].toArray 5)) w.heap.size 5 [.int .u8 ((48 + n : Nat) : Int)].toArray) := Box.new _ _ _
      refine wp_runW (.slice (some ⟨w.heap.size, 0, none⟩) 1 1) (w.alloc (.cells [.int .u8 ((48 + n : Nat) : Int)].toArray 5)) (exec_built (by kernel_rfl)) (by kernel_rfl) ?_
      try simp only [pA, pB, p1, p2, p3]
      generalize w.alloc (.cells [.int .u8 ((48 + n : Nat) : Int)].toArray 5) = wk1 at HK HX ⊢
      generalize w.heap.size = gk2 at HX ⊢
      refine tW (.string (bs [dgt (n)])) (exec_conv _ 30 9 rfl _ _ (by kernel_rfl) (run_conv (l := [dgt (n)]) (by have h := Own.of_box HX.out (Nat.le_refl _) (by simp); rw [show [dgt (n)].map u8V = [.int .u8 ((48 + n : Nat) : Int)] from by rw [List.map_cons, List.map_nil, dgt, u8V_n _ (by have := HI.out; omega)]]; exact h) rfl)) ?_
      try simp only [pA, pB, p1, p2, p3]
      refine tK (.string (bs [dgt (n)])) ?_
      try simp only [pA, pB, p1, p2, p3]
      refine WL.nil ?_
      try simp only [pA, pB, p1, p2, p3]
      go_wp2
      rw [HC.out]
      exact ⟨by rw [show mkF (f + 1) n = [dgt n] from if_pos (by have := HI.out; omega)] <;> rfl, HK.out⟩
    · skip
      have hc : ¬ ((n : Nat) : Int) < 10 := by omega
      have HI : Hid (10 ≤ n ∧ n < f + 1 ∧ f + 1 ≤ 100000000000) := ⟨by omega, hn, hf⟩
      clear hlt hn hf
      go_enter Try.func12, Try.ntmps12
      go_upto_region 0 with fail
      refine WL.start ?_
      refine tK (.string ⟨#[]⟩) ?_
      try simp only [pA, pB, p1, p2, p3]
      refine WL.nil ?_
      try simp only [pA, pB, p1, p2, p3]
      go_upto_region 1 with fail
      refine WL.start ?_
      refine tK (.int .i64 (n : Int)) ?_
      try simp only [pA, pB, p1, p2, p3]
      refine tW (.bool false) (exec_bin .lss 3 _ _ _ rfl (.int .i64 (n : Int)) (.int .i64 10) (.bool false) (by kernel_rfl) (by kernel_rfl) (by kernel_rfl) (by rw [b_lss, decide_eq_false hc])) ?_
      try simp only [pA, pB, p1, p2, p3]
      refine WL.nil ?_
      try simp only [pA, pB, p1, p2, p3]
      go_upto_region 3 with fail
      have HK : Hid (Kept No w w.drew) := HK.out.drew
      refine wp_region_held_drew (S := fun w' => Kept No w w') rfl HK.out (fun hH => ?_)
      generalize w.drew = wk3 at HK hH ⊢
      refine aT (i := 0) (oi := { dst := some 10, op := Op.move (Operand.tmp 0), type := 3, pos := "law.go:157", after := #[], guard := none }) (v := .int .i64 (n : Int)) (fun _ _ => by kernel_rfl) hH ?_
      try simp only [pA, pB, p1, p2, p3]
      refine aT (i := 1) (oi := { dst := some 11, op := Op.binOp BinOp.quo 3 (Operand.tmp 10) (Operand.const (Value.int IntKind.i64 10)) 3, type := 3, pos := "law.go:157", after := #[{ on := 0, ground := Ground.data }], guard := none }) (v := .int .i64 ((n / 10 : Nat) : Int)) (fun w' hw => exec_bin .quo 3 _ _ _ rfl (.int .i64 (n : Int)) (.int .i64 10) (.int .i64 ((n / 10 : Nat) : Int)) (by kernel_rfl) (by kernel_rfl) (by kernel_rfl) (b_quoN n 10 10 rfl (by decide) (by have := HI.out; omega) _)) hH ?_
      try simp only [pA, pB, p1, p2, p3]
      refine aT (i := 3) (oi := { dst := some 13, op := Op.move (Operand.tmp 0), type := 3, pos := "law.go:157", after := #[], guard := none }) (v := .int .i64 (n : Int)) (fun _ _ => by kernel_rfl) hH ?_
      try simp only [pA, pB, p1, p2, p3]
      refine aT (i := 4) (oi := { dst := some 14, op := Op.binOp BinOp.rem 3 (Operand.tmp 13) (Operand.const (Value.int IntKind.i64 10)) 3, type := 3, pos := "law.go:157", after := #[{ on := 3, ground := Ground.data }], guard := none }) (v := .int .i64 ((n % 10 : Nat) : Int)) (fun w' hw => exec_bin .rem 3 _ _ _ rfl (.int .i64 (n : Int)) (.int .i64 10) (.int .i64 ((n % 10 : Nat) : Int)) (by kernel_rfl) (by kernel_rfl) (by kernel_rfl) (b_remN n 10 10 rfl (by decide) _)) hH ?_
      try simp only [pA, pB, p1, p2, p3]
      refine aT (i := 5) (oi := { dst := some 15, op := Op.binOp BinOp.add 3 (Operand.const (Value.int IntKind.i64 48)) (Operand.tmp 14) 3, type := 3, pos := "law.go:157", after := #[{ on := 4, ground := Ground.data }], guard := none }) (v := .int .i64 ((48 + n % 10 : Nat) : Int)) (fun w' hw => exec_bin .add 3 _ _ _ rfl (.int .i64 48) (.int .i64 ((n % 10 : Nat) : Int)) (.int .i64 ((48 + n % 10 : Nat) : Int)) (by kernel_rfl) (by kernel_rfl) (by kernel_rfl) (b_add _ _ _ (by have := HI.out; rw [wrap_id _ (by omega) (by omega)]; omega) _)) hH ?_
      try simp only [pA, pB, p1, p2, p3]
      refine aT (i := 6) (oi := { dst := some 16, op := Op.convert 3 5 (Operand.tmp 15), type := 5, pos := "law.go:157", after := #[{ on := 5, ground := Ground.data }], guard := none }) (v := .int .u8 ((48 + n % 10 : Nat) : Int)) (fun w' hw => exec_conv _ 3 5 rfl _ _ (by kernel_rfl) (c_u8 _ (by have := HI.out; omega) (by have := HI.out; omega) _)) hH ?_
      try simp only [pA, pB, p1, p2, p3]
      refine any_pick (rs := [2, 7]) (by kernel_rfl) (by simp) ?_
      intro i hi
      rcases pick2 hi with rfl | rfl
      ·skip
       clear hi
       refine step_call (i := 2) (o := { dst := some 12, op := Op.call { callee := Callee.value (Operand.func 12), args := #[Operand.tmp 11], argTypes := #[3] }, type := 9, pos := "law.go:157", after := #[{ on := 1, ground := Ground.data }], guard := none }) rfl (by kernel_rfl) 12 #[.int .i64 ((n / 10 : Nat) : Int)] (by kernel_rfl) _ (ih (n / 10) (by have := HI.out; omega) (by have := HI.out; omega) wk3) ?_
       rintro e w_3 ⟨rfl, hk⟩
       have HK : Hid (Kept No w w_3) := HK.out.then hk
       clear hk
       refine ⟨.string (bs (mkF f (n / 10))), rfl, HK.out, fun hH => ?_⟩
       try simp only [pA, pB, p1, p2, p3]
       have HK : Hid (Kept No w (w_3.alloc (.cells [.int .u8 ((48 + n % 10 : Nat) : Int)].toArray 5))) := HK.out.alloc _
       have HX : Hid (Box (w_3.alloc (.cells [.int .u8 ((48 + n % 10 : Nat) : Int)].toArray 5)) w_3.heap.size 5 [.int .u8 ((48 + n % 10 : Nat) : Int)].toArray) := Box.new _ _ _
       refine any_step (i := 7) (o := { dst := some 17, op := Op.buildSlice 30 1 #[(0, Operand.tmp 16)], type := 30, pos := "law.go:157", after := #[{ on := 6, ground := Ground.data }], guard := none }) (v := .slice (some ⟨w_3.heap.size, 0, none⟩) 1 1) (w' := w_3.alloc (.cells [.int .u8 ((48 + n % 10 : Nat) : Int)].toArray 5)) rfl (by kernel_rfl) (by kernel_rfl) (exec_built (by kernel_rfl)) HK.out (fun hH => ?_)
       try simp only [pA, pB, p1, p2, p3]
       generalize w_3.alloc (.cells [.int .u8 ((48 + n % 10 : Nat) : Int)].toArray 5) = wk5 at HK HX hH ⊢
       generalize w_3.heap.size = gk6 at HX ⊢
       refine any_step (i := 8) (o := { dst := some 18, op := Op.convert 30 9 (Operand.tmp 17), type := 9, pos := "law.go:157", after := #[{ on := 7, ground := Ground.data }], guard := none }) (v := .string (bs [dgt (n % 10)])) (w' := wk5) rfl (by kernel_rfl) (by kernel_rfl) (exec_conv _ 30 9 rfl _ _ (by kernel_rfl) (run_conv (l := [dgt (n % 10)]) (by have h := Own.of_box HX.out (Nat.le_refl _) (by simp); rw [show [dgt (n % 10)].map u8V = [.int .u8 ((48 + n % 10 : Nat) : Int)] from by rw [List.map_cons, List.map_nil, dgt, u8V_n _ (by have := HI.out; omega)]]; exact h) rfl)) HK.out (fun hH => ?_)
       try simp only [pA, pB, p1, p2, p3]
       refine aT (i := 9) (oi := { dst := some 19, op := Op.binOp BinOp.add 9 (Operand.tmp 12) (Operand.tmp 18) 9, type := 9, pos := "law.go:157", after := #[{ on := 2, ground := Ground.data }, { on := 8, ground := Ground.data }], guard := none }) (v := .string (bs ((mkF f (n / 10)) ++ [dgt (n % 10)]))) (fun w' hw => exec_bin .add 9 _ _ _ rfl (.string (bs (mkF f (n / 10)))) (.string (bs [dgt (n % 10)])) (.string (bs ((mkF f (n / 10)) ++ [dgt (n % 10)]))) (by kernel_rfl) (by kernel_rfl) (by kernel_rfl) (b_addS (mkF f (n / 10)) ([dgt (n % 10)]) (by have h1 := HI.out; have h2 := mkF_len f (n / 10); simp; omega) _)) hH ?_
       try simp only [pA, pB, p1, p2, p3]
       refine aT (i := 10) (oi := { dst := some 2, op := Op.assign (Operand.tmp 19), type := 9, pos := "law.go:157", after := #[{ on := 9, ground := Ground.data }, { on := 2, ground := Ground.chain }, { on := 0, ground := Ground.phase }, { on := 1, ground := Ground.phase }, { on := 2, ground := Ground.phase }, { on := 3, ground := Ground.phase }, { on := 4, ground := Ground.phase }, { on := 5, ground := Ground.phase }, { on := 6, ground := Ground.phase }, { on := 7, ground := Ground.phase }, { on := 8, ground := Ground.phase }, { on := 9, ground := Ground.phase }], guard := none }) (v := .string (bs ((mkF f (n / 10)) ++ [dgt (n % 10)]))) (fun _ _ => by kernel_rfl) hH ?_
       try simp only [pA, pB, p1, p2, p3]
       refine wpAnyH_done (by kernel_rfl) ?_ _
       try simp only [pA, pB, p1, p2, p3]
       clear hH
       go_wp2
       rw [HC.out]
       exact ⟨by rw [show mkF (f + 1) n = mkF f (n / 10) ++ [dgt (n % 10)] from if_neg (by have := HI.out; omega)] <;> rfl, HK.out⟩
      ·skip
       clear hi
       have HK : Hid (Kept No w (wk3.alloc (.cells [.int .u8 ((48 + n % 10 : Nat) : Int)].toArray 5))) := HK.out.alloc _
       have HX : Hid (Box (wk3.alloc (.cells [.int .u8 ((48 + n % 10 : Nat) : Int)].toArray 5)) wk3.heap.size 5 [.int .u8 ((48 + n % 10 : Nat) : Int)].toArray) := Box.new _ _ _
       refine step_run (i := 7) (o := { dst := some 17, op := Op.buildSlice 30 1 #[(0, Operand.tmp 16)], type := 30, pos := "law.go:157", after := #[{ on := 6, ground := Ground.data }], guard := none }) (v := .slice (some ⟨wk3.heap.size, 0, none⟩) 1 1) (w' := wk3.alloc (.cells [.int .u8 ((48 + n % 10 : Nat) : Int)].toArray 5)) rfl (by kernel_rfl) (exec_built (by kernel_rfl)) HK.out (fun hH => ?_)
       try simp only [pA, pB, p1, p2, p3]
       generalize wk3.alloc (.cells [.int .u8 ((48 + n % 10 : Nat) : Int)].toArray 5) = wk7 at HK HX hH ⊢
       generalize wk3.heap.size = gk8 at HX ⊢
       refine any_pick (rs := [2, 8]) (by kernel_rfl) (by simp) ?_
       intro i hi
       rcases pick2 hi with rfl | rfl
       ·skip
        clear hi
        refine step_call (i := 2) (o := { dst := some 12, op := Op.call { callee := Callee.value (Operand.func 12), args := #[Operand.tmp 11], argTypes := #[3] }, type := 9, pos := "law.go:157", after := #[{ on := 1, ground := Ground.data }], guard := none }) rfl (by kernel_rfl) 12 #[.int .i64 ((n / 10 : Nat) : Int)] (by kernel_rfl) _ (ih (n / 10) (by have := HI.out; omega) (by have := HI.out; omega) wk7) ?_
        rintro e w_8 ⟨rfl, hk⟩
        have HX : Hid (Box w_8 gk8 5 [.int .u8 ((48 + n % 10 : Nat) : Int)].toArray) := HX.out.kept hk (fun e => e)
        have HK : Hid (Kept No w w_8) := HK.out.then hk
        clear hk
        refine ⟨.string (bs (mkF f (n / 10))), rfl, HK.out, fun hH => ?_⟩
        try simp only [pA, pB, p1, p2, p3]
        refine any_step (i := 8) (o := { dst := some 18, op := Op.convert 30 9 (Operand.tmp 17), type := 9, pos := "law.go:157", after := #[{ on := 7, ground := Ground.data }], guard := none }) (v := .string (bs [dgt (n % 10)])) (w' := w_8) rfl (by kernel_rfl) (by kernel_rfl) (exec_conv _ 30 9 rfl _ _ (by kernel_rfl) (run_conv (l := [dgt (n % 10)]) (by have h := Own.of_box HX.out (Nat.le_refl _) (by simp); rw [show [dgt (n % 10)].map u8V = [.int .u8 ((48 + n % 10 : Nat) : Int)] from by rw [List.map_cons, List.map_nil, dgt, u8V_n _ (by have := HI.out; omega)]]; exact h) rfl)) HK.out (fun hH => ?_)
        try simp only [pA, pB, p1, p2, p3]
        refine aT (i := 9) (oi := { dst := some 19, op := Op.binOp BinOp.add 9 (Operand.tmp 12) (Operand.tmp 18) 9, type := 9, pos := "law.go:157", after := #[{ on := 2, ground := Ground.data }, { on := 8, ground := Ground.data }], guard := none }) (v := .string (bs ((mkF f (n / 10)) ++ [dgt (n % 10)]))) (fun w' hw => exec_bin .add 9 _ _ _ rfl (.string (bs (mkF f (n / 10)))) (.string (bs [dgt (n % 10)])) (.string (bs ((mkF f (n / 10)) ++ [dgt (n % 10)]))) (by kernel_rfl) (by kernel_rfl) (by kernel_rfl) (b_addS (mkF f (n / 10)) ([dgt (n % 10)]) (by have h1 := HI.out; have h2 := mkF_len f (n / 10); simp; omega) _)) hH ?_
        try simp only [pA, pB, p1, p2, p3]
        refine aT (i := 10) (oi := { dst := some 2, op := Op.assign (Operand.tmp 19), type := 9, pos := "law.go:157", after := #[{ on := 9, ground := Ground.data }, { on := 2, ground := Ground.chain }, { on := 0, ground := Ground.phase }, { on := 1, ground := Ground.phase }, { on := 2, ground := Ground.phase }, { on := 3, ground := Ground.phase }, { on := 4, ground := Ground.phase }, { on := 5, ground := Ground.phase }, { on := 6, ground := Ground.phase }, { on := 7, ground := Ground.phase }, { on := 8, ground := Ground.phase }, { on := 9, ground := Ground.phase }], guard := none }) (v := .string (bs ((mkF f (n / 10)) ++ [dgt (n % 10)]))) (fun _ _ => by kernel_rfl) hH ?_
        try simp only [pA, pB, p1, p2, p3]
        refine wpAnyH_done (by kernel_rfl) ?_ _
        try simp only [pA, pB, p1, p2, p3]
        clear hH
        go_wp2
        rw [HC.out]
        exact ⟨by rw [show mkF (f + 1) n = mkF f (n / 10) ++ [dgt (n % 10)] from if_neg (by have := HI.out; omega)] <;> rfl, HK.out⟩
       ·skip
        clear hi
        refine step_run (i := 8) (o := { dst := some 18, op := Op.convert 30 9 (Operand.tmp 17), type := 9, pos := "law.go:157", after := #[{ on := 7, ground := Ground.data }], guard := none }) (v := .string (bs [dgt (n % 10)])) (w' := wk7) rfl (by kernel_rfl) (exec_conv _ 30 9 rfl _ _ (by kernel_rfl) (run_conv (l := [dgt (n % 10)]) (by have h := Own.of_box HX.out (Nat.le_refl _) (by simp); rw [show [dgt (n % 10)].map u8V = [.int .u8 ((48 + n % 10 : Nat) : Int)] from by rw [List.map_cons, List.map_nil, dgt, u8V_n _ (by have := HI.out; omega)]]; exact h) rfl)) HK.out (fun hH => ?_)
        try simp only [pA, pB, p1, p2, p3]
        refine any_call (i := 2) (o := { dst := some 12, op := Op.call { callee := Callee.value (Operand.func 12), args := #[Operand.tmp 11], argTypes := #[3] }, type := 9, pos := "law.go:157", after := #[{ on := 1, ground := Ground.data }], guard := none }) rfl (by kernel_rfl) (by kernel_rfl) 12 #[.int .i64 ((n / 10 : Nat) : Int)] (by kernel_rfl) _ (ih (n / 10) (by have := HI.out; omega) (by have := HI.out; omega) wk7) ?_
        rintro e w_9 ⟨rfl, hk⟩
        have HX : Hid (Box w_9 gk8 5 [.int .u8 ((48 + n % 10 : Nat) : Int)].toArray) := HX.out.kept hk (fun e => e)
        have HK : Hid (Kept No w w_9) := HK.out.then hk
        clear hk
        refine ⟨.string (bs (mkF f (n / 10))), rfl, HK.out, fun hH => ?_⟩
        try simp only [pA, pB, p1, p2, p3]
        refine aT (i := 9) (oi := { dst := some 19, op := Op.binOp BinOp.add 9 (Operand.tmp 12) (Operand.tmp 18) 9, type := 9, pos := "law.go:157", after := #[{ on := 2, ground := Ground.data }, { on := 8, ground := Ground.data }], guard := none }) (v := .string (bs ((mkF f (n / 10)) ++ [dgt (n % 10)]))) (fun w' hw => exec_bin .add 9 _ _ _ rfl (.string (bs (mkF f (n / 10)))) (.string (bs [dgt (n % 10)])) (.string (bs ((mkF f (n / 10)) ++ [dgt (n % 10)]))) (by kernel_rfl) (by kernel_rfl) (by kernel_rfl) (b_addS (mkF f (n / 10)) ([dgt (n % 10)]) (by have h1 := HI.out; have h2 := mkF_len f (n / 10); simp; omega) _)) hH ?_
        try simp only [pA, pB, p1, p2, p3]
        refine aT (i := 10) (oi := { dst := some 2, op := Op.assign (Operand.tmp 19), type := 9, pos := "law.go:157", after := #[{ on := 9, ground := Ground.data }, { on := 2, ground := Ground.chain }, { on := 0, ground := Ground.phase }, { on := 1, ground := Ground.phase }, { on := 2, ground := Ground.phase }, { on := 3, ground := Ground.phase }, { on := 4, ground := Ground.phase }, { on := 5, ground := Ground.phase }, { on := 6, ground := Ground.phase }, { on := 7, ground := Ground.phase }, { on := 8, ground := Ground.phase }, { on := 9, ground := Ground.phase }], guard := none }) (v := .string (bs ((mkF f (n / 10)) ++ [dgt (n % 10)]))) (fun _ _ => by kernel_rfl) hH ?_
        try simp only [pA, pB, p1, p2, p3]
        refine wpAnyH_done (by kernel_rfl) ?_ _
        try simp only [pA, pB, p1, p2, p3]
        clear hH
        go_wp2
        rw [HC.out]
        exact ⟨by rw [show mkF (f + 1) n = mkF f (n / 10) ++ [dgt (n % 10)] from if_neg (by have := HI.out; omega)] <;> rfl, HK.out⟩
def mk (n : Nat) : List UInt8 := mkF (n + 1) n
theorem mk_len (n : Nat) : (mk n).length ≤ n + 1 := mkF_len _ _
theorem marked_any (n : Nat) (hn : n ≤ 10000000000) (w : World) : Calls Try.prog 12 #[.int .i64 (n : Int)] w (fun e w' => e = .returned (.string (bs (mk n))) ∧ Kept No w w') := marked_f (n + 1) n (Nat.lt_succ_self n) (by omega) w

end Go.Proofs.Ytgnfeegnhdbnkaa
