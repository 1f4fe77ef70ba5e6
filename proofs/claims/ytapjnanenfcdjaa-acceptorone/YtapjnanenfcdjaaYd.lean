import Derived.Test.YtapjnanenfcdjaaYc
namespace Go.Proofs.Ytapjnanenfcdjaa
open Go.RowKit
set_option linter.unusedVariables false
set_option linter.unusedSimpArgs false

theorem any_app {ops : Array Oper} {o : Oper} {a : Act} {w : World} {Q : Exit → Act → World → Prop} {md : Region.Mode} {S : World → Prop} {i fuel : Nat} {listed : Array Bool} {s x : Operand} {vs vx : Value} {base n c : Nat} {E : TypeId} {sa : Option Addr} {l : List Value}
    (hi : ops[i]? = some o) (hr : Region.ready md ops listed = [i]) (hw : Region.wanted o (yielded ops a.tmps) = true)
    (happ : ∀ A : Act, A.eval s = vs → A.eval x = vx → ∃ g' cap' w', (execOp A.eval o).run Try.prog w = .ok (.value (.slice (some ⟨g', 0, none⟩) (n + 1) cap')) w' ∧ Own E c w' base (some ⟨g', 0, none⟩) cap' (n + 1) l ∧ Kept (At sa) w w' ∧ (At sa g' ∨ g' = w.heap.size))
    (h1 : a.eval s = vs) (h2 : a.eval x = vx) (hS : ∀ w', Kept (At sa) w w' → S w')
    (h : ∀ g' cap' w', Own E c w' base (some ⟨g', 0, none⟩) cap' (n + 1) l → Kept (At sa) w w' → S w' → wpAnyH Try.prog md ops Q S fuel (listed.setIfInBounds i true) (a.put o.dst (.slice (some ⟨g', 0, none⟩) (n + 1) cap')) w') : wpAnyH Try.prog md ops Q S (fuel + 1) listed a w := by
  obtain ⟨g', cap', w', hrun, ho, hk, hg⟩ := happ a h1 h2
  exact any_step hi hr hw hrun (hS w' hk) (h g' cap' w' ho hk)
set_option maxRecDepth 100000 in
set_option maxHeartbeats 8000000 in
theorem begin_any (w0 : World) (p bI : Nat) (la : Option Addr) (lc : Nat) (st : PS) (xs : List Px) (b : Sp) (w : World) (hM : PM w0 w p bI la lc st xs none) (hI : Inv st) (hn : xs.length ≤ 1000) :
    Calls Try.prog 22 #[.pointer (some ⟨p, 0, none⟩), .agg #[.int .i64 b.n, .int .i64 b.c]] w (fun e w' => (∃ v, e = .returned v) ∧ BegOut w0 w p bI la st xs w') := by
  obtain ⟨w1, hw1⟩ : ∃ w1, w1 = w.alloc (.cells #[.int .i64 b.n, .int .i64 b.c] 23) := ⟨_, rfl⟩
  obtain ⟨N, hN⟩ : ∃ N, N = w.heap.size := ⟨_, rfl⟩
  have HB : Hid (Box w1 (N) 23 (#[.int .i64 b.n, .int .i64 b.c])) := by rw [hw1, hN]; exact Box.new _ _ _
  have HK : Hid (Kept No w w1) := by rw [hw1]; exact (Kept.refl No w).alloc _
  have HPM : Hid (PM w0 w1 p bI la lc st xs none) := hM.no HK.out
  have HO : Hid (w.heap.size ≤ N ∧ p < N) := by have := hM.box.lt; show _ ∧ _; omega
  have HLT : Hid (N < w1.heap.size) := HB.out.lt
  have HIv : Hid (Inv st) := hI
  have HPB : Hid (PB w.heap.size p bI la xs) := hM.below
  clear hM hI
  go_enter Try.func22, Try.ntmps22
  go_upto_region 1 with fail
  rw [← hw1, ← hN]
  clear hw1 hN
  refine WL.start ?_
  refine wp_takeW (.agg #[.int .i64 b.n, .int .i64 b.c]) (exec_load 23 _ rfl ⟨N, 0, none⟩ (by kernel_rfl) (.agg #[.int .i64 b.n, .int .i64 b.c]) (load_S (cs := [.int .i64 b.n, .int .i64 b.c]) HB.out (Part.all _))) (by kernel_rfl) ?_
  try simp only [Act.put, sA, s0, s1]
  cases q1 : (oneB b)
  ·skip
   refine wp_callW 9 #[.agg #[.int .i64 b.n, .int .i64 b.c]] (by kernel_rfl) _ (one_any b.n b.c _) (by kernel_rfl) ?_
   rintro e wk1 ⟨rfl, hk⟩
   have HB : Hid (Box wk1 (N) 23 (#[.int .i64 b.n, .int .i64 b.c])) := HB.out.kept hk (fun e => e)
   have HK : Hid (Kept No w wk1) := HK.out.then hk
   have HPM : Hid (PM w0 (wk1) p bI la lc st xs none) := HPM.out.no hk
   have HLT : Hid (N < wk1.heap.size) := Nat.lt_of_lt_of_le HLT.out hk.size
   clear hk
   refine ⟨.bool false, by rw [q1], ?_⟩
   try simp only [Act.put, sA, s0, s1]
   refine wp_takeW (.bool true) (by kernel_rfl) (by kernel_rfl) ?_
   try simp only [Act.put, sA, s0, s1]
   refine WL.nil ?_
   try simp only [Act.put, sA, s0, s1]
   go_wp2
   first | go_end0 | refine bodyPost_ret (results_none rfl _ _ _) rfl ?_
   exact ⟨⟨_, rfl⟩, la, lc, st, xs, HPM.out, HIv.out, rfl, by omega, (HK.out).of_no⟩
  ·skip
   refine wp_callW 9 #[.agg #[.int .i64 b.n, .int .i64 b.c]] (by kernel_rfl) _ (one_any b.n b.c _) (by kernel_rfl) ?_
   rintro e wk2 ⟨rfl, hk⟩
   have HB : Hid (Box wk2 (N) 23 (#[.int .i64 b.n, .int .i64 b.c])) := HB.out.kept hk (fun e => e)
   have HK : Hid (Kept No w wk2) := HK.out.then hk
   have HPM : Hid (PM w0 (wk2) p bI la lc st xs none) := HPM.out.no hk
   have HLT : Hid (N < wk2.heap.size) := Nat.lt_of_lt_of_le HLT.out hk.size
   clear hk
   refine ⟨.bool true, by rw [q1], ?_⟩
   try simp only [Act.put, sA, s0, s1]
   refine wp_takeW (.bool false) (by kernel_rfl) (by kernel_rfl) ?_
   try simp only [Act.put, sA, s0, s1]
   refine WL.nil ?_
   try simp only [Act.put, sA, s0, s1]
   have HO1 : Hid (oneB b = true) := q1
   go_wp2
   go_loopw [4] (fun vi wr => ∃ (i : Nat), vi = .int .i64 i ∧ i ≤ xs.length ∧ Hid (∀ (j : Nat) (y : Px), j < i → xs[j]? = some y → eqS y.v.b b = false) ∧ Hid (Kept No wk2 wr)) (fun i _ => xs.length - (intOf i).toNat)
   case atStart => exact ⟨0, by go_num, by omega, fun j y hj => absurd hj (Nat.not_lt_zero _), Kept.refl _ _⟩
   case round =>
     obtain ⟨i, rfl, hi, HNo, HKr⟩ := hrel
     have c2 : wr.cell? ⟨p, 2, none⟩ = some (.slice la xs.length lc) := (HPM.out.no HKr.out).box.cell 2
     by_cases hlt : i < xs.length
     · have hlt' : (i : Int) < (xs.length : Int) := by omega
       obtain ⟨lg, hlg⟩ := HPM.out.la_some (List.getElem?_eq_getElem hlt)
       have HXI : Hid (xs[i]? = some xs[i]) := List.getElem?_eq_getElem hlt
       generalize xs[i] = xi at HXI
       go_upto_region 5 with fail
       clear c2
       have HPL : Hid (PM w0 wk2 p bI (some ⟨lg, 0, none⟩) lc st xs none) := by have h := HPM.out; rw [hlg] at h; exact h
       try rw [hlg]
       clear hlg
       cases hq : eqS xi.v.b b
       · skip
         refine wp_region_held_drew (S := fun w' => Kept No wk2 w') rfl HKr.out.drew (fun hH => ?_)
         refine any_take (i := 0) (oi := { dst := some 18, op := Op.move (Operand.tmp 0), type := 65, pos := "outright.go:117", after := #[], guard := none }) (v := .pointer (some ⟨p, 0, none⟩)) rfl (by kernel_rfl) (by kernel_rfl) (by kernel_rfl) (fun _ _ _ h => h) (by kernel_rfl) (fun _ _ => by kernel_rfl) hH ?_
         refine any_take (i := 1) (oi := { dst := some 19, op := Op.nilCheck (Operand.tmp 18), type := 0, pos := "outright.go:117", after := #[{ on := 0, ground := Ground.data }], guard := none }) (v := .pointer (some ⟨p, 0, none⟩)) rfl (by kernel_rfl) (by kernel_rfl) (by kernel_rfl) (fun _ _ _ h => h) (by kernel_rfl) (fun _ _ => by kernel_rfl) hH ?_
         refine any_take (i := 2) (oi := { dst := some 20, op := Op.fieldAddr 69 (Operand.tmp 19) 2, type := 0, pos := "outright.go:117", after := #[{ on := 1, ground := Ground.data }], guard := none }) (v := .pointer (some ⟨p, 2, none⟩)) rfl (by kernel_rfl) (by kernel_rfl) (by kernel_rfl) (fun _ _ _ h => h) (by kernel_rfl) (fun _ _ => by kernel_rfl) hH ?_
         refine any_take (i := 3) (oi := { dst := some 21, op := Op.load 67 (Operand.tmp 20), type := 67, pos := "outright.go:117", after := #[{ on := 2, ground := Ground.data }], guard := none }) (v := .slice (some ⟨lg, 0, none⟩) xs.length lc) rfl (by kernel_rfl) (by kernel_rfl) (by kernel_rfl) (fun _ _ _ h => h) (by kernel_rfl) (fun w' hw => exec_load 67 _ rfl ⟨p, 2, none⟩ (by kernel_rfl) (.slice (some ⟨lg, 0, none⟩) xs.length lc) (load_pL (HPL.out.no hw).box)) hH ?_
         refine any_take (i := 4) (oi := { dst := some 22, op := Op.move (Operand.tmp 4), type := 3, pos := "outright.go:117", after := #[], guard := none }) (v := .int .i64 i) rfl (by kernel_rfl) (by kernel_rfl) (by kernel_rfl) (fun _ _ _ h => h) (by kernel_rfl) (fun _ _ => by kernel_rfl) hH ?_
         refine any_take (i := 5) (oi := { dst := some 23, op := Op.indexAddr 67 (Operand.tmp 21) (Operand.tmp 22), type := 0, pos := "outright.go:117", after := #[{ on := 3, ground := Ground.data }, { on := 4, ground := Ground.data }], guard := none }) (v := .pointer (some ⟨lg, 0 + i * 16, none⟩)) rfl (by kernel_rfl) (by kernel_rfl) (by kernel_rfl) (fun _ _ _ h => h) (by kernel_rfl) (fun w' hw => exec_ixA 67 16 Try.und67e Try.size67e _ _ rfl lg 0 xs.length lc i (by kernel_rfl) (by kernel_rfl) hlt) hH ?_
         refine any_take (i := 6) (oi := { dst := some 24, op := Op.fieldAddr 87 (Operand.tmp 23) 0, type := 0, pos := "outright.go:117", after := #[{ on := 5, ground := Ground.data }], guard := none }) (v := .pointer (some ⟨lg, 0 + i * 16, none⟩)) rfl (by kernel_rfl) (by kernel_rfl) (by kernel_rfl) (fun _ _ _ h => h) (by kernel_rfl) (fun _ _ => by kernel_rfl) hH ?_
         refine any_take (i := 7) (oi := { dst := some 25, op := Op.load 23 (Operand.tmp 24), type := 23, pos := "outright.go:117", after := #[{ on := 6, ground := Ground.data }], guard := none }) (v := .agg #[.int .i64 xi.v.b.n, .int .i64 xi.v.b.c]) rfl (by kernel_rfl) (by kernel_rfl) (by kernel_rfl) (fun _ _ _ h => h) (by kernel_rfl) (fun w' hw => exec_load 23 _ rfl ⟨lg, 0 + i * 16, none⟩ (by kernel_rfl) (.agg #[.int .i64 xi.v.b.n, .int .i64 xi.v.b.c]) ((HPL.out.no hw).loadB HXI.out)) hH ?_
         refine any_take (i := 8) (oi := { dst := some 26, op := Op.load 23 (Operand.tmp 3), type := 23, pos := "outright.go:117", after := #[], guard := none }) (v := .agg #[.int .i64 b.n, .int .i64 b.c]) rfl (by kernel_rfl) (by kernel_rfl) (by kernel_rfl) (fun _ _ _ h => h) (by kernel_rfl) (fun w' hw => exec_load 23 _ rfl ⟨N, 0, none⟩ (by kernel_rfl) (.agg #[.int .i64 b.n, .int .i64 b.c]) (load_S (cs := [.int .i64 b.n, .int .i64 b.c]) (HB.out.kept hw (fun e => e)) (Part.all _))) hH ?_
         refine any_take (i := 9) (oi := { dst := some 27, op := Op.binOp BinOp.eql 23 (Operand.tmp 25) (Operand.tmp 26) 23, type := 4, pos := "outright.go:117", after := #[{ on := 7, ground := Ground.data }, { on := 8, ground := Ground.data }], guard := none }) (v := .bool false) rfl (by kernel_rfl) (by kernel_rfl) (by kernel_rfl) (fun _ _ _ h => h) (by kernel_rfl) (fun w' hw => exec_bin .eql 23 _ _ _ rfl (.agg #[.int .i64 xi.v.b.n, .int .i64 xi.v.b.c]) (.agg #[.int .i64 b.n, .int .i64 b.c]) (.bool false) (by kernel_rfl) (by kernel_rfl) (guard_S _ (.inl rfl) _ _ _ _ _) (by rw [eqlS, hq])) hH ?_
         refine wpAnyH_done (by kernel_rfl) ?_ _
         try simp only [Act.put, sA, s0, s1]
         have HKd : Hid (Kept No wk2 wr.drew) := HKr.out.drew
         have HNe : Hid (eqS xi.v.b b = false) := hq
         go_wp2
         go_roundw
         case measure => simp [intOf]; omega
         case rel => exact ⟨i + 1, by go_num, by omega, fun j y hj hy => by
             rcases Nat.lt_succ_iff_lt_or_eq.1 hj with h | rfl
             · exact HNo.out j y h hy
             · rw [HXI.out] at hy; cases hy; exact HNe.out, HKd⟩
       · skip
         refine wp_region_held_drew (S := fun w' => Kept No wk2 w') rfl HKr.out.drew (fun hH => ?_)
         refine any_take (i := 0) (oi := { dst := some 18, op := Op.move (Operand.tmp 0), type := 65, pos := "outright.go:117", after := #[], guard := none }) (v := .pointer (some ⟨p, 0, none⟩)) rfl (by kernel_rfl) (by kernel_rfl) (by kernel_rfl) (fun _ _ _ h => h) (by kernel_rfl) (fun _ _ => by kernel_rfl) hH ?_
         refine any_take (i := 1) (oi := { dst := some 19, op := Op.nilCheck (Operand.tmp 18), type := 0, pos := "outright.go:117", after := #[{ on := 0, ground := Ground.data }], guard := none }) (v := .pointer (some ⟨p, 0, none⟩)) rfl (by kernel_rfl) (by kernel_rfl) (by kernel_rfl) (fun _ _ _ h => h) (by kernel_rfl) (fun _ _ => by kernel_rfl) hH ?_
         refine any_take (i := 2) (oi := { dst := some 20, op := Op.fieldAddr 69 (Operand.tmp 19) 2, type := 0, pos := "outright.go:117", after := #[{ on := 1, ground := Ground.data }], guard := none }) (v := .pointer (some ⟨p, 2, none⟩)) rfl (by kernel_rfl) (by kernel_rfl) (by kernel_rfl) (fun _ _ _ h => h) (by kernel_rfl) (fun _ _ => by kernel_rfl) hH ?_
         refine any_take (i := 3) (oi := { dst := some 21, op := Op.load 67 (Operand.tmp 20), type := 67, pos := "outright.go:117", after := #[{ on := 2, ground := Ground.data }], guard := none }) (v := .slice (some ⟨lg, 0, none⟩) xs.length lc) rfl (by kernel_rfl) (by kernel_rfl) (by kernel_rfl) (fun _ _ _ h => h) (by kernel_rfl) (fun w' hw => exec_load 67 _ rfl ⟨p, 2, none⟩ (by kernel_rfl) (.slice (some ⟨lg, 0, none⟩) xs.length lc) (load_pL (HPL.out.no hw).box)) hH ?_
         refine any_take (i := 4) (oi := { dst := some 22, op := Op.move (Operand.tmp 4), type := 3, pos := "outright.go:117", after := #[], guard := none }) (v := .int .i64 i) rfl (by kernel_rfl) (by kernel_rfl) (by kernel_rfl) (fun _ _ _ h => h) (by kernel_rfl) (fun _ _ => by kernel_rfl) hH ?_
         refine any_take (i := 5) (oi := { dst := some 23, op := Op.indexAddr 67 (Operand.tmp 21) (Operand.tmp 22), type := 0, pos := "outright.go:117", after := #[{ on := 3, ground := Ground.data }, { on := 4, ground := Ground.data }], guard := none }) (v := .pointer (some ⟨lg, 0 + i * 16, none⟩)) rfl (by kernel_rfl) (by kernel_rfl) (by kernel_rfl) (fun _ _ _ h => h) (by kernel_rfl) (fun w' hw => exec_ixA 67 16 Try.und67e Try.size67e _ _ rfl lg 0 xs.length lc i (by kernel_rfl) (by kernel_rfl) hlt) hH ?_
         refine any_take (i := 6) (oi := { dst := some 24, op := Op.fieldAddr 87 (Operand.tmp 23) 0, type := 0, pos := "outright.go:117", after := #[{ on := 5, ground := Ground.data }], guard := none }) (v := .pointer (some ⟨lg, 0 + i * 16, none⟩)) rfl (by kernel_rfl) (by kernel_rfl) (by kernel_rfl) (fun _ _ _ h => h) (by kernel_rfl) (fun _ _ => by kernel_rfl) hH ?_
         refine any_take (i := 7) (oi := { dst := some 25, op := Op.load 23 (Operand.tmp 24), type := 23, pos := "outright.go:117", after := #[{ on := 6, ground := Ground.data }], guard := none }) (v := .agg #[.int .i64 xi.v.b.n, .int .i64 xi.v.b.c]) rfl (by kernel_rfl) (by kernel_rfl) (by kernel_rfl) (fun _ _ _ h => h) (by kernel_rfl) (fun w' hw => exec_load 23 _ rfl ⟨lg, 0 + i * 16, none⟩ (by kernel_rfl) (.agg #[.int .i64 xi.v.b.n, .int .i64 xi.v.b.c]) ((HPL.out.no hw).loadB HXI.out)) hH ?_
         refine any_take (i := 8) (oi := { dst := some 26, op := Op.load 23 (Operand.tmp 3), type := 23, pos := "outright.go:117", after := #[], guard := none }) (v := .agg #[.int .i64 b.n, .int .i64 b.c]) rfl (by kernel_rfl) (by kernel_rfl) (by kernel_rfl) (fun _ _ _ h => h) (by kernel_rfl) (fun w' hw => exec_load 23 _ rfl ⟨N, 0, none⟩ (by kernel_rfl) (.agg #[.int .i64 b.n, .int .i64 b.c]) (load_S (cs := [.int .i64 b.n, .int .i64 b.c]) (HB.out.kept hw (fun e => e)) (Part.all _))) hH ?_
         refine any_take (i := 9) (oi := { dst := some 27, op := Op.binOp BinOp.eql 23 (Operand.tmp 25) (Operand.tmp 26) 23, type := 4, pos := "outright.go:117", after := #[{ on := 7, ground := Ground.data }, { on := 8, ground := Ground.data }], guard := none }) (v := .bool true) rfl (by kernel_rfl) (by kernel_rfl) (by kernel_rfl) (fun _ _ _ h => h) (by kernel_rfl) (fun w' hw => exec_bin .eql 23 _ _ _ rfl (.agg #[.int .i64 xi.v.b.n, .int .i64 xi.v.b.c]) (.agg #[.int .i64 b.n, .int .i64 b.c]) (.bool true) (by kernel_rfl) (by kernel_rfl) (guard_S _ (.inl rfl) _ _ _ _ _) (by rw [eqlS, hq])) hH ?_
         refine wpAnyH_done (by kernel_rfl) ?_ _
         try simp only [Act.put, sA, s0, s1]
         have HKd : Hid (Kept No wk2 wr.drew) := HKr.out.drew
         go_wp2
         first | go_end0 | refine bodyPost_ret (results_none rfl _ _ _) rfl ?_
         exact ⟨⟨_, rfl⟩, la, lc, st, xs, HPM.out.no HKd.out, HIv.out, rfl, by omega, (HK.out.then HKd.out).of_no⟩
     · have hlt' : ¬ (i : Int) < (xs.length : Int) := by omega
       have HNA : Hid (∀ (j : Nat) (y : Pv), st.ls[j]? = some y → y.b ≠ b) := fun j y hy e => by
         rw [← HPM.out.vals, List.getElem?_map] at hy
         cases hx : xs[j]? with
         | none => rw [hx] at hy; cases hy
         | some z =>
           rw [hx] at hy
           simp at hy
           have hj := (List.getElem?_eq_some_iff.1 hx).1
           have := HNo.out j z (by omega) hx
           rw [hy, e, eqS_refl] at this
           cases this
       have HB : Hid (Box wr (N) 23 (#[.int .i64 b.n, .int .i64 b.c])) := HB.out.kept HKr.out (fun e => e)
       have HPM : Hid (PM w0 wr p bI la lc st xs none) := HPM.out.no HKr.out
       have HPl : Hid (Box wr (p) 69 ((playC st.f bI st.is.length la xs.length lc st.dec).toArray)) := HPM.out.box
       have HK : Hid (Kept No w wr) := HK.out.then HKr.out
       have HLT : Hid (N < wr.heap.size) := HB.out.lt
       go_upto_region 6 with fail
       clear c2
       refine wp_region_held_drew (S := fun w' => Box w' (N) 23 (#[.int .i64 b.n, .int .i64 b.c]) ∧ Box w' (p) 69 ((playC st.f bI st.is.length la xs.length lc st.dec).toArray)) rfl ⟨HB.out, HPl.out⟩ (fun hH => ?_)
       have HB : Hid (Box wr.drew (N) 23 (#[.int .i64 b.n, .int .i64 b.c])) := HB.out
       have HPl : Hid (Box wr.drew (p) 69 ((playC st.f bI st.is.length la xs.length lc st.dec).toArray)) := HPl.out
       have HK : Hid (Kept No w wr.drew) := HK.out.drew
       have HPM : Hid (PM w0 (wr.drew) p bI la lc st xs none) := HPM.out.no (Kept.refl No _).drew
       have HLT : Hid (N < wr.drew.heap.size) := HLT.out
       generalize wr.drew = wk3 at HB HPl HK HLT hH HPM ⊢
       refine any_take (i := 0) (oi := { dst := some 28, op := Op.fieldAddr 23 (Operand.tmp 3) 1, type := 0, pos := "outright.go:121", after := #[], guard := none }) (v := .pointer (some ⟨N, 1, none⟩)) rfl (by kernel_rfl) (by kernel_rfl) (by kernel_rfl) (fun _ _ _ h => h) (by kernel_rfl) (fun _ _ => by kernel_rfl) hH ?_
       try simp only [Act.put, sA, s0, s1]
       refine any_take (i := 1) (oi := { dst := some 29, op := Op.load 3 (Operand.tmp 28), type := 3, pos := "outright.go:121", after := #[{ on := 0, ground := Ground.data }], guard := none }) (v := .int .i64 b.c) rfl (by kernel_rfl) (by kernel_rfl) (by kernel_rfl) (fun _ _ _ h => h) (by kernel_rfl) (fun w' hw => exec_load 3 _ rfl ⟨N, 1, none⟩ (by kernel_rfl) (.int .i64 b.c) (load_N (hw.1.cell 1))) hH ?_
       try simp only [Act.put, sA, s0, s1]
       refine any_take (i := 2) (oi := { dst := some 30, op := Op.move (Operand.tmp 0), type := 65, pos := "outright.go:121", after := #[], guard := none }) (v := .pointer (some ⟨p, 0, none⟩)) rfl (by kernel_rfl) (by kernel_rfl) (by kernel_rfl) (fun _ _ _ h => h) (by kernel_rfl) (fun _ _ => by kernel_rfl) hH ?_
       try simp only [Act.put, sA, s0, s1]
       refine any_take (i := 3) (oi := { dst := some 31, op := Op.nilCheck (Operand.tmp 30), type := 0, pos := "outright.go:121", after := #[{ on := 2, ground := Ground.data }], guard := none }) (v := .pointer (some ⟨p, 0, none⟩)) rfl (by kernel_rfl) (by kernel_rfl) (by kernel_rfl) (fun _ _ _ h => h) (by kernel_rfl) (fun _ _ => by kernel_rfl) hH ?_
       try simp only [Act.put, sA, s0, s1]
       refine any_take (i := 4) (oi := { dst := some 32, op := Op.fieldAddr 69 (Operand.tmp 31) 2, type := 0, pos := "outright.go:121", after := #[{ on := 3, ground := Ground.data }], guard := none }) (v := .pointer (some ⟨p, 2, none⟩)) rfl (by kernel_rfl) (by kernel_rfl) (by kernel_rfl) (fun _ _ _ h => h) (by kernel_rfl) (fun _ _ => by kernel_rfl) hH ?_
       try simp only [Act.put, sA, s0, s1]
       refine any_take (i := 5) (oi := { dst := some 33, op := Op.load 67 (Operand.tmp 32), type := 67, pos := "outright.go:121", after := #[{ on := 4, ground := Ground.data }], guard := none }) (v := .slice la xs.length lc) rfl (by kernel_rfl) (by kernel_rfl) (by kernel_rfl) (fun _ _ _ h => h) (by kernel_rfl) (fun w' hw => exec_load 67 _ rfl ⟨p, 2, none⟩ (by kernel_rfl) (.slice la xs.length lc) (load_pL hw.2)) hH ?_
       try simp only [Act.put, sA, s0, s1]
       refine any_take (i := 6) (oi := { dst := some 34, op := Op.call { callee := Callee.builtin Builtin.len, args := #[Operand.tmp 33], argTypes := #[67] }, type := 3, pos := "outright.go:121", after := #[{ on := 5, ground := Ground.data }], guard := none }) (v := .int .i64 (xs.length : Int)) rfl (by kernel_rfl) (by kernel_rfl) (by kernel_rfl) (fun _ _ _ h => h) (by kernel_rfl) (fun _ _ => by kernel_rfl) hH ?_
       try simp only [Act.put, sA, s0, s1]
       refine any_take (i := 7) (oi := { dst := some 35, op := Op.binOp BinOp.add 3 (Operand.tmp 34) (Operand.const (Value.int IntKind.i64 1)) 3, type := 3, pos := "outright.go:121", after := #[{ on := 6, ground := Ground.data }], guard := none }) (v := .int .i64 ((xs.length : Int) + 1)) rfl (by kernel_rfl) (by kernel_rfl) (by kernel_rfl) (fun _ _ _ h => h) (by kernel_rfl) (fun w' hw => exec_bin .add 3 _ _ _ rfl (.int .i64 (xs.length : Int)) (.int .i64 1) (.int .i64 ((xs.length : Int) + 1)) (by kernel_rfl) (by kernel_rfl) (by kernel_rfl) (addN _ _ (by omega) (by omega))) hH ?_
       try simp only [Act.put, sA, s0, s1]
       refine any_take (i := 8) (oi := { dst := some 36, op := Op.build 27 #[(0, Operand.const (Value.int IntKind.i64 4)), (1, Operand.tmp 29), (2, Operand.tmp 35)], type := 27, pos := "outright.go:121", after := #[{ on := 1, ground := Ground.data }, { on := 7, ground := Ground.data }], guard := none }) (v := .agg ((ownC b ((xs.length : Int) + 1)).cells)) rfl (by kernel_rfl) (by kernel_rfl) (by kernel_rfl) (fun _ _ _ h => h) (by kernel_rfl) (fun w' hw => exec_build 27 _ rfl ((ownC b ((xs.length : Int) + 1)).cells) (by kernel_rfl)) hH ?_
       try simp only [Act.put, sA, s0, s1]
       refine any_step (i := 9) (o := { dst := some 5, op := Op.alloc 27, type := 0, pos := "outright.go:121", after := #[], guard := none }) rfl (by kernel_rfl) (by kernel_rfl) (exec_alloc 27 rfl _ zero27) ⟨HB.out.alloc _, HPl.out.alloc _⟩ (fun hH => ?_)
       have HOw : Hid (Box (wk3.alloc (.cells (cZ.cells) 27)) wk3.heap.size 27 (cZ.cells)) := Box.new _ _ _
       have HB : Hid (Box (wk3.alloc (.cells (cZ.cells) 27)) (N) 23 (#[.int .i64 b.n, .int .i64 b.c])) := HB.out.alloc _
       have HPl : Hid (Box (wk3.alloc (.cells (cZ.cells) 27)) (p) 69 ((playC st.f bI st.is.length la xs.length lc st.dec).toArray)) := HPl.out.alloc _
       have hsz := HK.out.size
       have HK : Hid (Kept No w (wk3.alloc (.cells (cZ.cells) 27))) := HK.out.alloc _
       have HPM : Hid (PM w0 (wk3.alloc (.cells (cZ.cells) 27)) p bI la lc st xs none) := HPM.out.no ((Kept.refl No _).alloc _)
       have HO : Hid (w.heap.size ≤ N ∧ p < N ∧ N < wk3.heap.size ∧ w.heap.size ≤ wk3.heap.size) := by
         have h := HO.out
         have l := HLT.out
         show _ ∧ _
         omega
       clear hsz
       have HLT : Hid (wk3.heap.size < (wk3.alloc (.cells (cZ.cells) 27)).heap.size) := by show _ < _; simp
       generalize wk3.alloc (.cells (cZ.cells) 27) = wk4 at HB HPl HOw HK HLT hH HPM ⊢
       generalize wk3.heap.size = gk5 at HOw HO HLT ⊢
       try simp only [Act.put, sA, s0, s1]
       refine any_store (i := 10) (o := { dst := none, op := Op.store 27 (Operand.tmp 5) (Operand.tmp 36), type := 0, pos := "outright.go:121", after := #[{ on := 9, ground := Ground.data }, { on := 8, ground := Ground.data }, { on := 0, ground := Ground.phase }, { on := 1, ground := Ground.phase }, { on := 2, ground := Ground.phase }, { on := 3, ground := Ground.phase }, { on := 4, ground := Ground.phase }, { on := 5, ground := Ground.phase }, { on := 6, ground := Ground.phase }, { on := 7, ground := Ground.phase }, { on := 8, ground := Ground.phase }, { on := 9, ground := Ground.phase }], guard := none }) rfl (by kernel_rfl) (by kernel_rfl) 27 _ _ rfl ⟨gk5, 0, none⟩ (.agg ((ownC b ((xs.length : Int) + 1)).cells)) (by kernel_rfl) (by kernel_rfl) (store_C HOw.out rfl) (⟨hH.1.rowNe (by have := HO.out; omega) _, hH.2.rowNe (by have := HO.out; omega) _⟩) (fun hH => ?_)
       have HLT : Hid (gk5 < (wk4.setRow gk5 ((ownC b ((xs.length : Int) + 1)).cells)).heap.size) := by show _ < _; rw [setRow_size]; exact HLT.out
       have HPM : Hid (PM w0 (wk4.setRow gk5 ((ownC b ((xs.length : Int) + 1)).cells)) p bI la lc st xs none) := HPM.out.far HPB.out (Kept.setRow _ _ _) (fun q e => by have e : q = gk5 := e; have := HO.out; omega)
       have HB : Hid (Box (wk4.setRow gk5 ((ownC b ((xs.length : Int) + 1)).cells)) (N) 23 (#[.int .i64 b.n, .int .i64 b.c])) := HB.out.rowNe (by have := HO.out; omega) _
       have HPl : Hid (Box (wk4.setRow gk5 ((ownC b ((xs.length : Int) + 1)).cells)) (p) 69 ((playC st.f bI st.is.length la xs.length lc st.dec).toArray)) := HPl.out.rowNe (by have := HO.out; omega) _
       have HOw : Hid (Box (wk4.setRow gk5 ((ownC b ((xs.length : Int) + 1)).cells)) (gk5) 27 ((ownC b ((xs.length : Int) + 1)).cells)) := HOw.out.setRow _
       have HK : Hid (Kept No w (wk4.setRow gk5 ((ownC b ((xs.length : Int) + 1)).cells))) := HK.out.newRow (by have := HO.out; omega) _
       generalize wk4.setRow gk5 ((ownC b ((xs.length : Int) + 1)).cells) = wk6 at HB HPl HOw HK HLT hH HPM ⊢
       refine wpAnyH_done (by kernel_rfl) ?_ _
       try simp only [Act.put, sA, s0, s1]
       go_upto_region 7 with fail
       refine wp_region_held_drew (S := fun w' => Box w' (N) 23 (#[.int .i64 b.n, .int .i64 b.c]) ∧ Box w' (gk5) 27 ((ownC b ((xs.length : Int) + 1)).cells)) rfl ⟨HB.out, HOw.out⟩ (fun hH => ?_)
       have HB : Hid (Box wk6.drew (N) 23 (#[.int .i64 b.n, .int .i64 b.c])) := HB.out
       have HPl : Hid (Box wk6.drew (p) 69 ((playC st.f bI st.is.length la xs.length lc st.dec).toArray)) := HPl.out
       have HOw : Hid (Box wk6.drew (gk5) 27 ((ownC b ((xs.length : Int) + 1)).cells)) := HOw.out
       have HK : Hid (Kept No w wk6.drew) := HK.out.drew
       have HPM : Hid (PM w0 (wk6.drew) p bI la lc st xs none) := HPM.out.no (Kept.refl No _).drew
       have HLT : Hid (gk5 < wk6.drew.heap.size) := HLT.out
       generalize wk6.drew = wk7 at HB HPl HOw HK HLT hH HPM ⊢
       refine any_take (i := 0) (oi := { dst := some 37, op := Op.move (Operand.tmp 0), type := 65, pos := "outright.go:122", after := #[], guard := none }) (v := .pointer (some ⟨p, 0, none⟩)) rfl (by kernel_rfl) (by kernel_rfl) (by kernel_rfl) (fun _ _ _ h => h) (by kernel_rfl) (fun _ _ => by kernel_rfl) hH ?_
       try simp only [Act.put, sA, s0, s1]
       refine any_take (i := 1) (oi := { dst := some 38, op := Op.move (Operand.tmp 0), type := 65, pos := "outright.go:122", after := #[], guard := none }) (v := .pointer (some ⟨p, 0, none⟩)) rfl (by kernel_rfl) (by kernel_rfl) (by kernel_rfl) (fun _ _ _ h => h) (by kernel_rfl) (fun _ _ => by kernel_rfl) hH ?_
       try simp only [Act.put, sA, s0, s1]
       refine any_take (i := 2) (oi := { dst := some 39, op := Op.nilCheck (Operand.tmp 38), type := 0, pos := "outright.go:122", after := #[{ on := 1, ground := Ground.data }], guard := none }) (v := .pointer (some ⟨p, 0, none⟩)) rfl (by kernel_rfl) (by kernel_rfl) (by kernel_rfl) (fun _ _ _ h => h) (by kernel_rfl) (fun _ _ => by kernel_rfl) hH ?_
       try simp only [Act.put, sA, s0, s1]
       refine any_take (i := 3) (oi := { dst := some 40, op := Op.fieldAddr 69 (Operand.tmp 39) 2, type := 0, pos := "outright.go:122", after := #[{ on := 2, ground := Ground.data }], guard := none }) (v := .pointer (some ⟨p, 2, none⟩)) rfl (by kernel_rfl) (by kernel_rfl) (by kernel_rfl) (fun _ _ _ h => h) (by kernel_rfl) (fun _ _ => by kernel_rfl) hH ?_
       try simp only [Act.put, sA, s0, s1]
       refine any_take (i := 5) (oi := { dst := some 42, op := Op.load 23 (Operand.tmp 3), type := 23, pos := "outright.go:122", after := #[], guard := none }) (v := .agg #[.int .i64 b.n, .int .i64 b.c]) rfl (by kernel_rfl) (by kernel_rfl) (by kernel_rfl) (fun _ _ _ h => h) (by kernel_rfl) (fun w' hw => exec_load 23 _ rfl ⟨N, 0, none⟩ (by kernel_rfl) (.agg #[.int .i64 b.n, .int .i64 b.c]) (load_S (cs := [.int .i64 b.n, .int .i64 b.c]) hw.1 (Part.all _))) hH ?_
       try simp only [Act.put, sA, s0, s1]
       refine any_take (i := 6) (oi := { dst := some 43, op := Op.load 27 (Operand.tmp 5), type := 27, pos := "outright.go:122", after := #[], guard := none }) (v := .agg (ownC b ((xs.length : Int) + 1)).cells) rfl (by kernel_rfl) (by kernel_rfl) (by kernel_rfl) (fun _ _ _ h => h) (by kernel_rfl) (fun w' hw => exec_load 27 _ rfl ⟨gk5, 0, none⟩ (by kernel_rfl) (.agg (ownC b ((xs.length : Int) + 1)).cells) (load_C hw.2)) hH ?_
       try simp only [Act.put, sA, s0, s1]
       refine any_take (i := 7) (oi := { dst := some 44, op := Op.build 87 #[(0, Operand.tmp 42), (3, Operand.tmp 43)], type := 87, pos := "outright.go:122", after := #[{ on := 5, ground := Ground.data }, { on := 6, ground := Ground.data }], guard := none }) (v := .agg ((newX b ((xs.length : Int) + 1)).cells)) rfl (by kernel_rfl) (by kernel_rfl) (by kernel_rfl) (fun _ _ _ h => h) (by kernel_rfl) (fun w' hw => exec_build 87 _ rfl ((newX b ((xs.length : Int) + 1)).cells) (by kernel_rfl)) hH ?_
       try simp only [Act.put, sA, s0, s1]
       refine any_pick (rs := [4, 8]) (by kernel_rfl) (by simp) ?_
       intro i hi
       rcases pick2 hi with rfl | rfl
       ·skip
        clear hi
        refine step_run (i := 4) (o := { dst := some 41, op := Op.load 67 (Operand.tmp 40), type := 67, pos := "outright.go:122", after := #[{ on := 3, ground := Ground.data }], guard := none }) rfl (by kernel_rfl) (exec_load 67 _ rfl ⟨p, 2, none⟩ (by kernel_rfl) (.slice la xs.length lc) (load_pL HPl.out)) hH (fun hH => ?_)
        try simp only [Act.put, sA, s0, s1]
        refine any_step (i := 8) (o := { dst := some 45, op := Op.buildSlice 67 1 #[(0, Operand.tmp 44)], type := 67, pos := "outright.go:122", after := #[{ on := 7, ground := Ground.data }], guard := none }) rfl (by kernel_rfl) (by kernel_rfl) (exec_slice2 67 87 _ rfl ((newX b ((xs.length : Int) + 1)).cells) (.agg ((newX b ((xs.length : Int) + 1)).cells)) (by kernel_rfl) (slice1_pro (newX b ((xs.length : Int) + 1)) _)) ⟨HB.out.alloc _, HOw.out.alloc _⟩ (fun hH => ?_)
        try simp only [Act.put, sA, s0, s1]
        have HNB : Hid (Box (wk7.alloc (.cells ((newX b ((xs.length : Int) + 1)).cells) 87)) wk7.heap.size 87 ((newX b ((xs.length : Int) + 1)).cells)) := Box.new _ _ _
        have HB : Hid (Box (wk7.alloc (.cells ((newX b ((xs.length : Int) + 1)).cells) 87)) (N) 23 (#[.int .i64 b.n, .int .i64 b.c])) := HB.out.alloc _
        have HPl : Hid (Box (wk7.alloc (.cells ((newX b ((xs.length : Int) + 1)).cells) 87)) (p) 69 ((playC st.f bI st.is.length la xs.length lc st.dec).toArray)) := HPl.out.alloc _
        have HOw : Hid (Box (wk7.alloc (.cells ((newX b ((xs.length : Int) + 1)).cells) 87)) (gk5) 27 ((ownC b ((xs.length : Int) + 1)).cells)) := HOw.out.alloc _
        have HK : Hid (Kept No w (wk7.alloc (.cells ((newX b ((xs.length : Int) + 1)).cells) 87))) := HK.out.alloc _
        have HPM : Hid (PM w0 (wk7.alloc (.cells ((newX b ((xs.length : Int) + 1)).cells) 87)) p bI la lc st xs none) := HPM.out.no ((Kept.refl No _).alloc _)
        generalize wk7.alloc (.cells ((newX b ((xs.length : Int) + 1)).cells) 87) = wk8 at HB HPl HOw HK HNB HPM hH ⊢
        generalize wk7.heap.size = nb at HNB ⊢
        have happ := fun (A : Act) (h1 : A.eval (Operand.tmp 41) = .slice la xs.length lc) (h2 : A.eval (Operand.tmp 45) = .slice (some ⟨nb, 0, none⟩) 1 1) => exec_append (w := wk8) (a := A) (o := { dst := some 46, op := Op.call { callee := Callee.builtin Builtin.append, args := #[Operand.tmp 41, Operand.tmp 45], argTypes := #[67, 67] }, type := 67, pos := "outright.go:122", after := #[{ on := 4, ground := Ground.data }, { on := 8, ground := Ground.data }], guard := none }) _ _ 67 87 16 168 (.agg prZ.cells) Try.und67 Try.info87 rfl (by decide) rfl w0.heap.size xs.length lc la (xs.map Px.cs).flatten h1 HPM.out.row ⟨nb, 0, none⟩ 1 (newX b ((xs.length : Int) + 1)).cs h2 rfl (fun j u hu => by rw [addr_add, HNB.out.cell]; simpa [Px.cells] using hu) (list_one (x := []) (Px.one _)) (by omega) (by omega) (by have := HPM.out.np; have := HPM.out.box.lt; omega)
        refine any_app (i := 9) (o := { dst := some 46, op := Op.call { callee := Callee.builtin Builtin.append, args := #[Operand.tmp 41, Operand.tmp 45], argTypes := #[67, 67] }, type := 67, pos := "outright.go:122", after := #[{ on := 4, ground := Ground.data }, { on := 8, ground := Ground.data }], guard := none }) rfl (by kernel_rfl) (by kernel_rfl) happ (by kernel_rfl) (by kernel_rfl) (fun w' hk => ⟨HB.out.kept hk (fun e => own_box HPM.out.row HB.out (by decide) e rfl), HOw.out.kept hk (fun e => own_box HPM.out.row HOw.out (by decide) e rfl)⟩) ?_
        intro g1 c1 wa hown hka hH
        try simp only [Act.put, sA, s0, s1]
        clear happ
        refine any_take (i := 10) (oi := { dst := some 47, op := Op.nilCheck (Operand.tmp 37), type := 0, pos := "outright.go:122", after := #[{ on := 0, ground := Ground.data }, { on := 0, ground := Ground.phase }, { on := 1, ground := Ground.phase }, { on := 2, ground := Ground.phase }, { on := 3, ground := Ground.phase }, { on := 4, ground := Ground.phase }, { on := 5, ground := Ground.phase }, { on := 6, ground := Ground.phase }, { on := 7, ground := Ground.phase }, { on := 8, ground := Ground.phase }, { on := 9, ground := Ground.phase }], guard := none }) (v := .pointer (some ⟨p, 0, none⟩)) rfl (by kernel_rfl) (by kernel_rfl) (by kernel_rfl) (fun _ _ _ h => h) (by kernel_rfl) (fun _ _ => by kernel_rfl) hH ?_
        try simp only [Act.put, sA, s0, s1]
        refine any_take (i := 11) (oi := { dst := some 48, op := Op.fieldAddr 69 (Operand.tmp 47) 2, type := 0, pos := "outright.go:122", after := #[{ on := 10, ground := Ground.data }, { on := 0, ground := Ground.phase }, { on := 1, ground := Ground.phase }, { on := 2, ground := Ground.phase }, { on := 3, ground := Ground.phase }, { on := 4, ground := Ground.phase }, { on := 5, ground := Ground.phase }, { on := 6, ground := Ground.phase }, { on := 7, ground := Ground.phase }, { on := 8, ground := Ground.phase }, { on := 9, ground := Ground.phase }], guard := none }) (v := .pointer (some ⟨p, 2, none⟩)) rfl (by kernel_rfl) (by kernel_rfl) (by kernel_rfl) (fun _ _ _ h => h) (by kernel_rfl) (fun _ _ => by kernel_rfl) hH ?_
        try simp only [Act.put, sA, s0, s1]
        obtain ⟨cs3, hr3, hm3⟩ := HPM.out.appL b ((xs.length : Int) + 1) hka hown
        refine any_store (i := 12) (o := { dst := none, op := Op.store 67 (Operand.tmp 48) (Operand.tmp 46), type := 0, pos := "outright.go:122", after := #[{ on := 11, ground := Ground.data }, { on := 9, ground := Ground.data }, { on := 9, ground := Ground.chain }, { on := 0, ground := Ground.phase }, { on := 1, ground := Ground.phase }, { on := 2, ground := Ground.phase }, { on := 3, ground := Ground.phase }, { on := 4, ground := Ground.phase }, { on := 5, ground := Ground.phase }, { on := 6, ground := Ground.phase }, { on := 7, ground := Ground.phase }, { on := 8, ground := Ground.phase }, { on := 9, ground := Ground.phase }], guard := none }) rfl (by kernel_rfl) (by kernel_rfl) 67 _ _ rfl ⟨p, 2, none⟩ (.slice (some ⟨g1, 0, none⟩) (xs.length + 1) c1) (by kernel_rfl) (by kernel_rfl) hr3 ⟨hH.1.rowNe (by have := HO.out; omega) _, hH.2.rowNe (by have := HO.out; omega) _⟩ (fun hH => ?_)
        have HF : Hid (PM w0 (wa.setRow p cs3) p bI (some ⟨g1, 0, none⟩) c1 { st with ls := st.ls ++ [newP b ((xs.length : Int) + 1)] } (xs ++ [newX b ((xs.length : Int) + 1)]) none) := hm3
        have HKf : Hid (Kept (PSet p bI la xs) w (wa.setRow p cs3)) := (HK.out.of_no.trans hka (fun _ e => e) (fun q hq e => .inr (.inr (.inl e)))).inRow (.inl rfl) _
        generalize wa.setRow p cs3 = wf at HF HKf hH ⊢
        refine wpAnyH_done (by kernel_rfl) ?_ _
        try simp only [Act.put, sA, s0, s1]
        go_wp2
        first | go_end0 | refine bodyPost_ret (results_none rfl _ _ _) rfl ?_
        exact ⟨⟨_, rfl⟩, _, _, _, _, HF.out, HIv.out.begin _ (one_One HO1.out) HNA.out, rfl, by simp, HKf.out⟩
       ·skip
        clear hi
        refine step_run (i := 8) (o := { dst := some 45, op := Op.buildSlice 67 1 #[(0, Operand.tmp 44)], type := 67, pos := "outright.go:122", after := #[{ on := 7, ground := Ground.data }], guard := none }) rfl (by kernel_rfl) (exec_slice2 67 87 _ rfl ((newX b ((xs.length : Int) + 1)).cells) (.agg ((newX b ((xs.length : Int) + 1)).cells)) (by kernel_rfl) (slice1_pro (newX b ((xs.length : Int) + 1)) _)) ⟨HB.out.alloc _, HOw.out.alloc _⟩ (fun hH => ?_)
        try simp only [Act.put, sA, s0, s1]
        have HNB : Hid (Box (wk7.alloc (.cells ((newX b ((xs.length : Int) + 1)).cells) 87)) wk7.heap.size 87 ((newX b ((xs.length : Int) + 1)).cells)) := Box.new _ _ _
        have HB : Hid (Box (wk7.alloc (.cells ((newX b ((xs.length : Int) + 1)).cells) 87)) (N) 23 (#[.int .i64 b.n, .int .i64 b.c])) := HB.out.alloc _
        have HPl : Hid (Box (wk7.alloc (.cells ((newX b ((xs.length : Int) + 1)).cells) 87)) (p) 69 ((playC st.f bI st.is.length la xs.length lc st.dec).toArray)) := HPl.out.alloc _
        have HOw : Hid (Box (wk7.alloc (.cells ((newX b ((xs.length : Int) + 1)).cells) 87)) (gk5) 27 ((ownC b ((xs.length : Int) + 1)).cells)) := HOw.out.alloc _
        have HK : Hid (Kept No w (wk7.alloc (.cells ((newX b ((xs.length : Int) + 1)).cells) 87))) := HK.out.alloc _
        have HPM : Hid (PM w0 (wk7.alloc (.cells ((newX b ((xs.length : Int) + 1)).cells) 87)) p bI la lc st xs none) := HPM.out.no ((Kept.refl No _).alloc _)
        generalize wk7.alloc (.cells ((newX b ((xs.length : Int) + 1)).cells) 87) = wk9 at HB HPl HOw HK HNB HPM hH ⊢
        generalize wk7.heap.size = nb at HNB ⊢
        refine any_step (i := 4) (o := { dst := some 41, op := Op.load 67 (Operand.tmp 40), type := 67, pos := "outright.go:122", after := #[{ on := 3, ground := Ground.data }], guard := none }) rfl (by kernel_rfl) (by kernel_rfl) (exec_load 67 _ rfl ⟨p, 2, none⟩ (by kernel_rfl) (.slice la xs.length lc) (load_pL HPl.out)) hH (fun hH => ?_)
        try simp only [Act.put, sA, s0, s1]
        have happ := fun (A : Act) (h1 : A.eval (Operand.tmp 41) = .slice la xs.length lc) (h2 : A.eval (Operand.tmp 45) = .slice (some ⟨nb, 0, none⟩) 1 1) => exec_append (w := wk9) (a := A) (o := { dst := some 46, op := Op.call { callee := Callee.builtin Builtin.append, args := #[Operand.tmp 41, Operand.tmp 45], argTypes := #[67, 67] }, type := 67, pos := "outright.go:122", after := #[{ on := 4, ground := Ground.data }, { on := 8, ground := Ground.data }], guard := none }) _ _ 67 87 16 168 (.agg prZ.cells) Try.und67 Try.info87 rfl (by decide) rfl w0.heap.size xs.length lc la (xs.map Px.cs).flatten h1 HPM.out.row ⟨nb, 0, none⟩ 1 (newX b ((xs.length : Int) + 1)).cs h2 rfl (fun j u hu => by rw [addr_add, HNB.out.cell]; simpa [Px.cells] using hu) (list_one (x := []) (Px.one _)) (by omega) (by omega) (by have := HPM.out.np; have := HPM.out.box.lt; omega)
        refine any_app (i := 9) (o := { dst := some 46, op := Op.call { callee := Callee.builtin Builtin.append, args := #[Operand.tmp 41, Operand.tmp 45], argTypes := #[67, 67] }, type := 67, pos := "outright.go:122", after := #[{ on := 4, ground := Ground.data }, { on := 8, ground := Ground.data }], guard := none }) rfl (by kernel_rfl) (by kernel_rfl) happ (by kernel_rfl) (by kernel_rfl) (fun w' hk => ⟨HB.out.kept hk (fun e => own_box HPM.out.row HB.out (by decide) e rfl), HOw.out.kept hk (fun e => own_box HPM.out.row HOw.out (by decide) e rfl)⟩) ?_
        intro g1 c1 wa hown hka hH
        try simp only [Act.put, sA, s0, s1]
        clear happ
        refine any_take (i := 10) (oi := { dst := some 47, op := Op.nilCheck (Operand.tmp 37), type := 0, pos := "outright.go:122", after := #[{ on := 0, ground := Ground.data }, { on := 0, ground := Ground.phase }, { on := 1, ground := Ground.phase }, { on := 2, ground := Ground.phase }, { on := 3, ground := Ground.phase }, { on := 4, ground := Ground.phase }, { on := 5, ground := Ground.phase }, { on := 6, ground := Ground.phase }, { on := 7, ground := Ground.phase }, { on := 8, ground := Ground.phase }, { on := 9, ground := Ground.phase }], guard := none }) (v := .pointer (some ⟨p, 0, none⟩)) rfl (by kernel_rfl) (by kernel_rfl) (by kernel_rfl) (fun _ _ _ h => h) (by kernel_rfl) (fun _ _ => by kernel_rfl) hH ?_
        try simp only [Act.put, sA, s0, s1]
        refine any_take (i := 11) (oi := { dst := some 48, op := Op.fieldAddr 69 (Operand.tmp 47) 2, type := 0, pos := "outright.go:122", after := #[{ on := 10, ground := Ground.data }, { on := 0, ground := Ground.phase }, { on := 1, ground := Ground.phase }, { on := 2, ground := Ground.phase }, { on := 3, ground := Ground.phase }, { on := 4, ground := Ground.phase }, { on := 5, ground := Ground.phase }, { on := 6, ground := Ground.phase }, { on := 7, ground := Ground.phase }, { on := 8, ground := Ground.phase }, { on := 9, ground := Ground.phase }], guard := none }) (v := .pointer (some ⟨p, 2, none⟩)) rfl (by kernel_rfl) (by kernel_rfl) (by kernel_rfl) (fun _ _ _ h => h) (by kernel_rfl) (fun _ _ => by kernel_rfl) hH ?_
        try simp only [Act.put, sA, s0, s1]
        obtain ⟨cs3, hr3, hm3⟩ := HPM.out.appL b ((xs.length : Int) + 1) hka hown
        refine any_store (i := 12) (o := { dst := none, op := Op.store 67 (Operand.tmp 48) (Operand.tmp 46), type := 0, pos := "outright.go:122", after := #[{ on := 11, ground := Ground.data }, { on := 9, ground := Ground.data }, { on := 9, ground := Ground.chain }, { on := 0, ground := Ground.phase }, { on := 1, ground := Ground.phase }, { on := 2, ground := Ground.phase }, { on := 3, ground := Ground.phase }, { on := 4, ground := Ground.phase }, { on := 5, ground := Ground.phase }, { on := 6, ground := Ground.phase }, { on := 7, ground := Ground.phase }, { on := 8, ground := Ground.phase }, { on := 9, ground := Ground.phase }], guard := none }) rfl (by kernel_rfl) (by kernel_rfl) 67 _ _ rfl ⟨p, 2, none⟩ (.slice (some ⟨g1, 0, none⟩) (xs.length + 1) c1) (by kernel_rfl) (by kernel_rfl) hr3 ⟨hH.1.rowNe (by have := HO.out; omega) _, hH.2.rowNe (by have := HO.out; omega) _⟩ (fun hH => ?_)
        have HF : Hid (PM w0 (wa.setRow p cs3) p bI (some ⟨g1, 0, none⟩) c1 { st with ls := st.ls ++ [newP b ((xs.length : Int) + 1)] } (xs ++ [newX b ((xs.length : Int) + 1)]) none) := hm3
        have HKf : Hid (Kept (PSet p bI la xs) w (wa.setRow p cs3)) := (HK.out.of_no.trans hka (fun _ e => e) (fun q hq e => .inr (.inr (.inl e)))).inRow (.inl rfl) _
        generalize wa.setRow p cs3 = wf at HF HKf hH ⊢
        refine wpAnyH_done (by kernel_rfl) ?_ _
        try simp only [Act.put, sA, s0, s1]
        go_wp2
        first | go_end0 | refine bodyPost_ret (results_none rfl _ _ _) rfl ?_
        exact ⟨⟨_, rfl⟩, _, _, _, _, HF.out, HIv.out.begin _ (one_One HO1.out) HNA.out, rfl, by simp, HKf.out⟩

end Go.Proofs.Ytapjnanenfcdjaa
