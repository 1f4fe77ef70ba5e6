import Derived.Test.YtapjnanenfcdjaaYe
namespace Go.Proofs.Ytapjnanenfcdjaa
open Go.RowKit
set_option linter.unusedVariables false
set_option linter.unusedSimpArgs false

theorem exec_box {o : Oper} {a : Act} {w : World} (t : TypeId) (x : Operand) (ho : o.op = .box t x) (cs : Array Value) (hx : a.eval x = .agg cs) : (execOp a.eval o).run Try.prog w = .ok (.value (.pointer (some ⟨w.heap.size, 0, none⟩))) (w.alloc (.cells cs t)) := by
  simp only [execOp, ho, hx, Instr.box, Sem.run_bind, Result.andThen_ok, newVar, newRow, run_newObj_alloc, Sem.run_pure]
  rfl
set_option maxRecDepth 100000 in
set_option maxHeartbeats 16000000 in
theorem oneWalk (f0 : Int) (sa : Option Addr) (sn sc : Nat) (acs : List Ac) (w : World) (hl : acs.length = sn) (hbig : sn ≤ 140737488351232) (hR : RowsAt 6 w sa (acs.map Ac.cs)) :
    Calls Try.prog 5 #[.int .i64 f0, .slice sa sn sc] w (fun e w' => e = .returned (.bool true) ∧ Kept No w w') := by
  have HL : Hid (acs.length = sn) := hl
  have HR : Hid (RowsAt 6 w sa (acs.map Ac.cs)) := hR
  clear hl hR
  go_enter Try.func5, Try.ntmps5
  go_upto_region 3 with (first
    | (go_at_call 6
       refine Calls.mono (known_any _) ?_
       rintro e w1 ⟨rfl, hk1⟩
       have HK : Hid (Kept No w w1) := hk1
       clear hk1))
  go_upto_region 4 with (first
    | (go_at_call 21
       refine Calls.mono (in_any f0 4 _ (by omega) (by omega)) ?_
       rintro e wq ⟨r, hr, rfl, hwq⟩
       rw [hwq]
       clear hwq wq))
  refine WL.start ?_
  refine wp_takeW (.int .i64 r) (by kernel_rfl) (by kernel_rfl) ?_
  try simp only [Act.put, sA, s0, s1]
  refine wp_takeW (.int .i64 r) (by kernel_rfl) (by kernel_rfl) ?_
  try simp only [Act.put, sA, s0, s1]
  refine wp_takeW (.int .i64 (2 * (r : Int))) (exec_bin .mul 3 _ _ _ rfl (.int .i64 2) (.int .i64 r) (.int .i64 (2 * (r : Int))) (by kernel_rfl) (by kernel_rfl) (by kernel_rfl) (mulN _ _ (by omega) (by omega))) (by kernel_rfl) ?_
  try simp only [Act.put, sA, s0, s1]
  refine wp_takeW (.int .i64 (2 * (r : Int) + 1)) (exec_bin .add 3 _ _ _ rfl (.int .i64 (2 * (r : Int))) (.int .i64 1) (.int .i64 (2 * (r : Int) + 1)) (by kernel_rfl) (by kernel_rfl) (by kernel_rfl) (addN _ _ (by omega) (by omega))) (by kernel_rfl) ?_
  try simp only [Act.put, sA, s0, s1]
  refine wp_runW (.slice (some ⟨w1.heap.size, 0, none⟩) (2 * r + 1) (2 * r + 1)) (w1.alloc (.cells ((List.replicate (2 * r + 1) iZ).map In.cs).flatten.toArray 29)) (exec_make _ rfl r hr (by kernel_rfl)) (by kernel_rfl) ?_
  try simp only [Act.put, sA, s0, s1]
  have HIn : Hid (Box (w1.alloc (.cells ((List.replicate (2 * r + 1) iZ).map In.cs).flatten.toArray 29)) w1.heap.size 29 ((List.replicate (2 * r + 1) iZ).map In.cs).flatten.toArray) := Box.new _ _ _
  have HNI : Hid (w.heap.size ≤ w1.heap.size) := HK.out.size
  have HK : Hid (Kept No w (w1.alloc (.cells ((List.replicate (2 * r + 1) iZ).map In.cs).flatten.toArray 29))) := HK.out.alloc _
  generalize w1.alloc (.cells ((List.replicate (2 * r + 1) iZ).map In.cs).flatten.toArray 29) = w2 at HIn HK ⊢
  generalize w1.heap.size = bI at HIn HNI ⊢
  refine wp_takeW (.agg (playC r bI (2 * r + 1) none 0 0 cZ).toArray) (exec_build 69 _ rfl _ (by kernel_rfl)) (by kernel_rfl) ?_
  try simp only [Act.put, sA, s0, s1]
  refine wp_runW (.pointer (some ⟨w2.heap.size, 0, none⟩)) (w2.alloc (.cells (playC r bI (2 * r + 1) none 0 0 cZ).toArray 69)) (exec_box 69 _ rfl _ (by kernel_rfl)) (by kernel_rfl) ?_
  try simp only [Act.put, sA, s0, s1]
  have HPl : Hid (Box (w2.alloc (.cells (playC r bI (2 * r + 1) none 0 0 cZ).toArray 69)) w2.heap.size 69 (playC r bI (2 * r + 1) none 0 0 cZ).toArray) := Box.new _ _ _
  have HBI : Hid (bI < w2.heap.size) := HIn.out.lt
  have HIn : Hid (Box (w2.alloc (.cells (playC r bI (2 * r + 1) none 0 0 cZ).toArray 69)) bI 29 ((List.replicate (2 * r + 1) iZ).map In.cs).flatten.toArray) := HIn.out.alloc _
  have HNP : Hid (w.heap.size ≤ w2.heap.size) := HK.out.size
  have HBP : Hid (bI < w2.heap.size) := HBI.out
  have HK : Hid (Kept No w (w2.alloc (.cells (playC r bI (2 * r + 1) none 0 0 cZ).toArray 69))) := HK.out.alloc _
  generalize w2.alloc (.cells (playC r bI (2 * r + 1) none 0 0 cZ).toArray 69) = w3 at HIn HPl HK ⊢
  generalize w2.heap.size = p at HPl HNP HBP ⊢
  refine wp_takeW (.pointer (some ⟨p, 0, none⟩)) (by kernel_rfl) (by kernel_rfl) ?_
  try simp only [Act.put, sA, s0, s1]
  refine WL.nil ?_
  have H0 : Hid (PlI w p bI w3) := ⟨none, 0, _, [], PM.start HPl.out HIn.out HNP.out HNI.out, Inv.start r, by show r ≤ 3; omega, by simp, HK.out⟩
  clear HPl HIn HNP HNI HK HBI
  go_wp2
  go_loopw [6] (fun vi wr => ∃ (k : Nat), vi = .int .i64 k ∧ k ≤ sn ∧ Hid (PlI w p bI wr)) (fun k _ => sn - (intOf k).toNat)
  case atStart => exact ⟨0, by go_num, by omega, H0⟩
  case round =>
    obtain ⟨n, rfl, hk, HAt⟩ := hrel
    clear H0
    by_cases hlt : n < sn
    · have hlt' : (n : Int) < (sn : Int) := by omega
      have hkx : n < acs.length := by rw [HL.out]; exact hlt
      have hit : (acs.map Ac.cs)[n]? = some (acs[n].cs) := by simp [hkx]
      obtain ⟨sb, soff, rfl, -⟩ := HR.out n _ hit
      have HXC : Hid (∀ W, Kept No w W → ∀ (j : Nat) v, acs[n].cs[j]? = some v → W.cell? ⟨sb, soff + n * 6 + j, none⟩ = some v) := fun W hW => by
        obtain ⟨b, off, e, c⟩ := (HR.out.no hW) n _ hit
        cases e
        exact c
      generalize acs[n] = ac at HXC
      clear hit hkx
      obtain ⟨la, lc, st, xs, hM, hI, hf, hx64, hK⟩ := HAt.out
      have HPM : Hid (PM w wr p bI la lc st xs none) := hM
      have HPl : Hid (Box wr (p) 69 ((playC st.f bI st.is.length la xs.length lc st.dec).toArray)) := hM.box
      have HIv : Hid (Inv st) := hI
      have HK : Hid (Kept No w wr) := hK
      have HO : Hid (w.heap.size ≤ p ∧ bI < p) := ⟨hM.np, HBP.out⟩
      have HLT : Hid (p < wr.heap.size) := hM.box.lt
      clear hM hI hK HAt
      go_upto_region 8 with fail
      refine WL.start ?_
      refine wp_takeW (.slice (some ⟨sb, soff, none⟩) sn sc) (by kernel_rfl) (by kernel_rfl) ?_
      try simp only [Act.put, sA, s0, s1]
      refine wp_takeW (.int .i64 n) (by kernel_rfl) (by kernel_rfl) ?_
      try simp only [Act.put, sA, s0, s1]
      refine wp_takeW (.pointer (some ⟨sb, soff + n * 6, none⟩)) (exec_ixA 63 6 Try.und63e Try.size63e _ _ rfl sb soff sn sc n (by kernel_rfl) (by kernel_rfl) hlt) (by kernel_rfl) ?_
      try simp only [Act.put, sA, s0, s1]
      refine wp_takeW (.agg ac.cells) (exec_load 71 _ rfl ⟨sb, soff + n * 6, none⟩ (by kernel_rfl) (.agg ac.cells) (load_A (HXC.out _ HK.out))) (by kernel_rfl) ?_
      try simp only [Act.put, sA, s0, s1]
      refine wp_allocW 71 rfl (acZ.cells) zero71 wr.heap.size rfl (by kernel_rfl) ?_
      try simp only [Act.put, sA, s0, s1]
      have HPB : Hid (PB wr.heap.size p bI la xs) := HPM.out.below
      have HS : Hid (Box (wr.alloc (.cells (acZ.cells) 71)) wr.heap.size 71 (acZ.cells)) := Box.new _ _ _
      have HPl : Hid (Box (wr.alloc (.cells (acZ.cells) 71)) (p) 69 ((playC st.f bI st.is.length la xs.length lc st.dec).toArray)) := HPl.out.alloc _
      have hsz := HK.out.size
      have HK : Hid (Kept No w (wr.alloc (.cells (acZ.cells) 71))) := HK.out.alloc _
      have HPM : Hid (PM w (wr.alloc (.cells (acZ.cells) 71)) p bI la lc st xs none) := HPM.out.no ((Kept.refl No _).alloc _)
      have HO : Hid (w.heap.size ≤ p ∧ bI < p ∧ p < wr.heap.size ∧ w.heap.size ≤ wr.heap.size) := by
        have h := HO.out
        have l := HLT.out
        show _ ∧ _
        omega
      clear hsz
      have HLT : Hid (wr.heap.size < (wr.alloc (.cells (acZ.cells) 71)).heap.size) := by show _ < _; simp
      generalize wr.alloc (.cells (acZ.cells) 71) = wk1 at HPl HS HK HLT HPM ⊢
      generalize wr.heap.size = S7 at HS HO HLT HPB ⊢
      refine wp_storeW 71 _ _ rfl ⟨S7, 0, none⟩ (.agg ac.cells) (by kernel_rfl) (by kernel_rfl) _ (store_A HS.out rfl) (by kernel_rfl) ?_
      try simp only [Act.put, sA, s0, s1]
      have HLT : Hid (S7 < (wk1.setRow S7 (ac.cells)).heap.size) := by show _ < _; rw [setRow_size]; exact HLT.out
      have HPM : Hid (PM w (wk1.setRow S7 (ac.cells)) p bI la lc st xs none) := HPM.out.far HPB.out (Kept.setRow _ _ _) (fun q e => by have e : q = S7 := e; have := HO.out; omega)
      have HPl : Hid (Box (wk1.setRow S7 (ac.cells)) (p) 69 ((playC st.f bI st.is.length la xs.length lc st.dec).toArray)) := HPl.out.rowNe (by have := HO.out; omega) _
      have HS : Hid (Box (wk1.setRow S7 (ac.cells)) (S7) 71 (ac.cells)) := HS.out.setRow _
      have HK : Hid (Kept No w (wk1.setRow S7 (ac.cells))) := HK.out.newRow (by have := HO.out; omega) _
      generalize wk1.setRow S7 (ac.cells) = wk2 at HPl HS HK HLT HPM ⊢
      refine WL.nil ?_
      try simp only [Act.put, sA, s0, s1]
      go_upto_region 9 with fail
      refine WL.start ?_
      refine wp_takeW (.pointer (some ⟨S7, 0, none⟩)) (by kernel_rfl) (by kernel_rfl) ?_
      try simp only [Act.put, sA, s0, s1]
      refine wp_takeW (.int .i64 ac.k) (exec_load 3 _ rfl ⟨S7, 0, none⟩ (by kernel_rfl) (.int .i64 ac.k) (load_N (HS.out.cell 0))) (by kernel_rfl) ?_
      try simp only [Act.put, sA, s0, s1]
      cases q1 : (ac.k == 1)
      ·skip
       refine wp_takeW (.bool false) (exec_bin .eql 3 _ _ _ rfl (.int .i64 ac.k) (.int .i64 1) (.bool false) (by kernel_rfl) (by kernel_rfl) (by kernel_rfl) (by rw [eqlN, q1]; try rfl)) (by kernel_rfl) ?_
       try simp only [Act.put, sA, s0, s1]
       refine wp_takeW (.bool false) (by kernel_rfl) (by kernel_rfl) ?_
       try simp only [Act.put, sA, s0, s1]
       refine wp_skip (by kernel_rfl) ?_
       try simp only [Act.put, sA, s0, s1]
       refine wp_skip (by kernel_rfl) ?_
       try simp only [Act.put, sA, s0, s1]
       refine wp_skip (by kernel_rfl) ?_
       try simp only [Act.put, sA, s0, s1]
       refine wp_skip (by kernel_rfl) ?_
       try simp only [Act.put, sA, s0, s1]
       refine wp_skip (by kernel_rfl) ?_
       try simp only [Act.put, sA, s0, s1]
       refine wp_skip (by kernel_rfl) ?_
       try simp only [Act.put, sA, s0, s1]
       refine wp_takeW (.bool false) (by kernel_rfl) (by kernel_rfl) ?_
       try simp only [Act.put, sA, s0, s1]
       refine WL.nil ?_
       try simp only [Act.put, sA, s0, s1]
       go_upto_region 11 with fail
       refine WL.start ?_
       refine wp_takeW (.pointer (some ⟨p, 0, none⟩)) (by kernel_rfl) (by kernel_rfl) ?_
       try simp only [Act.put, sA, s0, s1]
       refine wp_takeW (.pointer (some ⟨p, 0, none⟩)) (by kernel_rfl) (by kernel_rfl) ?_
       try simp only [Act.put, sA, s0, s1]
       refine wp_takeW (.pointer (some ⟨p, 2, none⟩)) (by kernel_rfl) (by kernel_rfl) ?_
       try simp only [Act.put, sA, s0, s1]
       refine wp_takeW (.slice la xs.length lc) (exec_load 67 _ rfl ⟨p, 2, none⟩ (by kernel_rfl) (.slice la xs.length lc) (load_pL HPl.out)) (by kernel_rfl) ?_
       try simp only [Act.put, sA, s0, s1]
       refine wp_takeW (.int .i64 (xs.length : Int)) (by kernel_rfl) (by kernel_rfl) ?_
       try simp only [Act.put, sA, s0, s1]
       cases q2 : ((xs.length : Int) == 0)
       ·skip
        refine wp_takeW (.bool false) (exec_bin .eql 3 _ _ _ rfl (.int .i64 (xs.length : Int)) (.int .i64 0) (.bool false) (by kernel_rfl) (by kernel_rfl) (by kernel_rfl) (by rw [eqlN, q2]; try rfl)) (by kernel_rfl) ?_
        try simp only [Act.put, sA, s0, s1]
        refine WL.nil ?_
        try simp only [Act.put, sA, s0, s1]
        have h0 : 0 < xs.length := by have h := q2; simp at h; exact List.length_pos_iff.2 h
        have hil : st.is.length = 2 * st.f + 1 := HIv.out.len
        obtain ⟨lg, hlg⟩ := HPM.out.la_some (List.getElem?_eq_getElem h0)
        subst hlg
        go_upto_region 12 with fail
        refine wp_region_held_drew (S := fun w' => Box w' (S7) 71 (ac.cells) ∧ Box w' (p) 69 ((playC st.f bI st.is.length (some ⟨lg, 0, none⟩) xs.length lc st.dec).toArray)) rfl ⟨HS.out, HPl.out⟩ (fun hH => ?_)
        have HPl : Hid (Box wk2.drew (p) 69 ((playC st.f bI st.is.length (some ⟨lg, 0, none⟩) xs.length lc st.dec).toArray)) := HPl.out
        have HS : Hid (Box wk2.drew (S7) 71 (ac.cells)) := HS.out
        have HK : Hid (Kept No w wk2.drew) := HK.out.drew
        have HPM : Hid (PM w (wk2.drew) p bI (some ⟨lg, 0, none⟩) lc st xs none) := HPM.out.no (Kept.refl No _).drew
        have HLT : Hid (S7 < wk2.drew.heap.size) := HLT.out
        generalize wk2.drew = wk3 at HPl HS HK HLT hH HPM ⊢
        refine any_take (i := 0) (oi := { dst := some 54, op := Op.fieldAddr 71 (Operand.tmp 7) 1, type := 0, pos := "outright.go:195", after := #[], guard := none }) (v := .pointer (some ⟨S7, 1, none⟩)) rfl (by kernel_rfl) (by kernel_rfl) (by kernel_rfl) (fun _ _ _ h => h) (by kernel_rfl) (fun _ _ => by kernel_rfl) hH ?_
        try simp only [Act.put, sA, s0, s1]
        refine any_take (i := 1) (oi := { dst := some 55, op := Op.load 3 (Operand.tmp 54), type := 3, pos := "outright.go:195", after := #[{ on := 0, ground := Ground.data }], guard := none }) (v := .int .i64 ac.p) rfl (by kernel_rfl) (by kernel_rfl) (by kernel_rfl) (fun _ _ _ h => h) (by kernel_rfl) (fun w' hw => exec_load 3 _ rfl ⟨S7, 1, none⟩ (by kernel_rfl) (.int .i64 ac.p) (load_N (hw.1.cell 1))) hH ?_
        try simp only [Act.put, sA, s0, s1]
        refine any_take (i := 2) (oi := { dst := some 56, op := Op.move (Operand.tmp 5), type := 65, pos := "outright.go:195", after := #[], guard := none }) (v := .pointer (some ⟨p, 0, none⟩)) rfl (by kernel_rfl) (by kernel_rfl) (by kernel_rfl) (fun _ _ _ h => h) (by kernel_rfl) (fun _ _ => by kernel_rfl) hH ?_
        try simp only [Act.put, sA, s0, s1]
        refine any_take (i := 3) (oi := { dst := some 57, op := Op.nilCheck (Operand.tmp 56), type := 0, pos := "outright.go:195", after := #[{ on := 2, ground := Ground.data }], guard := none }) (v := .pointer (some ⟨p, 0, none⟩)) rfl (by kernel_rfl) (by kernel_rfl) (by kernel_rfl) (fun _ _ _ h => h) (by kernel_rfl) (fun _ _ => by kernel_rfl) hH ?_
        try simp only [Act.put, sA, s0, s1]
        refine any_take (i := 4) (oi := { dst := some 58, op := Op.fieldAddr 69 (Operand.tmp 57) 2, type := 0, pos := "outright.go:195", after := #[{ on := 3, ground := Ground.data }], guard := none }) (v := .pointer (some ⟨p, 2, none⟩)) rfl (by kernel_rfl) (by kernel_rfl) (by kernel_rfl) (fun _ _ _ h => h) (by kernel_rfl) (fun _ _ => by kernel_rfl) hH ?_
        try simp only [Act.put, sA, s0, s1]
        refine any_take (i := 5) (oi := { dst := some 59, op := Op.load 67 (Operand.tmp 58), type := 67, pos := "outright.go:195", after := #[{ on := 4, ground := Ground.data }], guard := none }) (v := .slice (some ⟨lg, 0, none⟩) xs.length lc) rfl (by kernel_rfl) (by kernel_rfl) (by kernel_rfl) (fun _ _ _ h => h) (by kernel_rfl) (fun w' hw => exec_load 67 _ rfl ⟨p, 2, none⟩ (by kernel_rfl) (.slice (some ⟨lg, 0, none⟩) xs.length lc) (load_pL hw.2)) hH ?_
        try simp only [Act.put, sA, s0, s1]
        refine any_take (i := 6) (oi := { dst := some 60, op := Op.call { callee := Callee.builtin Builtin.len, args := #[Operand.tmp 59], argTypes := #[67] }, type := 3, pos := "outright.go:195", after := #[{ on := 5, ground := Ground.data }], guard := none }) (v := .int .i64 (xs.length : Int)) rfl (by kernel_rfl) (by kernel_rfl) (by kernel_rfl) (fun _ _ _ h => h) (by kernel_rfl) (fun _ _ => by kernel_rfl) hH ?_
        try simp only [Act.put, sA, s0, s1]
        refine any_call (i := 7) (o := { dst := some 61, op := Op.call { callee := Callee.value (Operand.func 21), args := #[Operand.tmp 55, Operand.tmp 60], argTypes := #[3, 3] }, type := 3, pos := "outright.go:195", after := #[{ on := 1, ground := Ground.data }, { on := 6, ground := Ground.data }], guard := none }) rfl (by kernel_rfl) (by kernel_rfl) 21 #[.int .i64 ac.p, .int .i64 (xs.length : Int)] (by kernel_rfl) _ (in_any ac.p (xs.length) _ h0 (by omega)) ?_
        rintro e wq ⟨kk, hkk, rfl, hwq⟩
        rw [hwq]
        clear hwq wq
        refine ⟨.int .i64 kk, rfl, hH, fun hH => ?_⟩
        try simp only [Act.put, sA, s0, s1]
        refine any_take (i := 8) (oi := { dst := some 8, op := Op.assign (Operand.tmp 61), type := 3, pos := "outright.go:195", after := #[{ on := 7, ground := Ground.data }, { on := 7, ground := Ground.chain }, { on := 0, ground := Ground.phase }, { on := 1, ground := Ground.phase }, { on := 2, ground := Ground.phase }, { on := 3, ground := Ground.phase }, { on := 4, ground := Ground.phase }, { on := 5, ground := Ground.phase }, { on := 6, ground := Ground.phase }, { on := 7, ground := Ground.phase }], guard := none }) (v := .int .i64 kk) rfl (by kernel_rfl) (by kernel_rfl) (by kernel_rfl) (fun _ _ _ h => h) (by kernel_rfl) (fun _ _ => by kernel_rfl) hH ?_
        try simp only [Act.put, sA, s0, s1]
        refine wpAnyH_done (by kernel_rfl) ?_ _
        try simp only [Act.put, sA, s0, s1]
        go_upto_region 13 with fail
        have hil0 : 0 < st.is.length := by omega
        refine wp_region_held_drew (S := fun w' => Box w' (S7) 71 (ac.cells) ∧ Box w' (p) 69 ((playC st.f bI st.is.length (some ⟨lg, 0, none⟩) xs.length lc st.dec).toArray)) rfl ⟨HS.out, HPl.out⟩ (fun hH => ?_)
        have HPl : Hid (Box wk3.drew (p) 69 ((playC st.f bI st.is.length (some ⟨lg, 0, none⟩) xs.length lc st.dec).toArray)) := HPl.out
        have HS : Hid (Box wk3.drew (S7) 71 (ac.cells)) := HS.out
        have HK : Hid (Kept No w wk3.drew) := HK.out.drew
        have HPM : Hid (PM w (wk3.drew) p bI (some ⟨lg, 0, none⟩) lc st xs none) := HPM.out.no (Kept.refl No _).drew
        have HLT : Hid (S7 < wk3.drew.heap.size) := HLT.out
        generalize wk3.drew = wk4 at HPl HS HK HLT hH HPM ⊢
        refine any_take (i := 0) (oi := { dst := some 62, op := Op.fieldAddr 71 (Operand.tmp 7) 2, type := 0, pos := "outright.go:196", after := #[], guard := none }) (v := .pointer (some ⟨S7, 2, none⟩)) rfl (by kernel_rfl) (by kernel_rfl) (by kernel_rfl) (fun _ _ _ h => h) (by kernel_rfl) (fun _ _ => by kernel_rfl) hH ?_
        try simp only [Act.put, sA, s0, s1]
        refine any_take (i := 1) (oi := { dst := some 63, op := Op.load 3 (Operand.tmp 62), type := 3, pos := "outright.go:196", after := #[{ on := 0, ground := Ground.data }], guard := none }) (v := .int .i64 ac.s) rfl (by kernel_rfl) (by kernel_rfl) (by kernel_rfl) (fun _ _ _ h => h) (by kernel_rfl) (fun w' hw => exec_load 3 _ rfl ⟨S7, 2, none⟩ (by kernel_rfl) (.int .i64 ac.s) (load_N (hw.1.cell 2))) hH ?_
        try simp only [Act.put, sA, s0, s1]
        refine any_take (i := 2) (oi := { dst := some 64, op := Op.move (Operand.tmp 5), type := 65, pos := "outright.go:196", after := #[], guard := none }) (v := .pointer (some ⟨p, 0, none⟩)) rfl (by kernel_rfl) (by kernel_rfl) (by kernel_rfl) (fun _ _ _ h => h) (by kernel_rfl) (fun _ _ => by kernel_rfl) hH ?_
        try simp only [Act.put, sA, s0, s1]
        refine any_take (i := 3) (oi := { dst := some 65, op := Op.nilCheck (Operand.tmp 64), type := 0, pos := "outright.go:196", after := #[{ on := 2, ground := Ground.data }], guard := none }) (v := .pointer (some ⟨p, 0, none⟩)) rfl (by kernel_rfl) (by kernel_rfl) (by kernel_rfl) (fun _ _ _ h => h) (by kernel_rfl) (fun _ _ => by kernel_rfl) hH ?_
        try simp only [Act.put, sA, s0, s1]
        refine any_take (i := 4) (oi := { dst := some 66, op := Op.fieldAddr 69 (Operand.tmp 65) 1, type := 0, pos := "outright.go:196", after := #[{ on := 3, ground := Ground.data }], guard := none }) (v := .pointer (some ⟨p, 1, none⟩)) rfl (by kernel_rfl) (by kernel_rfl) (by kernel_rfl) (fun _ _ _ h => h) (by kernel_rfl) (fun _ _ => by kernel_rfl) hH ?_
        try simp only [Act.put, sA, s0, s1]
        refine any_take (i := 5) (oi := { dst := some 67, op := Op.load 66 (Operand.tmp 66), type := 66, pos := "outright.go:196", after := #[{ on := 4, ground := Ground.data }], guard := none }) (v := .slice (some ⟨bI, 0, none⟩) st.is.length st.is.length) rfl (by kernel_rfl) (by kernel_rfl) (by kernel_rfl) (fun _ _ _ h => h) (by kernel_rfl) (fun w' hw => exec_load 66 _ rfl ⟨p, 1, none⟩ (by kernel_rfl) (.slice (some ⟨bI, 0, none⟩) st.is.length st.is.length) (load_pI hw.2)) hH ?_
        try simp only [Act.put, sA, s0, s1]
        refine any_take (i := 6) (oi := { dst := some 68, op := Op.call { callee := Callee.builtin Builtin.len, args := #[Operand.tmp 67], argTypes := #[66] }, type := 3, pos := "outright.go:196", after := #[{ on := 5, ground := Ground.data }], guard := none }) (v := .int .i64 (st.is.length : Int)) rfl (by kernel_rfl) (by kernel_rfl) (by kernel_rfl) (fun _ _ _ h => h) (by kernel_rfl) (fun _ _ => by kernel_rfl) hH ?_
        try simp only [Act.put, sA, s0, s1]
        refine any_call (i := 7) (o := { dst := some 69, op := Op.call { callee := Callee.value (Operand.func 21), args := #[Operand.tmp 63, Operand.tmp 68], argTypes := #[3, 3] }, type := 3, pos := "outright.go:196", after := #[{ on := 1, ground := Ground.data }, { on := 6, ground := Ground.data }], guard := none }) rfl (by kernel_rfl) (by kernel_rfl) 21 #[.int .i64 ac.s, .int .i64 (st.is.length : Int)] (by kernel_rfl) _ (in_any ac.s (st.is.length) _ hil0 (by omega)) ?_
        rintro e wq ⟨ss, hss, rfl, hwq⟩
        rw [hwq]
        clear hwq wq
        refine ⟨.int .i64 ss, rfl, hH, fun hH => ?_⟩
        try simp only [Act.put, sA, s0, s1]
        refine any_take (i := 8) (oi := { dst := some 9, op := Op.assign (Operand.tmp 69), type := 3, pos := "outright.go:196", after := #[{ on := 7, ground := Ground.data }, { on := 7, ground := Ground.chain }, { on := 0, ground := Ground.phase }, { on := 1, ground := Ground.phase }, { on := 2, ground := Ground.phase }, { on := 3, ground := Ground.phase }, { on := 4, ground := Ground.phase }, { on := 5, ground := Ground.phase }, { on := 6, ground := Ground.phase }, { on := 7, ground := Ground.phase }], guard := none }) (v := .int .i64 ss) rfl (by kernel_rfl) (by kernel_rfl) (by kernel_rfl) (fun _ _ _ h => h) (by kernel_rfl) (fun _ _ => by kernel_rfl) hH ?_
        try simp only [Act.put, sA, s0, s1]
        refine wpAnyH_done (by kernel_rfl) ?_ _
        try simp only [Act.put, sA, s0, s1]
        have HXK : Hid (xs[kk]? = some xs[kk]) := List.getElem?_eq_getElem hkk
        have HSI : Hid (st.is[ss]? = some st.is[ss]) := List.getElem?_eq_getElem hss
        generalize xs[kk] = x at HXK
        generalize st.is[ss] = i0 at HSI
        go_upto_region 14 with fail
        refine WL.start ?_
        refine wp_takeW (.pointer (some ⟨S7, 0, none⟩)) (by kernel_rfl) (by kernel_rfl) ?_
        try simp only [Act.put, sA, s0, s1]
        refine wp_takeW (.int .i64 ac.k) (exec_load 3 _ rfl ⟨S7, 0, none⟩ (by kernel_rfl) (.int .i64 ac.k) (load_N (HS.out.cell 0))) (by kernel_rfl) ?_
        try simp only [Act.put, sA, s0, s1]
        cases q3 : (ac.k == 2)
        ·skip
         refine wp_takeW (.bool false) (exec_bin .eql 3 _ _ _ rfl (.int .i64 ac.k) (.int .i64 2) (.bool false) (by kernel_rfl) (by kernel_rfl) (by kernel_rfl) (by rw [eqlN, q3]; try rfl)) (by kernel_rfl) ?_
         try simp only [Act.put, sA, s0, s1]
         refine wp_takeW (.bool false) (by kernel_rfl) (by kernel_rfl) ?_
         try simp only [Act.put, sA, s0, s1]
         refine wp_skip (by kernel_rfl) ?_
         try simp only [Act.put, sA, s0, s1]
         refine wp_skip (by kernel_rfl) ?_
         try simp only [Act.put, sA, s0, s1]
         refine wp_skip (by kernel_rfl) ?_
         try simp only [Act.put, sA, s0, s1]
         refine wp_skip (by kernel_rfl) ?_
         try simp only [Act.put, sA, s0, s1]
         refine wp_skip (by kernel_rfl) ?_
         try simp only [Act.put, sA, s0, s1]
         refine wp_skip (by kernel_rfl) ?_
         try simp only [Act.put, sA, s0, s1]
         refine wp_skip (by kernel_rfl) ?_
         try simp only [Act.put, sA, s0, s1]
         refine wp_takeW (.bool false) (by kernel_rfl) (by kernel_rfl) ?_
         try simp only [Act.put, sA, s0, s1]
         refine wp_takeW (.bool false) (by kernel_rfl) (by kernel_rfl) ?_
         try simp only [Act.put, sA, s0, s1]
         refine wp_takeW (.pointer (some ⟨S7, 0, none⟩)) (by kernel_rfl) (by kernel_rfl) ?_
         try simp only [Act.put, sA, s0, s1]
         refine wp_takeW (.int .i64 ac.k) (exec_load 3 _ rfl ⟨S7, 0, none⟩ (by kernel_rfl) (.int .i64 ac.k) (load_N (HS.out.cell 0))) (by kernel_rfl) ?_
         try simp only [Act.put, sA, s0, s1]
         cases q4 : (ac.k == 3)
         ·skip
          refine wp_takeW (.bool false) (exec_bin .eql 3 _ _ _ rfl (.int .i64 ac.k) (.int .i64 3) (.bool false) (by kernel_rfl) (by kernel_rfl) (by kernel_rfl) (by rw [eqlN, q4]; try rfl)) (by kernel_rfl) ?_
          try simp only [Act.put, sA, s0, s1]
          refine wp_takeW (.bool false) (by kernel_rfl) (by kernel_rfl) ?_
          try simp only [Act.put, sA, s0, s1]
          refine wp_skip (by kernel_rfl) ?_
          try simp only [Act.put, sA, s0, s1]
          refine wp_skip (by kernel_rfl) ?_
          try simp only [Act.put, sA, s0, s1]
          refine wp_skip (by kernel_rfl) ?_
          try simp only [Act.put, sA, s0, s1]
          refine wp_skip (by kernel_rfl) ?_
          try simp only [Act.put, sA, s0, s1]
          refine wp_skip (by kernel_rfl) ?_
          try simp only [Act.put, sA, s0, s1]
          refine wp_takeW (.bool false) (by kernel_rfl) (by kernel_rfl) ?_
          try simp only [Act.put, sA, s0, s1]
          refine wp_takeW (.bool false) (by kernel_rfl) (by kernel_rfl) ?_
          try simp only [Act.put, sA, s0, s1]
          refine WL.nil ?_
          try simp only [Act.put, sA, s0, s1]
          go_upto_region 16 with fail
          refine WL.start ?_
          refine wp_takeW (.pointer (some ⟨S7, 0, none⟩)) (by kernel_rfl) (by kernel_rfl) ?_
          try simp only [Act.put, sA, s0, s1]
          refine wp_takeW (.int .i64 ac.k) (exec_load 3 _ rfl ⟨S7, 0, none⟩ (by kernel_rfl) (.int .i64 ac.k) (load_N (HS.out.cell 0))) (by kernel_rfl) ?_
          try simp only [Act.put, sA, s0, s1]
          cases q5 : (ac.k == 4)
          ·skip
           refine wp_takeW (.bool false) (exec_bin .eql 3 _ _ _ rfl (.int .i64 ac.k) (.int .i64 4) (.bool false) (by kernel_rfl) (by kernel_rfl) (by kernel_rfl) (by rw [eqlN, q5]; try rfl)) (by kernel_rfl) ?_
           try simp only [Act.put, sA, s0, s1]
           refine wp_takeW (.bool false) (by kernel_rfl) (by kernel_rfl) ?_
           try simp only [Act.put, sA, s0, s1]
           refine wp_skip (by kernel_rfl) ?_
           try simp only [Act.put, sA, s0, s1]
           refine wp_skip (by kernel_rfl) ?_
           try simp only [Act.put, sA, s0, s1]
           refine wp_skip (by kernel_rfl) ?_
           try simp only [Act.put, sA, s0, s1]
           refine wp_skip (by kernel_rfl) ?_
           try simp only [Act.put, sA, s0, s1]
           refine wp_skip (by kernel_rfl) ?_
           try simp only [Act.put, sA, s0, s1]
           refine wp_skip (by kernel_rfl) ?_
           try simp only [Act.put, sA, s0, s1]
           refine wp_takeW (.bool false) (by kernel_rfl) (by kernel_rfl) ?_
           try simp only [Act.put, sA, s0, s1]
           refine WL.nil ?_
           try simp only [Act.put, sA, s0, s1]
           have HF : Hid (PlI w p bI wk4) := ⟨_, _, st, xs, HPM.out, HIv.out, by omega, by omega, HK.out⟩
           go_wp2
           go_roundw
           case measure => simp [intOf]; omega
           case rel => exact ⟨n + 1, by go_num, by omega, HF⟩
          ·skip
           refine wp_takeW (.bool true) (exec_bin .eql 3 _ _ _ rfl (.int .i64 ac.k) (.int .i64 4) (.bool true) (by kernel_rfl) (by kernel_rfl) (by kernel_rfl) (by rw [eqlN, q5]; try rfl)) (by kernel_rfl) ?_
           try simp only [Act.put, sA, s0, s1]
           refine wp_takeW (.bool true) (by kernel_rfl) (by kernel_rfl) ?_
           try simp only [Act.put, sA, s0, s1]
           refine wp_takeW (.pointer (some ⟨p, 0, none⟩)) (by kernel_rfl) (by kernel_rfl) ?_
           try simp only [Act.put, sA, s0, s1]
           refine wp_takeW (.pointer (some ⟨p, 0, none⟩)) (by kernel_rfl) (by kernel_rfl) ?_
           try simp only [Act.put, sA, s0, s1]
           refine wp_takeW (.pointer (some ⟨p, 3, none⟩)) (by kernel_rfl) (by kernel_rfl) ?_
           try simp only [Act.put, sA, s0, s1]
           refine wp_takeW (.pointer (some ⟨p, 3, none⟩)) (by kernel_rfl) (by kernel_rfl) ?_
           try simp only [Act.put, sA, s0, s1]
           refine wp_takeW (.int .i64 st.dec.k) (exec_load 3 _ rfl ⟨p, 3, none⟩ (by kernel_rfl) (.int .i64 st.dec.k) (load_pK HPl.out)) (by kernel_rfl) ?_
           try simp only [Act.put, sA, s0, s1]
           cases q6 : (st.dec.k == 0)
           ·skip
            refine wp_takeW (.bool true) (exec_bin .neq 3 _ _ _ rfl (.int .i64 st.dec.k) (.int .i64 0) (.bool true) (by kernel_rfl) (by kernel_rfl) (by kernel_rfl) (by rw [neqN, q6]; try rfl)) (by kernel_rfl) ?_
            try simp only [Act.put, sA, s0, s1]
            refine wp_takeW (.bool true) (by kernel_rfl) (by kernel_rfl) ?_
            try simp only [Act.put, sA, s0, s1]
            refine WL.nil ?_
            try simp only [Act.put, sA, s0, s1]
            have HIn : Hid (Box wk4 (bI) 29 ((st.is.map In.cs).flatten.toArray)) := HPM.out.ins
            have hlrn := HIv.out.lrn HSI.out (by simpa using q6)
            have HIv1 : Hid (Inv { st with is := st.is.set ss (lrnI i0 st.dec) }) := hlrn.1
            have HLC : Hid ((lrnI i0 st.dec).c = st.dec) := hlrn.2
            clear hlrn
            go_upto_region 17 with fail
            refine wp_region_held_drew (S := fun w' => Box w' (p) 69 ((playC st.f bI st.is.length (some ⟨lg, 0, none⟩) xs.length lc st.dec).toArray) ∧ Box w' (bI) 29 ((st.is.map In.cs).flatten.toArray)) rfl ⟨HPl.out, HIn.out⟩ (fun hH => ?_)
            have HPl : Hid (Box wk4.drew (p) 69 ((playC st.f bI st.is.length (some ⟨lg, 0, none⟩) xs.length lc st.dec).toArray)) := HPl.out
            have HS : Hid (Box wk4.drew (S7) 71 (ac.cells)) := HS.out
            have HIn : Hid (Box wk4.drew (bI) 29 ((st.is.map In.cs).flatten.toArray)) := HIn.out
            have HK : Hid (Kept No w wk4.drew) := HK.out.drew
            have HPM : Hid (PM w (wk4.drew) p bI (some ⟨lg, 0, none⟩) lc st xs none) := HPM.out.no (Kept.refl No _).drew
            have HLT : Hid (S7 < wk4.drew.heap.size) := HLT.out
            generalize wk4.drew = wk5 at HPl HS HIn HK HLT hH HPM ⊢
            refine any_take (i := 0) (oi := { dst := some 106, op := Op.move (Operand.tmp 5), type := 65, pos := "outright.go:201", after := #[], guard := none }) (v := .pointer (some ⟨p, 0, none⟩)) rfl (by kernel_rfl) (by kernel_rfl) (by kernel_rfl) (fun _ _ _ h => h) (by kernel_rfl) (fun _ _ => by kernel_rfl) hH ?_
            try simp only [Act.put, sA, s0, s1]
            refine any_take (i := 1) (oi := { dst := some 107, op := Op.nilCheck (Operand.tmp 106), type := 0, pos := "outright.go:201", after := #[{ on := 0, ground := Ground.data }], guard := none }) (v := .pointer (some ⟨p, 0, none⟩)) rfl (by kernel_rfl) (by kernel_rfl) (by kernel_rfl) (fun _ _ _ h => h) (by kernel_rfl) (fun _ _ => by kernel_rfl) hH ?_
            try simp only [Act.put, sA, s0, s1]
            refine any_take (i := 2) (oi := { dst := some 108, op := Op.fieldAddr 69 (Operand.tmp 107) 1, type := 0, pos := "outright.go:201", after := #[{ on := 1, ground := Ground.data }], guard := none }) (v := .pointer (some ⟨p, 1, none⟩)) rfl (by kernel_rfl) (by kernel_rfl) (by kernel_rfl) (fun _ _ _ h => h) (by kernel_rfl) (fun _ _ => by kernel_rfl) hH ?_
            try simp only [Act.put, sA, s0, s1]
            refine any_take (i := 3) (oi := { dst := some 109, op := Op.load 66 (Operand.tmp 108), type := 66, pos := "outright.go:201", after := #[{ on := 2, ground := Ground.data }], guard := none }) (v := .slice (some ⟨bI, 0, none⟩) st.is.length st.is.length) rfl (by kernel_rfl) (by kernel_rfl) (by kernel_rfl) (fun _ _ _ h => h) (by kernel_rfl) (fun w' hw => exec_load 66 _ rfl ⟨p, 1, none⟩ (by kernel_rfl) (.slice (some ⟨bI, 0, none⟩) st.is.length st.is.length) (load_pI hw.1)) hH ?_
            try simp only [Act.put, sA, s0, s1]
            refine any_take (i := 4) (oi := { dst := some 110, op := Op.move (Operand.tmp 9), type := 3, pos := "outright.go:201", after := #[], guard := none }) (v := .int .i64 ss) rfl (by kernel_rfl) (by kernel_rfl) (by kernel_rfl) (fun _ _ _ h => h) (by kernel_rfl) (fun _ _ => by kernel_rfl) hH ?_
            try simp only [Act.put, sA, s0, s1]
            refine any_take (i := 5) (oi := { dst := some 111, op := Op.indexAddr 66 (Operand.tmp 109) (Operand.tmp 110), type := 0, pos := "outright.go:201", after := #[{ on := 3, ground := Ground.data }, { on := 4, ground := Ground.data }], guard := none }) (v := .pointer (some ⟨bI, 0 + ss * 14, none⟩)) rfl (by kernel_rfl) (by kernel_rfl) (by kernel_rfl) (fun _ _ _ h => h) (by kernel_rfl) (fun w' hw => exec_ixA 66 14 Try.und66e Try.size66e _ _ rfl bI 0 st.is.length st.is.length ss (by kernel_rfl) (by kernel_rfl) hss) hH ?_
            try simp only [Act.put, sA, s0, s1]
            refine any_take (i := 6) (oi := { dst := some 112, op := Op.load 29 (Operand.tmp 111), type := 29, pos := "outright.go:201", after := #[{ on := 5, ground := Ground.data }], guard := none }) (v := .agg i0.cells) rfl (by kernel_rfl) (by kernel_rfl) (by kernel_rfl) (fun _ _ _ h => h) (by kernel_rfl) (fun w' hw => exec_load 29 _ rfl ⟨bI, 0 + ss * 14, none⟩ (by kernel_rfl) (.agg i0.cells) (load_In hw.2 HSI.out)) hH ?_
            try simp only [Act.put, sA, s0, s1]
            refine any_take (i := 7) (oi := { dst := some 113, op := Op.move (Operand.tmp 5), type := 65, pos := "outright.go:201", after := #[], guard := none }) (v := .pointer (some ⟨p, 0, none⟩)) rfl (by kernel_rfl) (by kernel_rfl) (by kernel_rfl) (fun _ _ _ h => h) (by kernel_rfl) (fun _ _ => by kernel_rfl) hH ?_
            try simp only [Act.put, sA, s0, s1]
            refine any_take (i := 8) (oi := { dst := some 114, op := Op.nilCheck (Operand.tmp 113), type := 0, pos := "outright.go:201", after := #[{ on := 7, ground := Ground.data }], guard := none }) (v := .pointer (some ⟨p, 0, none⟩)) rfl (by kernel_rfl) (by kernel_rfl) (by kernel_rfl) (fun _ _ _ h => h) (by kernel_rfl) (fun _ _ => by kernel_rfl) hH ?_
            try simp only [Act.put, sA, s0, s1]
            refine any_take (i := 9) (oi := { dst := some 115, op := Op.fieldAddr 69 (Operand.tmp 114) 3, type := 0, pos := "outright.go:201", after := #[{ on := 8, ground := Ground.data }], guard := none }) (v := .pointer (some ⟨p, 3, none⟩)) rfl (by kernel_rfl) (by kernel_rfl) (by kernel_rfl) (fun _ _ _ h => h) (by kernel_rfl) (fun _ _ => by kernel_rfl) hH ?_
            try simp only [Act.put, sA, s0, s1]
            refine any_take (i := 10) (oi := { dst := some 116, op := Op.load 27 (Operand.tmp 115), type := 27, pos := "outright.go:201", after := #[{ on := 9, ground := Ground.data }], guard := none }) (v := .agg st.dec.cells) rfl (by kernel_rfl) (by kernel_rfl) (by kernel_rfl) (fun _ _ _ h => h) (by kernel_rfl) (fun w' hw => exec_load 27 _ rfl ⟨p, 3, none⟩ (by kernel_rfl) (.agg st.dec.cells) (load_pD hw.1)) hH ?_
            try simp only [Act.put, sA, s0, s1]
            refine' meet2 (J := fun W a => Kept No w W ∧ PM w W p bI (some ⟨lg, 0, none⟩) lc st xs none ∧ Box W p 69 ((playC st.f bI st.is.length (some ⟨lg, 0, none⟩) xs.length lc st.dec).toArray) ∧ Box W a 29 ((lrnI i0 st.dec).cells) ∧ (w.heap.size ≤ p ∧ p < a) ∧ a < W.heap.size) (fun hh => ?region) (fun W a hJ => ?tail)
            case region =>
              refine any_pick (rs := [11, 15]) (by kernel_rfl) (by simp) ?_
              intro i hi
              rcases pick2 hi with rfl | rfl
              ·skip
               clear hi
               refine step_call (i := 11) (o := { dst := some 117, op := Op.call { callee := Callee.value (Operand.func 15), args := #[Operand.tmp 112, Operand.tmp 116], argTypes := #[29, 27] }, type := 56, pos := "outright.go:201", after := #[{ on := 6, ground := Ground.data }, { on := 10, ground := Ground.data }], guard := none }) rfl (by kernel_rfl) 15 #[.agg i0.cells, .agg st.dec.cells] (by kernel_rfl) _ (lrn_any i0 st.dec _) ?_
               rintro e wk6 ⟨rfl, hk⟩
               have HPl : Hid (Box wk6 (p) 69 ((playC st.f bI st.is.length (some ⟨lg, 0, none⟩) xs.length lc st.dec).toArray)) := HPl.out.kept hk (fun e => e)
               have HS : Hid (Box wk6 (S7) 71 (ac.cells)) := HS.out.kept hk (fun e => e)
               have HIn : Hid (Box wk6 (bI) 29 ((st.is.map In.cs).flatten.toArray)) := HIn.out.kept hk (fun e => e)
               have HK : Hid (Kept No w wk6) := HK.out.then hk
               have HPM : Hid (PM w (wk6) p bI (some ⟨lg, 0, none⟩) lc st xs none) := HPM.out.no hk
               have HLT : Hid (S7 < wk6.heap.size) := Nat.lt_of_lt_of_le HLT.out hk.size
               clear hk
               refine ⟨.tuple #[.agg ((lrnI i0 st.dec).cells), .bool (lrnB i0 st.dec)], rfl, ⟨HPl.out, HIn.out⟩, fun hH => ?_⟩
               try simp only [Act.put, sA, s0, s1]
               refine any_take (i := 12) (oi := { dst := some 105, op := Op.move (Operand.tmp 117), type := 56, pos := "outright.go:201", after := #[{ on := 11, ground := Ground.data }], guard := none }) (v := .tuple #[.agg ((lrnI i0 st.dec).cells), .bool (lrnB i0 st.dec)]) rfl (by kernel_rfl) (by kernel_rfl) (by kernel_rfl) (fun _ _ _ h => h) (by kernel_rfl) (fun _ _ => by kernel_rfl) hH ?_
               try simp only [Act.put, sA, s0, s1]
               refine any_take (i := 13) (oi := { dst := some 118, op := Op.extract (Operand.tmp 105) 0, type := 29, pos := "outright.go:201", after := #[{ on := 12, ground := Ground.data }], guard := none }) (v := .agg ((lrnI i0 st.dec).cells)) rfl (by kernel_rfl) (by kernel_rfl) (by kernel_rfl) (fun _ _ _ h => h) (by kernel_rfl) (fun _ _ => by kernel_rfl) hH ?_
               try simp only [Act.put, sA, s0, s1]
               refine any_take (i := 14) (oi := { dst := some 119, op := Op.extract (Operand.tmp 105) 1, type := 4, pos := "outright.go:201", after := #[{ on := 12, ground := Ground.data }, { on := 16, ground := Ground.gcOnly Departure.lateStores }], guard := none }) (v := .bool (lrnB i0 st.dec)) rfl (by kernel_rfl) (by kernel_rfl) (by kernel_rfl) (fun _ _ _ h => h) (by kernel_rfl) (fun _ _ => by kernel_rfl) hH ?_
               try simp only [Act.put, sA, s0, s1]
               have HPB : Hid (PB wk6.heap.size p bI (some ⟨lg, 0, none⟩) xs) := HPM.out.below
               refine any_step (i := 15) (o := { dst := some 10, op := Op.alloc 29, type := 0, pos := "outright.go:201", after := #[], guard := none }) rfl (by kernel_rfl) (by kernel_rfl) (exec_alloc 29 rfl _ zero29) ⟨HPl.out.alloc _, HIn.out.alloc _⟩ (fun hH => ?_)
               have HNw : Hid (Box (wk6.alloc (.cells (iZ.cells) 29)) wk6.heap.size 29 (iZ.cells)) := Box.new _ _ _
               have HPl : Hid (Box (wk6.alloc (.cells (iZ.cells) 29)) (p) 69 ((playC st.f bI st.is.length (some ⟨lg, 0, none⟩) xs.length lc st.dec).toArray)) := HPl.out.alloc _
               have HS : Hid (Box (wk6.alloc (.cells (iZ.cells) 29)) (S7) 71 (ac.cells)) := HS.out.alloc _
               have HIn : Hid (Box (wk6.alloc (.cells (iZ.cells) 29)) (bI) 29 ((st.is.map In.cs).flatten.toArray)) := HIn.out.alloc _
               have hsz := HK.out.size
               have HK : Hid (Kept No w (wk6.alloc (.cells (iZ.cells) 29))) := HK.out.alloc _
               have HPM : Hid (PM w (wk6.alloc (.cells (iZ.cells) 29)) p bI (some ⟨lg, 0, none⟩) lc st xs none) := HPM.out.no ((Kept.refl No _).alloc _)
               have HO : Hid (w.heap.size ≤ p ∧ bI < p ∧ p < S7 ∧ S7 < wk6.heap.size ∧ w.heap.size ≤ wk6.heap.size) := by
                 have h := HO.out
                 have l := HLT.out
                 show _ ∧ _
                 omega
               clear hsz
               have HLT : Hid (wk6.heap.size < (wk6.alloc (.cells (iZ.cells) 29)).heap.size) := by show _ < _; simp
               generalize wk6.alloc (.cells (iZ.cells) 29) = wk7 at HPl HS HIn HNw HK HLT hH HPM ⊢
               generalize wk6.heap.size = gk8 at HNw HO HLT HPB ⊢
               try simp only [Act.put, sA, s0, s1]
               refine any_store (i := 16) (o := { dst := none, op := Op.store 29 (Operand.tmp 10) (Operand.tmp 118), type := 0, pos := "outright.go:201", after := #[{ on := 15, ground := Ground.data }, { on := 13, ground := Ground.data }, { on := 11, ground := Ground.chain }, { on := 0, ground := Ground.phase }, { on := 1, ground := Ground.phase }, { on := 2, ground := Ground.phase }, { on := 3, ground := Ground.phase }, { on := 4, ground := Ground.phase }, { on := 5, ground := Ground.phase }, { on := 6, ground := Ground.phase }, { on := 7, ground := Ground.phase }, { on := 8, ground := Ground.phase }, { on := 9, ground := Ground.phase }, { on := 10, ground := Ground.phase }, { on := 11, ground := Ground.phase }, { on := 12, ground := Ground.phase }, { on := 13, ground := Ground.phase }, { on := 14, ground := Ground.textOnly Departure.lateStores }, { on := 15, ground := Ground.phase }], guard := none }) rfl (by kernel_rfl) (by kernel_rfl) 29 _ _ rfl ⟨gk8, 0, none⟩ (.agg ((lrnI i0 st.dec).cells)) (by kernel_rfl) (by kernel_rfl) (store_I HNw.out rfl) (⟨hH.1.rowNe (by have := HO.out; omega) _, hH.2.rowNe (by have := HO.out; omega) _⟩) (fun hH => ?_)
               have HLT : Hid (gk8 < (wk7.setRow gk8 ((lrnI i0 st.dec).cells)).heap.size) := by show _ < _; rw [setRow_size]; exact HLT.out
               have HPM : Hid (PM w (wk7.setRow gk8 ((lrnI i0 st.dec).cells)) p bI (some ⟨lg, 0, none⟩) lc st xs none) := HPM.out.far HPB.out (Kept.setRow _ _ _) (fun q e => by have e : q = gk8 := e; have := HO.out; omega)
               have HPl : Hid (Box (wk7.setRow gk8 ((lrnI i0 st.dec).cells)) (p) 69 ((playC st.f bI st.is.length (some ⟨lg, 0, none⟩) xs.length lc st.dec).toArray)) := HPl.out.rowNe (by have := HO.out; omega) _
               have HS : Hid (Box (wk7.setRow gk8 ((lrnI i0 st.dec).cells)) (S7) 71 (ac.cells)) := HS.out.rowNe (by have := HO.out; omega) _
               have HIn : Hid (Box (wk7.setRow gk8 ((lrnI i0 st.dec).cells)) (bI) 29 ((st.is.map In.cs).flatten.toArray)) := HIn.out.rowNe (by have := HO.out; omega) _
               have HNw : Hid (Box (wk7.setRow gk8 ((lrnI i0 st.dec).cells)) (gk8) 29 ((lrnI i0 st.dec).cells)) := HNw.out.setRow _
               have HK : Hid (Kept No w (wk7.setRow gk8 ((lrnI i0 st.dec).cells))) := HK.out.newRow (by have := HO.out; omega) _
               generalize wk7.setRow gk8 ((lrnI i0 st.dec).cells) = wk9 at HPl HS HIn HNw HK HLT hH HPM ⊢
               refine any_take (i := 17) (oi := { dst := some 11, op := Op.assign (Operand.tmp 119), type := 4, pos := "outright.go:201", after := #[{ on := 14, ground := Ground.data }, { on := 16, ground := Ground.chain }, { on := 0, ground := Ground.phase }, { on := 1, ground := Ground.phase }, { on := 2, ground := Ground.phase }, { on := 3, ground := Ground.phase }, { on := 4, ground := Ground.phase }, { on := 5, ground := Ground.phase }, { on := 6, ground := Ground.phase }, { on := 7, ground := Ground.phase }, { on := 8, ground := Ground.phase }, { on := 9, ground := Ground.phase }, { on := 10, ground := Ground.phase }, { on := 11, ground := Ground.phase }, { on := 12, ground := Ground.phase }, { on := 13, ground := Ground.phase }, { on := 14, ground := Ground.phase }, { on := 15, ground := Ground.phase }, { on := 16, ground := Ground.phase }], guard := none }) (v := .bool (lrnB i0 st.dec)) rfl (by kernel_rfl) (by kernel_rfl) (by kernel_rfl) (fun _ _ _ h => h) (by kernel_rfl) (fun _ _ => by kernel_rfl) hH ?_
               try simp only [Act.put, sA, s0, s1]
               refine wpAnyH_done (by kernel_rfl) ?_ _
               try simp only [Act.put, sA, s0, s1]
               exact hh _ gk8 ⟨HK.out, HPM.out, HPl.out, HNw.out, ⟨by have := HO.out; omega, by have := HO.out; omega⟩, HNw.out.lt⟩
              ·skip
               clear hi
               have HPB : Hid (PB wk5.heap.size p bI (some ⟨lg, 0, none⟩) xs) := HPM.out.below
               refine step_run (i := 15) (o := { dst := some 10, op := Op.alloc 29, type := 0, pos := "outright.go:201", after := #[], guard := none }) rfl (by kernel_rfl) (exec_alloc 29 rfl _ zero29) ⟨HPl.out.alloc _, HIn.out.alloc _⟩ (fun hH => ?_)
               have HNw : Hid (Box (wk5.alloc (.cells (iZ.cells) 29)) wk5.heap.size 29 (iZ.cells)) := Box.new _ _ _
               have HPl : Hid (Box (wk5.alloc (.cells (iZ.cells) 29)) (p) 69 ((playC st.f bI st.is.length (some ⟨lg, 0, none⟩) xs.length lc st.dec).toArray)) := HPl.out.alloc _
               have HS : Hid (Box (wk5.alloc (.cells (iZ.cells) 29)) (S7) 71 (ac.cells)) := HS.out.alloc _
               have HIn : Hid (Box (wk5.alloc (.cells (iZ.cells) 29)) (bI) 29 ((st.is.map In.cs).flatten.toArray)) := HIn.out.alloc _
               have hsz := HK.out.size
               have HK : Hid (Kept No w (wk5.alloc (.cells (iZ.cells) 29))) := HK.out.alloc _
               have HPM : Hid (PM w (wk5.alloc (.cells (iZ.cells) 29)) p bI (some ⟨lg, 0, none⟩) lc st xs none) := HPM.out.no ((Kept.refl No _).alloc _)
               have HO : Hid (w.heap.size ≤ p ∧ bI < p ∧ p < S7 ∧ S7 < wk5.heap.size ∧ w.heap.size ≤ wk5.heap.size) := by
                 have h := HO.out
                 have l := HLT.out
                 show _ ∧ _
                 omega
               clear hsz
               have HLT : Hid (wk5.heap.size < (wk5.alloc (.cells (iZ.cells) 29)).heap.size) := by show _ < _; simp
               generalize wk5.alloc (.cells (iZ.cells) 29) = wk10 at HPl HS HIn HNw HK HLT hH HPM ⊢
               generalize wk5.heap.size = gk11 at HNw HO HLT HPB ⊢
               try simp only [Act.put, sA, s0, s1]
               refine any_call (i := 11) (o := { dst := some 117, op := Op.call { callee := Callee.value (Operand.func 15), args := #[Operand.tmp 112, Operand.tmp 116], argTypes := #[29, 27] }, type := 56, pos := "outright.go:201", after := #[{ on := 6, ground := Ground.data }, { on := 10, ground := Ground.data }], guard := none }) rfl (by kernel_rfl) (by kernel_rfl) 15 #[.agg i0.cells, .agg st.dec.cells] (by kernel_rfl) _ (lrn_any i0 st.dec _) ?_
               rintro e wk12 ⟨rfl, hk⟩
               have HPl : Hid (Box wk12 (p) 69 ((playC st.f bI st.is.length (some ⟨lg, 0, none⟩) xs.length lc st.dec).toArray)) := HPl.out.kept hk (fun e => e)
               have HS : Hid (Box wk12 (S7) 71 (ac.cells)) := HS.out.kept hk (fun e => e)
               have HIn : Hid (Box wk12 (bI) 29 ((st.is.map In.cs).flatten.toArray)) := HIn.out.kept hk (fun e => e)
               have HNw : Hid (Box wk12 (gk11) 29 (iZ.cells)) := HNw.out.kept hk (fun e => e)
               have HK : Hid (Kept No w wk12) := HK.out.then hk
               have HPM : Hid (PM w (wk12) p bI (some ⟨lg, 0, none⟩) lc st xs none) := HPM.out.no hk
               have HLT : Hid (gk11 < wk12.heap.size) := Nat.lt_of_lt_of_le HLT.out hk.size
               clear hk
               refine ⟨.tuple #[.agg ((lrnI i0 st.dec).cells), .bool (lrnB i0 st.dec)], rfl, ⟨HPl.out, HIn.out⟩, fun hH => ?_⟩
               try simp only [Act.put, sA, s0, s1]
               refine any_take (i := 12) (oi := { dst := some 105, op := Op.move (Operand.tmp 117), type := 56, pos := "outright.go:201", after := #[{ on := 11, ground := Ground.data }], guard := none }) (v := .tuple #[.agg ((lrnI i0 st.dec).cells), .bool (lrnB i0 st.dec)]) rfl (by kernel_rfl) (by kernel_rfl) (by kernel_rfl) (fun _ _ _ h => h) (by kernel_rfl) (fun _ _ => by kernel_rfl) hH ?_
               try simp only [Act.put, sA, s0, s1]
               refine any_take (i := 13) (oi := { dst := some 118, op := Op.extract (Operand.tmp 105) 0, type := 29, pos := "outright.go:201", after := #[{ on := 12, ground := Ground.data }], guard := none }) (v := .agg ((lrnI i0 st.dec).cells)) rfl (by kernel_rfl) (by kernel_rfl) (by kernel_rfl) (fun _ _ _ h => h) (by kernel_rfl) (fun _ _ => by kernel_rfl) hH ?_
               try simp only [Act.put, sA, s0, s1]
               refine any_take (i := 14) (oi := { dst := some 119, op := Op.extract (Operand.tmp 105) 1, type := 4, pos := "outright.go:201", after := #[{ on := 12, ground := Ground.data }, { on := 16, ground := Ground.gcOnly Departure.lateStores }], guard := none }) (v := .bool (lrnB i0 st.dec)) rfl (by kernel_rfl) (by kernel_rfl) (by kernel_rfl) (fun _ _ _ h => h) (by kernel_rfl) (fun _ _ => by kernel_rfl) hH ?_
               try simp only [Act.put, sA, s0, s1]
               refine any_store (i := 16) (o := { dst := none, op := Op.store 29 (Operand.tmp 10) (Operand.tmp 118), type := 0, pos := "outright.go:201", after := #[{ on := 15, ground := Ground.data }, { on := 13, ground := Ground.data }, { on := 11, ground := Ground.chain }, { on := 0, ground := Ground.phase }, { on := 1, ground := Ground.phase }, { on := 2, ground := Ground.phase }, { on := 3, ground := Ground.phase }, { on := 4, ground := Ground.phase }, { on := 5, ground := Ground.phase }, { on := 6, ground := Ground.phase }, { on := 7, ground := Ground.phase }, { on := 8, ground := Ground.phase }, { on := 9, ground := Ground.phase }, { on := 10, ground := Ground.phase }, { on := 11, ground := Ground.phase }, { on := 12, ground := Ground.phase }, { on := 13, ground := Ground.phase }, { on := 14, ground := Ground.textOnly Departure.lateStores }, { on := 15, ground := Ground.phase }], guard := none }) rfl (by kernel_rfl) (by kernel_rfl) 29 _ _ rfl ⟨gk11, 0, none⟩ (.agg ((lrnI i0 st.dec).cells)) (by kernel_rfl) (by kernel_rfl) (store_I HNw.out rfl) (⟨hH.1.rowNe (by have := HO.out; omega) _, hH.2.rowNe (by have := HO.out; omega) _⟩) (fun hH => ?_)
               have HLT : Hid (gk11 < (wk12.setRow gk11 ((lrnI i0 st.dec).cells)).heap.size) := by show _ < _; rw [setRow_size]; exact HLT.out
               have HPM : Hid (PM w (wk12.setRow gk11 ((lrnI i0 st.dec).cells)) p bI (some ⟨lg, 0, none⟩) lc st xs none) := HPM.out.far HPB.out (Kept.setRow _ _ _) (fun q e => by have e : q = gk11 := e; have := HO.out; omega)
               have HPl : Hid (Box (wk12.setRow gk11 ((lrnI i0 st.dec).cells)) (p) 69 ((playC st.f bI st.is.length (some ⟨lg, 0, none⟩) xs.length lc st.dec).toArray)) := HPl.out.rowNe (by have := HO.out; omega) _
               have HS : Hid (Box (wk12.setRow gk11 ((lrnI i0 st.dec).cells)) (S7) 71 (ac.cells)) := HS.out.rowNe (by have := HO.out; omega) _
               have HIn : Hid (Box (wk12.setRow gk11 ((lrnI i0 st.dec).cells)) (bI) 29 ((st.is.map In.cs).flatten.toArray)) := HIn.out.rowNe (by have := HO.out; omega) _
               have HNw : Hid (Box (wk12.setRow gk11 ((lrnI i0 st.dec).cells)) (gk11) 29 ((lrnI i0 st.dec).cells)) := HNw.out.setRow _
               have HK : Hid (Kept No w (wk12.setRow gk11 ((lrnI i0 st.dec).cells))) := HK.out.newRow (by have := HO.out; omega) _
               generalize wk12.setRow gk11 ((lrnI i0 st.dec).cells) = wk13 at HPl HS HIn HNw HK HLT hH HPM ⊢
               refine any_take (i := 17) (oi := { dst := some 11, op := Op.assign (Operand.tmp 119), type := 4, pos := "outright.go:201", after := #[{ on := 14, ground := Ground.data }, { on := 16, ground := Ground.chain }, { on := 0, ground := Ground.phase }, { on := 1, ground := Ground.phase }, { on := 2, ground := Ground.phase }, { on := 3, ground := Ground.phase }, { on := 4, ground := Ground.phase }, { on := 5, ground := Ground.phase }, { on := 6, ground := Ground.phase }, { on := 7, ground := Ground.phase }, { on := 8, ground := Ground.phase }, { on := 9, ground := Ground.phase }, { on := 10, ground := Ground.phase }, { on := 11, ground := Ground.phase }, { on := 12, ground := Ground.phase }, { on := 13, ground := Ground.phase }, { on := 14, ground := Ground.phase }, { on := 15, ground := Ground.phase }, { on := 16, ground := Ground.phase }], guard := none }) (v := .bool (lrnB i0 st.dec)) rfl (by kernel_rfl) (by kernel_rfl) (by kernel_rfl) (fun _ _ _ h => h) (by kernel_rfl) (fun _ _ => by kernel_rfl) hH ?_
               try simp only [Act.put, sA, s0, s1]
               refine wpAnyH_done (by kernel_rfl) ?_ _
               try simp only [Act.put, sA, s0, s1]
               exact hh _ gk11 ⟨HK.out, HPM.out, HPl.out, HNw.out, ⟨by have := HO.out; omega, by have := HO.out; omega⟩, HNw.out.lt⟩
            case tail =>
              have HK : Hid (Kept No w W) := hJ.1
              have HPM : Hid (PM w W p bI (some ⟨lg, 0, none⟩) lc st xs none) := hJ.2.1
              have HPl : Hid (Box W (p) 69 ((playC st.f bI st.is.length (some ⟨lg, 0, none⟩) xs.length lc st.dec).toArray)) := hJ.2.2.1
              obtain ⟨Nw, hNw⟩ : ∃ Nw, Nw = a := ⟨_, rfl⟩
              have HNw : Hid (Box W (Nw) 29 ((lrnI i0 st.dec).cells)) := by rw [hNw]; exact hJ.2.2.2.1
              have HO : Hid (w.heap.size ≤ p ∧ bI < p ∧ p < Nw) := by rw [hNw]; exact ⟨hJ.2.2.2.2.1.1, HBP.out, hJ.2.2.2.2.1.2⟩
              have HLT : Hid (Nw < W.heap.size) := by rw [hNw]; exact hJ.2.2.2.2.2
              rw [← hNw]
              clear hJ hNw HIn
              go_upto_region 18 with fail
              refine wp_region_held_drew (S := fun w' => Box w' (p) 69 ((playC st.f bI st.is.length (some ⟨lg, 0, none⟩) xs.length lc st.dec).toArray) ∧ Box w' (Nw) 29 ((lrnI i0 st.dec).cells)) rfl ⟨HPl.out, HNw.out⟩ (fun hH => ?_)
              have HPl : Hid (Box W.drew (p) 69 ((playC st.f bI st.is.length (some ⟨lg, 0, none⟩) xs.length lc st.dec).toArray)) := HPl.out
              have HNw : Hid (Box W.drew (Nw) 29 ((lrnI i0 st.dec).cells)) := HNw.out
              have HK : Hid (Kept No w W.drew) := HK.out.drew
              have HPM : Hid (PM w (W.drew) p bI (some ⟨lg, 0, none⟩) lc st xs none) := HPM.out.no (Kept.refl No _).drew
              have HLT : Hid (Nw < W.drew.heap.size) := HLT.out
              generalize W.drew = wk14 at HPl HNw HK HLT hH HPM ⊢
              refine any_take (i := 0) (oi := { dst := some 120, op := Op.move (Operand.tmp 5), type := 65, pos := "outright.go:202", after := #[], guard := none }) (v := .pointer (some ⟨p, 0, none⟩)) rfl (by kernel_rfl) (by kernel_rfl) (by kernel_rfl) (fun _ _ _ h => h) (by kernel_rfl) (fun _ _ => by kernel_rfl) hH ?_
              try simp only [Act.put, sA, s0, s1]
              refine any_take (i := 1) (oi := { dst := some 121, op := Op.nilCheck (Operand.tmp 120), type := 0, pos := "outright.go:202", after := #[{ on := 0, ground := Ground.data }], guard := none }) (v := .pointer (some ⟨p, 0, none⟩)) rfl (by kernel_rfl) (by kernel_rfl) (by kernel_rfl) (fun _ _ _ h => h) (by kernel_rfl) (fun _ _ => by kernel_rfl) hH ?_
              try simp only [Act.put, sA, s0, s1]
              refine any_take (i := 2) (oi := { dst := some 122, op := Op.fieldAddr 69 (Operand.tmp 121) 1, type := 0, pos := "outright.go:202", after := #[{ on := 1, ground := Ground.data }], guard := none }) (v := .pointer (some ⟨p, 1, none⟩)) rfl (by kernel_rfl) (by kernel_rfl) (by kernel_rfl) (fun _ _ _ h => h) (by kernel_rfl) (fun _ _ => by kernel_rfl) hH ?_
              try simp only [Act.put, sA, s0, s1]
              refine any_take (i := 3) (oi := { dst := some 123, op := Op.load 66 (Operand.tmp 122), type := 66, pos := "outright.go:202", after := #[{ on := 2, ground := Ground.data }], guard := none }) (v := .slice (some ⟨bI, 0, none⟩) st.is.length st.is.length) rfl (by kernel_rfl) (by kernel_rfl) (by kernel_rfl) (fun _ _ _ h => h) (by kernel_rfl) (fun w' hw => exec_load 66 _ rfl ⟨p, 1, none⟩ (by kernel_rfl) (.slice (some ⟨bI, 0, none⟩) st.is.length st.is.length) (load_pI hw.1)) hH ?_
              try simp only [Act.put, sA, s0, s1]
              refine any_take (i := 4) (oi := { dst := some 124, op := Op.move (Operand.tmp 9), type := 3, pos := "outright.go:202", after := #[], guard := none }) (v := .int .i64 ss) rfl (by kernel_rfl) (by kernel_rfl) (by kernel_rfl) (fun _ _ _ h => h) (by kernel_rfl) (fun _ _ => by kernel_rfl) hH ?_
              try simp only [Act.put, sA, s0, s1]
              refine any_take (i := 5) (oi := { dst := some 125, op := Op.load 29 (Operand.tmp 10), type := 29, pos := "outright.go:202", after := #[], guard := none }) (v := .agg ((lrnI i0 st.dec).cells)) rfl (by kernel_rfl) (by kernel_rfl) (by kernel_rfl) (fun _ _ _ h => h) (by kernel_rfl) (fun w' hw => exec_load 29 _ rfl ⟨Nw, 0, none⟩ (by kernel_rfl) (.agg ((lrnI i0 st.dec).cells)) (load_I hw.2)) hH ?_
              try simp only [Act.put, sA, s0, s1]
              refine any_take (i := 6) (oi := { dst := some 126, op := Op.indexAddr 66 (Operand.tmp 123) (Operand.tmp 124), type := 0, pos := "outright.go:202", after := #[{ on := 3, ground := Ground.data }, { on := 4, ground := Ground.data }, { on := 0, ground := Ground.phase }, { on := 1, ground := Ground.phase }, { on := 2, ground := Ground.phase }, { on := 3, ground := Ground.phase }, { on := 4, ground := Ground.phase }, { on := 5, ground := Ground.phase }], guard := none }) (v := .pointer (some ⟨bI, 0 + ss * 14, none⟩)) rfl (by kernel_rfl) (by kernel_rfl) (by kernel_rfl) (fun _ _ _ h => h) (by kernel_rfl) (fun w' hw => exec_ixA 66 14 Try.und66e Try.size66e _ _ rfl bI 0 st.is.length st.is.length ss (by kernel_rfl) (by kernel_rfl) hss) hH ?_
              try simp only [Act.put, sA, s0, s1]
              obtain ⟨cs1, hr1, hm1⟩ := HPM.out.setI hss (lrnI i0 st.dec)
              have hpb : p ≠ bI := box_ne HPM.out.box HPM.out.ins (by decide)
              have hnb : Nw ≠ bI := by have h1 := HBP.out; have h2 := HO.out; omega
              refine any_store (i := 7) (o := { dst := none, op := Op.store 29 (Operand.tmp 126) (Operand.tmp 125), type := 0, pos := "outright.go:202", after := #[{ on := 6, ground := Ground.data }, { on := 5, ground := Ground.data }, { on := 0, ground := Ground.phase }, { on := 1, ground := Ground.phase }, { on := 2, ground := Ground.phase }, { on := 3, ground := Ground.phase }, { on := 4, ground := Ground.phase }, { on := 5, ground := Ground.phase }], guard := none }) rfl (by kernel_rfl) (by kernel_rfl) 29 _ _ rfl ⟨bI, 0 + ss * 14, none⟩ (.agg ((lrnI i0 st.dec).cells)) (by kernel_rfl) (by kernel_rfl) hr1 ⟨hH.1.rowNe hpb _, hH.2.rowNe hnb _⟩ (fun hH => ?_)
              have HNw : Hid (Box (wk14.setRow bI cs1) (Nw) 29 ((lrnI i0 st.dec).cells)) := HNw.out.rowNe hnb _
              have HPM0 : Hid (PM w (wk14.setRow bI cs1) p bI (some ⟨lg, 0, none⟩) lc ({ st with is := st.is.set ss (lrnI i0 st.dec) }) xs none) := hm1
              have HPl : Hid (Box (wk14.setRow bI cs1) (p) 69 ((playC st.f bI (st.is.set ss (lrnI i0 st.dec)).length (some ⟨lg, 0, none⟩) xs.length lc st.dec).toArray)) := hm1.box
              have HK : Hid (Kept No w (wk14.setRow bI cs1)) := HPM.out.keepNo (Kept.inRow (Kept.refl _ _) (.inr (.inl rfl)) _) HK.out
              have HLT : Hid (Nw < (wk14.setRow bI cs1).heap.size) := HNw.out.lt
              have HPM : Hid (PM w (wk14.setRow bI cs1) p bI (some ⟨lg, 0, none⟩) lc ({ st with is := st.is.set ss (lrnI i0 st.dec) }) xs none) := HPM0.out
              clear hr1 hm1 HPM0
              generalize wk14.setRow bI cs1 = wk15 at HNw HPM HPl HK HLT hH ⊢
              try simp only [Act.put, sA, s0, s1]
              refine wpAnyH_done (by kernel_rfl) ?_ _
              try simp only [Act.put, sA, s0, s1]
              go_upto_region 19 with fail
              refine wp_region_held_drew (S := fun w' => Box w' (p) 69 ((playC st.f bI (st.is.set ss (lrnI i0 st.dec)).length (some ⟨lg, 0, none⟩) xs.length lc st.dec).toArray) ∧ Box w' (Nw) 29 ((lrnI i0 st.dec).cells)) rfl ⟨HPl.out, HNw.out⟩ (fun hH => ?_)
              have HPl : Hid (Box wk15.drew (p) 69 ((playC st.f bI (st.is.set ss (lrnI i0 st.dec)).length (some ⟨lg, 0, none⟩) xs.length lc st.dec).toArray)) := HPl.out
              have HNw : Hid (Box wk15.drew (Nw) 29 ((lrnI i0 st.dec).cells)) := HNw.out
              have HK : Hid (Kept No w wk15.drew) := HK.out.drew
              have HPM : Hid (PM w (wk15.drew) p bI (some ⟨lg, 0, none⟩) lc ({ st with is := st.is.set ss (lrnI i0 st.dec) }) xs none) := HPM.out.no (Kept.refl No _).drew
              have HLT : Hid (Nw < wk15.drew.heap.size) := HLT.out
              generalize wk15.drew = wk16 at HPl HNw HK HLT hH HPM ⊢
              refine any_take (i := 0) (oi := { dst := some 127, op := Op.fieldAddr 29 (Operand.tmp 10) 3, type := 0, pos := "outright.go:203", after := #[], guard := none }) (v := .pointer (some ⟨Nw, 13, none⟩)) rfl (by kernel_rfl) (by kernel_rfl) (by kernel_rfl) (fun _ _ _ h => h) (by kernel_rfl) (fun _ _ => by kernel_rfl) hH ?_
              try simp only [Act.put, sA, s0, s1]
              refine any_take (i := 1) (oi := { dst := some 128, op := Op.load 4 (Operand.tmp 127), type := 4, pos := "outright.go:203", after := #[{ on := 0, ground := Ground.data }], guard := none }) (v := .bool true) rfl (by kernel_rfl) (by kernel_rfl) (by kernel_rfl) (fun _ _ _ h => h) (by kernel_rfl) (fun w' hw => exec_load 4 _ rfl ⟨Nw, 13, none⟩ (by kernel_rfl) (.bool true) (by rw [← lrn_spec (i := i0) (c := st.dec)]; exact load_B (In.cel hw.2).2.2.2.2)) hH ?_
              try simp only [Act.put, sA, s0, s1]
              refine any_take (i := 2) (oi := { dst := some 129, op := Op.unOp UnOp.not 4 (Operand.tmp 128), type := 4, pos := "outright.go:203", after := #[{ on := 1, ground := Ground.data }], guard := none }) (v := .bool false) rfl (by kernel_rfl) (by kernel_rfl) (by kernel_rfl) (fun _ _ _ h => h) (by kernel_rfl) (fun _ _ => by kernel_rfl) hH ?_
              try simp only [Act.put, sA, s0, s1]
              refine any_take (i := 3) (oi := { dst := some 130, op := Op.move (Operand.tmp 129), type := 4, pos := "outright.go:203", after := #[{ on := 2, ground := Ground.data }], guard := none }) (v := .bool false) rfl (by kernel_rfl) (by kernel_rfl) (by kernel_rfl) (fun _ _ _ h => h) (by kernel_rfl) (fun _ _ => by kernel_rfl) hH ?_
              try simp only [Act.put, sA, s0, s1]
              refine any_take (i := 4) (oi := { dst := some 131, op := Op.fieldAddr 29 (Operand.tmp 10) 2, type := 0, pos := "outright.go:203", after := #[{ on := 3, ground := Ground.guard }], guard := some (3, false) }) (v := .pointer (some ⟨Nw, 4, none⟩)) rfl (by kernel_rfl) (by kernel_rfl) (by kernel_rfl) (fun _ _ _ h => h) (by kernel_rfl) (fun _ _ => by kernel_rfl) hH ?_
              try simp only [Act.put, sA, s0, s1]
              refine any_take (i := 5) (oi := { dst := some 132, op := Op.load 27 (Operand.tmp 131), type := 27, pos := "outright.go:203", after := #[{ on := 4, ground := Ground.data }, { on := 3, ground := Ground.guard }], guard := some (3, false) }) (v := .agg (lrnI i0 st.dec).c.cells) rfl (by kernel_rfl) (by kernel_rfl) (by kernel_rfl) (fun _ _ _ h => h) (by kernel_rfl) (fun w' hw => exec_load 27 _ rfl ⟨Nw, 4, none⟩ (by kernel_rfl) (.agg (lrnI i0 st.dec).c.cells) (load_IC hw.2)) hH ?_
              try simp only [Act.put, sA, s0, s1]
              refine any_take (i := 6) (oi := { dst := some 133, op := Op.move (Operand.tmp 5), type := 65, pos := "outright.go:203", after := #[{ on := 3, ground := Ground.guard }], guard := some (3, false) }) (v := .pointer (some ⟨p, 0, none⟩)) rfl (by kernel_rfl) (by kernel_rfl) (by kernel_rfl) (fun _ _ _ h => h) (by kernel_rfl) (fun _ _ => by kernel_rfl) hH ?_
              try simp only [Act.put, sA, s0, s1]
              refine any_take (i := 7) (oi := { dst := some 134, op := Op.nilCheck (Operand.tmp 133), type := 0, pos := "outright.go:203", after := #[{ on := 6, ground := Ground.data }, { on := 3, ground := Ground.guard }], guard := some (3, false) }) (v := .pointer (some ⟨p, 0, none⟩)) rfl (by kernel_rfl) (by kernel_rfl) (by kernel_rfl) (fun _ _ _ h => h) (by kernel_rfl) (fun _ _ => by kernel_rfl) hH ?_
              try simp only [Act.put, sA, s0, s1]
              refine any_take (i := 8) (oi := { dst := some 135, op := Op.fieldAddr 69 (Operand.tmp 134) 3, type := 0, pos := "outright.go:203", after := #[{ on := 7, ground := Ground.data }, { on := 3, ground := Ground.guard }], guard := some (3, false) }) (v := .pointer (some ⟨p, 3, none⟩)) rfl (by kernel_rfl) (by kernel_rfl) (by kernel_rfl) (fun _ _ _ h => h) (by kernel_rfl) (fun _ _ => by kernel_rfl) hH ?_
              try simp only [Act.put, sA, s0, s1]
              refine any_take (i := 9) (oi := { dst := some 136, op := Op.load 27 (Operand.tmp 135), type := 27, pos := "outright.go:203", after := #[{ on := 8, ground := Ground.data }, { on := 3, ground := Ground.guard }], guard := some (3, false) }) (v := .agg st.dec.cells) rfl (by kernel_rfl) (by kernel_rfl) (by kernel_rfl) (fun _ _ _ h => h) (by kernel_rfl) (fun w' hw => exec_load 27 _ rfl ⟨p, 3, none⟩ (by kernel_rfl) (.agg st.dec.cells) (load_pD hw.1)) hH ?_
              try simp only [Act.put, sA, s0, s1]
              refine any_take (i := 10) (oi := { dst := some 137, op := Op.binOp BinOp.neq 27 (Operand.tmp 132) (Operand.tmp 136) 27, type := 4, pos := "outright.go:203", after := #[{ on := 5, ground := Ground.data }, { on := 9, ground := Ground.data }, { on := 3, ground := Ground.guard }], guard := some (3, false) }) (v := .bool false) rfl (by kernel_rfl) (by kernel_rfl) (by kernel_rfl) (fun _ _ _ h => h) (by kernel_rfl) (fun w' hw => exec_bin .neq 27 _ _ _ rfl (.agg (lrnI i0 st.dec).c.cells) (.agg st.dec.cells) (.bool false) (by kernel_rfl) (by kernel_rfl) (guard_C _ (.inr rfl) _ _ _ _ _) (by rw [neqC, HLC.out, eqC_refl]; rfl)) hH ?_
              try simp only [Act.put, sA, s0, s1]
              refine any_take (i := 11) (oi := { dst := some 138, op := Op.pick (Operand.tmp 130) (Operand.const (Value.bool true)) (Operand.tmp 137), type := 4, pos := "outright.go:203", after := #[{ on := 3, ground := Ground.data }, { on := 10, ground := Ground.data }], guard := none }) (v := .bool false) rfl (by kernel_rfl) (by kernel_rfl) (by kernel_rfl) (fun _ _ _ h => h) (by kernel_rfl) (fun _ _ => by kernel_rfl) hH ?_
              try simp only [Act.put, sA, s0, s1]
              refine wpAnyH_done (by kernel_rfl) ?_ _
              try simp only [Act.put, sA, s0, s1]
              have HF : Hid (PlI w p bI wk16) := ⟨_, _, _, xs, HPM.out, HIv1.out, by show st.f ≤ 3; omega, by omega, HK.out⟩
              go_wp2
              go_roundw
              case measure => simp [intOf]; omega
              case rel => exact ⟨n + 1, by go_num, by omega, HF⟩
           ·skip
            refine wp_takeW (.bool false) (exec_bin .neq 3 _ _ _ rfl (.int .i64 st.dec.k) (.int .i64 0) (.bool false) (by kernel_rfl) (by kernel_rfl) (by kernel_rfl) (by rw [neqN, q6]; try rfl)) (by kernel_rfl) ?_
            try simp only [Act.put, sA, s0, s1]
            refine wp_takeW (.bool false) (by kernel_rfl) (by kernel_rfl) ?_
            try simp only [Act.put, sA, s0, s1]
            refine WL.nil ?_
            try simp only [Act.put, sA, s0, s1]
            have HF : Hid (PlI w p bI wk4) := ⟨_, _, st, xs, HPM.out, HIv.out, by omega, by omega, HK.out⟩
            go_wp2
            go_roundw
            case measure => simp [intOf]; omega
            case rel => exact ⟨n + 1, by go_num, by omega, HF⟩
         ·skip
          refine wp_takeW (.bool true) (exec_bin .eql 3 _ _ _ rfl (.int .i64 ac.k) (.int .i64 3) (.bool true) (by kernel_rfl) (by kernel_rfl) (by kernel_rfl) (by rw [eqlN, q4]; try rfl)) (by kernel_rfl) ?_
          try simp only [Act.put, sA, s0, s1]
          refine wp_takeW (.bool true) (by kernel_rfl) (by kernel_rfl) ?_
          try simp only [Act.put, sA, s0, s1]
          refine wp_takeW (.pointer (some ⟨p, 0, none⟩)) (by kernel_rfl) (by kernel_rfl) ?_
          try simp only [Act.put, sA, s0, s1]
          refine wp_takeW (.int .i64 kk) (by kernel_rfl) (by kernel_rfl) ?_
          try simp only [Act.put, sA, s0, s1]
          refine wp_takeW (.int .i64 ss) (by kernel_rfl) (by kernel_rfl) ?_
          try simp only [Act.put, sA, s0, s1]
          refine wp_callW 24 #[.pointer (some ⟨p, 0, none⟩), .int .i64 kk, .int .i64 ss] (by kernel_rfl) _ (accept_any w p bI lg lc st xs kk ss x i0 _ HPM.out HIv.out HXK.out HSI.out (by omega)) (by kernel_rfl) ?_
          rintro e wk17 ⟨rfl, st17, xs17, hm, hi', hf', hl', hk'⟩
          have HS : Hid (Box wk17 (S7) 71 (ac.cells)) := HPM.out.keep71 hk' HS.out
          have HK : Hid (Kept No w wk17) := HPM.out.keepNo hk' HK.out
          have HLT : Hid (S7 < wk17.heap.size) := HS.out.lt
          have HPM : Hid (PM w wk17 p bI (some ⟨lg, 0, none⟩) lc st17 xs17 none) := hm
          have HPl : Hid (Box wk17 (p) 69 ((playC st17.f bI st17.is.length (some ⟨lg, 0, none⟩) xs17.length lc st17.dec).toArray)) := hm.box
          have HIv : Hid (Inv st17) := hi'
          have hf17 : st17.f ≤ 3 := by omega
          have hx17 : xs17.length ≤ 64 := by omega
          clear hm hi' hk' 
          refine ⟨.bool true, rfl, ?_⟩
          try simp only [Act.put, sA, s0, s1]
          refine wp_takeW (.bool false) (by kernel_rfl) (by kernel_rfl) ?_
          try simp only [Act.put, sA, s0, s1]
          refine wp_takeW (.bool false) (by kernel_rfl) (by kernel_rfl) ?_
          try simp only [Act.put, sA, s0, s1]
          refine wp_takeW (.bool false) (by kernel_rfl) (by kernel_rfl) ?_
          try simp only [Act.put, sA, s0, s1]
          refine WL.nil ?_
          try simp only [Act.put, sA, s0, s1]
          go_upto_region 16 with fail
          refine WL.start ?_
          refine wp_takeW (.pointer (some ⟨S7, 0, none⟩)) (by kernel_rfl) (by kernel_rfl) ?_
          try simp only [Act.put, sA, s0, s1]
          refine wp_takeW (.int .i64 ac.k) (exec_load 3 _ rfl ⟨S7, 0, none⟩ (by kernel_rfl) (.int .i64 ac.k) (load_N (HS.out.cell 0))) (by kernel_rfl) ?_
          try simp only [Act.put, sA, s0, s1]
          cases q7 : (ac.k == 4)
          ·skip
           refine wp_takeW (.bool false) (exec_bin .eql 3 _ _ _ rfl (.int .i64 ac.k) (.int .i64 4) (.bool false) (by kernel_rfl) (by kernel_rfl) (by kernel_rfl) (by rw [eqlN, q7]; try rfl)) (by kernel_rfl) ?_
           try simp only [Act.put, sA, s0, s1]
           refine wp_takeW (.bool false) (by kernel_rfl) (by kernel_rfl) ?_
           try simp only [Act.put, sA, s0, s1]
           refine wp_skip (by kernel_rfl) ?_
           try simp only [Act.put, sA, s0, s1]
           refine wp_skip (by kernel_rfl) ?_
           try simp only [Act.put, sA, s0, s1]
           refine wp_skip (by kernel_rfl) ?_
           try simp only [Act.put, sA, s0, s1]
           refine wp_skip (by kernel_rfl) ?_
           try simp only [Act.put, sA, s0, s1]
           refine wp_skip (by kernel_rfl) ?_
           try simp only [Act.put, sA, s0, s1]
           refine wp_skip (by kernel_rfl) ?_
           try simp only [Act.put, sA, s0, s1]
           refine wp_takeW (.bool false) (by kernel_rfl) (by kernel_rfl) ?_
           try simp only [Act.put, sA, s0, s1]
           refine WL.nil ?_
           try simp only [Act.put, sA, s0, s1]
           have HF : Hid (PlI w p bI wk17) := ⟨_, _, st17, xs17, HPM.out, HIv.out, by omega, by omega, HK.out⟩
           go_wp2
           go_roundw
           case measure => simp [intOf]; omega
           case rel => exact ⟨n + 1, by go_num, by omega, HF⟩
          · (exfalso; simp at q7 q4; omega)
        ·skip
         refine wp_takeW (.bool true) (exec_bin .eql 3 _ _ _ rfl (.int .i64 ac.k) (.int .i64 2) (.bool true) (by kernel_rfl) (by kernel_rfl) (by kernel_rfl) (by rw [eqlN, q3]; try rfl)) (by kernel_rfl) ?_
         try simp only [Act.put, sA, s0, s1]
         refine wp_takeW (.bool true) (by kernel_rfl) (by kernel_rfl) ?_
         try simp only [Act.put, sA, s0, s1]
         refine wp_takeW (.pointer (some ⟨p, 0, none⟩)) (by kernel_rfl) (by kernel_rfl) ?_
         try simp only [Act.put, sA, s0, s1]
         refine wp_takeW (.int .i64 kk) (by kernel_rfl) (by kernel_rfl) ?_
         try simp only [Act.put, sA, s0, s1]
         refine wp_takeW (.int .i64 ss) (by kernel_rfl) (by kernel_rfl) ?_
         try simp only [Act.put, sA, s0, s1]
         refine wp_takeW (.pointer (some ⟨S7, 5, none⟩)) (by kernel_rfl) (by kernel_rfl) ?_
         try simp only [Act.put, sA, s0, s1]
         refine wp_takeW (.bool ac.l) (exec_load 4 _ rfl ⟨S7, 5, none⟩ (by kernel_rfl) (.bool ac.l) (load_B (HS.out.cell 5))) (by kernel_rfl) ?_
         try simp only [Act.put, sA, s0, s1]
         refine wp_callW 23 #[.pointer (some ⟨p, 0, none⟩), .int .i64 kk, .int .i64 ss, .bool ac.l] (by kernel_rfl) _ (prepare_any w p bI lg lc st xs kk ss ac.l x i0 _ HPM.out HIv.out HXK.out HSI.out (by omega)) (by kernel_rfl) ?_
         rintro e wk18 ⟨rfl, st18, xs18, hm, hi', hf', hl', hk'⟩
         have HS : Hid (Box wk18 (S7) 71 (ac.cells)) := HPM.out.keep71 hk' HS.out
         have HK : Hid (Kept No w wk18) := HPM.out.keepNo hk' HK.out
         have HLT : Hid (S7 < wk18.heap.size) := HS.out.lt
         have HPM : Hid (PM w wk18 p bI (some ⟨lg, 0, none⟩) lc st18 xs18 none) := hm
         have HPl : Hid (Box wk18 (p) 69 ((playC st18.f bI st18.is.length (some ⟨lg, 0, none⟩) xs18.length lc st18.dec).toArray)) := hm.box
         have HIv : Hid (Inv st18) := hi'
         have hf18 : st18.f ≤ 3 := by omega
         have hx18 : xs18.length ≤ 64 := by omega
         clear hm hi' hk' 
         refine ⟨.bool true, rfl, ?_⟩
         try simp only [Act.put, sA, s0, s1]
         refine wp_takeW (.bool false) (by kernel_rfl) (by kernel_rfl) ?_
         try simp only [Act.put, sA, s0, s1]
         refine wp_takeW (.bool false) (by kernel_rfl) (by kernel_rfl) ?_
         try simp only [Act.put, sA, s0, s1]
         refine wp_takeW (.bool false) (by kernel_rfl) (by kernel_rfl) ?_
         try simp only [Act.put, sA, s0, s1]
         refine wp_takeW (.pointer (some ⟨S7, 0, none⟩)) (by kernel_rfl) (by kernel_rfl) ?_
         try simp only [Act.put, sA, s0, s1]
         refine wp_takeW (.int .i64 ac.k) (exec_load 3 _ rfl ⟨S7, 0, none⟩ (by kernel_rfl) (.int .i64 ac.k) (load_N (HS.out.cell 0))) (by kernel_rfl) ?_
         try simp only [Act.put, sA, s0, s1]
         cases q8 : (ac.k == 3)
         ·skip
          refine wp_takeW (.bool false) (exec_bin .eql 3 _ _ _ rfl (.int .i64 ac.k) (.int .i64 3) (.bool false) (by kernel_rfl) (by kernel_rfl) (by kernel_rfl) (by rw [eqlN, q8]; try rfl)) (by kernel_rfl) ?_
          try simp only [Act.put, sA, s0, s1]
          refine wp_takeW (.bool false) (by kernel_rfl) (by kernel_rfl) ?_
          try simp only [Act.put, sA, s0, s1]
          refine wp_skip (by kernel_rfl) ?_
          try simp only [Act.put, sA, s0, s1]
          refine wp_skip (by kernel_rfl) ?_
          try simp only [Act.put, sA, s0, s1]
          refine wp_skip (by kernel_rfl) ?_
          try simp only [Act.put, sA, s0, s1]
          refine wp_skip (by kernel_rfl) ?_
          try simp only [Act.put, sA, s0, s1]
          refine wp_skip (by kernel_rfl) ?_
          try simp only [Act.put, sA, s0, s1]
          refine wp_takeW (.bool false) (by kernel_rfl) (by kernel_rfl) ?_
          try simp only [Act.put, sA, s0, s1]
          refine wp_takeW (.bool false) (by kernel_rfl) (by kernel_rfl) ?_
          try simp only [Act.put, sA, s0, s1]
          refine WL.nil ?_
          try simp only [Act.put, sA, s0, s1]
          go_upto_region 16 with fail
          refine WL.start ?_
          refine wp_takeW (.pointer (some ⟨S7, 0, none⟩)) (by kernel_rfl) (by kernel_rfl) ?_
          try simp only [Act.put, sA, s0, s1]
          refine wp_takeW (.int .i64 ac.k) (exec_load 3 _ rfl ⟨S7, 0, none⟩ (by kernel_rfl) (.int .i64 ac.k) (load_N (HS.out.cell 0))) (by kernel_rfl) ?_
          try simp only [Act.put, sA, s0, s1]
          cases q9 : (ac.k == 4)
          ·skip
           refine wp_takeW (.bool false) (exec_bin .eql 3 _ _ _ rfl (.int .i64 ac.k) (.int .i64 4) (.bool false) (by kernel_rfl) (by kernel_rfl) (by kernel_rfl) (by rw [eqlN, q9]; try rfl)) (by kernel_rfl) ?_
           try simp only [Act.put, sA, s0, s1]
           refine wp_takeW (.bool false) (by kernel_rfl) (by kernel_rfl) ?_
           try simp only [Act.put, sA, s0, s1]
           refine wp_skip (by kernel_rfl) ?_
           try simp only [Act.put, sA, s0, s1]
           refine wp_skip (by kernel_rfl) ?_
           try simp only [Act.put, sA, s0, s1]
           refine wp_skip (by kernel_rfl) ?_
           try simp only [Act.put, sA, s0, s1]
           refine wp_skip (by kernel_rfl) ?_
           try simp only [Act.put, sA, s0, s1]
           refine wp_skip (by kernel_rfl) ?_
           try simp only [Act.put, sA, s0, s1]
           refine wp_skip (by kernel_rfl) ?_
           try simp only [Act.put, sA, s0, s1]
           refine wp_takeW (.bool false) (by kernel_rfl) (by kernel_rfl) ?_
           try simp only [Act.put, sA, s0, s1]
           refine WL.nil ?_
           try simp only [Act.put, sA, s0, s1]
           have HF : Hid (PlI w p bI wk18) := ⟨_, _, st18, xs18, HPM.out, HIv.out, by omega, by omega, HK.out⟩
           go_wp2
           go_roundw
           case measure => simp [intOf]; omega
           case rel => exact ⟨n + 1, by go_num, by omega, HF⟩
          · (exfalso; simp at q9 q3; omega)
         · (exfalso; simp at q8 q3; omega)
       ·skip
        refine wp_takeW (.bool true) (exec_bin .eql 3 _ _ _ rfl (.int .i64 (xs.length : Int)) (.int .i64 0) (.bool true) (by kernel_rfl) (by kernel_rfl) (by kernel_rfl) (by rw [eqlN, q2]; try rfl)) (by kernel_rfl) ?_
        try simp only [Act.put, sA, s0, s1]
        refine WL.nil ?_
        try simp only [Act.put, sA, s0, s1]
        have HF : Hid (PlI w p bI wk2) := ⟨_, _, st, xs, HPM.out, HIv.out, by omega, by omega, HK.out⟩
        go_wp2
        go_roundw
        case measure => simp [intOf]; omega
        case rel => exact ⟨n + 1, by go_num, by omega, HF⟩
      ·skip
       refine wp_takeW (.bool true) (exec_bin .eql 3 _ _ _ rfl (.int .i64 ac.k) (.int .i64 1) (.bool true) (by kernel_rfl) (by kernel_rfl) (by kernel_rfl) (by rw [eqlN, q1]; try rfl)) (by kernel_rfl) ?_
       try simp only [Act.put, sA, s0, s1]
       refine wp_takeW (.bool true) (by kernel_rfl) (by kernel_rfl) ?_
       try simp only [Act.put, sA, s0, s1]
       refine wp_takeW (.pointer (some ⟨p, 0, none⟩)) (by kernel_rfl) (by kernel_rfl) ?_
       try simp only [Act.put, sA, s0, s1]
       refine wp_takeW (.pointer (some ⟨p, 0, none⟩)) (by kernel_rfl) (by kernel_rfl) ?_
       try simp only [Act.put, sA, s0, s1]
       refine wp_takeW (.pointer (some ⟨p, 2, none⟩)) (by kernel_rfl) (by kernel_rfl) ?_
       try simp only [Act.put, sA, s0, s1]
       refine wp_takeW (.slice la xs.length lc) (exec_load 67 _ rfl ⟨p, 2, none⟩ (by kernel_rfl) (.slice la xs.length lc) (load_pL HPl.out)) (by kernel_rfl) ?_
       try simp only [Act.put, sA, s0, s1]
       refine wp_takeW (.int .i64 (xs.length : Int)) (by kernel_rfl) (by kernel_rfl) ?_
       try simp only [Act.put, sA, s0, s1]
       cases q10 : (decide ((xs.length : Int) < 64))
       ·skip
        refine wp_takeW (.bool false) (exec_bin .lss 3 _ _ _ rfl (.int .i64 (xs.length : Int)) (.int .i64 64) (.bool false) (by kernel_rfl) (by kernel_rfl) (by kernel_rfl) (by rw [lssN, q10]; try rfl)) (by kernel_rfl) ?_
        try simp only [Act.put, sA, s0, s1]
        refine wp_takeW (.bool false) (by kernel_rfl) (by kernel_rfl) ?_
        try simp only [Act.put, sA, s0, s1]
        refine WL.nil ?_
        try simp only [Act.put, sA, s0, s1]
        go_upto_region 11 with fail
        refine WL.start ?_
        refine wp_takeW (.pointer (some ⟨p, 0, none⟩)) (by kernel_rfl) (by kernel_rfl) ?_
        try simp only [Act.put, sA, s0, s1]
        refine wp_takeW (.pointer (some ⟨p, 0, none⟩)) (by kernel_rfl) (by kernel_rfl) ?_
        try simp only [Act.put, sA, s0, s1]
        refine wp_takeW (.pointer (some ⟨p, 2, none⟩)) (by kernel_rfl) (by kernel_rfl) ?_
        try simp only [Act.put, sA, s0, s1]
        refine wp_takeW (.slice la xs.length lc) (exec_load 67 _ rfl ⟨p, 2, none⟩ (by kernel_rfl) (.slice la xs.length lc) (load_pL HPl.out)) (by kernel_rfl) ?_
        try simp only [Act.put, sA, s0, s1]
        refine wp_takeW (.int .i64 (xs.length : Int)) (by kernel_rfl) (by kernel_rfl) ?_
        try simp only [Act.put, sA, s0, s1]
        cases q11 : ((xs.length : Int) == 0)
        ·skip
         refine wp_takeW (.bool false) (exec_bin .eql 3 _ _ _ rfl (.int .i64 (xs.length : Int)) (.int .i64 0) (.bool false) (by kernel_rfl) (by kernel_rfl) (by kernel_rfl) (by rw [eqlN, q11]; try rfl)) (by kernel_rfl) ?_
         try simp only [Act.put, sA, s0, s1]
         refine WL.nil ?_
         try simp only [Act.put, sA, s0, s1]
         have h0 : 0 < xs.length := by have h := q11; simp at h; exact List.length_pos_iff.2 h
         have hil : st.is.length = 2 * st.f + 1 := HIv.out.len
         obtain ⟨lg, hlg⟩ := HPM.out.la_some (List.getElem?_eq_getElem h0)
         subst hlg
         go_upto_region 12 with fail
         refine wp_region_held_drew (S := fun w' => Box w' (S7) 71 (ac.cells) ∧ Box w' (p) 69 ((playC st.f bI st.is.length (some ⟨lg, 0, none⟩) xs.length lc st.dec).toArray)) rfl ⟨HS.out, HPl.out⟩ (fun hH => ?_)
         have HPl : Hid (Box wk2.drew (p) 69 ((playC st.f bI st.is.length (some ⟨lg, 0, none⟩) xs.length lc st.dec).toArray)) := HPl.out
         have HS : Hid (Box wk2.drew (S7) 71 (ac.cells)) := HS.out
         have HK : Hid (Kept No w wk2.drew) := HK.out.drew
         have HPM : Hid (PM w (wk2.drew) p bI (some ⟨lg, 0, none⟩) lc st xs none) := HPM.out.no (Kept.refl No _).drew
         have HLT : Hid (S7 < wk2.drew.heap.size) := HLT.out
         generalize wk2.drew = wk19 at HPl HS HK HLT hH HPM ⊢
         refine any_take (i := 0) (oi := { dst := some 54, op := Op.fieldAddr 71 (Operand.tmp 7) 1, type := 0, pos := "outright.go:195", after := #[], guard := none }) (v := .pointer (some ⟨S7, 1, none⟩)) rfl (by kernel_rfl) (by kernel_rfl) (by kernel_rfl) (fun _ _ _ h => h) (by kernel_rfl) (fun _ _ => by kernel_rfl) hH ?_
         try simp only [Act.put, sA, s0, s1]
         refine any_take (i := 1) (oi := { dst := some 55, op := Op.load 3 (Operand.tmp 54), type := 3, pos := "outright.go:195", after := #[{ on := 0, ground := Ground.data }], guard := none }) (v := .int .i64 ac.p) rfl (by kernel_rfl) (by kernel_rfl) (by kernel_rfl) (fun _ _ _ h => h) (by kernel_rfl) (fun w' hw => exec_load 3 _ rfl ⟨S7, 1, none⟩ (by kernel_rfl) (.int .i64 ac.p) (load_N (hw.1.cell 1))) hH ?_
         try simp only [Act.put, sA, s0, s1]
         refine any_take (i := 2) (oi := { dst := some 56, op := Op.move (Operand.tmp 5), type := 65, pos := "outright.go:195", after := #[], guard := none }) (v := .pointer (some ⟨p, 0, none⟩)) rfl (by kernel_rfl) (by kernel_rfl) (by kernel_rfl) (fun _ _ _ h => h) (by kernel_rfl) (fun _ _ => by kernel_rfl) hH ?_
         try simp only [Act.put, sA, s0, s1]
         refine any_take (i := 3) (oi := { dst := some 57, op := Op.nilCheck (Operand.tmp 56), type := 0, pos := "outright.go:195", after := #[{ on := 2, ground := Ground.data }], guard := none }) (v := .pointer (some ⟨p, 0, none⟩)) rfl (by kernel_rfl) (by kernel_rfl) (by kernel_rfl) (fun _ _ _ h => h) (by kernel_rfl) (fun _ _ => by kernel_rfl) hH ?_
         try simp only [Act.put, sA, s0, s1]
         refine any_take (i := 4) (oi := { dst := some 58, op := Op.fieldAddr 69 (Operand.tmp 57) 2, type := 0, pos := "outright.go:195", after := #[{ on := 3, ground := Ground.data }], guard := none }) (v := .pointer (some ⟨p, 2, none⟩)) rfl (by kernel_rfl) (by kernel_rfl) (by kernel_rfl) (fun _ _ _ h => h) (by kernel_rfl) (fun _ _ => by kernel_rfl) hH ?_
         try simp only [Act.put, sA, s0, s1]
         refine any_take (i := 5) (oi := { dst := some 59, op := Op.load 67 (Operand.tmp 58), type := 67, pos := "outright.go:195", after := #[{ on := 4, ground := Ground.data }], guard := none }) (v := .slice (some ⟨lg, 0, none⟩) xs.length lc) rfl (by kernel_rfl) (by kernel_rfl) (by kernel_rfl) (fun _ _ _ h => h) (by kernel_rfl) (fun w' hw => exec_load 67 _ rfl ⟨p, 2, none⟩ (by kernel_rfl) (.slice (some ⟨lg, 0, none⟩) xs.length lc) (load_pL hw.2)) hH ?_
         try simp only [Act.put, sA, s0, s1]
         refine any_take (i := 6) (oi := { dst := some 60, op := Op.call { callee := Callee.builtin Builtin.len, args := #[Operand.tmp 59], argTypes := #[67] }, type := 3, pos := "outright.go:195", after := #[{ on := 5, ground := Ground.data }], guard := none }) (v := .int .i64 (xs.length : Int)) rfl (by kernel_rfl) (by kernel_rfl) (by kernel_rfl) (fun _ _ _ h => h) (by kernel_rfl) (fun _ _ => by kernel_rfl) hH ?_
         try simp only [Act.put, sA, s0, s1]
         refine any_call (i := 7) (o := { dst := some 61, op := Op.call { callee := Callee.value (Operand.func 21), args := #[Operand.tmp 55, Operand.tmp 60], argTypes := #[3, 3] }, type := 3, pos := "outright.go:195", after := #[{ on := 1, ground := Ground.data }, { on := 6, ground := Ground.data }], guard := none }) rfl (by kernel_rfl) (by kernel_rfl) 21 #[.int .i64 ac.p, .int .i64 (xs.length : Int)] (by kernel_rfl) _ (in_any ac.p (xs.length) _ h0 (by omega)) ?_
         rintro e wq ⟨kk, hkk, rfl, hwq⟩
         rw [hwq]
         clear hwq wq
         refine ⟨.int .i64 kk, rfl, hH, fun hH => ?_⟩
         try simp only [Act.put, sA, s0, s1]
         refine any_take (i := 8) (oi := { dst := some 8, op := Op.assign (Operand.tmp 61), type := 3, pos := "outright.go:195", after := #[{ on := 7, ground := Ground.data }, { on := 7, ground := Ground.chain }, { on := 0, ground := Ground.phase }, { on := 1, ground := Ground.phase }, { on := 2, ground := Ground.phase }, { on := 3, ground := Ground.phase }, { on := 4, ground := Ground.phase }, { on := 5, ground := Ground.phase }, { on := 6, ground := Ground.phase }, { on := 7, ground := Ground.phase }], guard := none }) (v := .int .i64 kk) rfl (by kernel_rfl) (by kernel_rfl) (by kernel_rfl) (fun _ _ _ h => h) (by kernel_rfl) (fun _ _ => by kernel_rfl) hH ?_
         try simp only [Act.put, sA, s0, s1]
         refine wpAnyH_done (by kernel_rfl) ?_ _
         try simp only [Act.put, sA, s0, s1]
         go_upto_region 13 with fail
         have hil0 : 0 < st.is.length := by omega
         refine wp_region_held_drew (S := fun w' => Box w' (S7) 71 (ac.cells) ∧ Box w' (p) 69 ((playC st.f bI st.is.length (some ⟨lg, 0, none⟩) xs.length lc st.dec).toArray)) rfl ⟨HS.out, HPl.out⟩ (fun hH => ?_)
         have HPl : Hid (Box wk19.drew (p) 69 ((playC st.f bI st.is.length (some ⟨lg, 0, none⟩) xs.length lc st.dec).toArray)) := HPl.out
         have HS : Hid (Box wk19.drew (S7) 71 (ac.cells)) := HS.out
         have HK : Hid (Kept No w wk19.drew) := HK.out.drew
         have HPM : Hid (PM w (wk19.drew) p bI (some ⟨lg, 0, none⟩) lc st xs none) := HPM.out.no (Kept.refl No _).drew
         have HLT : Hid (S7 < wk19.drew.heap.size) := HLT.out
         generalize wk19.drew = wk20 at HPl HS HK HLT hH HPM ⊢
         refine any_take (i := 0) (oi := { dst := some 62, op := Op.fieldAddr 71 (Operand.tmp 7) 2, type := 0, pos := "outright.go:196", after := #[], guard := none }) (v := .pointer (some ⟨S7, 2, none⟩)) rfl (by kernel_rfl) (by kernel_rfl) (by kernel_rfl) (fun _ _ _ h => h) (by kernel_rfl) (fun _ _ => by kernel_rfl) hH ?_
         try simp only [Act.put, sA, s0, s1]
         refine any_take (i := 1) (oi := { dst := some 63, op := Op.load 3 (Operand.tmp 62), type := 3, pos := "outright.go:196", after := #[{ on := 0, ground := Ground.data }], guard := none }) (v := .int .i64 ac.s) rfl (by kernel_rfl) (by kernel_rfl) (by kernel_rfl) (fun _ _ _ h => h) (by kernel_rfl) (fun w' hw => exec_load 3 _ rfl ⟨S7, 2, none⟩ (by kernel_rfl) (.int .i64 ac.s) (load_N (hw.1.cell 2))) hH ?_
         try simp only [Act.put, sA, s0, s1]
         refine any_take (i := 2) (oi := { dst := some 64, op := Op.move (Operand.tmp 5), type := 65, pos := "outright.go:196", after := #[], guard := none }) (v := .pointer (some ⟨p, 0, none⟩)) rfl (by kernel_rfl) (by kernel_rfl) (by kernel_rfl) (fun _ _ _ h => h) (by kernel_rfl) (fun _ _ => by kernel_rfl) hH ?_
         try simp only [Act.put, sA, s0, s1]
         refine any_take (i := 3) (oi := { dst := some 65, op := Op.nilCheck (Operand.tmp 64), type := 0, pos := "outright.go:196", after := #[{ on := 2, ground := Ground.data }], guard := none }) (v := .pointer (some ⟨p, 0, none⟩)) rfl (by kernel_rfl) (by kernel_rfl) (by kernel_rfl) (fun _ _ _ h => h) (by kernel_rfl) (fun _ _ => by kernel_rfl) hH ?_
         try simp only [Act.put, sA, s0, s1]
         refine any_take (i := 4) (oi := { dst := some 66, op := Op.fieldAddr 69 (Operand.tmp 65) 1, type := 0, pos := "outright.go:196", after := #[{ on := 3, ground := Ground.data }], guard := none }) (v := .pointer (some ⟨p, 1, none⟩)) rfl (by kernel_rfl) (by kernel_rfl) (by kernel_rfl) (fun _ _ _ h => h) (by kernel_rfl) (fun _ _ => by kernel_rfl) hH ?_
         try simp only [Act.put, sA, s0, s1]
         refine any_take (i := 5) (oi := { dst := some 67, op := Op.load 66 (Operand.tmp 66), type := 66, pos := "outright.go:196", after := #[{ on := 4, ground := Ground.data }], guard := none }) (v := .slice (some ⟨bI, 0, none⟩) st.is.length st.is.length) rfl (by kernel_rfl) (by kernel_rfl) (by kernel_rfl) (fun _ _ _ h => h) (by kernel_rfl) (fun w' hw => exec_load 66 _ rfl ⟨p, 1, none⟩ (by kernel_rfl) (.slice (some ⟨bI, 0, none⟩) st.is.length st.is.length) (load_pI hw.2)) hH ?_
         try simp only [Act.put, sA, s0, s1]
         refine any_take (i := 6) (oi := { dst := some 68, op := Op.call { callee := Callee.builtin Builtin.len, args := #[Operand.tmp 67], argTypes := #[66] }, type := 3, pos := "outright.go:196", after := #[{ on := 5, ground := Ground.data }], guard := none }) (v := .int .i64 (st.is.length : Int)) rfl (by kernel_rfl) (by kernel_rfl) (by kernel_rfl) (fun _ _ _ h => h) (by kernel_rfl) (fun _ _ => by kernel_rfl) hH ?_
         try simp only [Act.put, sA, s0, s1]
         refine any_call (i := 7) (o := { dst := some 69, op := Op.call { callee := Callee.value (Operand.func 21), args := #[Operand.tmp 63, Operand.tmp 68], argTypes := #[3, 3] }, type := 3, pos := "outright.go:196", after := #[{ on := 1, ground := Ground.data }, { on := 6, ground := Ground.data }], guard := none }) rfl (by kernel_rfl) (by kernel_rfl) 21 #[.int .i64 ac.s, .int .i64 (st.is.length : Int)] (by kernel_rfl) _ (in_any ac.s (st.is.length) _ hil0 (by omega)) ?_
         rintro e wq ⟨ss, hss, rfl, hwq⟩
         rw [hwq]
         clear hwq wq
         refine ⟨.int .i64 ss, rfl, hH, fun hH => ?_⟩
         try simp only [Act.put, sA, s0, s1]
         refine any_take (i := 8) (oi := { dst := some 9, op := Op.assign (Operand.tmp 69), type := 3, pos := "outright.go:196", after := #[{ on := 7, ground := Ground.data }, { on := 7, ground := Ground.chain }, { on := 0, ground := Ground.phase }, { on := 1, ground := Ground.phase }, { on := 2, ground := Ground.phase }, { on := 3, ground := Ground.phase }, { on := 4, ground := Ground.phase }, { on := 5, ground := Ground.phase }, { on := 6, ground := Ground.phase }, { on := 7, ground := Ground.phase }], guard := none }) (v := .int .i64 ss) rfl (by kernel_rfl) (by kernel_rfl) (by kernel_rfl) (fun _ _ _ h => h) (by kernel_rfl) (fun _ _ => by kernel_rfl) hH ?_
         try simp only [Act.put, sA, s0, s1]
         refine wpAnyH_done (by kernel_rfl) ?_ _
         try simp only [Act.put, sA, s0, s1]
         have HXK : Hid (xs[kk]? = some xs[kk]) := List.getElem?_eq_getElem hkk
         have HSI : Hid (st.is[ss]? = some st.is[ss]) := List.getElem?_eq_getElem hss
         generalize xs[kk] = x at HXK
         generalize st.is[ss] = i0 at HSI
         go_upto_region 14 with fail
         refine WL.start ?_
         refine wp_takeW (.pointer (some ⟨S7, 0, none⟩)) (by kernel_rfl) (by kernel_rfl) ?_
         try simp only [Act.put, sA, s0, s1]
         refine wp_takeW (.int .i64 ac.k) (exec_load 3 _ rfl ⟨S7, 0, none⟩ (by kernel_rfl) (.int .i64 ac.k) (load_N (HS.out.cell 0))) (by kernel_rfl) ?_
         try simp only [Act.put, sA, s0, s1]
         cases q12 : (ac.k == 2)
         ·skip
          refine wp_takeW (.bool false) (exec_bin .eql 3 _ _ _ rfl (.int .i64 ac.k) (.int .i64 2) (.bool false) (by kernel_rfl) (by kernel_rfl) (by kernel_rfl) (by rw [eqlN, q12]; try rfl)) (by kernel_rfl) ?_
          try simp only [Act.put, sA, s0, s1]
          refine wp_takeW (.bool false) (by kernel_rfl) (by kernel_rfl) ?_
          try simp only [Act.put, sA, s0, s1]
          refine wp_skip (by kernel_rfl) ?_
          try simp only [Act.put, sA, s0, s1]
          refine wp_skip (by kernel_rfl) ?_
          try simp only [Act.put, sA, s0, s1]
          refine wp_skip (by kernel_rfl) ?_
          try simp only [Act.put, sA, s0, s1]
          refine wp_skip (by kernel_rfl) ?_
          try simp only [Act.put, sA, s0, s1]
          refine wp_skip (by kernel_rfl) ?_
          try simp only [Act.put, sA, s0, s1]
          refine wp_skip (by kernel_rfl) ?_
          try simp only [Act.put, sA, s0, s1]
          refine wp_skip (by kernel_rfl) ?_
          try simp only [Act.put, sA, s0, s1]
          refine wp_takeW (.bool false) (by kernel_rfl) (by kernel_rfl) ?_
          try simp only [Act.put, sA, s0, s1]
          refine wp_takeW (.bool false) (by kernel_rfl) (by kernel_rfl) ?_
          try simp only [Act.put, sA, s0, s1]
          refine wp_takeW (.pointer (some ⟨S7, 0, none⟩)) (by kernel_rfl) (by kernel_rfl) ?_
          try simp only [Act.put, sA, s0, s1]
          refine wp_takeW (.int .i64 ac.k) (exec_load 3 _ rfl ⟨S7, 0, none⟩ (by kernel_rfl) (.int .i64 ac.k) (load_N (HS.out.cell 0))) (by kernel_rfl) ?_
          try simp only [Act.put, sA, s0, s1]
          cases q13 : (ac.k == 3)
          ·skip
           refine wp_takeW (.bool false) (exec_bin .eql 3 _ _ _ rfl (.int .i64 ac.k) (.int .i64 3) (.bool false) (by kernel_rfl) (by kernel_rfl) (by kernel_rfl) (by rw [eqlN, q13]; try rfl)) (by kernel_rfl) ?_
           try simp only [Act.put, sA, s0, s1]
           refine wp_takeW (.bool false) (by kernel_rfl) (by kernel_rfl) ?_
           try simp only [Act.put, sA, s0, s1]
           refine wp_skip (by kernel_rfl) ?_
           try simp only [Act.put, sA, s0, s1]
           refine wp_skip (by kernel_rfl) ?_
           try simp only [Act.put, sA, s0, s1]
           refine wp_skip (by kernel_rfl) ?_
           try simp only [Act.put, sA, s0, s1]
           refine wp_skip (by kernel_rfl) ?_
           try simp only [Act.put, sA, s0, s1]
           refine wp_skip (by kernel_rfl) ?_
           try simp only [Act.put, sA, s0, s1]
           refine wp_takeW (.bool false) (by kernel_rfl) (by kernel_rfl) ?_
           try simp only [Act.put, sA, s0, s1]
           refine wp_takeW (.bool false) (by kernel_rfl) (by kernel_rfl) ?_
           try simp only [Act.put, sA, s0, s1]
           refine WL.nil ?_
           try simp only [Act.put, sA, s0, s1]
           go_upto_region 16 with fail
           refine WL.start ?_
           refine wp_takeW (.pointer (some ⟨S7, 0, none⟩)) (by kernel_rfl) (by kernel_rfl) ?_
           try simp only [Act.put, sA, s0, s1]
           refine wp_takeW (.int .i64 ac.k) (exec_load 3 _ rfl ⟨S7, 0, none⟩ (by kernel_rfl) (.int .i64 ac.k) (load_N (HS.out.cell 0))) (by kernel_rfl) ?_
           try simp only [Act.put, sA, s0, s1]
           cases q14 : (ac.k == 4)
           ·skip
            refine wp_takeW (.bool false) (exec_bin .eql 3 _ _ _ rfl (.int .i64 ac.k) (.int .i64 4) (.bool false) (by kernel_rfl) (by kernel_rfl) (by kernel_rfl) (by rw [eqlN, q14]; try rfl)) (by kernel_rfl) ?_
            try simp only [Act.put, sA, s0, s1]
            refine wp_takeW (.bool false) (by kernel_rfl) (by kernel_rfl) ?_
            try simp only [Act.put, sA, s0, s1]
            refine wp_skip (by kernel_rfl) ?_
            try simp only [Act.put, sA, s0, s1]
            refine wp_skip (by kernel_rfl) ?_
            try simp only [Act.put, sA, s0, s1]
            refine wp_skip (by kernel_rfl) ?_
            try simp only [Act.put, sA, s0, s1]
            refine wp_skip (by kernel_rfl) ?_
            try simp only [Act.put, sA, s0, s1]
            refine wp_skip (by kernel_rfl) ?_
            try simp only [Act.put, sA, s0, s1]
            refine wp_skip (by kernel_rfl) ?_
            try simp only [Act.put, sA, s0, s1]
            refine wp_takeW (.bool false) (by kernel_rfl) (by kernel_rfl) ?_
            try simp only [Act.put, sA, s0, s1]
            refine WL.nil ?_
            try simp only [Act.put, sA, s0, s1]
            have HF : Hid (PlI w p bI wk20) := ⟨_, _, st, xs, HPM.out, HIv.out, by omega, by omega, HK.out⟩
            go_wp2
            go_roundw
            case measure => simp [intOf]; omega
            case rel => exact ⟨n + 1, by go_num, by omega, HF⟩
           · (exfalso; simp at q14 q1; omega)
          · (exfalso; simp at q13 q1; omega)
         · (exfalso; simp at q12 q1; omega)
        ·skip
         refine wp_takeW (.bool true) (exec_bin .eql 3 _ _ _ rfl (.int .i64 (xs.length : Int)) (.int .i64 0) (.bool true) (by kernel_rfl) (by kernel_rfl) (by kernel_rfl) (by rw [eqlN, q11]; try rfl)) (by kernel_rfl) ?_
         try simp only [Act.put, sA, s0, s1]
         refine WL.nil ?_
         try simp only [Act.put, sA, s0, s1]
         have HF : Hid (PlI w p bI wk2) := ⟨_, _, st, xs, HPM.out, HIv.out, by omega, by omega, HK.out⟩
         go_wp2
         go_roundw
         case measure => simp [intOf]; omega
         case rel => exact ⟨n + 1, by go_num, by omega, HF⟩
       ·skip
        refine wp_takeW (.bool true) (exec_bin .lss 3 _ _ _ rfl (.int .i64 (xs.length : Int)) (.int .i64 64) (.bool true) (by kernel_rfl) (by kernel_rfl) (by kernel_rfl) (by rw [lssN, q10]; try rfl)) (by kernel_rfl) ?_
        try simp only [Act.put, sA, s0, s1]
        refine wp_takeW (.bool true) (by kernel_rfl) (by kernel_rfl) ?_
        try simp only [Act.put, sA, s0, s1]
        refine WL.nil ?_
        try simp only [Act.put, sA, s0, s1]
        go_upto_region 10 with fail
        refine WL.start ?_
        refine wp_takeW (.pointer (some ⟨p, 0, none⟩)) (by kernel_rfl) (by kernel_rfl) ?_
        try simp only [Act.put, sA, s0, s1]
        refine wp_takeW (.pointer (some ⟨S7, 3, none⟩)) (by kernel_rfl) (by kernel_rfl) ?_
        try simp only [Act.put, sA, s0, s1]
        refine wp_takeW (.agg #[.int .i64 ac.b.n, .int .i64 ac.b.c]) (exec_load 23 _ rfl ⟨S7, 3, none⟩ (by kernel_rfl) (.agg #[.int .i64 ac.b.n, .int .i64 ac.b.c]) (load_S HS.out ac.partB)) (by kernel_rfl) ?_
        try simp only [Act.put, sA, s0, s1]
        have h64 : xs.length < 64 := by have h := q10; simp at h; omega
        refine wp_callW 22 #[.pointer (some ⟨p, 0, none⟩), .agg #[.int .i64 ac.b.n, .int .i64 ac.b.c]] (by kernel_rfl) _ (begin_any w p bI la lc st xs ac.b _ HPM.out HIv.out (by omega)) (by kernel_rfl) ?_
        rintro e wk21 ⟨⟨v21, rfl⟩, la21, lc21, st21, xs21, hm, hi', hf', hl', hk'⟩
        have HS : Hid (Box wk21 (S7) 71 (ac.cells)) := HPM.out.keep71 hk' HS.out
        have HK : Hid (Kept No w wk21) := HPM.out.keepNo hk' HK.out
        have HLT : Hid (S7 < wk21.heap.size) := HS.out.lt
        have HPM : Hid (PM w wk21 p bI la21 lc21 st21 xs21 none) := hm
        have HPl : Hid (Box wk21 (p) 69 ((playC st21.f bI st21.is.length la21 xs21.length lc21 st21.dec).toArray)) := hm.box
        have HIv : Hid (Inv st21) := hi'
        have hf21 : st21.f ≤ 3 := by omega
        have hx21 : xs21.length ≤ 64 := by omega
        clear hm hi' hk' 
        refine ⟨v21, rfl, ?_⟩
        try simp only [Act.put, sA, s0, s1]
        refine WL.nil ?_
        try simp only [Act.put, sA, s0, s1]
        go_upto_region 11 with fail
        refine WL.start ?_
        refine wp_takeW (.pointer (some ⟨p, 0, none⟩)) (by kernel_rfl) (by kernel_rfl) ?_
        try simp only [Act.put, sA, s0, s1]
        refine wp_takeW (.pointer (some ⟨p, 0, none⟩)) (by kernel_rfl) (by kernel_rfl) ?_
        try simp only [Act.put, sA, s0, s1]
        refine wp_takeW (.pointer (some ⟨p, 2, none⟩)) (by kernel_rfl) (by kernel_rfl) ?_
        try simp only [Act.put, sA, s0, s1]
        refine wp_takeW (.slice la21 xs21.length lc21) (exec_load 67 _ rfl ⟨p, 2, none⟩ (by kernel_rfl) (.slice la21 xs21.length lc21) (load_pL HPl.out)) (by kernel_rfl) ?_
        try simp only [Act.put, sA, s0, s1]
        refine wp_takeW (.int .i64 (xs21.length : Int)) (by kernel_rfl) (by kernel_rfl) ?_
        try simp only [Act.put, sA, s0, s1]
        cases q15 : ((xs21.length : Int) == 0)
        ·skip
         refine wp_takeW (.bool false) (exec_bin .eql 3 _ _ _ rfl (.int .i64 (xs21.length : Int)) (.int .i64 0) (.bool false) (by kernel_rfl) (by kernel_rfl) (by kernel_rfl) (by rw [eqlN, q15]; try rfl)) (by kernel_rfl) ?_
         try simp only [Act.put, sA, s0, s1]
         refine WL.nil ?_
         try simp only [Act.put, sA, s0, s1]
         have h0 : 0 < xs21.length := by have h := q15; simp at h; exact List.length_pos_iff.2 h
         have hil : st21.is.length = 2 * st21.f + 1 := HIv.out.len
         obtain ⟨lg, hlg⟩ := HPM.out.la_some (List.getElem?_eq_getElem h0)
         subst hlg
         go_upto_region 12 with fail
         refine wp_region_held_drew (S := fun w' => Box w' (S7) 71 (ac.cells) ∧ Box w' (p) 69 ((playC st21.f bI st21.is.length (some ⟨lg, 0, none⟩) xs21.length lc21 st21.dec).toArray)) rfl ⟨HS.out, HPl.out⟩ (fun hH => ?_)
         have HS : Hid (Box wk21.drew (S7) 71 (ac.cells)) := HS.out
         have HPl : Hid (Box wk21.drew (p) 69 ((playC st21.f bI st21.is.length (some ⟨lg, 0, none⟩) xs21.length lc21 st21.dec).toArray)) := HPl.out
         have HK : Hid (Kept No w wk21.drew) := HK.out.drew
         have HPM : Hid (PM w (wk21.drew) p bI (some ⟨lg, 0, none⟩) lc21 st21 xs21 none) := HPM.out.no (Kept.refl No _).drew
         have HLT : Hid (S7 < wk21.drew.heap.size) := HLT.out
         generalize wk21.drew = wk22 at HS HPl HK HLT hH HPM ⊢
         refine any_take (i := 0) (oi := { dst := some 54, op := Op.fieldAddr 71 (Operand.tmp 7) 1, type := 0, pos := "outright.go:195", after := #[], guard := none }) (v := .pointer (some ⟨S7, 1, none⟩)) rfl (by kernel_rfl) (by kernel_rfl) (by kernel_rfl) (fun _ _ _ h => h) (by kernel_rfl) (fun _ _ => by kernel_rfl) hH ?_
         try simp only [Act.put, sA, s0, s1]
         refine any_take (i := 1) (oi := { dst := some 55, op := Op.load 3 (Operand.tmp 54), type := 3, pos := "outright.go:195", after := #[{ on := 0, ground := Ground.data }], guard := none }) (v := .int .i64 ac.p) rfl (by kernel_rfl) (by kernel_rfl) (by kernel_rfl) (fun _ _ _ h => h) (by kernel_rfl) (fun w' hw => exec_load 3 _ rfl ⟨S7, 1, none⟩ (by kernel_rfl) (.int .i64 ac.p) (load_N (hw.1.cell 1))) hH ?_
         try simp only [Act.put, sA, s0, s1]
         refine any_take (i := 2) (oi := { dst := some 56, op := Op.move (Operand.tmp 5), type := 65, pos := "outright.go:195", after := #[], guard := none }) (v := .pointer (some ⟨p, 0, none⟩)) rfl (by kernel_rfl) (by kernel_rfl) (by kernel_rfl) (fun _ _ _ h => h) (by kernel_rfl) (fun _ _ => by kernel_rfl) hH ?_
         try simp only [Act.put, sA, s0, s1]
         refine any_take (i := 3) (oi := { dst := some 57, op := Op.nilCheck (Operand.tmp 56), type := 0, pos := "outright.go:195", after := #[{ on := 2, ground := Ground.data }], guard := none }) (v := .pointer (some ⟨p, 0, none⟩)) rfl (by kernel_rfl) (by kernel_rfl) (by kernel_rfl) (fun _ _ _ h => h) (by kernel_rfl) (fun _ _ => by kernel_rfl) hH ?_
         try simp only [Act.put, sA, s0, s1]
         refine any_take (i := 4) (oi := { dst := some 58, op := Op.fieldAddr 69 (Operand.tmp 57) 2, type := 0, pos := "outright.go:195", after := #[{ on := 3, ground := Ground.data }], guard := none }) (v := .pointer (some ⟨p, 2, none⟩)) rfl (by kernel_rfl) (by kernel_rfl) (by kernel_rfl) (fun _ _ _ h => h) (by kernel_rfl) (fun _ _ => by kernel_rfl) hH ?_
         try simp only [Act.put, sA, s0, s1]
         refine any_take (i := 5) (oi := { dst := some 59, op := Op.load 67 (Operand.tmp 58), type := 67, pos := "outright.go:195", after := #[{ on := 4, ground := Ground.data }], guard := none }) (v := .slice (some ⟨lg, 0, none⟩) xs21.length lc21) rfl (by kernel_rfl) (by kernel_rfl) (by kernel_rfl) (fun _ _ _ h => h) (by kernel_rfl) (fun w' hw => exec_load 67 _ rfl ⟨p, 2, none⟩ (by kernel_rfl) (.slice (some ⟨lg, 0, none⟩) xs21.length lc21) (load_pL hw.2)) hH ?_
         try simp only [Act.put, sA, s0, s1]
         refine any_take (i := 6) (oi := { dst := some 60, op := Op.call { callee := Callee.builtin Builtin.len, args := #[Operand.tmp 59], argTypes := #[67] }, type := 3, pos := "outright.go:195", after := #[{ on := 5, ground := Ground.data }], guard := none }) (v := .int .i64 (xs21.length : Int)) rfl (by kernel_rfl) (by kernel_rfl) (by kernel_rfl) (fun _ _ _ h => h) (by kernel_rfl) (fun _ _ => by kernel_rfl) hH ?_
         try simp only [Act.put, sA, s0, s1]
         refine any_call (i := 7) (o := { dst := some 61, op := Op.call { callee := Callee.value (Operand.func 21), args := #[Operand.tmp 55, Operand.tmp 60], argTypes := #[3, 3] }, type := 3, pos := "outright.go:195", after := #[{ on := 1, ground := Ground.data }, { on := 6, ground := Ground.data }], guard := none }) rfl (by kernel_rfl) (by kernel_rfl) 21 #[.int .i64 ac.p, .int .i64 (xs21.length : Int)] (by kernel_rfl) _ (in_any ac.p (xs21.length) _ h0 (by omega)) ?_
         rintro e wq ⟨kk, hkk, rfl, hwq⟩
         rw [hwq]
         clear hwq wq
         refine ⟨.int .i64 kk, rfl, hH, fun hH => ?_⟩
         try simp only [Act.put, sA, s0, s1]
         refine any_take (i := 8) (oi := { dst := some 8, op := Op.assign (Operand.tmp 61), type := 3, pos := "outright.go:195", after := #[{ on := 7, ground := Ground.data }, { on := 7, ground := Ground.chain }, { on := 0, ground := Ground.phase }, { on := 1, ground := Ground.phase }, { on := 2, ground := Ground.phase }, { on := 3, ground := Ground.phase }, { on := 4, ground := Ground.phase }, { on := 5, ground := Ground.phase }, { on := 6, ground := Ground.phase }, { on := 7, ground := Ground.phase }], guard := none }) (v := .int .i64 kk) rfl (by kernel_rfl) (by kernel_rfl) (by kernel_rfl) (fun _ _ _ h => h) (by kernel_rfl) (fun _ _ => by kernel_rfl) hH ?_
         try simp only [Act.put, sA, s0, s1]
         refine wpAnyH_done (by kernel_rfl) ?_ _
         try simp only [Act.put, sA, s0, s1]
         go_upto_region 13 with fail
         have hil0 : 0 < st21.is.length := by omega
         refine wp_region_held_drew (S := fun w' => Box w' (S7) 71 (ac.cells) ∧ Box w' (p) 69 ((playC st21.f bI st21.is.length (some ⟨lg, 0, none⟩) xs21.length lc21 st21.dec).toArray)) rfl ⟨HS.out, HPl.out⟩ (fun hH => ?_)
         have HS : Hid (Box wk22.drew (S7) 71 (ac.cells)) := HS.out
         have HPl : Hid (Box wk22.drew (p) 69 ((playC st21.f bI st21.is.length (some ⟨lg, 0, none⟩) xs21.length lc21 st21.dec).toArray)) := HPl.out
         have HK : Hid (Kept No w wk22.drew) := HK.out.drew
         have HPM : Hid (PM w (wk22.drew) p bI (some ⟨lg, 0, none⟩) lc21 st21 xs21 none) := HPM.out.no (Kept.refl No _).drew
         have HLT : Hid (S7 < wk22.drew.heap.size) := HLT.out
         generalize wk22.drew = wk23 at HS HPl HK HLT hH HPM ⊢
         refine any_take (i := 0) (oi := { dst := some 62, op := Op.fieldAddr 71 (Operand.tmp 7) 2, type := 0, pos := "outright.go:196", after := #[], guard := none }) (v := .pointer (some ⟨S7, 2, none⟩)) rfl (by kernel_rfl) (by kernel_rfl) (by kernel_rfl) (fun _ _ _ h => h) (by kernel_rfl) (fun _ _ => by kernel_rfl) hH ?_
         try simp only [Act.put, sA, s0, s1]
         refine any_take (i := 1) (oi := { dst := some 63, op := Op.load 3 (Operand.tmp 62), type := 3, pos := "outright.go:196", after := #[{ on := 0, ground := Ground.data }], guard := none }) (v := .int .i64 ac.s) rfl (by kernel_rfl) (by kernel_rfl) (by kernel_rfl) (fun _ _ _ h => h) (by kernel_rfl) (fun w' hw => exec_load 3 _ rfl ⟨S7, 2, none⟩ (by kernel_rfl) (.int .i64 ac.s) (load_N (hw.1.cell 2))) hH ?_
         try simp only [Act.put, sA, s0, s1]
         refine any_take (i := 2) (oi := { dst := some 64, op := Op.move (Operand.tmp 5), type := 65, pos := "outright.go:196", after := #[], guard := none }) (v := .pointer (some ⟨p, 0, none⟩)) rfl (by kernel_rfl) (by kernel_rfl) (by kernel_rfl) (fun _ _ _ h => h) (by kernel_rfl) (fun _ _ => by kernel_rfl) hH ?_
         try simp only [Act.put, sA, s0, s1]
         refine any_take (i := 3) (oi := { dst := some 65, op := Op.nilCheck (Operand.tmp 64), type := 0, pos := "outright.go:196", after := #[{ on := 2, ground := Ground.data }], guard := none }) (v := .pointer (some ⟨p, 0, none⟩)) rfl (by kernel_rfl) (by kernel_rfl) (by kernel_rfl) (fun _ _ _ h => h) (by kernel_rfl) (fun _ _ => by kernel_rfl) hH ?_
         try simp only [Act.put, sA, s0, s1]
         refine any_take (i := 4) (oi := { dst := some 66, op := Op.fieldAddr 69 (Operand.tmp 65) 1, type := 0, pos := "outright.go:196", after := #[{ on := 3, ground := Ground.data }], guard := none }) (v := .pointer (some ⟨p, 1, none⟩)) rfl (by kernel_rfl) (by kernel_rfl) (by kernel_rfl) (fun _ _ _ h => h) (by kernel_rfl) (fun _ _ => by kernel_rfl) hH ?_
         try simp only [Act.put, sA, s0, s1]
         refine any_take (i := 5) (oi := { dst := some 67, op := Op.load 66 (Operand.tmp 66), type := 66, pos := "outright.go:196", after := #[{ on := 4, ground := Ground.data }], guard := none }) (v := .slice (some ⟨bI, 0, none⟩) st21.is.length st21.is.length) rfl (by kernel_rfl) (by kernel_rfl) (by kernel_rfl) (fun _ _ _ h => h) (by kernel_rfl) (fun w' hw => exec_load 66 _ rfl ⟨p, 1, none⟩ (by kernel_rfl) (.slice (some ⟨bI, 0, none⟩) st21.is.length st21.is.length) (load_pI hw.2)) hH ?_
         try simp only [Act.put, sA, s0, s1]
         refine any_take (i := 6) (oi := { dst := some 68, op := Op.call { callee := Callee.builtin Builtin.len, args := #[Operand.tmp 67], argTypes := #[66] }, type := 3, pos := "outright.go:196", after := #[{ on := 5, ground := Ground.data }], guard := none }) (v := .int .i64 (st21.is.length : Int)) rfl (by kernel_rfl) (by kernel_rfl) (by kernel_rfl) (fun _ _ _ h => h) (by kernel_rfl) (fun _ _ => by kernel_rfl) hH ?_
         try simp only [Act.put, sA, s0, s1]
         refine any_call (i := 7) (o := { dst := some 69, op := Op.call { callee := Callee.value (Operand.func 21), args := #[Operand.tmp 63, Operand.tmp 68], argTypes := #[3, 3] }, type := 3, pos := "outright.go:196", after := #[{ on := 1, ground := Ground.data }, { on := 6, ground := Ground.data }], guard := none }) rfl (by kernel_rfl) (by kernel_rfl) 21 #[.int .i64 ac.s, .int .i64 (st21.is.length : Int)] (by kernel_rfl) _ (in_any ac.s (st21.is.length) _ hil0 (by omega)) ?_
         rintro e wq ⟨ss, hss, rfl, hwq⟩
         rw [hwq]
         clear hwq wq
         refine ⟨.int .i64 ss, rfl, hH, fun hH => ?_⟩
         try simp only [Act.put, sA, s0, s1]
         refine any_take (i := 8) (oi := { dst := some 9, op := Op.assign (Operand.tmp 69), type := 3, pos := "outright.go:196", after := #[{ on := 7, ground := Ground.data }, { on := 7, ground := Ground.chain }, { on := 0, ground := Ground.phase }, { on := 1, ground := Ground.phase }, { on := 2, ground := Ground.phase }, { on := 3, ground := Ground.phase }, { on := 4, ground := Ground.phase }, { on := 5, ground := Ground.phase }, { on := 6, ground := Ground.phase }, { on := 7, ground := Ground.phase }], guard := none }) (v := .int .i64 ss) rfl (by kernel_rfl) (by kernel_rfl) (by kernel_rfl) (fun _ _ _ h => h) (by kernel_rfl) (fun _ _ => by kernel_rfl) hH ?_
         try simp only [Act.put, sA, s0, s1]
         refine wpAnyH_done (by kernel_rfl) ?_ _
         try simp only [Act.put, sA, s0, s1]
         have HXK : Hid (xs21[kk]? = some xs21[kk]) := List.getElem?_eq_getElem hkk
         have HSI : Hid (st21.is[ss]? = some st21.is[ss]) := List.getElem?_eq_getElem hss
         generalize xs21[kk] = x at HXK
         generalize st21.is[ss] = i0 at HSI
         go_upto_region 14 with fail
         refine WL.start ?_
         refine wp_takeW (.pointer (some ⟨S7, 0, none⟩)) (by kernel_rfl) (by kernel_rfl) ?_
         try simp only [Act.put, sA, s0, s1]
         refine wp_takeW (.int .i64 ac.k) (exec_load 3 _ rfl ⟨S7, 0, none⟩ (by kernel_rfl) (.int .i64 ac.k) (load_N (HS.out.cell 0))) (by kernel_rfl) ?_
         try simp only [Act.put, sA, s0, s1]
         cases q16 : (ac.k == 2)
         ·skip
          refine wp_takeW (.bool false) (exec_bin .eql 3 _ _ _ rfl (.int .i64 ac.k) (.int .i64 2) (.bool false) (by kernel_rfl) (by kernel_rfl) (by kernel_rfl) (by rw [eqlN, q16]; try rfl)) (by kernel_rfl) ?_
          try simp only [Act.put, sA, s0, s1]
          refine wp_takeW (.bool false) (by kernel_rfl) (by kernel_rfl) ?_
          try simp only [Act.put, sA, s0, s1]
          refine wp_skip (by kernel_rfl) ?_
          try simp only [Act.put, sA, s0, s1]
          refine wp_skip (by kernel_rfl) ?_
          try simp only [Act.put, sA, s0, s1]
          refine wp_skip (by kernel_rfl) ?_
          try simp only [Act.put, sA, s0, s1]
          refine wp_skip (by kernel_rfl) ?_
          try simp only [Act.put, sA, s0, s1]
          refine wp_skip (by kernel_rfl) ?_
          try simp only [Act.put, sA, s0, s1]
          refine wp_skip (by kernel_rfl) ?_
          try simp only [Act.put, sA, s0, s1]
          refine wp_skip (by kernel_rfl) ?_
          try simp only [Act.put, sA, s0, s1]
          refine wp_takeW (.bool false) (by kernel_rfl) (by kernel_rfl) ?_
          try simp only [Act.put, sA, s0, s1]
          refine wp_takeW (.bool false) (by kernel_rfl) (by kernel_rfl) ?_
          try simp only [Act.put, sA, s0, s1]
          refine wp_takeW (.pointer (some ⟨S7, 0, none⟩)) (by kernel_rfl) (by kernel_rfl) ?_
          try simp only [Act.put, sA, s0, s1]
          refine wp_takeW (.int .i64 ac.k) (exec_load 3 _ rfl ⟨S7, 0, none⟩ (by kernel_rfl) (.int .i64 ac.k) (load_N (HS.out.cell 0))) (by kernel_rfl) ?_
          try simp only [Act.put, sA, s0, s1]
          cases q17 : (ac.k == 3)
          ·skip
           refine wp_takeW (.bool false) (exec_bin .eql 3 _ _ _ rfl (.int .i64 ac.k) (.int .i64 3) (.bool false) (by kernel_rfl) (by kernel_rfl) (by kernel_rfl) (by rw [eqlN, q17]; try rfl)) (by kernel_rfl) ?_
           try simp only [Act.put, sA, s0, s1]
           refine wp_takeW (.bool false) (by kernel_rfl) (by kernel_rfl) ?_
           try simp only [Act.put, sA, s0, s1]
           refine wp_skip (by kernel_rfl) ?_
           try simp only [Act.put, sA, s0, s1]
           refine wp_skip (by kernel_rfl) ?_
           try simp only [Act.put, sA, s0, s1]
           refine wp_skip (by kernel_rfl) ?_
           try simp only [Act.put, sA, s0, s1]
           refine wp_skip (by kernel_rfl) ?_
           try simp only [Act.put, sA, s0, s1]
           refine wp_skip (by kernel_rfl) ?_
           try simp only [Act.put, sA, s0, s1]
           refine wp_takeW (.bool false) (by kernel_rfl) (by kernel_rfl) ?_
           try simp only [Act.put, sA, s0, s1]
           refine wp_takeW (.bool false) (by kernel_rfl) (by kernel_rfl) ?_
           try simp only [Act.put, sA, s0, s1]
           refine WL.nil ?_
           try simp only [Act.put, sA, s0, s1]
           go_upto_region 16 with fail
           refine WL.start ?_
           refine wp_takeW (.pointer (some ⟨S7, 0, none⟩)) (by kernel_rfl) (by kernel_rfl) ?_
           try simp only [Act.put, sA, s0, s1]
           refine wp_takeW (.int .i64 ac.k) (exec_load 3 _ rfl ⟨S7, 0, none⟩ (by kernel_rfl) (.int .i64 ac.k) (load_N (HS.out.cell 0))) (by kernel_rfl) ?_
           try simp only [Act.put, sA, s0, s1]
           cases q18 : (ac.k == 4)
           ·skip
            refine wp_takeW (.bool false) (exec_bin .eql 3 _ _ _ rfl (.int .i64 ac.k) (.int .i64 4) (.bool false) (by kernel_rfl) (by kernel_rfl) (by kernel_rfl) (by rw [eqlN, q18]; try rfl)) (by kernel_rfl) ?_
            try simp only [Act.put, sA, s0, s1]
            refine wp_takeW (.bool false) (by kernel_rfl) (by kernel_rfl) ?_
            try simp only [Act.put, sA, s0, s1]
            refine wp_skip (by kernel_rfl) ?_
            try simp only [Act.put, sA, s0, s1]
            refine wp_skip (by kernel_rfl) ?_
            try simp only [Act.put, sA, s0, s1]
            refine wp_skip (by kernel_rfl) ?_
            try simp only [Act.put, sA, s0, s1]
            refine wp_skip (by kernel_rfl) ?_
            try simp only [Act.put, sA, s0, s1]
            refine wp_skip (by kernel_rfl) ?_
            try simp only [Act.put, sA, s0, s1]
            refine wp_skip (by kernel_rfl) ?_
            try simp only [Act.put, sA, s0, s1]
            refine wp_takeW (.bool false) (by kernel_rfl) (by kernel_rfl) ?_
            try simp only [Act.put, sA, s0, s1]
            refine WL.nil ?_
            try simp only [Act.put, sA, s0, s1]
            have HF : Hid (PlI w p bI wk23) := ⟨_, _, st21, xs21, HPM.out, HIv.out, by omega, by omega, HK.out⟩
            go_wp2
            go_roundw
            case measure => simp [intOf]; omega
            case rel => exact ⟨n + 1, by go_num, by omega, HF⟩
           · (exfalso; simp at q18 q1; omega)
          · (exfalso; simp at q17 q1; omega)
         · (exfalso; simp at q16 q1; omega)
        ·skip
         refine wp_takeW (.bool true) (exec_bin .eql 3 _ _ _ rfl (.int .i64 (xs21.length : Int)) (.int .i64 0) (.bool true) (by kernel_rfl) (by kernel_rfl) (by kernel_rfl) (by rw [eqlN, q15]; try rfl)) (by kernel_rfl) ?_
         try simp only [Act.put, sA, s0, s1]
         refine WL.nil ?_
         try simp only [Act.put, sA, s0, s1]
         have HF : Hid (PlI w p bI wk21) := ⟨_, _, st21, xs21, HPM.out, HIv.out, by omega, by omega, HK.out⟩
         go_wp2
         go_roundw
         case measure => simp [intOf]; omega
         case rel => exact ⟨n + 1, by go_num, by omega, HF⟩
    · have hlt' : ¬ (n : Int) < (sn : Int) := by omega
      obtain ⟨-, -, -, -, -, -, -, -, hK⟩ := HAt.out
      have HK : Hid (Kept No w wr) := hK
      go_wp2
      go_ret
      exact ⟨rfl, HK.out⟩

end Go.Proofs.Ytapjnanenfcdjaa
