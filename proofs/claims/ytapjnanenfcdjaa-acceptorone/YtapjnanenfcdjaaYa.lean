import Derived.Test.YtapjnanenfcdjaaY
namespace Go.Proofs.Ytapjnanenfcdjaa
open Go.RowKit
set_option linter.unusedVariables false
set_option linter.unusedSimpArgs false

theorem exec_slice2 {o : Oper} {a : Act} {w : World} (t e : TypeId) (parts : Array (Nat × Operand)) (ho : o.op = .buildSlice t 1 parts) (cells : Array Value) (v : Value) (hp : (parts.map fun (i, x) => (i, a.eval x)) = #[(0, v)])
    (hrun : (Instr.buildSlice t 1 #[(0, v)]).run Try.prog w = .ok (.slice (some ⟨w.heap.size, 0, none⟩) 1 1) (w.alloc (.cells cells e))) : (execOp a.eval o).run Try.prog w = .ok (.value (.slice (some ⟨w.heap.size, 0, none⟩) 1 1)) (w.alloc (.cells cells e)) :=
  exec_slice1 t e parts ho cells (by rw [hp]; exact hrun)
theorem wp_appW {ops : Array Oper} {rest : List Oper} {o : Oper} {a : Act} {w : World} {Q : Exit → Act → World → Prop} {s x : Operand} {vs vx : Value} {base n c : Nat} {E : TypeId} {sa : Option Addr} {l : List Value}
    (happ : ∀ A : Act, A.eval s = vs → A.eval x = vx → ∃ g' cap' w', (execOp A.eval o).run Try.prog w = .ok (.value (.slice (some ⟨g', 0, none⟩) (n + 1) cap')) w' ∧ Own E c w' base (some ⟨g', 0, none⟩) cap' (n + 1) l ∧ Kept (At sa) w w' ∧ (At sa g' ∨ g' = w.heap.size))
    (h1 : a.eval s = vs) (h2 : a.eval x = vx) (hw : Region.wanted o (yielded ops a.tmps) = true)
    (h : ∀ g' cap' w', Own E c w' base (some ⟨g', 0, none⟩) cap' (n + 1) l → Kept (At sa) w w' → (At sa g' ∨ g' = w.heap.size) → WL ops Q rest (a.put o.dst (.slice (some ⟨g', 0, none⟩) (n + 1) cap')) w') : WL ops Q (o :: rest) a w := by
  obtain ⟨g', cap', w', hrun, ho, hk, hg⟩ := happ a h1 h2
  exact wp_runW _ w' hrun hw (h g' cap' w' ho hk hg)
set_option maxRecDepth 100000 in
set_option maxHeartbeats 16000000 in
theorem prepare_any (w0 : World) (p bI lg lc : Nat) (st : PS) (xs : List Px) (k s : Nat) (lost : Bool) (x : Px) (i0 : In) (w : World) (hM : PM w0 w p bI (some ⟨lg, 0, none⟩) lc st xs none) (hI : Inv st) (hx : xs[k]? = some x) (hi : st.is[s]? = some i0) (hf : st.f ≤ 3) :
    Calls Try.prog 23 #[.pointer (some ⟨p, 0, none⟩), .int .i64 k, .int .i64 s, .bool lost] w (PlayOut w0 w p bI (some ⟨lg, 0, none⟩) lc st xs) := by
  obtain ⟨wv, hwv⟩ : ∃ wv, wv = w := ⟨_, rfl⟩
  have HPM : Hid (PM w0 wv p bI (some ⟨lg, 0, none⟩) lc (st) (xs) (none)) := by rw [hwv]; exact hM
  have HPB : Hid (PB w.heap.size p bI (some ⟨lg, 0, none⟩) xs) := hM.below
  have HPl : Hid (Box wv (p) 69 ((playC st.f bI st.is.length (some ⟨lg, 0, none⟩) xs.length lc st.dec).toArray)) := by rw [hwv]; exact hM.box
  have HIn : Hid (Box wv (bI) 29 ((st.is.map In.cs).flatten.toArray)) := by rw [hwv]; exact hM.ins
  have HK : Hid (Kept (PSet p bI (some ⟨lg, 0, none⟩) xs) w wv) := by rw [hwv]; exact Kept.refl _ _
  have hlg : lg < w.heap.size := hM.below.l lg ⟨_, rfl, rfl⟩
  have HO : Hid (p < w.heap.size ∧ bI < w.heap.size ∧ lg < w.heap.size ∧ p ≠ bI ∧ p ≠ lg ∧ bI ≠ lg) := by
    have h1 := hM.box.lt
    have h2 := hM.ins.lt
    have h3 := box_ne hM.box hM.ins (by decide)
    have h4 : lg ≠ p := own_box hM.row hM.box (by decide) ⟨_, rfl, rfl⟩
    have h5 : lg ≠ bI := own_box hM.row hM.ins (by decide) ⟨_, rfl, rfl⟩
    show _ ∧ _
    omega
  have HLT : Hid (p < wv.heap.size) := by rw [hwv]; exact hM.box.lt
  have HIv : Hid (Inv st) := hI
  have HXK : Hid (xs[k]? = some x) := hx
  have HSI : Hid (st.is[s]? = some i0) := hi
  have hkl : k < xs.length := (List.getElem?_eq_some_iff.1 hx).1
  have hsl : s < st.is.length := (List.getElem?_eq_some_iff.1 hi).1
  have HXV : Hid (st.ls[k]? = some x.v) := by show _ = _; rw [← hM.vals, List.getElem?_map, hx]; rfl
  clear hM hI hx hi hlg
  go_enter Try.func23, Try.ntmps23
  go_upto_region 1 with fail
  rw [← hwv]
  clear hwv
  refine WL.start ?_
  refine wp_takeW (.pointer (some ⟨p, 0, none⟩)) (by kernel_rfl) (by kernel_rfl) ?_
  try simp only [Act.put, sA, s0, s1]
  refine wp_takeW (.pointer (some ⟨p, 0, none⟩)) (by kernel_rfl) (by kernel_rfl) ?_
  try simp only [Act.put, sA, s0, s1]
  refine wp_takeW (.pointer (some ⟨p, 2, none⟩)) (by kernel_rfl) (by kernel_rfl) ?_
  try simp only [Act.put, sA, s0, s1]
  refine wp_takeW (.slice (some ⟨lg, 0, none⟩) xs.length lc) (exec_load 67 _ rfl ⟨p, 2, none⟩ (by kernel_rfl) (.slice (some ⟨lg, 0, none⟩) xs.length lc) (load_pL HPl.out)) (by kernel_rfl) ?_
  try simp only [Act.put, sA, s0, s1]
  refine wp_takeW (.int .i64 k) (by kernel_rfl) (by kernel_rfl) ?_
  try simp only [Act.put, sA, s0, s1]
  refine wp_takeW (.pointer (some ⟨lg, 0 + k * 16, none⟩)) (exec_ixA 67 16 Try.und67e Try.size67e _ _ rfl lg 0 xs.length lc k (by kernel_rfl) (by kernel_rfl) hkl) (by kernel_rfl) ?_
  try simp only [Act.put, sA, s0, s1]
  refine wp_takeW (.agg x.cells) (exec_load 87 _ rfl ⟨lg, 0 + k * 16, none⟩ (by kernel_rfl) (.agg x.cells) (HPM.out.loadL HXK.out)) (by kernel_rfl) ?_
  try simp only [Act.put, sA, s0, s1]
  refine wp_allocW 87 rfl (prZ.cells) zero87 wv.heap.size rfl (by kernel_rfl) ?_
  try simp only [Act.put, sA, s0, s1]
  have HX : Hid (Box (wv.alloc (.cells (prZ.cells) 87)) wv.heap.size 87 (prZ.cells)) := Box.new _ _ _
  have HPl : Hid (Box (wv.alloc (.cells (prZ.cells) 87)) (p) 69 ((playC st.f bI st.is.length (some ⟨lg, 0, none⟩) xs.length lc st.dec).toArray)) := HPl.out.alloc _
  have HIn : Hid (Box (wv.alloc (.cells (prZ.cells) 87)) (bI) 29 ((st.is.map In.cs).flatten.toArray)) := HIn.out.alloc _
  have hsz := HK.out.size
  have HK : Hid (Kept (PSet p bI (some ⟨lg, 0, none⟩) xs) w (wv.alloc (.cells (prZ.cells) 87))) := HK.out.alloc _
  have HPM : Hid (PM w0 (wv.alloc (.cells (prZ.cells) 87)) p bI (some ⟨lg, 0, none⟩) lc (st) (xs) (none)) := HPM.out.no ((Kept.refl No _).alloc _)
  have HO : Hid (p < w.heap.size ∧ bI < w.heap.size ∧ lg < w.heap.size ∧ p ≠ bI ∧ p ≠ lg ∧ bI ≠ lg ∧ p < wv.heap.size ∧ w.heap.size ≤ wv.heap.size) := by
    have h := HO.out
    have l := HLT.out
    show _ ∧ _
    omega
  clear hsz
  have HLT : Hid (wv.heap.size < (wv.alloc (.cells (prZ.cells) 87)).heap.size) := by show _ < _; simp
  generalize wv.alloc (.cells (prZ.cells) 87) = wk1 at HPl HIn HX HK HLT HPM ⊢
  generalize wv.heap.size = X at HX HO HLT ⊢
  refine wp_storeW 87 _ _ rfl ⟨X, 0, none⟩ (.agg x.cells) (by kernel_rfl) (by kernel_rfl) _ (store_P HX.out rfl) (by kernel_rfl) ?_
  try simp only [Act.put, sA, s0, s1]
  have HLT : Hid (X < (wk1.setRow X (x.cells)).heap.size) := by show _ < _; rw [setRow_size]; exact HLT.out
  have HPM : Hid (PM w0 (wk1.setRow X (x.cells)) p bI (some ⟨lg, 0, none⟩) lc (st) (xs) (none)) := HPM.out.far HPB.out (Kept.setRow _ _ _) (fun q e => by have e : q = X := e; have := HO.out; omega)
  have HPl : Hid (Box (wk1.setRow X (x.cells)) (p) 69 ((playC st.f bI st.is.length (some ⟨lg, 0, none⟩) xs.length lc st.dec).toArray)) := HPl.out.rowNe (by have := HO.out; omega) _
  have HIn : Hid (Box (wk1.setRow X (x.cells)) (bI) 29 ((st.is.map In.cs).flatten.toArray)) := HIn.out.rowNe (by have := HO.out; omega) _
  have HX : Hid (Box (wk1.setRow X (x.cells)) (X) 87 (x.cells)) := HX.out.setRow _
  have HK : Hid (Kept (PSet p bI (some ⟨lg, 0, none⟩) xs) w (wk1.setRow X (x.cells))) := HK.out.newRowS (by have := HO.out; omega) _
  generalize wk1.setRow X (x.cells) = wk2 at HPl HIn HX HK HLT HPM ⊢
  refine WL.nil ?_
  try simp only [Act.put, sA, s0, s1]
  go_upto_region 2 with fail
  refine wp_region_held_drew (S := fun w' => Box w' (p) 69 ((playC st.f bI st.is.length (some ⟨lg, 0, none⟩) xs.length lc st.dec).toArray) ∧ Box w' (bI) 29 ((st.is.map In.cs).flatten.toArray) ∧ Box w' (X) 87 (x.cells)) rfl ⟨HPl.out, HIn.out, HX.out⟩ (fun hH => ?_)
  have HPl : Hid (Box wk2.drew (p) 69 ((playC st.f bI st.is.length (some ⟨lg, 0, none⟩) xs.length lc st.dec).toArray)) := HPl.out
  have HIn : Hid (Box wk2.drew (bI) 29 ((st.is.map In.cs).flatten.toArray)) := HIn.out
  have HX : Hid (Box wk2.drew (X) 87 (x.cells)) := HX.out
  have HK : Hid (Kept (PSet p bI (some ⟨lg, 0, none⟩) xs) w wk2.drew) := HK.out.drew
  have HPM : Hid (PM w0 (wk2.drew) p bI (some ⟨lg, 0, none⟩) lc (st) (xs) (none)) := HPM.out.no (Kept.refl No _).drew
  have HLT : Hid (X < wk2.drew.heap.size) := HLT.out
  generalize wk2.drew = wk3 at HPl HIn HX HK HLT hH HPM ⊢
  refine any_take (i := 0) (oi := { dst := some 21, op := Op.move (Operand.tmp 0), type := 65, pos := "outright.go:128", after := #[], guard := none }) (v := .pointer (some ⟨p, 0, none⟩)) rfl (by kernel_rfl) (by kernel_rfl) (by kernel_rfl) (fun _ _ _ h => h) (by kernel_rfl) (fun _ _ => by kernel_rfl) hH ?_
  try simp only [Act.put, sA, s0, s1]
  refine any_take (i := 1) (oi := { dst := some 22, op := Op.nilCheck (Operand.tmp 21), type := 0, pos := "outright.go:128", after := #[{ on := 0, ground := Ground.data }], guard := none }) (v := .pointer (some ⟨p, 0, none⟩)) rfl (by kernel_rfl) (by kernel_rfl) (by kernel_rfl) (fun _ _ _ h => h) (by kernel_rfl) (fun _ _ => by kernel_rfl) hH ?_
  try simp only [Act.put, sA, s0, s1]
  refine any_take (i := 2) (oi := { dst := some 23, op := Op.fieldAddr 69 (Operand.tmp 22) 1, type := 0, pos := "outright.go:128", after := #[{ on := 1, ground := Ground.data }], guard := none }) (v := .pointer (some ⟨p, 1, none⟩)) rfl (by kernel_rfl) (by kernel_rfl) (by kernel_rfl) (fun _ _ _ h => h) (by kernel_rfl) (fun _ _ => by kernel_rfl) hH ?_
  try simp only [Act.put, sA, s0, s1]
  refine any_take (i := 3) (oi := { dst := some 24, op := Op.load 66 (Operand.tmp 23), type := 66, pos := "outright.go:128", after := #[{ on := 2, ground := Ground.data }], guard := none }) (v := .slice (some ⟨bI, 0, none⟩) st.is.length st.is.length) rfl (by kernel_rfl) (by kernel_rfl) (by kernel_rfl) (fun _ _ _ h => h) (by kernel_rfl) (fun w' hw => exec_load 66 _ rfl ⟨p, 1, none⟩ (by kernel_rfl) (.slice (some ⟨bI, 0, none⟩) st.is.length st.is.length) (load_pI hw.1)) hH ?_
  try simp only [Act.put, sA, s0, s1]
  refine any_take (i := 4) (oi := { dst := some 25, op := Op.move (Operand.tmp 2), type := 3, pos := "outright.go:128", after := #[], guard := none }) (v := .int .i64 s) rfl (by kernel_rfl) (by kernel_rfl) (by kernel_rfl) (fun _ _ _ h => h) (by kernel_rfl) (fun _ _ => by kernel_rfl) hH ?_
  try simp only [Act.put, sA, s0, s1]
  refine any_take (i := 5) (oi := { dst := some 26, op := Op.indexAddr 66 (Operand.tmp 24) (Operand.tmp 25), type := 0, pos := "outright.go:128", after := #[{ on := 3, ground := Ground.data }, { on := 4, ground := Ground.data }], guard := none }) (v := .pointer (some ⟨bI, 0 + s * 14, none⟩)) rfl (by kernel_rfl) (by kernel_rfl) (by kernel_rfl) (fun _ _ _ h => h) (by kernel_rfl) (fun w' hw => exec_ixA 66 14 Try.und66e Try.size66e _ _ rfl bI 0 st.is.length st.is.length s (by kernel_rfl) (by kernel_rfl) hsl) hH ?_
  try simp only [Act.put, sA, s0, s1]
  refine any_take (i := 6) (oi := { dst := some 27, op := Op.load 29 (Operand.tmp 26), type := 29, pos := "outright.go:128", after := #[{ on := 5, ground := Ground.data }], guard := none }) (v := .agg i0.cells) rfl (by kernel_rfl) (by kernel_rfl) (by kernel_rfl) (fun _ _ _ h => h) (by kernel_rfl) (fun w' hw => exec_load 29 _ rfl ⟨bI, 0 + s * 14, none⟩ (by kernel_rfl) (.agg i0.cells) (load_In hw.2.1 HSI.out)) hH ?_
  try simp only [Act.put, sA, s0, s1]
  refine any_take (i := 7) (oi := { dst := some 28, op := Op.fieldAddr 87 (Operand.tmp 9) 0, type := 0, pos := "outright.go:128", after := #[], guard := none }) (v := .pointer (some ⟨X, 0, none⟩)) rfl (by kernel_rfl) (by kernel_rfl) (by kernel_rfl) (fun _ _ _ h => h) (by kernel_rfl) (fun _ _ => by kernel_rfl) hH ?_
  try simp only [Act.put, sA, s0, s1]
  refine any_take (i := 8) (oi := { dst := some 29, op := Op.load 23 (Operand.tmp 28), type := 23, pos := "outright.go:128", after := #[{ on := 7, ground := Ground.data }], guard := none }) (v := .agg #[.int .i64 x.v.b.n, .int .i64 x.v.b.c]) rfl (by kernel_rfl) (by kernel_rfl) (by kernel_rfl) (fun _ _ _ h => h) (by kernel_rfl) (fun w' hw => exec_load 23 _ rfl ⟨X, 0, none⟩ (by kernel_rfl) (.agg #[.int .i64 x.v.b.n, .int .i64 x.v.b.c]) (load_S hw.2.2 (Px.partB _))) hH ?_
  try simp only [Act.put, sA, s0, s1]
  refine' meet3 (J := fun W a b => Kept (PSet p bI (some ⟨lg, 0, none⟩) xs) w W ∧ PM w0 W p bI (some ⟨lg, 0, none⟩) lc (st) (xs) (none) ∧ Box W p 69 ((playC st.f bI st.is.length (some ⟨lg, 0, none⟩) xs.length lc st.dec).toArray) ∧ Box W X 87 (x.cells) ∧ Box W a 29 ((prepI i0 x.v.b).cells) ∧ Box W b 52 ((prepM i0 x.v.b).cells) ∧ (p < w.heap.size ∧ bI < w.heap.size ∧ lg < w.heap.size ∧ p ≠ bI ∧ p ≠ lg ∧ bI ≠ lg ∧ w.heap.size ≤ X ∧ X < a ∧ X < b ∧ a ≠ b) ∧ X < W.heap.size) (fun hh => ?region) (fun W a b hJ => ?tail)
  case region =>
    refine any_pick (rs := [9, 14, 15]) (by kernel_rfl) (by simp) ?_
    intro i hi
    rcases pick3 hi with rfl | rfl | rfl
    ·skip
     clear hi
     refine step_call (i := 9) (o := { dst := some 30, op := Op.call { callee := Callee.value (Operand.func 11), args := #[Operand.tmp 27, Operand.tmp 29], argTypes := #[29, 23] }, type := 53, pos := "outright.go:128", after := #[{ on := 6, ground := Ground.data }, { on := 8, ground := Ground.data }], guard := none }) rfl (by kernel_rfl) 11 #[.agg i0.cells, .agg #[.int .i64 x.v.b.n, .int .i64 x.v.b.c]] (by kernel_rfl) _ (prep_any i0 x.v.b _) ?_
     rintro e wk4 ⟨rfl, hk⟩
     have HPl : Hid (Box wk4 (p) 69 ((playC st.f bI st.is.length (some ⟨lg, 0, none⟩) xs.length lc st.dec).toArray)) := HPl.out.kept hk (fun e => e)
     have HIn : Hid (Box wk4 (bI) 29 ((st.is.map In.cs).flatten.toArray)) := HIn.out.kept hk (fun e => e)
     have HX : Hid (Box wk4 (X) 87 (x.cells)) := HX.out.kept hk (fun e => e)
     have HK : Hid (Kept (PSet p bI (some ⟨lg, 0, none⟩) xs) w wk4) := HK.out.thenNo hk
     have HPM : Hid (PM w0 (wk4) p bI (some ⟨lg, 0, none⟩) lc (st) (xs) (none)) := HPM.out.no hk
     have HLT : Hid (X < wk4.heap.size) := Nat.lt_of_lt_of_le HLT.out hk.size
     clear hk
     refine ⟨.tuple #[.agg ((prepI i0 x.v.b).cells), .agg ((prepM i0 x.v.b).cells), .bool (prepB i0 x.v.b)], rfl, ⟨HPl.out, HIn.out, HX.out⟩, fun hH => ?_⟩
     try simp only [Act.put, sA, s0, s1]
     refine any_take (i := 10) (oi := { dst := some 20, op := Op.move (Operand.tmp 30), type := 53, pos := "outright.go:128", after := #[{ on := 9, ground := Ground.data }], guard := none }) (v := .tuple #[.agg ((prepI i0 x.v.b).cells), .agg ((prepM i0 x.v.b).cells), .bool (prepB i0 x.v.b)]) rfl (by kernel_rfl) (by kernel_rfl) (by kernel_rfl) (fun _ _ _ h => h) (by kernel_rfl) (fun _ _ => by kernel_rfl) hH ?_
     try simp only [Act.put, sA, s0, s1]
     refine any_take (i := 11) (oi := { dst := some 31, op := Op.extract (Operand.tmp 20) 0, type := 29, pos := "outright.go:128", after := #[{ on := 10, ground := Ground.data }], guard := none }) (v := .agg ((prepI i0 x.v.b).cells)) rfl (by kernel_rfl) (by kernel_rfl) (by kernel_rfl) (fun _ _ _ h => h) (by kernel_rfl) (fun _ _ => by kernel_rfl) hH ?_
     try simp only [Act.put, sA, s0, s1]
     refine any_take (i := 12) (oi := { dst := some 32, op := Op.extract (Operand.tmp 20) 1, type := 52, pos := "outright.go:128", after := #[{ on := 10, ground := Ground.data }, { on := 16, ground := Ground.gcOnly Departure.lateStores }], guard := none }) (v := .agg ((prepM i0 x.v.b).cells)) rfl (by kernel_rfl) (by kernel_rfl) (by kernel_rfl) (fun _ _ _ h => h) (by kernel_rfl) (fun _ _ => by kernel_rfl) hH ?_
     try simp only [Act.put, sA, s0, s1]
     refine any_take (i := 13) (oi := { dst := some 33, op := Op.extract (Operand.tmp 20) 2, type := 4, pos := "outright.go:128", after := #[{ on := 10, ground := Ground.data }, { on := 17, ground := Ground.gcOnly Departure.lateStores }], guard := none }) (v := .bool (prepB i0 x.v.b)) rfl (by kernel_rfl) (by kernel_rfl) (by kernel_rfl) (fun _ _ _ h => h) (by kernel_rfl) (fun _ _ => by kernel_rfl) hH ?_
     try simp only [Act.put, sA, s0, s1]
     refine any_pick (rs := [14, 15]) (by kernel_rfl) (by simp) ?_
     intro i hi
     rcases pick2 hi with rfl | rfl
     ·skip
      clear hi
      refine step_run (i := 14) (o := { dst := some 10, op := Op.alloc 29, type := 0, pos := "outright.go:128", after := #[], guard := none }) rfl (by kernel_rfl) (exec_alloc 29 rfl _ zero29) ⟨HPl.out.alloc _, HIn.out.alloc _, HX.out.alloc _⟩ (fun hH => ?_)
      have HN : Hid (Box (wk4.alloc (.cells (iZ.cells) 29)) wk4.heap.size 29 (iZ.cells)) := Box.new _ _ _
      have HPl : Hid (Box (wk4.alloc (.cells (iZ.cells) 29)) (p) 69 ((playC st.f bI st.is.length (some ⟨lg, 0, none⟩) xs.length lc st.dec).toArray)) := HPl.out.alloc _
      have HIn : Hid (Box (wk4.alloc (.cells (iZ.cells) 29)) (bI) 29 ((st.is.map In.cs).flatten.toArray)) := HIn.out.alloc _
      have HX : Hid (Box (wk4.alloc (.cells (iZ.cells) 29)) (X) 87 (x.cells)) := HX.out.alloc _
      have hsz := HK.out.size
      have HK : Hid (Kept (PSet p bI (some ⟨lg, 0, none⟩) xs) w (wk4.alloc (.cells (iZ.cells) 29))) := HK.out.alloc _
      have HPM : Hid (PM w0 (wk4.alloc (.cells (iZ.cells) 29)) p bI (some ⟨lg, 0, none⟩) lc (st) (xs) (none)) := HPM.out.no ((Kept.refl No _).alloc _)
      have HO : Hid (p < w.heap.size ∧ bI < w.heap.size ∧ lg < w.heap.size ∧ p ≠ bI ∧ p ≠ lg ∧ bI ≠ lg ∧ w.heap.size ≤ X ∧ X < wk4.heap.size ∧ w.heap.size ≤ wk4.heap.size) := by
        have h := HO.out
        have l := HLT.out
        show _ ∧ _
        omega
      clear hsz
      have HLT : Hid (wk4.heap.size < (wk4.alloc (.cells (iZ.cells) 29)).heap.size) := by show _ < _; simp
      generalize wk4.alloc (.cells (iZ.cells) 29) = wk5 at HPl HIn HX HN HK HLT hH HPM ⊢
      generalize wk4.heap.size = gk6 at HN HO HLT ⊢
      try simp only [Act.put, sA, s0, s1]
      refine any_step (i := 15) (o := { dst := some 11, op := Op.alloc 52, type := 0, pos := "outright.go:128", after := #[], guard := none }) rfl (by kernel_rfl) (by kernel_rfl) (exec_alloc 52 rfl _ zero52) ⟨HPl.out.alloc _, HIn.out.alloc _, HX.out.alloc _⟩ (fun hH => ?_)
      have HMs : Hid (Box (wk5.alloc (.cells (mZ.cells) 52)) wk5.heap.size 52 (mZ.cells)) := Box.new _ _ _
      have HPl : Hid (Box (wk5.alloc (.cells (mZ.cells) 52)) (p) 69 ((playC st.f bI st.is.length (some ⟨lg, 0, none⟩) xs.length lc st.dec).toArray)) := HPl.out.alloc _
      have HIn : Hid (Box (wk5.alloc (.cells (mZ.cells) 52)) (bI) 29 ((st.is.map In.cs).flatten.toArray)) := HIn.out.alloc _
      have HX : Hid (Box (wk5.alloc (.cells (mZ.cells) 52)) (X) 87 (x.cells)) := HX.out.alloc _
      have HN : Hid (Box (wk5.alloc (.cells (mZ.cells) 52)) (gk6) 29 (iZ.cells)) := HN.out.alloc _
      have hsz := HK.out.size
      have HK : Hid (Kept (PSet p bI (some ⟨lg, 0, none⟩) xs) w (wk5.alloc (.cells (mZ.cells) 52))) := HK.out.alloc _
      have HPM : Hid (PM w0 (wk5.alloc (.cells (mZ.cells) 52)) p bI (some ⟨lg, 0, none⟩) lc (st) (xs) (none)) := HPM.out.no ((Kept.refl No _).alloc _)
      have HO : Hid (p < w.heap.size ∧ bI < w.heap.size ∧ lg < w.heap.size ∧ p ≠ bI ∧ p ≠ lg ∧ bI ≠ lg ∧ w.heap.size ≤ X ∧ w.heap.size ≤ gk6 ∧ X < gk6 ∧ gk6 < wk5.heap.size ∧ w.heap.size ≤ wk5.heap.size) := by
        have h := HO.out
        have l := HLT.out
        show _ ∧ _
        omega
      clear hsz
      have HLT : Hid (wk5.heap.size < (wk5.alloc (.cells (mZ.cells) 52)).heap.size) := by show _ < _; simp
      generalize wk5.alloc (.cells (mZ.cells) 52) = wk7 at HPl HIn HX HN HMs HK HLT hH HPM ⊢
      generalize wk5.heap.size = gk8 at HMs HO HLT ⊢
      try simp only [Act.put, sA, s0, s1]
      refine any_store (i := 16) (o := { dst := none, op := Op.store 29 (Operand.tmp 10) (Operand.tmp 31), type := 0, pos := "outright.go:128", after := #[{ on := 14, ground := Ground.data }, { on := 11, ground := Ground.data }, { on := 9, ground := Ground.chain }, { on := 0, ground := Ground.phase }, { on := 1, ground := Ground.phase }, { on := 2, ground := Ground.phase }, { on := 3, ground := Ground.phase }, { on := 4, ground := Ground.phase }, { on := 5, ground := Ground.phase }, { on := 6, ground := Ground.phase }, { on := 7, ground := Ground.phase }, { on := 8, ground := Ground.phase }, { on := 9, ground := Ground.phase }, { on := 10, ground := Ground.phase }, { on := 11, ground := Ground.phase }, { on := 12, ground := Ground.textOnly Departure.lateStores }, { on := 13, ground := Ground.textOnly Departure.lateStores }, { on := 14, ground := Ground.phase }, { on := 15, ground := Ground.phase }], guard := none }) rfl (by kernel_rfl) (by kernel_rfl) 29 _ _ rfl ⟨gk6, 0, none⟩ (.agg ((prepI i0 x.v.b).cells)) (by kernel_rfl) (by kernel_rfl) (store_I HN.out rfl) (⟨hH.1.rowNe (by have := HO.out; omega) _, hH.2.1.rowNe (by have := HO.out; omega) _, hH.2.2.rowNe (by have := HO.out; omega) _⟩) (fun hH => ?_)
      have HLT : Hid (gk8 < (wk7.setRow gk6 ((prepI i0 x.v.b).cells)).heap.size) := by show _ < _; rw [setRow_size]; exact HLT.out
      have HPM : Hid (PM w0 (wk7.setRow gk6 ((prepI i0 x.v.b).cells)) p bI (some ⟨lg, 0, none⟩) lc (st) (xs) (none)) := HPM.out.far HPB.out (Kept.setRow _ _ _) (fun q e => by have e : q = gk6 := e; have := HO.out; omega)
      have HPl : Hid (Box (wk7.setRow gk6 ((prepI i0 x.v.b).cells)) (p) 69 ((playC st.f bI st.is.length (some ⟨lg, 0, none⟩) xs.length lc st.dec).toArray)) := HPl.out.rowNe (by have := HO.out; omega) _
      have HIn : Hid (Box (wk7.setRow gk6 ((prepI i0 x.v.b).cells)) (bI) 29 ((st.is.map In.cs).flatten.toArray)) := HIn.out.rowNe (by have := HO.out; omega) _
      have HX : Hid (Box (wk7.setRow gk6 ((prepI i0 x.v.b).cells)) (X) 87 (x.cells)) := HX.out.rowNe (by have := HO.out; omega) _
      have HN : Hid (Box (wk7.setRow gk6 ((prepI i0 x.v.b).cells)) (gk6) 29 ((prepI i0 x.v.b).cells)) := HN.out.setRow _
      have HMs : Hid (Box (wk7.setRow gk6 ((prepI i0 x.v.b).cells)) (gk8) 52 (mZ.cells)) := HMs.out.rowNe (by have := HO.out; omega) _
      have HK : Hid (Kept (PSet p bI (some ⟨lg, 0, none⟩) xs) w (wk7.setRow gk6 ((prepI i0 x.v.b).cells))) := HK.out.newRowS (by have := HO.out; omega) _
      generalize wk7.setRow gk6 ((prepI i0 x.v.b).cells) = wk9 at HPl HIn HX HN HMs HK HLT hH HPM ⊢
      refine any_store (i := 17) (o := { dst := none, op := Op.store 52 (Operand.tmp 11) (Operand.tmp 32), type := 0, pos := "outright.go:128", after := #[{ on := 15, ground := Ground.data }, { on := 12, ground := Ground.data }, { on := 16, ground := Ground.chain }, { on := 0, ground := Ground.phase }, { on := 1, ground := Ground.phase }, { on := 2, ground := Ground.phase }, { on := 3, ground := Ground.phase }, { on := 4, ground := Ground.phase }, { on := 5, ground := Ground.phase }, { on := 6, ground := Ground.phase }, { on := 7, ground := Ground.phase }, { on := 8, ground := Ground.phase }, { on := 9, ground := Ground.phase }, { on := 10, ground := Ground.phase }, { on := 11, ground := Ground.phase }, { on := 12, ground := Ground.phase }, { on := 13, ground := Ground.textOnly Departure.lateStores }, { on := 14, ground := Ground.phase }, { on := 15, ground := Ground.phase }, { on := 16, ground := Ground.phase }], guard := none }) rfl (by kernel_rfl) (by kernel_rfl) 52 _ _ rfl ⟨gk8, 0, none⟩ (.agg ((prepM i0 x.v.b).cells)) (by kernel_rfl) (by kernel_rfl) (store_M HMs.out rfl) (⟨hH.1.rowNe (by have := HO.out; omega) _, hH.2.1.rowNe (by have := HO.out; omega) _, hH.2.2.rowNe (by have := HO.out; omega) _⟩) (fun hH => ?_)
      have HLT : Hid (gk8 < (wk9.setRow gk8 ((prepM i0 x.v.b).cells)).heap.size) := by show _ < _; rw [setRow_size]; exact HLT.out
      have HPM : Hid (PM w0 (wk9.setRow gk8 ((prepM i0 x.v.b).cells)) p bI (some ⟨lg, 0, none⟩) lc (st) (xs) (none)) := HPM.out.far HPB.out (Kept.setRow _ _ _) (fun q e => by have e : q = gk8 := e; have := HO.out; omega)
      have HPl : Hid (Box (wk9.setRow gk8 ((prepM i0 x.v.b).cells)) (p) 69 ((playC st.f bI st.is.length (some ⟨lg, 0, none⟩) xs.length lc st.dec).toArray)) := HPl.out.rowNe (by have := HO.out; omega) _
      have HIn : Hid (Box (wk9.setRow gk8 ((prepM i0 x.v.b).cells)) (bI) 29 ((st.is.map In.cs).flatten.toArray)) := HIn.out.rowNe (by have := HO.out; omega) _
      have HX : Hid (Box (wk9.setRow gk8 ((prepM i0 x.v.b).cells)) (X) 87 (x.cells)) := HX.out.rowNe (by have := HO.out; omega) _
      have HN : Hid (Box (wk9.setRow gk8 ((prepM i0 x.v.b).cells)) (gk6) 29 ((prepI i0 x.v.b).cells)) := HN.out.rowNe (by have := HO.out; omega) _
      have HMs : Hid (Box (wk9.setRow gk8 ((prepM i0 x.v.b).cells)) (gk8) 52 ((prepM i0 x.v.b).cells)) := HMs.out.setRow _
      have HK : Hid (Kept (PSet p bI (some ⟨lg, 0, none⟩) xs) w (wk9.setRow gk8 ((prepM i0 x.v.b).cells))) := HK.out.newRowS (by have := HO.out; omega) _
      generalize wk9.setRow gk8 ((prepM i0 x.v.b).cells) = wk10 at HPl HIn HX HN HMs HK HLT hH HPM ⊢
      refine any_take (i := 18) (oi := { dst := some 12, op := Op.assign (Operand.tmp 33), type := 4, pos := "outright.go:128", after := #[{ on := 13, ground := Ground.data }, { on := 17, ground := Ground.chain }, { on := 0, ground := Ground.phase }, { on := 1, ground := Ground.phase }, { on := 2, ground := Ground.phase }, { on := 3, ground := Ground.phase }, { on := 4, ground := Ground.phase }, { on := 5, ground := Ground.phase }, { on := 6, ground := Ground.phase }, { on := 7, ground := Ground.phase }, { on := 8, ground := Ground.phase }, { on := 9, ground := Ground.phase }, { on := 10, ground := Ground.phase }, { on := 11, ground := Ground.phase }, { on := 12, ground := Ground.phase }, { on := 13, ground := Ground.phase }, { on := 14, ground := Ground.phase }, { on := 15, ground := Ground.phase }, { on := 16, ground := Ground.phase }, { on := 17, ground := Ground.phase }], guard := none }) (v := .bool (prepB i0 x.v.b)) rfl (by kernel_rfl) (by kernel_rfl) (by kernel_rfl) (fun _ _ _ h => h) (by kernel_rfl) (fun _ _ => by kernel_rfl) hH ?_
      try simp only [Act.put, sA, s0, s1]
      refine wpAnyH_done (by kernel_rfl) ?_ _
      try simp only [Act.put, sA, s0, s1]
      exact hh _ gk6 gk8 ⟨HK.out, HPM.out, HPl.out, HX.out, HN.out, HMs.out, by have := HO.out; omega, Nat.lt_of_le_of_lt (by have := HO.out; omega) HLT.out⟩
     ·skip
      clear hi
      refine step_run (i := 15) (o := { dst := some 11, op := Op.alloc 52, type := 0, pos := "outright.go:128", after := #[], guard := none }) rfl (by kernel_rfl) (exec_alloc 52 rfl _ zero52) ⟨HPl.out.alloc _, HIn.out.alloc _, HX.out.alloc _⟩ (fun hH => ?_)
      have HMs : Hid (Box (wk4.alloc (.cells (mZ.cells) 52)) wk4.heap.size 52 (mZ.cells)) := Box.new _ _ _
      have HPl : Hid (Box (wk4.alloc (.cells (mZ.cells) 52)) (p) 69 ((playC st.f bI st.is.length (some ⟨lg, 0, none⟩) xs.length lc st.dec).toArray)) := HPl.out.alloc _
      have HIn : Hid (Box (wk4.alloc (.cells (mZ.cells) 52)) (bI) 29 ((st.is.map In.cs).flatten.toArray)) := HIn.out.alloc _
      have HX : Hid (Box (wk4.alloc (.cells (mZ.cells) 52)) (X) 87 (x.cells)) := HX.out.alloc _
      have hsz := HK.out.size
      have HK : Hid (Kept (PSet p bI (some ⟨lg, 0, none⟩) xs) w (wk4.alloc (.cells (mZ.cells) 52))) := HK.out.alloc _
      have HPM : Hid (PM w0 (wk4.alloc (.cells (mZ.cells) 52)) p bI (some ⟨lg, 0, none⟩) lc (st) (xs) (none)) := HPM.out.no ((Kept.refl No _).alloc _)
      have HO : Hid (p < w.heap.size ∧ bI < w.heap.size ∧ lg < w.heap.size ∧ p ≠ bI ∧ p ≠ lg ∧ bI ≠ lg ∧ w.heap.size ≤ X ∧ X < wk4.heap.size ∧ w.heap.size ≤ wk4.heap.size) := by
        have h := HO.out
        have l := HLT.out
        show _ ∧ _
        omega
      clear hsz
      have HLT : Hid (wk4.heap.size < (wk4.alloc (.cells (mZ.cells) 52)).heap.size) := by show _ < _; simp
      generalize wk4.alloc (.cells (mZ.cells) 52) = wk11 at HPl HIn HX HMs HK HLT hH HPM ⊢
      generalize wk4.heap.size = gk12 at HMs HO HLT ⊢
      try simp only [Act.put, sA, s0, s1]
      refine any_step (i := 14) (o := { dst := some 10, op := Op.alloc 29, type := 0, pos := "outright.go:128", after := #[], guard := none }) rfl (by kernel_rfl) (by kernel_rfl) (exec_alloc 29 rfl _ zero29) ⟨HPl.out.alloc _, HIn.out.alloc _, HX.out.alloc _⟩ (fun hH => ?_)
      have HN : Hid (Box (wk11.alloc (.cells (iZ.cells) 29)) wk11.heap.size 29 (iZ.cells)) := Box.new _ _ _
      have HPl : Hid (Box (wk11.alloc (.cells (iZ.cells) 29)) (p) 69 ((playC st.f bI st.is.length (some ⟨lg, 0, none⟩) xs.length lc st.dec).toArray)) := HPl.out.alloc _
      have HIn : Hid (Box (wk11.alloc (.cells (iZ.cells) 29)) (bI) 29 ((st.is.map In.cs).flatten.toArray)) := HIn.out.alloc _
      have HX : Hid (Box (wk11.alloc (.cells (iZ.cells) 29)) (X) 87 (x.cells)) := HX.out.alloc _
      have HMs : Hid (Box (wk11.alloc (.cells (iZ.cells) 29)) (gk12) 52 (mZ.cells)) := HMs.out.alloc _
      have hsz := HK.out.size
      have HK : Hid (Kept (PSet p bI (some ⟨lg, 0, none⟩) xs) w (wk11.alloc (.cells (iZ.cells) 29))) := HK.out.alloc _
      have HPM : Hid (PM w0 (wk11.alloc (.cells (iZ.cells) 29)) p bI (some ⟨lg, 0, none⟩) lc (st) (xs) (none)) := HPM.out.no ((Kept.refl No _).alloc _)
      have HO : Hid (p < w.heap.size ∧ bI < w.heap.size ∧ lg < w.heap.size ∧ p ≠ bI ∧ p ≠ lg ∧ bI ≠ lg ∧ w.heap.size ≤ X ∧ w.heap.size ≤ gk12 ∧ X < gk12 ∧ gk12 < wk11.heap.size ∧ w.heap.size ≤ wk11.heap.size) := by
        have h := HO.out
        have l := HLT.out
        show _ ∧ _
        omega
      clear hsz
      have HLT : Hid (wk11.heap.size < (wk11.alloc (.cells (iZ.cells) 29)).heap.size) := by show _ < _; simp
      generalize wk11.alloc (.cells (iZ.cells) 29) = wk13 at HPl HIn HX HMs HN HK HLT hH HPM ⊢
      generalize wk11.heap.size = gk14 at HN HO HLT ⊢
      try simp only [Act.put, sA, s0, s1]
      refine any_store (i := 16) (o := { dst := none, op := Op.store 29 (Operand.tmp 10) (Operand.tmp 31), type := 0, pos := "outright.go:128", after := #[{ on := 14, ground := Ground.data }, { on := 11, ground := Ground.data }, { on := 9, ground := Ground.chain }, { on := 0, ground := Ground.phase }, { on := 1, ground := Ground.phase }, { on := 2, ground := Ground.phase }, { on := 3, ground := Ground.phase }, { on := 4, ground := Ground.phase }, { on := 5, ground := Ground.phase }, { on := 6, ground := Ground.phase }, { on := 7, ground := Ground.phase }, { on := 8, ground := Ground.phase }, { on := 9, ground := Ground.phase }, { on := 10, ground := Ground.phase }, { on := 11, ground := Ground.phase }, { on := 12, ground := Ground.textOnly Departure.lateStores }, { on := 13, ground := Ground.textOnly Departure.lateStores }, { on := 14, ground := Ground.phase }, { on := 15, ground := Ground.phase }], guard := none }) rfl (by kernel_rfl) (by kernel_rfl) 29 _ _ rfl ⟨gk14, 0, none⟩ (.agg ((prepI i0 x.v.b).cells)) (by kernel_rfl) (by kernel_rfl) (store_I HN.out rfl) (⟨hH.1.rowNe (by have := HO.out; omega) _, hH.2.1.rowNe (by have := HO.out; omega) _, hH.2.2.rowNe (by have := HO.out; omega) _⟩) (fun hH => ?_)
      have HLT : Hid (gk14 < (wk13.setRow gk14 ((prepI i0 x.v.b).cells)).heap.size) := by show _ < _; rw [setRow_size]; exact HLT.out
      have HPM : Hid (PM w0 (wk13.setRow gk14 ((prepI i0 x.v.b).cells)) p bI (some ⟨lg, 0, none⟩) lc (st) (xs) (none)) := HPM.out.far HPB.out (Kept.setRow _ _ _) (fun q e => by have e : q = gk14 := e; have := HO.out; omega)
      have HPl : Hid (Box (wk13.setRow gk14 ((prepI i0 x.v.b).cells)) (p) 69 ((playC st.f bI st.is.length (some ⟨lg, 0, none⟩) xs.length lc st.dec).toArray)) := HPl.out.rowNe (by have := HO.out; omega) _
      have HIn : Hid (Box (wk13.setRow gk14 ((prepI i0 x.v.b).cells)) (bI) 29 ((st.is.map In.cs).flatten.toArray)) := HIn.out.rowNe (by have := HO.out; omega) _
      have HX : Hid (Box (wk13.setRow gk14 ((prepI i0 x.v.b).cells)) (X) 87 (x.cells)) := HX.out.rowNe (by have := HO.out; omega) _
      have HMs : Hid (Box (wk13.setRow gk14 ((prepI i0 x.v.b).cells)) (gk12) 52 (mZ.cells)) := HMs.out.rowNe (by have := HO.out; omega) _
      have HN : Hid (Box (wk13.setRow gk14 ((prepI i0 x.v.b).cells)) (gk14) 29 ((prepI i0 x.v.b).cells)) := HN.out.setRow _
      have HK : Hid (Kept (PSet p bI (some ⟨lg, 0, none⟩) xs) w (wk13.setRow gk14 ((prepI i0 x.v.b).cells))) := HK.out.newRowS (by have := HO.out; omega) _
      generalize wk13.setRow gk14 ((prepI i0 x.v.b).cells) = wk15 at HPl HIn HX HMs HN HK HLT hH HPM ⊢
      refine any_store (i := 17) (o := { dst := none, op := Op.store 52 (Operand.tmp 11) (Operand.tmp 32), type := 0, pos := "outright.go:128", after := #[{ on := 15, ground := Ground.data }, { on := 12, ground := Ground.data }, { on := 16, ground := Ground.chain }, { on := 0, ground := Ground.phase }, { on := 1, ground := Ground.phase }, { on := 2, ground := Ground.phase }, { on := 3, ground := Ground.phase }, { on := 4, ground := Ground.phase }, { on := 5, ground := Ground.phase }, { on := 6, ground := Ground.phase }, { on := 7, ground := Ground.phase }, { on := 8, ground := Ground.phase }, { on := 9, ground := Ground.phase }, { on := 10, ground := Ground.phase }, { on := 11, ground := Ground.phase }, { on := 12, ground := Ground.phase }, { on := 13, ground := Ground.textOnly Departure.lateStores }, { on := 14, ground := Ground.phase }, { on := 15, ground := Ground.phase }, { on := 16, ground := Ground.phase }], guard := none }) rfl (by kernel_rfl) (by kernel_rfl) 52 _ _ rfl ⟨gk12, 0, none⟩ (.agg ((prepM i0 x.v.b).cells)) (by kernel_rfl) (by kernel_rfl) (store_M HMs.out rfl) (⟨hH.1.rowNe (by have := HO.out; omega) _, hH.2.1.rowNe (by have := HO.out; omega) _, hH.2.2.rowNe (by have := HO.out; omega) _⟩) (fun hH => ?_)
      have HLT : Hid (gk14 < (wk15.setRow gk12 ((prepM i0 x.v.b).cells)).heap.size) := by show _ < _; rw [setRow_size]; exact HLT.out
      have HPM : Hid (PM w0 (wk15.setRow gk12 ((prepM i0 x.v.b).cells)) p bI (some ⟨lg, 0, none⟩) lc (st) (xs) (none)) := HPM.out.far HPB.out (Kept.setRow _ _ _) (fun q e => by have e : q = gk12 := e; have := HO.out; omega)
      have HPl : Hid (Box (wk15.setRow gk12 ((prepM i0 x.v.b).cells)) (p) 69 ((playC st.f bI st.is.length (some ⟨lg, 0, none⟩) xs.length lc st.dec).toArray)) := HPl.out.rowNe (by have := HO.out; omega) _
      have HIn : Hid (Box (wk15.setRow gk12 ((prepM i0 x.v.b).cells)) (bI) 29 ((st.is.map In.cs).flatten.toArray)) := HIn.out.rowNe (by have := HO.out; omega) _
      have HX : Hid (Box (wk15.setRow gk12 ((prepM i0 x.v.b).cells)) (X) 87 (x.cells)) := HX.out.rowNe (by have := HO.out; omega) _
      have HMs : Hid (Box (wk15.setRow gk12 ((prepM i0 x.v.b).cells)) (gk12) 52 ((prepM i0 x.v.b).cells)) := HMs.out.setRow _
      have HN : Hid (Box (wk15.setRow gk12 ((prepM i0 x.v.b).cells)) (gk14) 29 ((prepI i0 x.v.b).cells)) := HN.out.rowNe (by have := HO.out; omega) _
      have HK : Hid (Kept (PSet p bI (some ⟨lg, 0, none⟩) xs) w (wk15.setRow gk12 ((prepM i0 x.v.b).cells))) := HK.out.newRowS (by have := HO.out; omega) _
      generalize wk15.setRow gk12 ((prepM i0 x.v.b).cells) = wk16 at HPl HIn HX HMs HN HK HLT hH HPM ⊢
      refine any_take (i := 18) (oi := { dst := some 12, op := Op.assign (Operand.tmp 33), type := 4, pos := "outright.go:128", after := #[{ on := 13, ground := Ground.data }, { on := 17, ground := Ground.chain }, { on := 0, ground := Ground.phase }, { on := 1, ground := Ground.phase }, { on := 2, ground := Ground.phase }, { on := 3, ground := Ground.phase }, { on := 4, ground := Ground.phase }, { on := 5, ground := Ground.phase }, { on := 6, ground := Ground.phase }, { on := 7, ground := Ground.phase }, { on := 8, ground := Ground.phase }, { on := 9, ground := Ground.phase }, { on := 10, ground := Ground.phase }, { on := 11, ground := Ground.phase }, { on := 12, ground := Ground.phase }, { on := 13, ground := Ground.phase }, { on := 14, ground := Ground.phase }, { on := 15, ground := Ground.phase }, { on := 16, ground := Ground.phase }, { on := 17, ground := Ground.phase }], guard := none }) (v := .bool (prepB i0 x.v.b)) rfl (by kernel_rfl) (by kernel_rfl) (by kernel_rfl) (fun _ _ _ h => h) (by kernel_rfl) (fun _ _ => by kernel_rfl) hH ?_
      try simp only [Act.put, sA, s0, s1]
      refine wpAnyH_done (by kernel_rfl) ?_ _
      try simp only [Act.put, sA, s0, s1]
      exact hh _ gk14 gk12 ⟨HK.out, HPM.out, HPl.out, HX.out, HN.out, HMs.out, by have := HO.out; omega, Nat.lt_of_le_of_lt (by have := HO.out; omega) HLT.out⟩
    ·skip
     clear hi
     refine step_run (i := 14) (o := { dst := some 10, op := Op.alloc 29, type := 0, pos := "outright.go:128", after := #[], guard := none }) rfl (by kernel_rfl) (exec_alloc 29 rfl _ zero29) ⟨HPl.out.alloc _, HIn.out.alloc _, HX.out.alloc _⟩ (fun hH => ?_)
     have HN : Hid (Box (wk3.alloc (.cells (iZ.cells) 29)) wk3.heap.size 29 (iZ.cells)) := Box.new _ _ _
     have HPl : Hid (Box (wk3.alloc (.cells (iZ.cells) 29)) (p) 69 ((playC st.f bI st.is.length (some ⟨lg, 0, none⟩) xs.length lc st.dec).toArray)) := HPl.out.alloc _
     have HIn : Hid (Box (wk3.alloc (.cells (iZ.cells) 29)) (bI) 29 ((st.is.map In.cs).flatten.toArray)) := HIn.out.alloc _
     have HX : Hid (Box (wk3.alloc (.cells (iZ.cells) 29)) (X) 87 (x.cells)) := HX.out.alloc _
     have hsz := HK.out.size
     have HK : Hid (Kept (PSet p bI (some ⟨lg, 0, none⟩) xs) w (wk3.alloc (.cells (iZ.cells) 29))) := HK.out.alloc _
     have HPM : Hid (PM w0 (wk3.alloc (.cells (iZ.cells) 29)) p bI (some ⟨lg, 0, none⟩) lc (st) (xs) (none)) := HPM.out.no ((Kept.refl No _).alloc _)
     have HO : Hid (p < w.heap.size ∧ bI < w.heap.size ∧ lg < w.heap.size ∧ p ≠ bI ∧ p ≠ lg ∧ bI ≠ lg ∧ w.heap.size ≤ X ∧ X < wk3.heap.size ∧ w.heap.size ≤ wk3.heap.size) := by
       have h := HO.out
       have l := HLT.out
       show _ ∧ _
       omega
     clear hsz
     have HLT : Hid (wk3.heap.size < (wk3.alloc (.cells (iZ.cells) 29)).heap.size) := by show _ < _; simp
     generalize wk3.alloc (.cells (iZ.cells) 29) = wk17 at HPl HIn HX HN HK HLT hH HPM ⊢
     generalize wk3.heap.size = gk18 at HN HO HLT ⊢
     try simp only [Act.put, sA, s0, s1]
     refine any_pick (rs := [9, 15]) (by kernel_rfl) (by simp) ?_
     intro i hi
     rcases pick2 hi with rfl | rfl
     ·skip
      clear hi
      refine step_call (i := 9) (o := { dst := some 30, op := Op.call { callee := Callee.value (Operand.func 11), args := #[Operand.tmp 27, Operand.tmp 29], argTypes := #[29, 23] }, type := 53, pos := "outright.go:128", after := #[{ on := 6, ground := Ground.data }, { on := 8, ground := Ground.data }], guard := none }) rfl (by kernel_rfl) 11 #[.agg i0.cells, .agg #[.int .i64 x.v.b.n, .int .i64 x.v.b.c]] (by kernel_rfl) _ (prep_any i0 x.v.b _) ?_
      rintro e wk19 ⟨rfl, hk⟩
      have HPl : Hid (Box wk19 (p) 69 ((playC st.f bI st.is.length (some ⟨lg, 0, none⟩) xs.length lc st.dec).toArray)) := HPl.out.kept hk (fun e => e)
      have HIn : Hid (Box wk19 (bI) 29 ((st.is.map In.cs).flatten.toArray)) := HIn.out.kept hk (fun e => e)
      have HX : Hid (Box wk19 (X) 87 (x.cells)) := HX.out.kept hk (fun e => e)
      have HN : Hid (Box wk19 (gk18) 29 (iZ.cells)) := HN.out.kept hk (fun e => e)
      have HK : Hid (Kept (PSet p bI (some ⟨lg, 0, none⟩) xs) w wk19) := HK.out.thenNo hk
      have HPM : Hid (PM w0 (wk19) p bI (some ⟨lg, 0, none⟩) lc (st) (xs) (none)) := HPM.out.no hk
      have HLT : Hid (gk18 < wk19.heap.size) := Nat.lt_of_lt_of_le HLT.out hk.size
      clear hk
      refine ⟨.tuple #[.agg ((prepI i0 x.v.b).cells), .agg ((prepM i0 x.v.b).cells), .bool (prepB i0 x.v.b)], rfl, ⟨HPl.out, HIn.out, HX.out⟩, fun hH => ?_⟩
      try simp only [Act.put, sA, s0, s1]
      refine any_take (i := 10) (oi := { dst := some 20, op := Op.move (Operand.tmp 30), type := 53, pos := "outright.go:128", after := #[{ on := 9, ground := Ground.data }], guard := none }) (v := .tuple #[.agg ((prepI i0 x.v.b).cells), .agg ((prepM i0 x.v.b).cells), .bool (prepB i0 x.v.b)]) rfl (by kernel_rfl) (by kernel_rfl) (by kernel_rfl) (fun _ _ _ h => h) (by kernel_rfl) (fun _ _ => by kernel_rfl) hH ?_
      try simp only [Act.put, sA, s0, s1]
      refine any_take (i := 11) (oi := { dst := some 31, op := Op.extract (Operand.tmp 20) 0, type := 29, pos := "outright.go:128", after := #[{ on := 10, ground := Ground.data }], guard := none }) (v := .agg ((prepI i0 x.v.b).cells)) rfl (by kernel_rfl) (by kernel_rfl) (by kernel_rfl) (fun _ _ _ h => h) (by kernel_rfl) (fun _ _ => by kernel_rfl) hH ?_
      try simp only [Act.put, sA, s0, s1]
      refine any_take (i := 12) (oi := { dst := some 32, op := Op.extract (Operand.tmp 20) 1, type := 52, pos := "outright.go:128", after := #[{ on := 10, ground := Ground.data }, { on := 16, ground := Ground.gcOnly Departure.lateStores }], guard := none }) (v := .agg ((prepM i0 x.v.b).cells)) rfl (by kernel_rfl) (by kernel_rfl) (by kernel_rfl) (fun _ _ _ h => h) (by kernel_rfl) (fun _ _ => by kernel_rfl) hH ?_
      try simp only [Act.put, sA, s0, s1]
      refine any_take (i := 13) (oi := { dst := some 33, op := Op.extract (Operand.tmp 20) 2, type := 4, pos := "outright.go:128", after := #[{ on := 10, ground := Ground.data }, { on := 17, ground := Ground.gcOnly Departure.lateStores }], guard := none }) (v := .bool (prepB i0 x.v.b)) rfl (by kernel_rfl) (by kernel_rfl) (by kernel_rfl) (fun _ _ _ h => h) (by kernel_rfl) (fun _ _ => by kernel_rfl) hH ?_
      try simp only [Act.put, sA, s0, s1]
      refine any_step (i := 15) (o := { dst := some 11, op := Op.alloc 52, type := 0, pos := "outright.go:128", after := #[], guard := none }) rfl (by kernel_rfl) (by kernel_rfl) (exec_alloc 52 rfl _ zero52) ⟨HPl.out.alloc _, HIn.out.alloc _, HX.out.alloc _⟩ (fun hH => ?_)
      have HMs : Hid (Box (wk19.alloc (.cells (mZ.cells) 52)) wk19.heap.size 52 (mZ.cells)) := Box.new _ _ _
      have HPl : Hid (Box (wk19.alloc (.cells (mZ.cells) 52)) (p) 69 ((playC st.f bI st.is.length (some ⟨lg, 0, none⟩) xs.length lc st.dec).toArray)) := HPl.out.alloc _
      have HIn : Hid (Box (wk19.alloc (.cells (mZ.cells) 52)) (bI) 29 ((st.is.map In.cs).flatten.toArray)) := HIn.out.alloc _
      have HX : Hid (Box (wk19.alloc (.cells (mZ.cells) 52)) (X) 87 (x.cells)) := HX.out.alloc _
      have HN : Hid (Box (wk19.alloc (.cells (mZ.cells) 52)) (gk18) 29 (iZ.cells)) := HN.out.alloc _
      have hsz := HK.out.size
      have HK : Hid (Kept (PSet p bI (some ⟨lg, 0, none⟩) xs) w (wk19.alloc (.cells (mZ.cells) 52))) := HK.out.alloc _
      have HPM : Hid (PM w0 (wk19.alloc (.cells (mZ.cells) 52)) p bI (some ⟨lg, 0, none⟩) lc (st) (xs) (none)) := HPM.out.no ((Kept.refl No _).alloc _)
      have HO : Hid (p < w.heap.size ∧ bI < w.heap.size ∧ lg < w.heap.size ∧ p ≠ bI ∧ p ≠ lg ∧ bI ≠ lg ∧ w.heap.size ≤ X ∧ w.heap.size ≤ gk18 ∧ X < gk18 ∧ gk18 < wk19.heap.size ∧ w.heap.size ≤ wk19.heap.size) := by
        have h := HO.out
        have l := HLT.out
        show _ ∧ _
        omega
      clear hsz
      have HLT : Hid (wk19.heap.size < (wk19.alloc (.cells (mZ.cells) 52)).heap.size) := by show _ < _; simp
      generalize wk19.alloc (.cells (mZ.cells) 52) = wk20 at HPl HIn HX HN HMs HK HLT hH HPM ⊢
      generalize wk19.heap.size = gk21 at HMs HO HLT ⊢
      try simp only [Act.put, sA, s0, s1]
      refine any_store (i := 16) (o := { dst := none, op := Op.store 29 (Operand.tmp 10) (Operand.tmp 31), type := 0, pos := "outright.go:128", after := #[{ on := 14, ground := Ground.data }, { on := 11, ground := Ground.data }, { on := 9, ground := Ground.chain }, { on := 0, ground := Ground.phase }, { on := 1, ground := Ground.phase }, { on := 2, ground := Ground.phase }, { on := 3, ground := Ground.phase }, { on := 4, ground := Ground.phase }, { on := 5, ground := Ground.phase }, { on := 6, ground := Ground.phase }, { on := 7, ground := Ground.phase }, { on := 8, ground := Ground.phase }, { on := 9, ground := Ground.phase }, { on := 10, ground := Ground.phase }, { on := 11, ground := Ground.phase }, { on := 12, ground := Ground.textOnly Departure.lateStores }, { on := 13, ground := Ground.textOnly Departure.lateStores }, { on := 14, ground := Ground.phase }, { on := 15, ground := Ground.phase }], guard := none }) rfl (by kernel_rfl) (by kernel_rfl) 29 _ _ rfl ⟨gk18, 0, none⟩ (.agg ((prepI i0 x.v.b).cells)) (by kernel_rfl) (by kernel_rfl) (store_I HN.out rfl) (⟨hH.1.rowNe (by have := HO.out; omega) _, hH.2.1.rowNe (by have := HO.out; omega) _, hH.2.2.rowNe (by have := HO.out; omega) _⟩) (fun hH => ?_)
      have HLT : Hid (gk21 < (wk20.setRow gk18 ((prepI i0 x.v.b).cells)).heap.size) := by show _ < _; rw [setRow_size]; exact HLT.out
      have HPM : Hid (PM w0 (wk20.setRow gk18 ((prepI i0 x.v.b).cells)) p bI (some ⟨lg, 0, none⟩) lc (st) (xs) (none)) := HPM.out.far HPB.out (Kept.setRow _ _ _) (fun q e => by have e : q = gk18 := e; have := HO.out; omega)
      have HPl : Hid (Box (wk20.setRow gk18 ((prepI i0 x.v.b).cells)) (p) 69 ((playC st.f bI st.is.length (some ⟨lg, 0, none⟩) xs.length lc st.dec).toArray)) := HPl.out.rowNe (by have := HO.out; omega) _
      have HIn : Hid (Box (wk20.setRow gk18 ((prepI i0 x.v.b).cells)) (bI) 29 ((st.is.map In.cs).flatten.toArray)) := HIn.out.rowNe (by have := HO.out; omega) _
      have HX : Hid (Box (wk20.setRow gk18 ((prepI i0 x.v.b).cells)) (X) 87 (x.cells)) := HX.out.rowNe (by have := HO.out; omega) _
      have HN : Hid (Box (wk20.setRow gk18 ((prepI i0 x.v.b).cells)) (gk18) 29 ((prepI i0 x.v.b).cells)) := HN.out.setRow _
      have HMs : Hid (Box (wk20.setRow gk18 ((prepI i0 x.v.b).cells)) (gk21) 52 (mZ.cells)) := HMs.out.rowNe (by have := HO.out; omega) _
      have HK : Hid (Kept (PSet p bI (some ⟨lg, 0, none⟩) xs) w (wk20.setRow gk18 ((prepI i0 x.v.b).cells))) := HK.out.newRowS (by have := HO.out; omega) _
      generalize wk20.setRow gk18 ((prepI i0 x.v.b).cells) = wk22 at HPl HIn HX HN HMs HK HLT hH HPM ⊢
      refine any_store (i := 17) (o := { dst := none, op := Op.store 52 (Operand.tmp 11) (Operand.tmp 32), type := 0, pos := "outright.go:128", after := #[{ on := 15, ground := Ground.data }, { on := 12, ground := Ground.data }, { on := 16, ground := Ground.chain }, { on := 0, ground := Ground.phase }, { on := 1, ground := Ground.phase }, { on := 2, ground := Ground.phase }, { on := 3, ground := Ground.phase }, { on := 4, ground := Ground.phase }, { on := 5, ground := Ground.phase }, { on := 6, ground := Ground.phase }, { on := 7, ground := Ground.phase }, { on := 8, ground := Ground.phase }, { on := 9, ground := Ground.phase }, { on := 10, ground := Ground.phase }, { on := 11, ground := Ground.phase }, { on := 12, ground := Ground.phase }, { on := 13, ground := Ground.textOnly Departure.lateStores }, { on := 14, ground := Ground.phase }, { on := 15, ground := Ground.phase }, { on := 16, ground := Ground.phase }], guard := none }) rfl (by kernel_rfl) (by kernel_rfl) 52 _ _ rfl ⟨gk21, 0, none⟩ (.agg ((prepM i0 x.v.b).cells)) (by kernel_rfl) (by kernel_rfl) (store_M HMs.out rfl) (⟨hH.1.rowNe (by have := HO.out; omega) _, hH.2.1.rowNe (by have := HO.out; omega) _, hH.2.2.rowNe (by have := HO.out; omega) _⟩) (fun hH => ?_)
      have HLT : Hid (gk21 < (wk22.setRow gk21 ((prepM i0 x.v.b).cells)).heap.size) := by show _ < _; rw [setRow_size]; exact HLT.out
      have HPM : Hid (PM w0 (wk22.setRow gk21 ((prepM i0 x.v.b).cells)) p bI (some ⟨lg, 0, none⟩) lc (st) (xs) (none)) := HPM.out.far HPB.out (Kept.setRow _ _ _) (fun q e => by have e : q = gk21 := e; have := HO.out; omega)
      have HPl : Hid (Box (wk22.setRow gk21 ((prepM i0 x.v.b).cells)) (p) 69 ((playC st.f bI st.is.length (some ⟨lg, 0, none⟩) xs.length lc st.dec).toArray)) := HPl.out.rowNe (by have := HO.out; omega) _
      have HIn : Hid (Box (wk22.setRow gk21 ((prepM i0 x.v.b).cells)) (bI) 29 ((st.is.map In.cs).flatten.toArray)) := HIn.out.rowNe (by have := HO.out; omega) _
      have HX : Hid (Box (wk22.setRow gk21 ((prepM i0 x.v.b).cells)) (X) 87 (x.cells)) := HX.out.rowNe (by have := HO.out; omega) _
      have HN : Hid (Box (wk22.setRow gk21 ((prepM i0 x.v.b).cells)) (gk18) 29 ((prepI i0 x.v.b).cells)) := HN.out.rowNe (by have := HO.out; omega) _
      have HMs : Hid (Box (wk22.setRow gk21 ((prepM i0 x.v.b).cells)) (gk21) 52 ((prepM i0 x.v.b).cells)) := HMs.out.setRow _
      have HK : Hid (Kept (PSet p bI (some ⟨lg, 0, none⟩) xs) w (wk22.setRow gk21 ((prepM i0 x.v.b).cells))) := HK.out.newRowS (by have := HO.out; omega) _
      generalize wk22.setRow gk21 ((prepM i0 x.v.b).cells) = wk23 at HPl HIn HX HN HMs HK HLT hH HPM ⊢
      refine any_take (i := 18) (oi := { dst := some 12, op := Op.assign (Operand.tmp 33), type := 4, pos := "outright.go:128", after := #[{ on := 13, ground := Ground.data }, { on := 17, ground := Ground.chain }, { on := 0, ground := Ground.phase }, { on := 1, ground := Ground.phase }, { on := 2, ground := Ground.phase }, { on := 3, ground := Ground.phase }, { on := 4, ground := Ground.phase }, { on := 5, ground := Ground.phase }, { on := 6, ground := Ground.phase }, { on := 7, ground := Ground.phase }, { on := 8, ground := Ground.phase }, { on := 9, ground := Ground.phase }, { on := 10, ground := Ground.phase }, { on := 11, ground := Ground.phase }, { on := 12, ground := Ground.phase }, { on := 13, ground := Ground.phase }, { on := 14, ground := Ground.phase }, { on := 15, ground := Ground.phase }, { on := 16, ground := Ground.phase }, { on := 17, ground := Ground.phase }], guard := none }) (v := .bool (prepB i0 x.v.b)) rfl (by kernel_rfl) (by kernel_rfl) (by kernel_rfl) (fun _ _ _ h => h) (by kernel_rfl) (fun _ _ => by kernel_rfl) hH ?_
      try simp only [Act.put, sA, s0, s1]
      refine wpAnyH_done (by kernel_rfl) ?_ _
      try simp only [Act.put, sA, s0, s1]
      exact hh _ gk18 gk21 ⟨HK.out, HPM.out, HPl.out, HX.out, HN.out, HMs.out, by have := HO.out; omega, Nat.lt_of_le_of_lt (by have := HO.out; omega) HLT.out⟩
     ·skip
      clear hi
      refine step_run (i := 15) (o := { dst := some 11, op := Op.alloc 52, type := 0, pos := "outright.go:128", after := #[], guard := none }) rfl (by kernel_rfl) (exec_alloc 52 rfl _ zero52) ⟨HPl.out.alloc _, HIn.out.alloc _, HX.out.alloc _⟩ (fun hH => ?_)
      have HMs : Hid (Box (wk17.alloc (.cells (mZ.cells) 52)) wk17.heap.size 52 (mZ.cells)) := Box.new _ _ _
      have HPl : Hid (Box (wk17.alloc (.cells (mZ.cells) 52)) (p) 69 ((playC st.f bI st.is.length (some ⟨lg, 0, none⟩) xs.length lc st.dec).toArray)) := HPl.out.alloc _
      have HIn : Hid (Box (wk17.alloc (.cells (mZ.cells) 52)) (bI) 29 ((st.is.map In.cs).flatten.toArray)) := HIn.out.alloc _
      have HX : Hid (Box (wk17.alloc (.cells (mZ.cells) 52)) (X) 87 (x.cells)) := HX.out.alloc _
      have HN : Hid (Box (wk17.alloc (.cells (mZ.cells) 52)) (gk18) 29 (iZ.cells)) := HN.out.alloc _
      have hsz := HK.out.size
      have HK : Hid (Kept (PSet p bI (some ⟨lg, 0, none⟩) xs) w (wk17.alloc (.cells (mZ.cells) 52))) := HK.out.alloc _
      have HPM : Hid (PM w0 (wk17.alloc (.cells (mZ.cells) 52)) p bI (some ⟨lg, 0, none⟩) lc (st) (xs) (none)) := HPM.out.no ((Kept.refl No _).alloc _)
      have HO : Hid (p < w.heap.size ∧ bI < w.heap.size ∧ lg < w.heap.size ∧ p ≠ bI ∧ p ≠ lg ∧ bI ≠ lg ∧ w.heap.size ≤ X ∧ w.heap.size ≤ gk18 ∧ X < gk18 ∧ gk18 < wk17.heap.size ∧ w.heap.size ≤ wk17.heap.size) := by
        have h := HO.out
        have l := HLT.out
        show _ ∧ _
        omega
      clear hsz
      have HLT : Hid (wk17.heap.size < (wk17.alloc (.cells (mZ.cells) 52)).heap.size) := by show _ < _; simp
      generalize wk17.alloc (.cells (mZ.cells) 52) = wk24 at HPl HIn HX HN HMs HK HLT hH HPM ⊢
      generalize wk17.heap.size = gk25 at HMs HO HLT ⊢
      try simp only [Act.put, sA, s0, s1]
      refine any_call (i := 9) (o := { dst := some 30, op := Op.call { callee := Callee.value (Operand.func 11), args := #[Operand.tmp 27, Operand.tmp 29], argTypes := #[29, 23] }, type := 53, pos := "outright.go:128", after := #[{ on := 6, ground := Ground.data }, { on := 8, ground := Ground.data }], guard := none }) rfl (by kernel_rfl) (by kernel_rfl) 11 #[.agg i0.cells, .agg #[.int .i64 x.v.b.n, .int .i64 x.v.b.c]] (by kernel_rfl) _ (prep_any i0 x.v.b _) ?_
      rintro e wk26 ⟨rfl, hk⟩
      have HPl : Hid (Box wk26 (p) 69 ((playC st.f bI st.is.length (some ⟨lg, 0, none⟩) xs.length lc st.dec).toArray)) := HPl.out.kept hk (fun e => e)
      have HIn : Hid (Box wk26 (bI) 29 ((st.is.map In.cs).flatten.toArray)) := HIn.out.kept hk (fun e => e)
      have HX : Hid (Box wk26 (X) 87 (x.cells)) := HX.out.kept hk (fun e => e)
      have HN : Hid (Box wk26 (gk18) 29 (iZ.cells)) := HN.out.kept hk (fun e => e)
      have HMs : Hid (Box wk26 (gk25) 52 (mZ.cells)) := HMs.out.kept hk (fun e => e)
      have HK : Hid (Kept (PSet p bI (some ⟨lg, 0, none⟩) xs) w wk26) := HK.out.thenNo hk
      have HPM : Hid (PM w0 (wk26) p bI (some ⟨lg, 0, none⟩) lc (st) (xs) (none)) := HPM.out.no hk
      have HLT : Hid (gk25 < wk26.heap.size) := Nat.lt_of_lt_of_le HLT.out hk.size
      clear hk
      refine ⟨.tuple #[.agg ((prepI i0 x.v.b).cells), .agg ((prepM i0 x.v.b).cells), .bool (prepB i0 x.v.b)], rfl, ⟨HPl.out, HIn.out, HX.out⟩, fun hH => ?_⟩
      try simp only [Act.put, sA, s0, s1]
      refine any_take (i := 10) (oi := { dst := some 20, op := Op.move (Operand.tmp 30), type := 53, pos := "outright.go:128", after := #[{ on := 9, ground := Ground.data }], guard := none }) (v := .tuple #[.agg ((prepI i0 x.v.b).cells), .agg ((prepM i0 x.v.b).cells), .bool (prepB i0 x.v.b)]) rfl (by kernel_rfl) (by kernel_rfl) (by kernel_rfl) (fun _ _ _ h => h) (by kernel_rfl) (fun _ _ => by kernel_rfl) hH ?_
      try simp only [Act.put, sA, s0, s1]
      refine any_take (i := 11) (oi := { dst := some 31, op := Op.extract (Operand.tmp 20) 0, type := 29, pos := "outright.go:128", after := #[{ on := 10, ground := Ground.data }], guard := none }) (v := .agg ((prepI i0 x.v.b).cells)) rfl (by kernel_rfl) (by kernel_rfl) (by kernel_rfl) (fun _ _ _ h => h) (by kernel_rfl) (fun _ _ => by kernel_rfl) hH ?_
      try simp only [Act.put, sA, s0, s1]
      refine any_take (i := 12) (oi := { dst := some 32, op := Op.extract (Operand.tmp 20) 1, type := 52, pos := "outright.go:128", after := #[{ on := 10, ground := Ground.data }, { on := 16, ground := Ground.gcOnly Departure.lateStores }], guard := none }) (v := .agg ((prepM i0 x.v.b).cells)) rfl (by kernel_rfl) (by kernel_rfl) (by kernel_rfl) (fun _ _ _ h => h) (by kernel_rfl) (fun _ _ => by kernel_rfl) hH ?_
      try simp only [Act.put, sA, s0, s1]
      refine any_take (i := 13) (oi := { dst := some 33, op := Op.extract (Operand.tmp 20) 2, type := 4, pos := "outright.go:128", after := #[{ on := 10, ground := Ground.data }, { on := 17, ground := Ground.gcOnly Departure.lateStores }], guard := none }) (v := .bool (prepB i0 x.v.b)) rfl (by kernel_rfl) (by kernel_rfl) (by kernel_rfl) (fun _ _ _ h => h) (by kernel_rfl) (fun _ _ => by kernel_rfl) hH ?_
      try simp only [Act.put, sA, s0, s1]
      refine any_store (i := 16) (o := { dst := none, op := Op.store 29 (Operand.tmp 10) (Operand.tmp 31), type := 0, pos := "outright.go:128", after := #[{ on := 14, ground := Ground.data }, { on := 11, ground := Ground.data }, { on := 9, ground := Ground.chain }, { on := 0, ground := Ground.phase }, { on := 1, ground := Ground.phase }, { on := 2, ground := Ground.phase }, { on := 3, ground := Ground.phase }, { on := 4, ground := Ground.phase }, { on := 5, ground := Ground.phase }, { on := 6, ground := Ground.phase }, { on := 7, ground := Ground.phase }, { on := 8, ground := Ground.phase }, { on := 9, ground := Ground.phase }, { on := 10, ground := Ground.phase }, { on := 11, ground := Ground.phase }, { on := 12, ground := Ground.textOnly Departure.lateStores }, { on := 13, ground := Ground.textOnly Departure.lateStores }, { on := 14, ground := Ground.phase }, { on := 15, ground := Ground.phase }], guard := none }) rfl (by kernel_rfl) (by kernel_rfl) 29 _ _ rfl ⟨gk18, 0, none⟩ (.agg ((prepI i0 x.v.b).cells)) (by kernel_rfl) (by kernel_rfl) (store_I HN.out rfl) (⟨hH.1.rowNe (by have := HO.out; omega) _, hH.2.1.rowNe (by have := HO.out; omega) _, hH.2.2.rowNe (by have := HO.out; omega) _⟩) (fun hH => ?_)
      have HLT : Hid (gk25 < (wk26.setRow gk18 ((prepI i0 x.v.b).cells)).heap.size) := by show _ < _; rw [setRow_size]; exact HLT.out
      have HPM : Hid (PM w0 (wk26.setRow gk18 ((prepI i0 x.v.b).cells)) p bI (some ⟨lg, 0, none⟩) lc (st) (xs) (none)) := HPM.out.far HPB.out (Kept.setRow _ _ _) (fun q e => by have e : q = gk18 := e; have := HO.out; omega)
      have HPl : Hid (Box (wk26.setRow gk18 ((prepI i0 x.v.b).cells)) (p) 69 ((playC st.f bI st.is.length (some ⟨lg, 0, none⟩) xs.length lc st.dec).toArray)) := HPl.out.rowNe (by have := HO.out; omega) _
      have HIn : Hid (Box (wk26.setRow gk18 ((prepI i0 x.v.b).cells)) (bI) 29 ((st.is.map In.cs).flatten.toArray)) := HIn.out.rowNe (by have := HO.out; omega) _
      have HX : Hid (Box (wk26.setRow gk18 ((prepI i0 x.v.b).cells)) (X) 87 (x.cells)) := HX.out.rowNe (by have := HO.out; omega) _
      have HN : Hid (Box (wk26.setRow gk18 ((prepI i0 x.v.b).cells)) (gk18) 29 ((prepI i0 x.v.b).cells)) := HN.out.setRow _
      have HMs : Hid (Box (wk26.setRow gk18 ((prepI i0 x.v.b).cells)) (gk25) 52 (mZ.cells)) := HMs.out.rowNe (by have := HO.out; omega) _
      have HK : Hid (Kept (PSet p bI (some ⟨lg, 0, none⟩) xs) w (wk26.setRow gk18 ((prepI i0 x.v.b).cells))) := HK.out.newRowS (by have := HO.out; omega) _
      generalize wk26.setRow gk18 ((prepI i0 x.v.b).cells) = wk27 at HPl HIn HX HN HMs HK HLT hH HPM ⊢
      refine any_store (i := 17) (o := { dst := none, op := Op.store 52 (Operand.tmp 11) (Operand.tmp 32), type := 0, pos := "outright.go:128", after := #[{ on := 15, ground := Ground.data }, { on := 12, ground := Ground.data }, { on := 16, ground := Ground.chain }, { on := 0, ground := Ground.phase }, { on := 1, ground := Ground.phase }, { on := 2, ground := Ground.phase }, { on := 3, ground := Ground.phase }, { on := 4, ground := Ground.phase }, { on := 5, ground := Ground.phase }, { on := 6, ground := Ground.phase }, { on := 7, ground := Ground.phase }, { on := 8, ground := Ground.phase }, { on := 9, ground := Ground.phase }, { on := 10, ground := Ground.phase }, { on := 11, ground := Ground.phase }, { on := 12, ground := Ground.phase }, { on := 13, ground := Ground.textOnly Departure.lateStores }, { on := 14, ground := Ground.phase }, { on := 15, ground := Ground.phase }, { on := 16, ground := Ground.phase }], guard := none }) rfl (by kernel_rfl) (by kernel_rfl) 52 _ _ rfl ⟨gk25, 0, none⟩ (.agg ((prepM i0 x.v.b).cells)) (by kernel_rfl) (by kernel_rfl) (store_M HMs.out rfl) (⟨hH.1.rowNe (by have := HO.out; omega) _, hH.2.1.rowNe (by have := HO.out; omega) _, hH.2.2.rowNe (by have := HO.out; omega) _⟩) (fun hH => ?_)
      have HLT : Hid (gk25 < (wk27.setRow gk25 ((prepM i0 x.v.b).cells)).heap.size) := by show _ < _; rw [setRow_size]; exact HLT.out
      have HPM : Hid (PM w0 (wk27.setRow gk25 ((prepM i0 x.v.b).cells)) p bI (some ⟨lg, 0, none⟩) lc (st) (xs) (none)) := HPM.out.far HPB.out (Kept.setRow _ _ _) (fun q e => by have e : q = gk25 := e; have := HO.out; omega)
      have HPl : Hid (Box (wk27.setRow gk25 ((prepM i0 x.v.b).cells)) (p) 69 ((playC st.f bI st.is.length (some ⟨lg, 0, none⟩) xs.length lc st.dec).toArray)) := HPl.out.rowNe (by have := HO.out; omega) _
      have HIn : Hid (Box (wk27.setRow gk25 ((prepM i0 x.v.b).cells)) (bI) 29 ((st.is.map In.cs).flatten.toArray)) := HIn.out.rowNe (by have := HO.out; omega) _
      have HX : Hid (Box (wk27.setRow gk25 ((prepM i0 x.v.b).cells)) (X) 87 (x.cells)) := HX.out.rowNe (by have := HO.out; omega) _
      have HN : Hid (Box (wk27.setRow gk25 ((prepM i0 x.v.b).cells)) (gk18) 29 ((prepI i0 x.v.b).cells)) := HN.out.rowNe (by have := HO.out; omega) _
      have HMs : Hid (Box (wk27.setRow gk25 ((prepM i0 x.v.b).cells)) (gk25) 52 ((prepM i0 x.v.b).cells)) := HMs.out.setRow _
      have HK : Hid (Kept (PSet p bI (some ⟨lg, 0, none⟩) xs) w (wk27.setRow gk25 ((prepM i0 x.v.b).cells))) := HK.out.newRowS (by have := HO.out; omega) _
      generalize wk27.setRow gk25 ((prepM i0 x.v.b).cells) = wk28 at HPl HIn HX HN HMs HK HLT hH HPM ⊢
      refine any_take (i := 18) (oi := { dst := some 12, op := Op.assign (Operand.tmp 33), type := 4, pos := "outright.go:128", after := #[{ on := 13, ground := Ground.data }, { on := 17, ground := Ground.chain }, { on := 0, ground := Ground.phase }, { on := 1, ground := Ground.phase }, { on := 2, ground := Ground.phase }, { on := 3, ground := Ground.phase }, { on := 4, ground := Ground.phase }, { on := 5, ground := Ground.phase }, { on := 6, ground := Ground.phase }, { on := 7, ground := Ground.phase }, { on := 8, ground := Ground.phase }, { on := 9, ground := Ground.phase }, { on := 10, ground := Ground.phase }, { on := 11, ground := Ground.phase }, { on := 12, ground := Ground.phase }, { on := 13, ground := Ground.phase }, { on := 14, ground := Ground.phase }, { on := 15, ground := Ground.phase }, { on := 16, ground := Ground.phase }, { on := 17, ground := Ground.phase }], guard := none }) (v := .bool (prepB i0 x.v.b)) rfl (by kernel_rfl) (by kernel_rfl) (by kernel_rfl) (fun _ _ _ h => h) (by kernel_rfl) (fun _ _ => by kernel_rfl) hH ?_
      try simp only [Act.put, sA, s0, s1]
      refine wpAnyH_done (by kernel_rfl) ?_ _
      try simp only [Act.put, sA, s0, s1]
      exact hh _ gk18 gk25 ⟨HK.out, HPM.out, HPl.out, HX.out, HN.out, HMs.out, by have := HO.out; omega, Nat.lt_of_le_of_lt (by have := HO.out; omega) HLT.out⟩
    ·skip
     clear hi
     refine step_run (i := 15) (o := { dst := some 11, op := Op.alloc 52, type := 0, pos := "outright.go:128", after := #[], guard := none }) rfl (by kernel_rfl) (exec_alloc 52 rfl _ zero52) ⟨HPl.out.alloc _, HIn.out.alloc _, HX.out.alloc _⟩ (fun hH => ?_)
     have HMs : Hid (Box (wk3.alloc (.cells (mZ.cells) 52)) wk3.heap.size 52 (mZ.cells)) := Box.new _ _ _
     have HPl : Hid (Box (wk3.alloc (.cells (mZ.cells) 52)) (p) 69 ((playC st.f bI st.is.length (some ⟨lg, 0, none⟩) xs.length lc st.dec).toArray)) := HPl.out.alloc _
     have HIn : Hid (Box (wk3.alloc (.cells (mZ.cells) 52)) (bI) 29 ((st.is.map In.cs).flatten.toArray)) := HIn.out.alloc _
     have HX : Hid (Box (wk3.alloc (.cells (mZ.cells) 52)) (X) 87 (x.cells)) := HX.out.alloc _
     have hsz := HK.out.size
     have HK : Hid (Kept (PSet p bI (some ⟨lg, 0, none⟩) xs) w (wk3.alloc (.cells (mZ.cells) 52))) := HK.out.alloc _
     have HPM : Hid (PM w0 (wk3.alloc (.cells (mZ.cells) 52)) p bI (some ⟨lg, 0, none⟩) lc (st) (xs) (none)) := HPM.out.no ((Kept.refl No _).alloc _)
     have HO : Hid (p < w.heap.size ∧ bI < w.heap.size ∧ lg < w.heap.size ∧ p ≠ bI ∧ p ≠ lg ∧ bI ≠ lg ∧ w.heap.size ≤ X ∧ X < wk3.heap.size ∧ w.heap.size ≤ wk3.heap.size) := by
       have h := HO.out
       have l := HLT.out
       show _ ∧ _
       omega
     clear hsz
     have HLT : Hid (wk3.heap.size < (wk3.alloc (.cells (mZ.cells) 52)).heap.size) := by show _ < _; simp
     generalize wk3.alloc (.cells (mZ.cells) 52) = wk29 at HPl HIn HX HMs HK HLT hH HPM ⊢
     generalize wk3.heap.size = gk30 at HMs HO HLT ⊢
     try simp only [Act.put, sA, s0, s1]
     refine any_pick (rs := [9, 14]) (by kernel_rfl) (by simp) ?_
     intro i hi
     rcases pick2 hi with rfl | rfl
     ·skip
      clear hi
      refine step_call (i := 9) (o := { dst := some 30, op := Op.call { callee := Callee.value (Operand.func 11), args := #[Operand.tmp 27, Operand.tmp 29], argTypes := #[29, 23] }, type := 53, pos := "outright.go:128", after := #[{ on := 6, ground := Ground.data }, { on := 8, ground := Ground.data }], guard := none }) rfl (by kernel_rfl) 11 #[.agg i0.cells, .agg #[.int .i64 x.v.b.n, .int .i64 x.v.b.c]] (by kernel_rfl) _ (prep_any i0 x.v.b _) ?_
      rintro e wk31 ⟨rfl, hk⟩
      have HPl : Hid (Box wk31 (p) 69 ((playC st.f bI st.is.length (some ⟨lg, 0, none⟩) xs.length lc st.dec).toArray)) := HPl.out.kept hk (fun e => e)
      have HIn : Hid (Box wk31 (bI) 29 ((st.is.map In.cs).flatten.toArray)) := HIn.out.kept hk (fun e => e)
      have HX : Hid (Box wk31 (X) 87 (x.cells)) := HX.out.kept hk (fun e => e)
      have HMs : Hid (Box wk31 (gk30) 52 (mZ.cells)) := HMs.out.kept hk (fun e => e)
      have HK : Hid (Kept (PSet p bI (some ⟨lg, 0, none⟩) xs) w wk31) := HK.out.thenNo hk
      have HPM : Hid (PM w0 (wk31) p bI (some ⟨lg, 0, none⟩) lc (st) (xs) (none)) := HPM.out.no hk
      have HLT : Hid (gk30 < wk31.heap.size) := Nat.lt_of_lt_of_le HLT.out hk.size
      clear hk
      refine ⟨.tuple #[.agg ((prepI i0 x.v.b).cells), .agg ((prepM i0 x.v.b).cells), .bool (prepB i0 x.v.b)], rfl, ⟨HPl.out, HIn.out, HX.out⟩, fun hH => ?_⟩
      try simp only [Act.put, sA, s0, s1]
      refine any_take (i := 10) (oi := { dst := some 20, op := Op.move (Operand.tmp 30), type := 53, pos := "outright.go:128", after := #[{ on := 9, ground := Ground.data }], guard := none }) (v := .tuple #[.agg ((prepI i0 x.v.b).cells), .agg ((prepM i0 x.v.b).cells), .bool (prepB i0 x.v.b)]) rfl (by kernel_rfl) (by kernel_rfl) (by kernel_rfl) (fun _ _ _ h => h) (by kernel_rfl) (fun _ _ => by kernel_rfl) hH ?_
      try simp only [Act.put, sA, s0, s1]
      refine any_take (i := 11) (oi := { dst := some 31, op := Op.extract (Operand.tmp 20) 0, type := 29, pos := "outright.go:128", after := #[{ on := 10, ground := Ground.data }], guard := none }) (v := .agg ((prepI i0 x.v.b).cells)) rfl (by kernel_rfl) (by kernel_rfl) (by kernel_rfl) (fun _ _ _ h => h) (by kernel_rfl) (fun _ _ => by kernel_rfl) hH ?_
      try simp only [Act.put, sA, s0, s1]
      refine any_take (i := 12) (oi := { dst := some 32, op := Op.extract (Operand.tmp 20) 1, type := 52, pos := "outright.go:128", after := #[{ on := 10, ground := Ground.data }, { on := 16, ground := Ground.gcOnly Departure.lateStores }], guard := none }) (v := .agg ((prepM i0 x.v.b).cells)) rfl (by kernel_rfl) (by kernel_rfl) (by kernel_rfl) (fun _ _ _ h => h) (by kernel_rfl) (fun _ _ => by kernel_rfl) hH ?_
      try simp only [Act.put, sA, s0, s1]
      refine any_take (i := 13) (oi := { dst := some 33, op := Op.extract (Operand.tmp 20) 2, type := 4, pos := "outright.go:128", after := #[{ on := 10, ground := Ground.data }, { on := 17, ground := Ground.gcOnly Departure.lateStores }], guard := none }) (v := .bool (prepB i0 x.v.b)) rfl (by kernel_rfl) (by kernel_rfl) (by kernel_rfl) (fun _ _ _ h => h) (by kernel_rfl) (fun _ _ => by kernel_rfl) hH ?_
      try simp only [Act.put, sA, s0, s1]
      refine any_step (i := 14) (o := { dst := some 10, op := Op.alloc 29, type := 0, pos := "outright.go:128", after := #[], guard := none }) rfl (by kernel_rfl) (by kernel_rfl) (exec_alloc 29 rfl _ zero29) ⟨HPl.out.alloc _, HIn.out.alloc _, HX.out.alloc _⟩ (fun hH => ?_)
      have HN : Hid (Box (wk31.alloc (.cells (iZ.cells) 29)) wk31.heap.size 29 (iZ.cells)) := Box.new _ _ _
      have HPl : Hid (Box (wk31.alloc (.cells (iZ.cells) 29)) (p) 69 ((playC st.f bI st.is.length (some ⟨lg, 0, none⟩) xs.length lc st.dec).toArray)) := HPl.out.alloc _
      have HIn : Hid (Box (wk31.alloc (.cells (iZ.cells) 29)) (bI) 29 ((st.is.map In.cs).flatten.toArray)) := HIn.out.alloc _
      have HX : Hid (Box (wk31.alloc (.cells (iZ.cells) 29)) (X) 87 (x.cells)) := HX.out.alloc _
      have HMs : Hid (Box (wk31.alloc (.cells (iZ.cells) 29)) (gk30) 52 (mZ.cells)) := HMs.out.alloc _
      have hsz := HK.out.size
      have HK : Hid (Kept (PSet p bI (some ⟨lg, 0, none⟩) xs) w (wk31.alloc (.cells (iZ.cells) 29))) := HK.out.alloc _
      have HPM : Hid (PM w0 (wk31.alloc (.cells (iZ.cells) 29)) p bI (some ⟨lg, 0, none⟩) lc (st) (xs) (none)) := HPM.out.no ((Kept.refl No _).alloc _)
      have HO : Hid (p < w.heap.size ∧ bI < w.heap.size ∧ lg < w.heap.size ∧ p ≠ bI ∧ p ≠ lg ∧ bI ≠ lg ∧ w.heap.size ≤ X ∧ w.heap.size ≤ gk30 ∧ X < gk30 ∧ gk30 < wk31.heap.size ∧ w.heap.size ≤ wk31.heap.size) := by
        have h := HO.out
        have l := HLT.out
        show _ ∧ _
        omega
      clear hsz
      have HLT : Hid (wk31.heap.size < (wk31.alloc (.cells (iZ.cells) 29)).heap.size) := by show _ < _; simp
      generalize wk31.alloc (.cells (iZ.cells) 29) = wk32 at HPl HIn HX HMs HN HK HLT hH HPM ⊢
      generalize wk31.heap.size = gk33 at HN HO HLT ⊢
      try simp only [Act.put, sA, s0, s1]
      refine any_store (i := 16) (o := { dst := none, op := Op.store 29 (Operand.tmp 10) (Operand.tmp 31), type := 0, pos := "outright.go:128", after := #[{ on := 14, ground := Ground.data }, { on := 11, ground := Ground.data }, { on := 9, ground := Ground.chain }, { on := 0, ground := Ground.phase }, { on := 1, ground := Ground.phase }, { on := 2, ground := Ground.phase }, { on := 3, ground := Ground.phase }, { on := 4, ground := Ground.phase }, { on := 5, ground := Ground.phase }, { on := 6, ground := Ground.phase }, { on := 7, ground := Ground.phase }, { on := 8, ground := Ground.phase }, { on := 9, ground := Ground.phase }, { on := 10, ground := Ground.phase }, { on := 11, ground := Ground.phase }, { on := 12, ground := Ground.textOnly Departure.lateStores }, { on := 13, ground := Ground.textOnly Departure.lateStores }, { on := 14, ground := Ground.phase }, { on := 15, ground := Ground.phase }], guard := none }) rfl (by kernel_rfl) (by kernel_rfl) 29 _ _ rfl ⟨gk33, 0, none⟩ (.agg ((prepI i0 x.v.b).cells)) (by kernel_rfl) (by kernel_rfl) (store_I HN.out rfl) (⟨hH.1.rowNe (by have := HO.out; omega) _, hH.2.1.rowNe (by have := HO.out; omega) _, hH.2.2.rowNe (by have := HO.out; omega) _⟩) (fun hH => ?_)
      have HLT : Hid (gk33 < (wk32.setRow gk33 ((prepI i0 x.v.b).cells)).heap.size) := by show _ < _; rw [setRow_size]; exact HLT.out
      have HPM : Hid (PM w0 (wk32.setRow gk33 ((prepI i0 x.v.b).cells)) p bI (some ⟨lg, 0, none⟩) lc (st) (xs) (none)) := HPM.out.far HPB.out (Kept.setRow _ _ _) (fun q e => by have e : q = gk33 := e; have := HO.out; omega)
      have HPl : Hid (Box (wk32.setRow gk33 ((prepI i0 x.v.b).cells)) (p) 69 ((playC st.f bI st.is.length (some ⟨lg, 0, none⟩) xs.length lc st.dec).toArray)) := HPl.out.rowNe (by have := HO.out; omega) _
      have HIn : Hid (Box (wk32.setRow gk33 ((prepI i0 x.v.b).cells)) (bI) 29 ((st.is.map In.cs).flatten.toArray)) := HIn.out.rowNe (by have := HO.out; omega) _
      have HX : Hid (Box (wk32.setRow gk33 ((prepI i0 x.v.b).cells)) (X) 87 (x.cells)) := HX.out.rowNe (by have := HO.out; omega) _
      have HMs : Hid (Box (wk32.setRow gk33 ((prepI i0 x.v.b).cells)) (gk30) 52 (mZ.cells)) := HMs.out.rowNe (by have := HO.out; omega) _
      have HN : Hid (Box (wk32.setRow gk33 ((prepI i0 x.v.b).cells)) (gk33) 29 ((prepI i0 x.v.b).cells)) := HN.out.setRow _
      have HK : Hid (Kept (PSet p bI (some ⟨lg, 0, none⟩) xs) w (wk32.setRow gk33 ((prepI i0 x.v.b).cells))) := HK.out.newRowS (by have := HO.out; omega) _
      generalize wk32.setRow gk33 ((prepI i0 x.v.b).cells) = wk34 at HPl HIn HX HMs HN HK HLT hH HPM ⊢
      refine any_store (i := 17) (o := { dst := none, op := Op.store 52 (Operand.tmp 11) (Operand.tmp 32), type := 0, pos := "outright.go:128", after := #[{ on := 15, ground := Ground.data }, { on := 12, ground := Ground.data }, { on := 16, ground := Ground.chain }, { on := 0, ground := Ground.phase }, { on := 1, ground := Ground.phase }, { on := 2, ground := Ground.phase }, { on := 3, ground := Ground.phase }, { on := 4, ground := Ground.phase }, { on := 5, ground := Ground.phase }, { on := 6, ground := Ground.phase }, { on := 7, ground := Ground.phase }, { on := 8, ground := Ground.phase }, { on := 9, ground := Ground.phase }, { on := 10, ground := Ground.phase }, { on := 11, ground := Ground.phase }, { on := 12, ground := Ground.phase }, { on := 13, ground := Ground.textOnly Departure.lateStores }, { on := 14, ground := Ground.phase }, { on := 15, ground := Ground.phase }, { on := 16, ground := Ground.phase }], guard := none }) rfl (by kernel_rfl) (by kernel_rfl) 52 _ _ rfl ⟨gk30, 0, none⟩ (.agg ((prepM i0 x.v.b).cells)) (by kernel_rfl) (by kernel_rfl) (store_M HMs.out rfl) (⟨hH.1.rowNe (by have := HO.out; omega) _, hH.2.1.rowNe (by have := HO.out; omega) _, hH.2.2.rowNe (by have := HO.out; omega) _⟩) (fun hH => ?_)
      have HLT : Hid (gk33 < (wk34.setRow gk30 ((prepM i0 x.v.b).cells)).heap.size) := by show _ < _; rw [setRow_size]; exact HLT.out
      have HPM : Hid (PM w0 (wk34.setRow gk30 ((prepM i0 x.v.b).cells)) p bI (some ⟨lg, 0, none⟩) lc (st) (xs) (none)) := HPM.out.far HPB.out (Kept.setRow _ _ _) (fun q e => by have e : q = gk30 := e; have := HO.out; omega)
      have HPl : Hid (Box (wk34.setRow gk30 ((prepM i0 x.v.b).cells)) (p) 69 ((playC st.f bI st.is.length (some ⟨lg, 0, none⟩) xs.length lc st.dec).toArray)) := HPl.out.rowNe (by have := HO.out; omega) _
      have HIn : Hid (Box (wk34.setRow gk30 ((prepM i0 x.v.b).cells)) (bI) 29 ((st.is.map In.cs).flatten.toArray)) := HIn.out.rowNe (by have := HO.out; omega) _
      have HX : Hid (Box (wk34.setRow gk30 ((prepM i0 x.v.b).cells)) (X) 87 (x.cells)) := HX.out.rowNe (by have := HO.out; omega) _
      have HMs : Hid (Box (wk34.setRow gk30 ((prepM i0 x.v.b).cells)) (gk30) 52 ((prepM i0 x.v.b).cells)) := HMs.out.setRow _
      have HN : Hid (Box (wk34.setRow gk30 ((prepM i0 x.v.b).cells)) (gk33) 29 ((prepI i0 x.v.b).cells)) := HN.out.rowNe (by have := HO.out; omega) _
      have HK : Hid (Kept (PSet p bI (some ⟨lg, 0, none⟩) xs) w (wk34.setRow gk30 ((prepM i0 x.v.b).cells))) := HK.out.newRowS (by have := HO.out; omega) _
      generalize wk34.setRow gk30 ((prepM i0 x.v.b).cells) = wk35 at HPl HIn HX HMs HN HK HLT hH HPM ⊢
      refine any_take (i := 18) (oi := { dst := some 12, op := Op.assign (Operand.tmp 33), type := 4, pos := "outright.go:128", after := #[{ on := 13, ground := Ground.data }, { on := 17, ground := Ground.chain }, { on := 0, ground := Ground.phase }, { on := 1, ground := Ground.phase }, { on := 2, ground := Ground.phase }, { on := 3, ground := Ground.phase }, { on := 4, ground := Ground.phase }, { on := 5, ground := Ground.phase }, { on := 6, ground := Ground.phase }, { on := 7, ground := Ground.phase }, { on := 8, ground := Ground.phase }, { on := 9, ground := Ground.phase }, { on := 10, ground := Ground.phase }, { on := 11, ground := Ground.phase }, { on := 12, ground := Ground.phase }, { on := 13, ground := Ground.phase }, { on := 14, ground := Ground.phase }, { on := 15, ground := Ground.phase }, { on := 16, ground := Ground.phase }, { on := 17, ground := Ground.phase }], guard := none }) (v := .bool (prepB i0 x.v.b)) rfl (by kernel_rfl) (by kernel_rfl) (by kernel_rfl) (fun _ _ _ h => h) (by kernel_rfl) (fun _ _ => by kernel_rfl) hH ?_
      try simp only [Act.put, sA, s0, s1]
      refine wpAnyH_done (by kernel_rfl) ?_ _
      try simp only [Act.put, sA, s0, s1]
      exact hh _ gk33 gk30 ⟨HK.out, HPM.out, HPl.out, HX.out, HN.out, HMs.out, by have := HO.out; omega, Nat.lt_of_le_of_lt (by have := HO.out; omega) HLT.out⟩
     ·skip
      clear hi
      refine step_run (i := 14) (o := { dst := some 10, op := Op.alloc 29, type := 0, pos := "outright.go:128", after := #[], guard := none }) rfl (by kernel_rfl) (exec_alloc 29 rfl _ zero29) ⟨HPl.out.alloc _, HIn.out.alloc _, HX.out.alloc _⟩ (fun hH => ?_)
      have HN : Hid (Box (wk29.alloc (.cells (iZ.cells) 29)) wk29.heap.size 29 (iZ.cells)) := Box.new _ _ _
      have HPl : Hid (Box (wk29.alloc (.cells (iZ.cells) 29)) (p) 69 ((playC st.f bI st.is.length (some ⟨lg, 0, none⟩) xs.length lc st.dec).toArray)) := HPl.out.alloc _
      have HIn : Hid (Box (wk29.alloc (.cells (iZ.cells) 29)) (bI) 29 ((st.is.map In.cs).flatten.toArray)) := HIn.out.alloc _
      have HX : Hid (Box (wk29.alloc (.cells (iZ.cells) 29)) (X) 87 (x.cells)) := HX.out.alloc _
      have HMs : Hid (Box (wk29.alloc (.cells (iZ.cells) 29)) (gk30) 52 (mZ.cells)) := HMs.out.alloc _
      have hsz := HK.out.size
      have HK : Hid (Kept (PSet p bI (some ⟨lg, 0, none⟩) xs) w (wk29.alloc (.cells (iZ.cells) 29))) := HK.out.alloc _
      have HPM : Hid (PM w0 (wk29.alloc (.cells (iZ.cells) 29)) p bI (some ⟨lg, 0, none⟩) lc (st) (xs) (none)) := HPM.out.no ((Kept.refl No _).alloc _)
      have HO : Hid (p < w.heap.size ∧ bI < w.heap.size ∧ lg < w.heap.size ∧ p ≠ bI ∧ p ≠ lg ∧ bI ≠ lg ∧ w.heap.size ≤ X ∧ w.heap.size ≤ gk30 ∧ X < gk30 ∧ gk30 < wk29.heap.size ∧ w.heap.size ≤ wk29.heap.size) := by
        have h := HO.out
        have l := HLT.out
        show _ ∧ _
        omega
      clear hsz
      have HLT : Hid (wk29.heap.size < (wk29.alloc (.cells (iZ.cells) 29)).heap.size) := by show _ < _; simp
      generalize wk29.alloc (.cells (iZ.cells) 29) = wk36 at HPl HIn HX HMs HN HK HLT hH HPM ⊢
      generalize wk29.heap.size = gk37 at HN HO HLT ⊢
      try simp only [Act.put, sA, s0, s1]
      refine any_call (i := 9) (o := { dst := some 30, op := Op.call { callee := Callee.value (Operand.func 11), args := #[Operand.tmp 27, Operand.tmp 29], argTypes := #[29, 23] }, type := 53, pos := "outright.go:128", after := #[{ on := 6, ground := Ground.data }, { on := 8, ground := Ground.data }], guard := none }) rfl (by kernel_rfl) (by kernel_rfl) 11 #[.agg i0.cells, .agg #[.int .i64 x.v.b.n, .int .i64 x.v.b.c]] (by kernel_rfl) _ (prep_any i0 x.v.b _) ?_
      rintro e wk38 ⟨rfl, hk⟩
      have HPl : Hid (Box wk38 (p) 69 ((playC st.f bI st.is.length (some ⟨lg, 0, none⟩) xs.length lc st.dec).toArray)) := HPl.out.kept hk (fun e => e)
      have HIn : Hid (Box wk38 (bI) 29 ((st.is.map In.cs).flatten.toArray)) := HIn.out.kept hk (fun e => e)
      have HX : Hid (Box wk38 (X) 87 (x.cells)) := HX.out.kept hk (fun e => e)
      have HMs : Hid (Box wk38 (gk30) 52 (mZ.cells)) := HMs.out.kept hk (fun e => e)
      have HN : Hid (Box wk38 (gk37) 29 (iZ.cells)) := HN.out.kept hk (fun e => e)
      have HK : Hid (Kept (PSet p bI (some ⟨lg, 0, none⟩) xs) w wk38) := HK.out.thenNo hk
      have HPM : Hid (PM w0 (wk38) p bI (some ⟨lg, 0, none⟩) lc (st) (xs) (none)) := HPM.out.no hk
      have HLT : Hid (gk37 < wk38.heap.size) := Nat.lt_of_lt_of_le HLT.out hk.size
      clear hk
      refine ⟨.tuple #[.agg ((prepI i0 x.v.b).cells), .agg ((prepM i0 x.v.b).cells), .bool (prepB i0 x.v.b)], rfl, ⟨HPl.out, HIn.out, HX.out⟩, fun hH => ?_⟩
      try simp only [Act.put, sA, s0, s1]
      refine any_take (i := 10) (oi := { dst := some 20, op := Op.move (Operand.tmp 30), type := 53, pos := "outright.go:128", after := #[{ on := 9, ground := Ground.data }], guard := none }) (v := .tuple #[.agg ((prepI i0 x.v.b).cells), .agg ((prepM i0 x.v.b).cells), .bool (prepB i0 x.v.b)]) rfl (by kernel_rfl) (by kernel_rfl) (by kernel_rfl) (fun _ _ _ h => h) (by kernel_rfl) (fun _ _ => by kernel_rfl) hH ?_
      try simp only [Act.put, sA, s0, s1]
      refine any_take (i := 11) (oi := { dst := some 31, op := Op.extract (Operand.tmp 20) 0, type := 29, pos := "outright.go:128", after := #[{ on := 10, ground := Ground.data }], guard := none }) (v := .agg ((prepI i0 x.v.b).cells)) rfl (by kernel_rfl) (by kernel_rfl) (by kernel_rfl) (fun _ _ _ h => h) (by kernel_rfl) (fun _ _ => by kernel_rfl) hH ?_
      try simp only [Act.put, sA, s0, s1]
      refine any_take (i := 12) (oi := { dst := some 32, op := Op.extract (Operand.tmp 20) 1, type := 52, pos := "outright.go:128", after := #[{ on := 10, ground := Ground.data }, { on := 16, ground := Ground.gcOnly Departure.lateStores }], guard := none }) (v := .agg ((prepM i0 x.v.b).cells)) rfl (by kernel_rfl) (by kernel_rfl) (by kernel_rfl) (fun _ _ _ h => h) (by kernel_rfl) (fun _ _ => by kernel_rfl) hH ?_
      try simp only [Act.put, sA, s0, s1]
      refine any_take (i := 13) (oi := { dst := some 33, op := Op.extract (Operand.tmp 20) 2, type := 4, pos := "outright.go:128", after := #[{ on := 10, ground := Ground.data }, { on := 17, ground := Ground.gcOnly Departure.lateStores }], guard := none }) (v := .bool (prepB i0 x.v.b)) rfl (by kernel_rfl) (by kernel_rfl) (by kernel_rfl) (fun _ _ _ h => h) (by kernel_rfl) (fun _ _ => by kernel_rfl) hH ?_
      try simp only [Act.put, sA, s0, s1]
      refine any_store (i := 16) (o := { dst := none, op := Op.store 29 (Operand.tmp 10) (Operand.tmp 31), type := 0, pos := "outright.go:128", after := #[{ on := 14, ground := Ground.data }, { on := 11, ground := Ground.data }, { on := 9, ground := Ground.chain }, { on := 0, ground := Ground.phase }, { on := 1, ground := Ground.phase }, { on := 2, ground := Ground.phase }, { on := 3, ground := Ground.phase }, { on := 4, ground := Ground.phase }, { on := 5, ground := Ground.phase }, { on := 6, ground := Ground.phase }, { on := 7, ground := Ground.phase }, { on := 8, ground := Ground.phase }, { on := 9, ground := Ground.phase }, { on := 10, ground := Ground.phase }, { on := 11, ground := Ground.phase }, { on := 12, ground := Ground.textOnly Departure.lateStores }, { on := 13, ground := Ground.textOnly Departure.lateStores }, { on := 14, ground := Ground.phase }, { on := 15, ground := Ground.phase }], guard := none }) rfl (by kernel_rfl) (by kernel_rfl) 29 _ _ rfl ⟨gk37, 0, none⟩ (.agg ((prepI i0 x.v.b).cells)) (by kernel_rfl) (by kernel_rfl) (store_I HN.out rfl) (⟨hH.1.rowNe (by have := HO.out; omega) _, hH.2.1.rowNe (by have := HO.out; omega) _, hH.2.2.rowNe (by have := HO.out; omega) _⟩) (fun hH => ?_)
      have HLT : Hid (gk37 < (wk38.setRow gk37 ((prepI i0 x.v.b).cells)).heap.size) := by show _ < _; rw [setRow_size]; exact HLT.out
      have HPM : Hid (PM w0 (wk38.setRow gk37 ((prepI i0 x.v.b).cells)) p bI (some ⟨lg, 0, none⟩) lc (st) (xs) (none)) := HPM.out.far HPB.out (Kept.setRow _ _ _) (fun q e => by have e : q = gk37 := e; have := HO.out; omega)
      have HPl : Hid (Box (wk38.setRow gk37 ((prepI i0 x.v.b).cells)) (p) 69 ((playC st.f bI st.is.length (some ⟨lg, 0, none⟩) xs.length lc st.dec).toArray)) := HPl.out.rowNe (by have := HO.out; omega) _
      have HIn : Hid (Box (wk38.setRow gk37 ((prepI i0 x.v.b).cells)) (bI) 29 ((st.is.map In.cs).flatten.toArray)) := HIn.out.rowNe (by have := HO.out; omega) _
      have HX : Hid (Box (wk38.setRow gk37 ((prepI i0 x.v.b).cells)) (X) 87 (x.cells)) := HX.out.rowNe (by have := HO.out; omega) _
      have HMs : Hid (Box (wk38.setRow gk37 ((prepI i0 x.v.b).cells)) (gk30) 52 (mZ.cells)) := HMs.out.rowNe (by have := HO.out; omega) _
      have HN : Hid (Box (wk38.setRow gk37 ((prepI i0 x.v.b).cells)) (gk37) 29 ((prepI i0 x.v.b).cells)) := HN.out.setRow _
      have HK : Hid (Kept (PSet p bI (some ⟨lg, 0, none⟩) xs) w (wk38.setRow gk37 ((prepI i0 x.v.b).cells))) := HK.out.newRowS (by have := HO.out; omega) _
      generalize wk38.setRow gk37 ((prepI i0 x.v.b).cells) = wk39 at HPl HIn HX HMs HN HK HLT hH HPM ⊢
      refine any_store (i := 17) (o := { dst := none, op := Op.store 52 (Operand.tmp 11) (Operand.tmp 32), type := 0, pos := "outright.go:128", after := #[{ on := 15, ground := Ground.data }, { on := 12, ground := Ground.data }, { on := 16, ground := Ground.chain }, { on := 0, ground := Ground.phase }, { on := 1, ground := Ground.phase }, { on := 2, ground := Ground.phase }, { on := 3, ground := Ground.phase }, { on := 4, ground := Ground.phase }, { on := 5, ground := Ground.phase }, { on := 6, ground := Ground.phase }, { on := 7, ground := Ground.phase }, { on := 8, ground := Ground.phase }, { on := 9, ground := Ground.phase }, { on := 10, ground := Ground.phase }, { on := 11, ground := Ground.phase }, { on := 12, ground := Ground.phase }, { on := 13, ground := Ground.textOnly Departure.lateStores }, { on := 14, ground := Ground.phase }, { on := 15, ground := Ground.phase }, { on := 16, ground := Ground.phase }], guard := none }) rfl (by kernel_rfl) (by kernel_rfl) 52 _ _ rfl ⟨gk30, 0, none⟩ (.agg ((prepM i0 x.v.b).cells)) (by kernel_rfl) (by kernel_rfl) (store_M HMs.out rfl) (⟨hH.1.rowNe (by have := HO.out; omega) _, hH.2.1.rowNe (by have := HO.out; omega) _, hH.2.2.rowNe (by have := HO.out; omega) _⟩) (fun hH => ?_)
      have HLT : Hid (gk37 < (wk39.setRow gk30 ((prepM i0 x.v.b).cells)).heap.size) := by show _ < _; rw [setRow_size]; exact HLT.out
      have HPM : Hid (PM w0 (wk39.setRow gk30 ((prepM i0 x.v.b).cells)) p bI (some ⟨lg, 0, none⟩) lc (st) (xs) (none)) := HPM.out.far HPB.out (Kept.setRow _ _ _) (fun q e => by have e : q = gk30 := e; have := HO.out; omega)
      have HPl : Hid (Box (wk39.setRow gk30 ((prepM i0 x.v.b).cells)) (p) 69 ((playC st.f bI st.is.length (some ⟨lg, 0, none⟩) xs.length lc st.dec).toArray)) := HPl.out.rowNe (by have := HO.out; omega) _
      have HIn : Hid (Box (wk39.setRow gk30 ((prepM i0 x.v.b).cells)) (bI) 29 ((st.is.map In.cs).flatten.toArray)) := HIn.out.rowNe (by have := HO.out; omega) _
      have HX : Hid (Box (wk39.setRow gk30 ((prepM i0 x.v.b).cells)) (X) 87 (x.cells)) := HX.out.rowNe (by have := HO.out; omega) _
      have HMs : Hid (Box (wk39.setRow gk30 ((prepM i0 x.v.b).cells)) (gk30) 52 ((prepM i0 x.v.b).cells)) := HMs.out.setRow _
      have HN : Hid (Box (wk39.setRow gk30 ((prepM i0 x.v.b).cells)) (gk37) 29 ((prepI i0 x.v.b).cells)) := HN.out.rowNe (by have := HO.out; omega) _
      have HK : Hid (Kept (PSet p bI (some ⟨lg, 0, none⟩) xs) w (wk39.setRow gk30 ((prepM i0 x.v.b).cells))) := HK.out.newRowS (by have := HO.out; omega) _
      generalize wk39.setRow gk30 ((prepM i0 x.v.b).cells) = wk40 at HPl HIn HX HMs HN HK HLT hH HPM ⊢
      refine any_take (i := 18) (oi := { dst := some 12, op := Op.assign (Operand.tmp 33), type := 4, pos := "outright.go:128", after := #[{ on := 13, ground := Ground.data }, { on := 17, ground := Ground.chain }, { on := 0, ground := Ground.phase }, { on := 1, ground := Ground.phase }, { on := 2, ground := Ground.phase }, { on := 3, ground := Ground.phase }, { on := 4, ground := Ground.phase }, { on := 5, ground := Ground.phase }, { on := 6, ground := Ground.phase }, { on := 7, ground := Ground.phase }, { on := 8, ground := Ground.phase }, { on := 9, ground := Ground.phase }, { on := 10, ground := Ground.phase }, { on := 11, ground := Ground.phase }, { on := 12, ground := Ground.phase }, { on := 13, ground := Ground.phase }, { on := 14, ground := Ground.phase }, { on := 15, ground := Ground.phase }, { on := 16, ground := Ground.phase }, { on := 17, ground := Ground.phase }], guard := none }) (v := .bool (prepB i0 x.v.b)) rfl (by kernel_rfl) (by kernel_rfl) (by kernel_rfl) (fun _ _ _ h => h) (by kernel_rfl) (fun _ _ => by kernel_rfl) hH ?_
      try simp only [Act.put, sA, s0, s1]
      refine wpAnyH_done (by kernel_rfl) ?_ _
      try simp only [Act.put, sA, s0, s1]
      exact hh _ gk37 gk30 ⟨HK.out, HPM.out, HPl.out, HX.out, HN.out, HMs.out, by have := HO.out; omega, Nat.lt_of_le_of_lt (by have := HO.out; omega) HLT.out⟩
  case tail =>
    have HK : Hid (Kept (PSet p bI (some ⟨lg, 0, none⟩) xs) w W) := hJ.1
    have HPM : Hid (PM w0 W p bI (some ⟨lg, 0, none⟩) lc (st) (xs) (none)) := hJ.2.1
    have HPl : Hid (Box W (p) 69 ((playC st.f bI st.is.length (some ⟨lg, 0, none⟩) xs.length lc st.dec).toArray)) := hJ.2.2.1
    have HX : Hid (Box W (X) 87 (x.cells)) := hJ.2.2.2.1
    have HN : Hid (Box W (a) 29 ((prepI i0 x.v.b).cells)) := hJ.2.2.2.2.1
    have HMs : Hid (Box W (b) 52 ((prepM i0 x.v.b).cells)) := hJ.2.2.2.2.2.1
    have HO : Hid (p < w.heap.size ∧ bI < w.heap.size ∧ lg < w.heap.size ∧ p ≠ bI ∧ p ≠ lg ∧ bI ≠ lg ∧ w.heap.size ≤ X ∧ X < a ∧ X < b ∧ a ≠ b) := hJ.2.2.2.2.2.2.1
    have HLT : Hid (X < W.heap.size) := hJ.2.2.2.2.2.2.2
    clear hJ HIn
    go_upto_region 3 with fail
    refine wp_region_held_drew (S := fun w' => Box w' (p) 69 ((playC st.f bI st.is.length (some ⟨lg, 0, none⟩) xs.length lc st.dec).toArray) ∧ Box w' (X) 87 (x.cells) ∧ Box w' (a) 29 ((prepI i0 x.v.b).cells) ∧ Box w' (b) 52 ((prepM i0 x.v.b).cells)) rfl ⟨HPl.out, HX.out, HN.out, HMs.out⟩ (fun hH => ?_)
    have HPl : Hid (Box W.drew (p) 69 ((playC st.f bI st.is.length (some ⟨lg, 0, none⟩) xs.length lc st.dec).toArray)) := HPl.out
    have HX : Hid (Box W.drew (X) 87 (x.cells)) := HX.out
    have HN : Hid (Box W.drew (a) 29 ((prepI i0 x.v.b).cells)) := HN.out
    have HMs : Hid (Box W.drew (b) 52 ((prepM i0 x.v.b).cells)) := HMs.out
    have HK : Hid (Kept (PSet p bI (some ⟨lg, 0, none⟩) xs) w W.drew) := HK.out.drew
    have HPM : Hid (PM w0 (W.drew) p bI (some ⟨lg, 0, none⟩) lc (st) (xs) (none)) := HPM.out.no (Kept.refl No _).drew
    have HLT : Hid (X < W.drew.heap.size) := HLT.out
    generalize W.drew = wk41 at HPl HX HN HMs HK HLT hH HPM ⊢
    refine any_take (i := 0) (oi := { dst := some 34, op := Op.move (Operand.tmp 0), type := 65, pos := "outright.go:129", after := #[], guard := none }) (v := .pointer (some ⟨p, 0, none⟩)) rfl (by kernel_rfl) (by kernel_rfl) (by kernel_rfl) (fun _ _ _ h => h) (by kernel_rfl) (fun _ _ => by kernel_rfl) hH ?_
    try simp only [Act.put, sA, s0, s1]
    refine any_take (i := 1) (oi := { dst := some 35, op := Op.nilCheck (Operand.tmp 34), type := 0, pos := "outright.go:129", after := #[{ on := 0, ground := Ground.data }], guard := none }) (v := .pointer (some ⟨p, 0, none⟩)) rfl (by kernel_rfl) (by kernel_rfl) (by kernel_rfl) (fun _ _ _ h => h) (by kernel_rfl) (fun _ _ => by kernel_rfl) hH ?_
    try simp only [Act.put, sA, s0, s1]
    refine any_take (i := 2) (oi := { dst := some 36, op := Op.fieldAddr 69 (Operand.tmp 35) 1, type := 0, pos := "outright.go:129", after := #[{ on := 1, ground := Ground.data }], guard := none }) (v := .pointer (some ⟨p, 1, none⟩)) rfl (by kernel_rfl) (by kernel_rfl) (by kernel_rfl) (fun _ _ _ h => h) (by kernel_rfl) (fun _ _ => by kernel_rfl) hH ?_
    try simp only [Act.put, sA, s0, s1]
    refine any_take (i := 3) (oi := { dst := some 37, op := Op.load 66 (Operand.tmp 36), type := 66, pos := "outright.go:129", after := #[{ on := 2, ground := Ground.data }], guard := none }) (v := .slice (some ⟨bI, 0, none⟩) st.is.length st.is.length) rfl (by kernel_rfl) (by kernel_rfl) (by kernel_rfl) (fun _ _ _ h => h) (by kernel_rfl) (fun w' hw => exec_load 66 _ rfl ⟨p, 1, none⟩ (by kernel_rfl) (.slice (some ⟨bI, 0, none⟩) st.is.length st.is.length) (load_pI hw.1)) hH ?_
    try simp only [Act.put, sA, s0, s1]
    refine any_take (i := 4) (oi := { dst := some 38, op := Op.move (Operand.tmp 2), type := 3, pos := "outright.go:129", after := #[], guard := none }) (v := .int .i64 s) rfl (by kernel_rfl) (by kernel_rfl) (by kernel_rfl) (fun _ _ _ h => h) (by kernel_rfl) (fun _ _ => by kernel_rfl) hH ?_
    try simp only [Act.put, sA, s0, s1]
    refine any_take (i := 5) (oi := { dst := some 39, op := Op.load 29 (Operand.tmp 10), type := 29, pos := "outright.go:129", after := #[], guard := none }) (v := .agg ((prepI i0 x.v.b).cells)) rfl (by kernel_rfl) (by kernel_rfl) (by kernel_rfl) (fun _ _ _ h => h) (by kernel_rfl) (fun w' hw => exec_load 29 _ rfl ⟨a, 0, none⟩ (by kernel_rfl) (.agg ((prepI i0 x.v.b).cells)) (load_I hw.2.2.1)) hH ?_
    try simp only [Act.put, sA, s0, s1]
    refine any_take (i := 6) (oi := { dst := some 40, op := Op.indexAddr 66 (Operand.tmp 37) (Operand.tmp 38), type := 0, pos := "outright.go:129", after := #[{ on := 3, ground := Ground.data }, { on := 4, ground := Ground.data }, { on := 0, ground := Ground.phase }, { on := 1, ground := Ground.phase }, { on := 2, ground := Ground.phase }, { on := 3, ground := Ground.phase }, { on := 4, ground := Ground.phase }, { on := 5, ground := Ground.phase }], guard := none }) (v := .pointer (some ⟨bI, 0 + s * 14, none⟩)) rfl (by kernel_rfl) (by kernel_rfl) (by kernel_rfl) (fun _ _ _ h => h) (by kernel_rfl) (fun w' hw => exec_ixA 66 14 Try.und66e Try.size66e _ _ rfl bI 0 st.is.length st.is.length s (by kernel_rfl) (by kernel_rfl) hsl) hH ?_
    try simp only [Act.put, sA, s0, s1]
    obtain ⟨cs1, hr1, hm1⟩ := HPM.out.setI hsl (prepI i0 x.v.b)
    refine any_store (i := 7) (o := { dst := none, op := Op.store 29 (Operand.tmp 40) (Operand.tmp 39), type := 0, pos := "outright.go:129", after := #[{ on := 6, ground := Ground.data }, { on := 5, ground := Ground.data }, { on := 0, ground := Ground.phase }, { on := 1, ground := Ground.phase }, { on := 2, ground := Ground.phase }, { on := 3, ground := Ground.phase }, { on := 4, ground := Ground.phase }, { on := 5, ground := Ground.phase }], guard := none }) rfl (by kernel_rfl) (by kernel_rfl) 29 _ _ rfl ⟨bI, 0 + s * 14, none⟩ (.agg ((prepI i0 x.v.b).cells)) (by kernel_rfl) (by kernel_rfl) hr1 (⟨hH.1.rowNe (by have := HO.out; omega) _, hH.2.1.rowNe (by have := HO.out; omega) _, hH.2.2.1.rowNe (by have := HO.out; omega) _, hH.2.2.2.rowNe (by have := HO.out; omega) _⟩) (fun hH => ?_)
    have HX : Hid (Box (wk41.setRow bI cs1) (X) 87 (x.cells)) := HX.out.rowNe (by have := HO.out; omega) _
    have HN : Hid (Box (wk41.setRow bI cs1) (a) 29 ((prepI i0 x.v.b).cells)) := HN.out.rowNe (by have := HO.out; omega) _
    have HMs : Hid (Box (wk41.setRow bI cs1) (b) 52 ((prepM i0 x.v.b).cells)) := HMs.out.rowNe (by have := HO.out; omega) _
    have HK : Hid (Kept (PSet p bI (some ⟨lg, 0, none⟩) xs) w (wk41.setRow bI cs1)) := HK.out.inRow (.inr (.inl rfl)) _
    have HLT : Hid (X < (wk41.setRow bI cs1).heap.size) := by show _ < _; rw [setRow_size]; exact HLT.out
    have HPM : Hid (PM w0 (wk41.setRow bI cs1) p bI (some ⟨lg, 0, none⟩) lc ({ st with is := st.is.set s (prepI i0 x.v.b) }) (xs) (none)) := hm1
    have HPl : Hid (Box (wk41.setRow bI cs1) (p) 69 ((playC st.f bI (st.is.set s (prepI i0 x.v.b)).length (some ⟨lg, 0, none⟩) xs.length lc st.dec).toArray)) := hm1.box
    clear hr1 hm1
    generalize wk41.setRow bI cs1 = wk42 at HPl HX HN HMs HK HLT HPM hH ⊢
    try simp only [Act.put, sA, s0, s1]
    refine wpAnyH_done (by kernel_rfl) ?_ _
    try simp only [Act.put, sA, s0, s1]
    go_upto_region 4 with fail
    refine wp_region_held_drew (S := fun w' => Box w' (p) 69 ((playC st.f bI (st.is.set s (prepI i0 x.v.b)).length (some ⟨lg, 0, none⟩) xs.length lc st.dec).toArray) ∧ Box w' (b) 52 ((prepM i0 x.v.b).cells)) rfl ⟨HPl.out, HMs.out⟩ (fun hH => ?_)
    have HPl : Hid (Box wk42.drew (p) 69 ((playC st.f bI (st.is.set s (prepI i0 x.v.b)).length (some ⟨lg, 0, none⟩) xs.length lc st.dec).toArray)) := HPl.out
    have HX : Hid (Box wk42.drew (X) 87 (x.cells)) := HX.out
    have HN : Hid (Box wk42.drew (a) 29 ((prepI i0 x.v.b).cells)) := HN.out
    have HMs : Hid (Box wk42.drew (b) 52 ((prepM i0 x.v.b).cells)) := HMs.out
    have HK : Hid (Kept (PSet p bI (some ⟨lg, 0, none⟩) xs) w wk42.drew) := HK.out.drew
    have HPM : Hid (PM w0 (wk42.drew) p bI (some ⟨lg, 0, none⟩) lc ({ st with is := st.is.set s (prepI i0 x.v.b) }) (xs) (none)) := HPM.out.no (Kept.refl No _).drew
    have HLT : Hid (X < wk42.drew.heap.size) := HLT.out
    generalize wk42.drew = wk43 at HPl HX HN HMs HK HLT hH HPM ⊢
    refine any_take (i := 0) (oi := { dst := some 41, op := Op.fieldAddr 52 (Operand.tmp 11) 0, type := 0, pos := "outright.go:130", after := #[], guard := none }) (v := .pointer (some ⟨b, 0, none⟩)) rfl (by kernel_rfl) (by kernel_rfl) (by kernel_rfl) (fun _ _ _ h => h) (by kernel_rfl) (fun _ _ => by kernel_rfl) hH ?_
    try simp only [Act.put, sA, s0, s1]
    refine any_take (i := 1) (oi := { dst := some 42, op := Op.load 3 (Operand.tmp 41), type := 3, pos := "outright.go:130", after := #[{ on := 0, ground := Ground.data }], guard := none }) (v := .int .i64 (prepM i0 x.v.b).k) rfl (by kernel_rfl) (by kernel_rfl) (by kernel_rfl) (fun _ _ _ h => h) (by kernel_rfl) (fun w' hw => exec_load 3 _ rfl ⟨b, 0, none⟩ (by kernel_rfl) (.int .i64 (prepM i0 x.v.b).k) (load_N (Mg.cel hw.2).1)) hH ?_
    try simp only [Act.put, sA, s0, s1]
    cases q1 : ((prepM i0 x.v.b).k == 16)
    ·skip
     refine any_take (i := 2) (oi := { dst := some 43, op := Op.binOp BinOp.eql 3 (Operand.tmp 42) (Operand.const (Value.int IntKind.i64 16)) 3, type := 4, pos := "outright.go:130", after := #[{ on := 1, ground := Ground.data }], guard := none }) (v := .bool false) rfl (by kernel_rfl) (by kernel_rfl) (by kernel_rfl) (fun _ _ _ h => h) (by kernel_rfl) (fun w' hw => exec_bin .eql 3 _ _ _ rfl (.int .i64 (prepM i0 x.v.b).k) (.int .i64 16) (.bool false) (by kernel_rfl) (by kernel_rfl) (by kernel_rfl) (by rw [eqlN, q1]; try rfl)) hH ?_
     try simp only [Act.put, sA, s0, s1]
     refine any_take (i := 3) (oi := { dst := some 44, op := Op.move (Operand.tmp 43), type := 4, pos := "outright.go:130", after := #[{ on := 2, ground := Ground.data }], guard := none }) (v := .bool false) rfl (by kernel_rfl) (by kernel_rfl) (by kernel_rfl) (fun _ _ _ h => h) (by kernel_rfl) (fun _ _ => by kernel_rfl) hH ?_
     try simp only [Act.put, sA, s0, s1]
     refine any_skip (i := 4) (oi := { dst := some 45, op := Op.fieldAddr 52 (Operand.tmp 11) 9, type := 0, pos := "outright.go:130", after := #[{ on := 3, ground := Ground.guard }], guard := some (3, true) }) rfl (by kernel_rfl) (by kernel_rfl) (by kernel_rfl) (fun _ _ _ h => h) (by kernel_rfl) hH ?_
     try simp only [Act.put, sA, s0, s1]
     refine any_skip (i := 5) (oi := { dst := some 46, op := Op.load 27 (Operand.tmp 45), type := 27, pos := "outright.go:130", after := #[{ on := 4, ground := Ground.data }, { on := 3, ground := Ground.guard }], guard := some (3, true) }) rfl (by kernel_rfl) (by kernel_rfl) (by kernel_rfl) (fun _ _ _ h => h) (by kernel_rfl) hH ?_
     try simp only [Act.put, sA, s0, s1]
     refine any_skip (i := 6) (oi := { dst := some 47, op := Op.move (Operand.tmp 0), type := 65, pos := "outright.go:130", after := #[{ on := 3, ground := Ground.guard }], guard := some (3, true) }) rfl (by kernel_rfl) (by kernel_rfl) (by kernel_rfl) (fun _ _ _ h => h) (by kernel_rfl) hH ?_
     try simp only [Act.put, sA, s0, s1]
     refine any_skip (i := 7) (oi := { dst := some 48, op := Op.nilCheck (Operand.tmp 47), type := 0, pos := "outright.go:130", after := #[{ on := 6, ground := Ground.data }, { on := 3, ground := Ground.guard }], guard := some (3, true) }) rfl (by kernel_rfl) (by kernel_rfl) (by kernel_rfl) (fun _ _ _ h => h) (by kernel_rfl) hH ?_
     try simp only [Act.put, sA, s0, s1]
     refine any_skip (i := 8) (oi := { dst := some 49, op := Op.fieldAddr 69 (Operand.tmp 48) 3, type := 0, pos := "outright.go:130", after := #[{ on := 7, ground := Ground.data }, { on := 3, ground := Ground.guard }], guard := some (3, true) }) rfl (by kernel_rfl) (by kernel_rfl) (by kernel_rfl) (fun _ _ _ h => h) (by kernel_rfl) hH ?_
     try simp only [Act.put, sA, s0, s1]
     refine any_skip (i := 9) (oi := { dst := some 50, op := Op.load 27 (Operand.tmp 49), type := 27, pos := "outright.go:130", after := #[{ on := 8, ground := Ground.data }, { on := 3, ground := Ground.guard }], guard := some (3, true) }) rfl (by kernel_rfl) (by kernel_rfl) (by kernel_rfl) (fun _ _ _ h => h) (by kernel_rfl) hH ?_
     try simp only [Act.put, sA, s0, s1]
     refine any_skip (i := 10) (oi := { dst := some 51, op := Op.binOp BinOp.neq 27 (Operand.tmp 46) (Operand.tmp 50) 27, type := 4, pos := "outright.go:130", after := #[{ on := 5, ground := Ground.data }, { on := 9, ground := Ground.data }, { on := 3, ground := Ground.guard }], guard := some (3, true) }) rfl (by kernel_rfl) (by kernel_rfl) (by kernel_rfl) (fun _ _ _ h => h) (by kernel_rfl) hH ?_
     try simp only [Act.put, sA, s0, s1]
     refine any_take (i := 11) (oi := { dst := some 52, op := Op.pick (Operand.tmp 44) (Operand.tmp 51) (Operand.const (Value.bool false)), type := 4, pos := "outright.go:130", after := #[{ on := 3, ground := Ground.data }, { on := 10, ground := Ground.data }], guard := none }) (v := .bool false) rfl (by kernel_rfl) (by kernel_rfl) (by kernel_rfl) (fun _ _ _ h => h) (by kernel_rfl) (fun _ _ => by kernel_rfl) hH ?_
     try simp only [Act.put, sA, s0, s1]
     refine wpAnyH_done (by kernel_rfl) ?_ _
     try simp only [Act.put, sA, s0, s1]
     go_upto_region 6 with fail
     cases q2 : (lost)
     ·skip
      have HLE : Hid (x.v.pr.length ≤ 1000) := by have := (HIv.out.ok k x.v HXV.out).le; show _ ≤ _; omega
      refine WL.start ?_
      refine wp_takeW (.bool false) (by kernel_rfl) (by kernel_rfl) ?_
      try simp only [Act.put, sA, s0, s1]
      refine wp_takeW (.bool false) (by kernel_rfl) (by kernel_rfl) ?_
      try simp only [Act.put, sA, s0, s1]
      refine wp_takeW (.pointer (some ⟨X, 14, none⟩)) (by kernel_rfl) (by kernel_rfl) ?_
      try simp only [Act.put, sA, s0, s1]
      cases q3 : (x.v.ch)
      ·skip
       refine wp_takeW (.bool false) (exec_load 4 _ rfl ⟨X, 14, none⟩ (by kernel_rfl) (.bool false) (by rw [← q3]; exact load_P14 HX.out)) (by kernel_rfl) ?_
       try simp only [Act.put, sA, s0, s1]
       refine wp_takeW (.bool false) (by kernel_rfl) (by kernel_rfl) ?_
       try simp only [Act.put, sA, s0, s1]
       refine wp_takeW (.bool false) (by kernel_rfl) (by kernel_rfl) ?_
       try simp only [Act.put, sA, s0, s1]
       refine wp_takeW (.pointer (some ⟨b, 0, none⟩)) (by kernel_rfl) (by kernel_rfl) ?_
       try simp only [Act.put, sA, s0, s1]
       refine wp_takeW (.int .i64 (prepM i0 x.v.b).k) (exec_load 3 _ rfl ⟨b, 0, none⟩ (by kernel_rfl) (.int .i64 (prepM i0 x.v.b).k) (load_N (Mg.cel HMs.out).1)) (by kernel_rfl) ?_
       try simp only [Act.put, sA, s0, s1]
       cases q4 : ((prepM i0 x.v.b).k == 13)
       ·skip
        refine wp_takeW (.bool true) (exec_bin .neq 3 _ _ _ rfl (.int .i64 (prepM i0 x.v.b).k) (.int .i64 13) (.bool true) (by kernel_rfl) (by kernel_rfl) (by kernel_rfl) (by rw [neqN, q4]; try rfl)) (by kernel_rfl) ?_
        try simp only [Act.put, sA, s0, s1]
        refine wp_takeW (.bool true) (by kernel_rfl) (by kernel_rfl) ?_
        try simp only [Act.put, sA, s0, s1]
        refine wp_takeW (.bool true) (by kernel_rfl) (by kernel_rfl) ?_
        try simp only [Act.put, sA, s0, s1]
        refine wp_skip (by kernel_rfl) ?_
        try simp only [Act.put, sA, s0, s1]
        refine wp_skip (by kernel_rfl) ?_
        try simp only [Act.put, sA, s0, s1]
        refine wp_skip (by kernel_rfl) ?_
        try simp only [Act.put, sA, s0, s1]
        refine wp_skip (by kernel_rfl) ?_
        try simp only [Act.put, sA, s0, s1]
        refine wp_takeW (.bool true) (by kernel_rfl) (by kernel_rfl) ?_
        try simp only [Act.put, sA, s0, s1]
        refine WL.nil ?_
        try simp only [Act.put, sA, s0, s1]
        go_wp2
        go_ret
        exact ⟨rfl, _, xs, HPM.out, HIv.out.prep HSI.out _, rfl, rfl, HK.out⟩
       ·skip
        refine wp_takeW (.bool false) (exec_bin .neq 3 _ _ _ rfl (.int .i64 (prepM i0 x.v.b).k) (.int .i64 13) (.bool false) (by kernel_rfl) (by kernel_rfl) (by kernel_rfl) (by rw [neqN, q4]; try rfl)) (by kernel_rfl) ?_
        try simp only [Act.put, sA, s0, s1]
        refine wp_takeW (.bool false) (by kernel_rfl) (by kernel_rfl) ?_
        try simp only [Act.put, sA, s0, s1]
        refine wp_takeW (.bool false) (by kernel_rfl) (by kernel_rfl) ?_
        try simp only [Act.put, sA, s0, s1]
        refine wp_takeW (.pointer (some ⟨X, 2, none⟩)) (by kernel_rfl) (by kernel_rfl) ?_
        try simp only [Act.put, sA, s0, s1]
        refine wp_takeW (.slice x.pa x.v.pr.length x.pc) (exec_load 33 _ rfl ⟨X, 2, none⟩ (by kernel_rfl) (.slice x.pa x.v.pr.length x.pc) (load_PS2 HX.out)) (by kernel_rfl) ?_
        try simp only [Act.put, sA, s0, s1]
        refine wp_takeW (.int .i64 s) (by kernel_rfl) (by kernel_rfl) ?_
        try simp only [Act.put, sA, s0, s1]
        cases q5 : (decide ((s : Int) ∈ x.v.pr))
        ·skip
         refine wp_callW 36 #[.slice x.pa x.v.pr.length x.pc, .int .i64 s] (by kernel_rfl) _ (has_any _ _ _ x.v.pr _ _ rfl (by have := HLE.out; omega) ((HPM.out.pown k x HXK.out (by simp)).nums rfl)) (by kernel_rfl) ?_
         rintro e wq ⟨rfl, hwq⟩
         rw [hwq]
         clear hwq wq
         refine ⟨.bool false, by rw [q5], ?_⟩
         try simp only [Act.put, sA, s0, s1]
         refine wp_takeW (.bool false) (by kernel_rfl) (by kernel_rfl) ?_
         try simp only [Act.put, sA, s0, s1]
         refine WL.nil ?_
         try simp only [Act.put, sA, s0, s1]
         go_upto_region 8 with fail
         refine WL.start ?_
         refine wp_takeW (.pointer (some ⟨X, 2, none⟩)) (by kernel_rfl) (by kernel_rfl) ?_
         try simp only [Act.put, sA, s0, s1]
         refine wp_takeW (.slice x.pa x.v.pr.length x.pc) (exec_load 33 _ rfl ⟨X, 2, none⟩ (by kernel_rfl) (.slice x.pa x.v.pr.length x.pc) (load_PS2 HX.out)) (by kernel_rfl) ?_
         try simp only [Act.put, sA, s0, s1]
         refine wp_takeW (.int .i64 s) (by kernel_rfl) (by kernel_rfl) ?_
         try simp only [Act.put, sA, s0, s1]
         refine wp_runW (.slice (some ⟨wk43.heap.size, 0, none⟩) 1 1) (wk43.alloc (.cells #[.int .i64 s] 3)) (exec_slice2 33 3 _ rfl #[.int .i64 s] (.int .i64 s) (by kernel_rfl) (slice1_int s _)) (by kernel_rfl) ?_
         try simp only [Act.put, sA, s0, s1]
         have HNB : Hid (Box (wk43.alloc (.cells #[.int .i64 s] 3)) wk43.heap.size 3 #[.int .i64 s]) := Box.new _ _ _
         have HPl : Hid (Box (wk43.alloc (.cells #[.int .i64 s] 3)) (p) 69 ((playC st.f bI (st.is.set s (prepI i0 x.v.b)).length (some ⟨lg, 0, none⟩) xs.length lc st.dec).toArray)) := HPl.out.alloc _
         have HX : Hid (Box (wk43.alloc (.cells #[.int .i64 s] 3)) (X) 87 (x.cells)) := HX.out.alloc _
         have HN : Hid (Box (wk43.alloc (.cells #[.int .i64 s] 3)) (a) 29 ((prepI i0 x.v.b).cells)) := HN.out.alloc _
         have HMs : Hid (Box (wk43.alloc (.cells #[.int .i64 s] 3)) (b) 52 ((prepM i0 x.v.b).cells)) := HMs.out.alloc _
         have HK : Hid (Kept (PSet p bI (some ⟨lg, 0, none⟩) xs) w (wk43.alloc (.cells #[.int .i64 s] 3))) := HK.out.alloc _
         have HPM : Hid (PM w0 (wk43.alloc (.cells #[.int .i64 s] 3)) p bI (some ⟨lg, 0, none⟩) lc ({ st with is := st.is.set s (prepI i0 x.v.b) }) (xs) (none)) := HPM.out.no ((Kept.refl No _).alloc _)
         have HLT : Hid (X < (wk43.alloc (.cells #[.int .i64 s] 3)).heap.size) := by show _ < _; rw [show (wk43.alloc (.cells #[.int .i64 s] 3)).heap.size = wk43.heap.size + 1 by simp]; exact Nat.lt_succ_of_lt HLT.out
         generalize wk43.alloc (.cells #[.int .i64 s] 3) = wk44 at HPl HX HN HMs HK HLT HNB HPM ⊢
         generalize wk43.heap.size = nb at HNB ⊢
         have happ := fun (A : Act) (h1 : A.eval (Operand.tmp 70) = .slice x.pa x.v.pr.length x.pc) (h2 : A.eval (Operand.tmp 72) = .slice (some ⟨nb, 0, none⟩) 1 1) => exec_append (w := wk44) (a := A) (o := { dst := some 73, op := Op.call { callee := Callee.builtin Builtin.append, args := #[Operand.tmp 70, Operand.tmp 72], argTypes := #[33, 33] }, type := 33, pos := "outright.go:136", after := #[{ on := 1, ground := Ground.data }, { on := 3, ground := Ground.data }], guard := none }) _ _ 33 3 1 8 (.int .i64 0) Try.und33 Try.info3 rfl (by decide) rfl w0.heap.size x.v.pr.length x.pc x.pa (ints x.v.pr) h1 (HPM.out.pown k x HXK.out (by simp)) ⟨nb, 0, none⟩ 1 [.int .i64 s] h2 rfl (fun j u hu => by
           match j, hu with
           | 0, hu => rw [addr_add]; simp at hu; subst hu; exact HNB.out.cell 0
           | j + 1, hu => simp at hu) (by simp [Value.oneCell']) (by have := HLE.out; omega) (by have := HLE.out; omega) (by have := HPM.out.np; have := HPM.out.box.lt; omega)
         refine wp_appW happ (by kernel_rfl) (by kernel_rfl) (by kernel_rfl) ?_
         intro g1 c1 wa hown hka hga
         try simp only [Act.put, sA, s0, s1]
         clear happ
         obtain ⟨hm3, hap, hself⟩ := HPM.out.appP HXK.out hka hga
         have HAP : Hid ((∀ (j : Nat) (z : Px), xs[j]? = some z → j ≠ k → ∀ q, (At (some ⟨g1, 0, none⟩) q → ¬ At z.pa q ∧ ¬ At z.aa q) ∧ (At x.aa q → ¬ At z.pa q ∧ ¬ At z.aa q)) ∧ (∀ q, At (some ⟨g1, 0, none⟩) q → ¬ At x.aa q)) := ⟨hap, hself⟩
         have HNO : Hid (Own 3 1 wa w0.heap.size (some ⟨g1, 0, none⟩) c1 (x.v.pr ++ [(s : Int)]).length (ints (x.v.pr ++ [(s : Int)]))) := by have h := hown; simp only [ints, List.map_append, List.map_cons, List.map_nil, List.length_append, List.length_singleton]; exact h
         have HPl : Hid (Box wa (p) 69 ((playC st.f bI (st.is.set s (prepI i0 x.v.b)).length (some ⟨lg, 0, none⟩) xs.length lc st.dec).toArray)) := hm3.box
         have HX : Hid (Box wa (X) 87 (x.cells)) := HX.out.kept hka (fun e => own_box (HPM.out.pown k x HXK.out (by simp)) HX.out (by decide) e rfl)
         have HN : Hid (Box wa (a) 29 ((prepI i0 x.v.b).cells)) := HN.out.kept hka (fun e => own_box (HPM.out.pown k x HXK.out (by simp)) HN.out (by decide) e rfl)
         have HMs : Hid (Box wa (b) 52 ((prepM i0 x.v.b).cells)) := HMs.out.kept hka (fun e => own_box (HPM.out.pown k x HXK.out (by simp)) HMs.out (by decide) e rfl)
         have HK : Hid (Kept (PSet p bI (some ⟨lg, 0, none⟩) xs) w wa) := HK.out.trans hka (fun _ e => e) (fun q hq e => .inr (.inr (.inr ⟨k, x, HXK.out, .inl e⟩)))
         have HLT : Hid (X < wa.heap.size) := Nat.lt_of_lt_of_le HLT.out hka.size
         have HPM : Hid (PM w0 wa p bI (some ⟨lg, 0, none⟩) lc ({ st with is := st.is.set s (prepI i0 x.v.b) }) (xs) (some (k, false))) := hm3
         clear hm3 hap hself hown hka hga HNB
         refine wp_takeW (.pointer (some ⟨X, 2, none⟩)) (by kernel_rfl) (by kernel_rfl) ?_
         try simp only [Act.put, sA, s0, s1]
         refine wp_storeW 33 _ _ rfl ⟨X, 2, none⟩ (.slice (some ⟨g1, 0, none⟩) (x.v.pr.length + 1) c1) (by kernel_rfl) (by kernel_rfl) _ (store_addP HX.out s (some ⟨g1, 0, none⟩) c1) (by kernel_rfl) ?_
         try simp only [Act.put, sA, s0, s1]
         have HLT : Hid (X < (wa.setRow X ((x.addP s (some ⟨g1, 0, none⟩) c1).cells)).heap.size) := by show _ < _; rw [setRow_size]; exact HLT.out
         have HPM : Hid (PM w0 (wa.setRow X ((x.addP s (some ⟨g1, 0, none⟩) c1).cells)) p bI (some ⟨lg, 0, none⟩) lc ({ st with is := st.is.set s (prepI i0 x.v.b) }) (xs) (some (k, false))) := HPM.out.far HPB.out (Kept.setRow _ _ _) (fun q e => by have e : q = X := e; have := HO.out; omega)
         have HNO : Hid (Own 3 1 (wa.setRow X ((x.addP s (some ⟨g1, 0, none⟩) c1).cells)) w0.heap.size (some ⟨g1, 0, none⟩) c1 (x.v.pr ++ [(s : Int)]).length (ints (x.v.pr ++ [(s : Int)]))) := HNO.out.kept (Kept.setRow _ _ _) (fun q hq e => own_box HNO.out HX.out (by decide) hq e)
         have HPl : Hid (Box (wa.setRow X ((x.addP s (some ⟨g1, 0, none⟩) c1).cells)) (p) 69 ((playC st.f bI (st.is.set s (prepI i0 x.v.b)).length (some ⟨lg, 0, none⟩) xs.length lc st.dec).toArray)) := HPl.out.rowNe (by have := HO.out; omega) _
         have HX : Hid (Box (wa.setRow X ((x.addP s (some ⟨g1, 0, none⟩) c1).cells)) (X) 87 ((x.addP s (some ⟨g1, 0, none⟩) c1).cells)) := HX.out.setRow _
         have HN : Hid (Box (wa.setRow X ((x.addP s (some ⟨g1, 0, none⟩) c1).cells)) (a) 29 ((prepI i0 x.v.b).cells)) := HN.out.rowNe (by have := HO.out; omega) _
         have HMs : Hid (Box (wa.setRow X ((x.addP s (some ⟨g1, 0, none⟩) c1).cells)) (b) 52 ((prepM i0 x.v.b).cells)) := HMs.out.rowNe (by have := HO.out; omega) _
         have HK : Hid (Kept (PSet p bI (some ⟨lg, 0, none⟩) xs) w (wa.setRow X ((x.addP s (some ⟨g1, 0, none⟩) c1).cells))) := HK.out.newRowS (by have := HO.out; omega) _
         generalize wa.setRow X ((x.addP s (some ⟨g1, 0, none⟩) c1).cells) = wk45 at HPl HX HN HMs HK HLT HPM HNO ⊢
         refine WL.nil ?_
         try simp only [Act.put, sA, s0, s1]
         go_upto_region 9 with fail
         refine WL.start ?_
         refine wp_takeW (.pointer (some ⟨b, 13, none⟩)) (by kernel_rfl) (by kernel_rfl) ?_
         try simp only [Act.put, sA, s0, s1]
         refine wp_takeW (.agg #[.int .i64 (prepM i0 x.v.b).h.n, .int .i64 (prepM i0 x.v.b).h.c]) (exec_load 23 _ rfl ⟨b, 13, none⟩ (by kernel_rfl) (.agg #[.int .i64 (prepM i0 x.v.b).h.n, .int .i64 (prepM i0 x.v.b).h.c]) (load_S HMs.out (Mg.partH _))) (by kernel_rfl) ?_
         try simp only [Act.put, sA, s0, s1]
         refine wp_takeW (.pointer (some ⟨X, 3, none⟩)) (by kernel_rfl) (by kernel_rfl) ?_
         try simp only [Act.put, sA, s0, s1]
         refine wp_takeW (.agg #[.int .i64 (x.addP s (some ⟨g1, 0, none⟩) c1).v.h.n, .int .i64 (x.addP s (some ⟨g1, 0, none⟩) c1).v.h.c]) (exec_load 23 _ rfl ⟨X, 3, none⟩ (by kernel_rfl) (.agg #[.int .i64 (x.addP s (some ⟨g1, 0, none⟩) c1).v.h.n, .int .i64 (x.addP s (some ⟨g1, 0, none⟩) c1).v.h.c]) (load_S HX.out (Px.partH _))) (by kernel_rfl) ?_
         try simp only [Act.put, sA, s0, s1]
         cases q6 : (lessB x.v.h.n x.v.h.c (prepM i0 x.v.b).h.n (prepM i0 x.v.b).h.c)
         ·skip
          refine wp_callW 19 #[.agg #[.int .i64 (prepM i0 x.v.b).h.n, .int .i64 (prepM i0 x.v.b).h.c], .agg #[.int .i64 (x.addP s (some ⟨g1, 0, none⟩) c1).v.h.n, .int .i64 (x.addP s (some ⟨g1, 0, none⟩) c1).v.h.c]] (by kernel_rfl) _ (above_any (prepM i0 x.v.b).h.n (prepM i0 x.v.b).h.c x.v.h.n x.v.h.c _) (by kernel_rfl) ?_
          rintro e wk46 ⟨rfl, hk⟩
          have HPl : Hid (Box wk46 (p) 69 ((playC st.f bI (st.is.set s (prepI i0 x.v.b)).length (some ⟨lg, 0, none⟩) xs.length lc st.dec).toArray)) := HPl.out.kept hk (fun e => e)
          have HX : Hid (Box wk46 (X) 87 ((x.addP s (some ⟨g1, 0, none⟩) c1).cells)) := HX.out.kept hk (fun e => e)
          have HN : Hid (Box wk46 (a) 29 ((prepI i0 x.v.b).cells)) := HN.out.kept hk (fun e => e)
          have HMs : Hid (Box wk46 (b) 52 ((prepM i0 x.v.b).cells)) := HMs.out.kept hk (fun e => e)
          have HK : Hid (Kept (PSet p bI (some ⟨lg, 0, none⟩) xs) w wk46) := HK.out.thenNo hk
          have HPM : Hid (PM w0 (wk46) p bI (some ⟨lg, 0, none⟩) lc ({ st with is := st.is.set s (prepI i0 x.v.b) }) (xs) (some (k, false))) := HPM.out.no hk
          have HNO : Hid (Own 3 1 (wk46) w0.heap.size (some ⟨g1, 0, none⟩) c1 (x.v.pr ++ [(s : Int)]).length (ints (x.v.pr ++ [(s : Int)]))) := HNO.out.no hk
          have HLT : Hid (X < wk46.heap.size) := Nat.lt_of_lt_of_le HLT.out hk.size
          clear hk
          refine ⟨.bool false, by rw [q6], ?_⟩
          try simp only [Act.put, sA, s0, s1]
          refine WL.nil ?_
          try simp only [Act.put, sA, s0, s1]
          go_upto_region 12 with fail
          have HXc : Hid (wk46.cell? ⟨X, 2, none⟩ = some (.slice (some ⟨g1, 0, none⟩) (x.v.pr ++ [(s : Int)]).length c1)) := HX.out.cell 2
          refine wp_region_held_drew (S := fun w' => Box w' (p) 69 ((playC st.f bI (st.is.set s (prepI i0 x.v.b)).length (some ⟨lg, 0, none⟩) xs.length lc st.dec).toArray) ∧ w'.cell? ⟨X, 2, none⟩ = some (.slice (some ⟨g1, 0, none⟩) (x.v.pr ++ [(s : Int)]).length c1)) rfl ⟨HPl.out, HXc.out⟩ (fun hH => ?_)
          have HPl : Hid (Box wk46.drew (p) 69 ((playC st.f bI (st.is.set s (prepI i0 x.v.b)).length (some ⟨lg, 0, none⟩) xs.length lc st.dec).toArray)) := HPl.out
          have HX : Hid (Box wk46.drew (X) 87 ((x.addP s (some ⟨g1, 0, none⟩) c1).cells)) := HX.out
          have HN : Hid (Box wk46.drew (a) 29 ((prepI i0 x.v.b).cells)) := HN.out
          have HMs : Hid (Box wk46.drew (b) 52 ((prepM i0 x.v.b).cells)) := HMs.out
          have HXc : Hid (wk46.drew.cell? ⟨X, 2, none⟩ = some (.slice (some ⟨g1, 0, none⟩) (x.v.pr ++ [(s : Int)]).length c1)) := HXc.out
          have HK : Hid (Kept (PSet p bI (some ⟨lg, 0, none⟩) xs) w wk46.drew) := HK.out.drew
          have HPM : Hid (PM w0 (wk46.drew) p bI (some ⟨lg, 0, none⟩) lc ({ st with is := st.is.set s (prepI i0 x.v.b) }) (xs) (some (k, false))) := HPM.out.no (Kept.refl No _).drew
          have HNO : Hid (Own 3 1 (wk46.drew) w0.heap.size (some ⟨g1, 0, none⟩) c1 (x.v.pr ++ [(s : Int)]).length (ints (x.v.pr ++ [(s : Int)]))) := HNO.out.no (Kept.refl No _).drew
          have HLT : Hid (X < wk46.drew.heap.size) := HLT.out
          generalize wk46.drew = wk47 at HPl HX HN HMs HXc HK HLT hH HPM HNO ⊢
          refine any_take (i := 0) (oi := { dst := some 86, op := Op.fieldAddr 87 (Operand.tmp 9) 1, type := 0, pos := "outright.go:141", after := #[], guard := none }) (v := .pointer (some ⟨X, 2, none⟩)) rfl (by kernel_rfl) (by kernel_rfl) (by kernel_rfl) (fun _ _ _ h => h) (by kernel_rfl) (fun _ _ => by kernel_rfl) hH ?_
          try simp only [Act.put, sA, s0, s1]
          refine any_take (i := 1) (oi := { dst := some 87, op := Op.load 33 (Operand.tmp 86), type := 33, pos := "outright.go:141", after := #[{ on := 0, ground := Ground.data }], guard := none }) (v := .slice (some ⟨g1, 0, none⟩) (x.v.pr ++ [(s : Int)]).length c1) rfl (by kernel_rfl) (by kernel_rfl) (by kernel_rfl) (fun _ _ _ h => h) (by kernel_rfl) (fun w' hw => exec_load 33 _ rfl ⟨X, 2, none⟩ (by kernel_rfl) (.slice (some ⟨g1, 0, none⟩) (x.v.pr ++ [(s : Int)]).length c1) (load_one hw.2 Try.und33 rfl)) hH ?_
          try simp only [Act.put, sA, s0, s1]
          refine any_take (i := 2) (oi := { dst := some 88, op := Op.call { callee := Callee.builtin Builtin.len, args := #[Operand.tmp 87], argTypes := #[33] }, type := 3, pos := "outright.go:141", after := #[{ on := 1, ground := Ground.data }], guard := none }) (v := .int .i64 ((x.v.pr ++ [(s : Int)]).length : Int)) rfl (by kernel_rfl) (by kernel_rfl) (by kernel_rfl) (fun _ _ _ h => h) (by kernel_rfl) (fun _ _ => by kernel_rfl) hH ?_
          try simp only [Act.put, sA, s0, s1]
          refine any_take (i := 3) (oi := { dst := some 89, op := Op.move (Operand.tmp 0), type := 65, pos := "outright.go:141", after := #[], guard := none }) (v := .pointer (some ⟨p, 0, none⟩)) rfl (by kernel_rfl) (by kernel_rfl) (by kernel_rfl) (fun _ _ _ h => h) (by kernel_rfl) (fun _ _ => by kernel_rfl) hH ?_
          try simp only [Act.put, sA, s0, s1]
          refine any_take (i := 4) (oi := { dst := some 90, op := Op.nilCheck (Operand.tmp 89), type := 0, pos := "outright.go:141", after := #[{ on := 3, ground := Ground.data }], guard := none }) (v := .pointer (some ⟨p, 0, none⟩)) rfl (by kernel_rfl) (by kernel_rfl) (by kernel_rfl) (fun _ _ _ h => h) (by kernel_rfl) (fun _ _ => by kernel_rfl) hH ?_
          try simp only [Act.put, sA, s0, s1]
          refine any_take (i := 5) (oi := { dst := some 91, op := Op.fieldAddr 69 (Operand.tmp 90) 0, type := 0, pos := "outright.go:141", after := #[{ on := 4, ground := Ground.data }], guard := none }) (v := .pointer (some ⟨p, 0, none⟩)) rfl (by kernel_rfl) (by kernel_rfl) (by kernel_rfl) (fun _ _ _ h => h) (by kernel_rfl) (fun _ _ => by kernel_rfl) hH ?_
          try simp only [Act.put, sA, s0, s1]
          refine any_take (i := 6) (oi := { dst := some 92, op := Op.load 3 (Operand.tmp 91), type := 3, pos := "outright.go:141", after := #[{ on := 5, ground := Ground.data }], guard := none }) (v := .int .i64 (st.f : Int)) rfl (by kernel_rfl) (by kernel_rfl) (by kernel_rfl) (fun _ _ _ h => h) (by kernel_rfl) (fun w' hw => exec_load 3 _ rfl ⟨p, 0, none⟩ (by kernel_rfl) (.int .i64 (st.f : Int)) (load_pF hw.1)) hH ?_
          try simp only [Act.put, sA, s0, s1]
          refine any_take (i := 7) (oi := { dst := some 93, op := Op.binOp BinOp.add 3 (Operand.tmp 92) (Operand.const (Value.int IntKind.i64 1)) 3, type := 3, pos := "outright.go:141", after := #[{ on := 6, ground := Ground.data }], guard := none }) (v := .int .i64 ((st.f : Int) + 1)) rfl (by kernel_rfl) (by kernel_rfl) (by kernel_rfl) (fun _ _ _ h => h) (by kernel_rfl) (fun w' hw => exec_bin .add 3 _ _ _ rfl (.int .i64 (st.f : Int)) (.int .i64 1) (.int .i64 ((st.f : Int) + 1)) (by kernel_rfl) (by kernel_rfl) (by kernel_rfl) (addN _ _ (by omega) (by omega))) hH ?_
          try simp only [Act.put, sA, s0, s1]
          refine any_take (i := 8) (oi := { dst := some 94, op := Op.binOp BinOp.eql 3 (Operand.tmp 88) (Operand.tmp 93) 3, type := 4, pos := "outright.go:141", after := #[{ on := 2, ground := Ground.data }, { on := 7, ground := Ground.data }], guard := none }) (v := .bool (decide (x.v.pr.length + 1 = st.f + 1))) rfl (by kernel_rfl) (by kernel_rfl) (by kernel_rfl) (fun _ _ _ h => h) (by kernel_rfl) (fun w' hw => exec_bin .eql 3 _ _ _ rfl (.int .i64 ((x.v.pr ++ [(s : Int)]).length : Int)) (.int .i64 ((st.f : Int) + 1)) (.bool (decide (x.v.pr.length + 1 = st.f + 1))) (by kernel_rfl) (by kernel_rfl) (by kernel_rfl) (by rw [eqlN, List.length_append, List.length_singleton, chEq])) hH ?_
          try simp only [Act.put, sA, s0, s1]
          refine any_take (i := 9) (oi := { dst := some 95, op := Op.fieldAddr 87 (Operand.tmp 9) 4, type := 0, pos := "outright.go:141", after := #[{ on := 0, ground := Ground.phase }, { on := 1, ground := Ground.phase }, { on := 2, ground := Ground.phase }, { on := 3, ground := Ground.phase }, { on := 4, ground := Ground.phase }, { on := 5, ground := Ground.phase }, { on := 6, ground := Ground.phase }, { on := 7, ground := Ground.phase }, { on := 8, ground := Ground.phase }], guard := none }) (v := .pointer (some ⟨X, 14, none⟩)) rfl (by kernel_rfl) (by kernel_rfl) (by kernel_rfl) (fun _ _ _ h => h) (by kernel_rfl) (fun _ _ => by kernel_rfl) hH ?_
          try simp only [Act.put, sA, s0, s1]
          refine any_store (i := 10) (o := { dst := none, op := Op.store 4 (Operand.tmp 95) (Operand.tmp 94), type := 0, pos := "outright.go:141", after := #[{ on := 9, ground := Ground.data }, { on := 8, ground := Ground.data }, { on := 0, ground := Ground.phase }, { on := 1, ground := Ground.phase }, { on := 2, ground := Ground.phase }, { on := 3, ground := Ground.phase }, { on := 4, ground := Ground.phase }, { on := 5, ground := Ground.phase }, { on := 6, ground := Ground.phase }, { on := 7, ground := Ground.phase }, { on := 8, ground := Ground.phase }], guard := none }) rfl (by kernel_rfl) (by kernel_rfl) 4 _ _ rfl ⟨X, 14, none⟩ (.bool (decide (x.v.pr.length + 1 = st.f + 1))) (by kernel_rfl) (by kernel_rfl) (store_setB HX.out (decide (x.v.pr.length + 1 = st.f + 1))) ⟨HPl.out.rowNe (by have := HO.out; omega) _, (HX.out.setRow _).cell 2⟩ (fun hH => ?_)
          have HPM : Hid (PM w0 (wk47.setRow X (((x.addP s (some ⟨g1, 0, none⟩) c1).setB (decide (x.v.pr.length + 1 = st.f + 1))).cells)) p bI (some ⟨lg, 0, none⟩) lc ({ st with is := st.is.set s (prepI i0 x.v.b) }) (xs) (some (k, false))) := HPM.out.far HPB.out (Kept.setRow _ _ _) (fun q e => by have e : q = X := e; have := HO.out; omega)
          have HNO : Hid (Own 3 1 (wk47.setRow X (((x.addP s (some ⟨g1, 0, none⟩) c1).setB (decide (x.v.pr.length + 1 = st.f + 1))).cells)) w0.heap.size (some ⟨g1, 0, none⟩) c1 (x.v.pr ++ [(s : Int)]).length (ints (x.v.pr ++ [(s : Int)]))) := HNO.out.kept (Kept.setRow _ _ _) (fun q hq e => own_box HNO.out HX.out (by decide) hq e)
          have HPl : Hid (Box (wk47.setRow X (((x.addP s (some ⟨g1, 0, none⟩) c1).setB (decide (x.v.pr.length + 1 = st.f + 1))).cells)) (p) 69 ((playC st.f bI (st.is.set s (prepI i0 x.v.b)).length (some ⟨lg, 0, none⟩) xs.length lc st.dec).toArray)) := HPl.out.rowNe (by have := HO.out; omega) _
          have HX : Hid (Box (wk47.setRow X (((x.addP s (some ⟨g1, 0, none⟩) c1).setB (decide (x.v.pr.length + 1 = st.f + 1))).cells)) (X) 87 (((x.addP s (some ⟨g1, 0, none⟩) c1).setB (decide (x.v.pr.length + 1 = st.f + 1))).cells)) := HX.out.setRow _
          have HN : Hid (Box (wk47.setRow X (((x.addP s (some ⟨g1, 0, none⟩) c1).setB (decide (x.v.pr.length + 1 = st.f + 1))).cells)) (a) 29 ((prepI i0 x.v.b).cells)) := HN.out.rowNe (by have := HO.out; omega) _
          have HMs : Hid (Box (wk47.setRow X (((x.addP s (some ⟨g1, 0, none⟩) c1).setB (decide (x.v.pr.length + 1 = st.f + 1))).cells)) (b) 52 ((prepM i0 x.v.b).cells)) := HMs.out.rowNe (by have := HO.out; omega) _
          have HK : Hid (Kept (PSet p bI (some ⟨lg, 0, none⟩) xs) w (wk47.setRow X (((x.addP s (some ⟨g1, 0, none⟩) c1).setB (decide (x.v.pr.length + 1 = st.f + 1))).cells))) := HK.out.newRowS (by have := HO.out; omega) _
          have HLT : Hid (X < (wk47.setRow X (((x.addP s (some ⟨g1, 0, none⟩) c1).setB (decide (x.v.pr.length + 1 = st.f + 1))).cells)).heap.size) := by show _ < _; rw [setRow_size]; exact HLT.out
          generalize wk47.setRow X (((x.addP s (some ⟨g1, 0, none⟩) c1).setB (decide (x.v.pr.length + 1 = st.f + 1))).cells) = wk48 at HPl HX HN HMs HK HLT hH HPM HNO ⊢
          clear HXc
          refine wpAnyH_done (by kernel_rfl) ?_ _
          try simp only [Act.put, sA, s0, s1]
          go_upto_region 13 with fail
          refine wp_region_held_drew (S := fun w' => Box w' (p) 69 ((playC st.f bI (st.is.set s (prepI i0 x.v.b)).length (some ⟨lg, 0, none⟩) xs.length lc st.dec).toArray) ∧ Box w' (X) 87 (((x.addP s (some ⟨g1, 0, none⟩) c1).setB (decide (x.v.pr.length + 1 = st.f + 1))).cells)) rfl ⟨HPl.out, HX.out⟩ (fun hH => ?_)
          have HPl : Hid (Box wk48.drew (p) 69 ((playC st.f bI (st.is.set s (prepI i0 x.v.b)).length (some ⟨lg, 0, none⟩) xs.length lc st.dec).toArray)) := HPl.out
          have HX : Hid (Box wk48.drew (X) 87 (((x.addP s (some ⟨g1, 0, none⟩) c1).setB (decide (x.v.pr.length + 1 = st.f + 1))).cells)) := HX.out
          have HN : Hid (Box wk48.drew (a) 29 ((prepI i0 x.v.b).cells)) := HN.out
          have HMs : Hid (Box wk48.drew (b) 52 ((prepM i0 x.v.b).cells)) := HMs.out
          have HK : Hid (Kept (PSet p bI (some ⟨lg, 0, none⟩) xs) w wk48.drew) := HK.out.drew
          have HPM : Hid (PM w0 (wk48.drew) p bI (some ⟨lg, 0, none⟩) lc ({ st with is := st.is.set s (prepI i0 x.v.b) }) (xs) (some (k, false))) := HPM.out.no (Kept.refl No _).drew
          have HNO : Hid (Own 3 1 (wk48.drew) w0.heap.size (some ⟨g1, 0, none⟩) c1 (x.v.pr ++ [(s : Int)]).length (ints (x.v.pr ++ [(s : Int)]))) := HNO.out.no (Kept.refl No _).drew
          have HLT : Hid (X < wk48.drew.heap.size) := HLT.out
          generalize wk48.drew = wk49 at HPl HX HN HMs HK HLT hH HPM HNO ⊢
          refine any_take (i := 0) (oi := { dst := some 96, op := Op.move (Operand.tmp 0), type := 65, pos := "outright.go:142", after := #[], guard := none }) (v := .pointer (some ⟨p, 0, none⟩)) rfl (by kernel_rfl) (by kernel_rfl) (by kernel_rfl) (fun _ _ _ h => h) (by kernel_rfl) (fun _ _ => by kernel_rfl) hH ?_
          try simp only [Act.put, sA, s0, s1]
          refine any_take (i := 1) (oi := { dst := some 97, op := Op.nilCheck (Operand.tmp 96), type := 0, pos := "outright.go:142", after := #[{ on := 0, ground := Ground.data }], guard := none }) (v := .pointer (some ⟨p, 0, none⟩)) rfl (by kernel_rfl) (by kernel_rfl) (by kernel_rfl) (fun _ _ _ h => h) (by kernel_rfl) (fun _ _ => by kernel_rfl) hH ?_
          try simp only [Act.put, sA, s0, s1]
          refine any_take (i := 2) (oi := { dst := some 98, op := Op.fieldAddr 69 (Operand.tmp 97) 2, type := 0, pos := "outright.go:142", after := #[{ on := 1, ground := Ground.data }], guard := none }) (v := .pointer (some ⟨p, 2, none⟩)) rfl (by kernel_rfl) (by kernel_rfl) (by kernel_rfl) (fun _ _ _ h => h) (by kernel_rfl) (fun _ _ => by kernel_rfl) hH ?_
          try simp only [Act.put, sA, s0, s1]
          refine any_take (i := 3) (oi := { dst := some 99, op := Op.load 67 (Operand.tmp 98), type := 67, pos := "outright.go:142", after := #[{ on := 2, ground := Ground.data }], guard := none }) (v := .slice (some ⟨lg, 0, none⟩) xs.length lc) rfl (by kernel_rfl) (by kernel_rfl) (by kernel_rfl) (fun _ _ _ h => h) (by kernel_rfl) (fun w' hw => exec_load 67 _ rfl ⟨p, 2, none⟩ (by kernel_rfl) (.slice (some ⟨lg, 0, none⟩) xs.length lc) (load_pL hw.1)) hH ?_
          try simp only [Act.put, sA, s0, s1]
          refine any_take (i := 4) (oi := { dst := some 100, op := Op.move (Operand.tmp 1), type := 3, pos := "outright.go:142", after := #[], guard := none }) (v := .int .i64 k) rfl (by kernel_rfl) (by kernel_rfl) (by kernel_rfl) (fun _ _ _ h => h) (by kernel_rfl) (fun _ _ => by kernel_rfl) hH ?_
          try simp only [Act.put, sA, s0, s1]
          refine any_take (i := 5) (oi := { dst := some 101, op := Op.load 87 (Operand.tmp 9), type := 87, pos := "outright.go:142", after := #[], guard := none }) (v := .agg (((x.addP s (some ⟨g1, 0, none⟩) c1).setB (decide (x.v.pr.length + 1 = st.f + 1))).cells)) rfl (by kernel_rfl) (by kernel_rfl) (by kernel_rfl) (fun _ _ _ h => h) (by kernel_rfl) (fun w' hw => exec_load 87 _ rfl ⟨X, 0, none⟩ (by kernel_rfl) (.agg (((x.addP s (some ⟨g1, 0, none⟩) c1).setB (decide (x.v.pr.length + 1 = st.f + 1))).cells)) (load_P hw.2)) hH ?_
          try simp only [Act.put, sA, s0, s1]
          refine any_take (i := 6) (oi := { dst := some 102, op := Op.indexAddr 67 (Operand.tmp 99) (Operand.tmp 100), type := 0, pos := "outright.go:142", after := #[{ on := 3, ground := Ground.data }, { on := 4, ground := Ground.data }, { on := 0, ground := Ground.phase }, { on := 1, ground := Ground.phase }, { on := 2, ground := Ground.phase }, { on := 3, ground := Ground.phase }, { on := 4, ground := Ground.phase }, { on := 5, ground := Ground.phase }], guard := none }) (v := .pointer (some ⟨lg, 0 + k * 16, none⟩)) rfl (by kernel_rfl) (by kernel_rfl) (by kernel_rfl) (fun _ _ _ h => h) (by kernel_rfl) (fun w' hw => exec_ixA 67 16 Try.und67e Try.size67e _ _ rfl lg 0 xs.length lc k (by kernel_rfl) (by kernel_rfl) hkl) hH ?_
          try simp only [Act.put, sA, s0, s1]
          obtain ⟨cs2, hr2, hm2⟩ := HPM.out.setL (y := ((x.addP s (some ⟨g1, 0, none⟩) c1).setB (decide (x.v.pr.length + 1 = st.f + 1)))) HXK.out (.inr (.inl rfl)) HNO.out (HPM.out.aown k x HXK.out (by simp)) HAP.out.1 HAP.out.2
          refine any_store (i := 7) (o := { dst := none, op := Op.store 87 (Operand.tmp 102) (Operand.tmp 101), type := 0, pos := "outright.go:142", after := #[{ on := 6, ground := Ground.data }, { on := 5, ground := Ground.data }, { on := 0, ground := Ground.phase }, { on := 1, ground := Ground.phase }, { on := 2, ground := Ground.phase }, { on := 3, ground := Ground.phase }, { on := 4, ground := Ground.phase }, { on := 5, ground := Ground.phase }], guard := none }) rfl (by kernel_rfl) (by kernel_rfl) 87 _ _ rfl ⟨lg, 0 + k * 16, none⟩ (.agg (((x.addP s (some ⟨g1, 0, none⟩) c1).setB (decide (x.v.pr.length + 1 = st.f + 1))).cells)) (by kernel_rfl) (by kernel_rfl) hr2 (⟨hH.1.rowNe (by have := HO.out; omega) _, hH.2.rowNe (by have := HO.out; omega) _⟩) (fun hH => ?_)
          have HF : Hid (PM w0 (wk49.setRow lg cs2) p bI (some ⟨lg, 0, none⟩) lc { ({ st with is := st.is.set s (prepI i0 x.v.b) } : PS) with ls := st.ls.set k (((x.addP s (some ⟨g1, 0, none⟩) c1).setB (decide (x.v.pr.length + 1 = st.f + 1)))).v } (xs.set k (((x.addP s (some ⟨g1, 0, none⟩) c1).setB (decide (x.v.pr.length + 1 = st.f + 1))))) none) := hm2
          have HK : Hid (Kept (PSet p bI (some ⟨lg, 0, none⟩) xs) w (wk49.setRow lg cs2)) := HK.out.inRow (.inr (.inr (.inl ⟨_, rfl, rfl⟩))) _
          clear hr2 hm2
          generalize wk49.setRow lg cs2 = wk50 at HF HK hH ⊢
          try simp only [Act.put, sA, s0, s1]
          refine wpAnyH_done (by kernel_rfl) ?_ _
          try simp only [Act.put, sA, s0, s1]
          have hv : (((x.addP s (some ⟨g1, 0, none⟩) c1).setB (decide (x.v.pr.length + 1 = st.f + 1)))).v = cntP st.f x.v (prepI i0 x.v.b).a (prepI i0 x.v.b).c s := by
            have e := prep_k13 q4
            have hl : lt x.v.h i0.a = false := by have h := q6; rw [e.2.2.2.1] at h; exact h
            rw [e.2.2.1]
            simp [Px.addP, Px.setH, Px.setC, Px.setB, cntP, hl, e.2.2.2.1, e.2.2.2.2]
          have HFI : Hid (Inv { ({ st with is := st.is.set s (prepI i0 x.v.b) } : PS) with ls := st.ls.set k (((x.addP s (some ⟨g1, 0, none⟩) c1).setB (decide (x.v.pr.length + 1 = st.f + 1)))).v }) := by
            have e := prep_k13 q4
            have h1 := HIv.out.prep HSI.out x.v.b
            have h2 := set_here (x := (prepI i0 x.v.b)) HSI.out
            rw [hv]
            exact h1.count HXV.out h2 (by rw [e.2.2.1]; exact e.1) (by rw [e.2.2.1]) q3 (by simpa using q5)
          go_wp2
          go_ret
          exact ⟨rfl, _, xs.set k (((x.addP s (some ⟨g1, 0, none⟩) c1).setB (decide (x.v.pr.length + 1 = st.f + 1)))), HF.out, HFI.out, rfl, by simp, HK.out⟩
         ·skip
          refine wp_callW 19 #[.agg #[.int .i64 (prepM i0 x.v.b).h.n, .int .i64 (prepM i0 x.v.b).h.c], .agg #[.int .i64 (x.addP s (some ⟨g1, 0, none⟩) c1).v.h.n, .int .i64 (x.addP s (some ⟨g1, 0, none⟩) c1).v.h.c]] (by kernel_rfl) _ (above_any (prepM i0 x.v.b).h.n (prepM i0 x.v.b).h.c x.v.h.n x.v.h.c _) (by kernel_rfl) ?_
          rintro e wk51 ⟨rfl, hk⟩
          have HPl : Hid (Box wk51 (p) 69 ((playC st.f bI (st.is.set s (prepI i0 x.v.b)).length (some ⟨lg, 0, none⟩) xs.length lc st.dec).toArray)) := HPl.out.kept hk (fun e => e)
          have HX : Hid (Box wk51 (X) 87 ((x.addP s (some ⟨g1, 0, none⟩) c1).cells)) := HX.out.kept hk (fun e => e)
          have HN : Hid (Box wk51 (a) 29 ((prepI i0 x.v.b).cells)) := HN.out.kept hk (fun e => e)
          have HMs : Hid (Box wk51 (b) 52 ((prepM i0 x.v.b).cells)) := HMs.out.kept hk (fun e => e)
          have HK : Hid (Kept (PSet p bI (some ⟨lg, 0, none⟩) xs) w wk51) := HK.out.thenNo hk
          have HPM : Hid (PM w0 (wk51) p bI (some ⟨lg, 0, none⟩) lc ({ st with is := st.is.set s (prepI i0 x.v.b) }) (xs) (some (k, false))) := HPM.out.no hk
          have HNO : Hid (Own 3 1 (wk51) w0.heap.size (some ⟨g1, 0, none⟩) c1 (x.v.pr ++ [(s : Int)]).length (ints (x.v.pr ++ [(s : Int)]))) := HNO.out.no hk
          have HLT : Hid (X < wk51.heap.size) := Nat.lt_of_lt_of_le HLT.out hk.size
          clear hk
          refine ⟨.bool true, by rw [q6], ?_⟩
          try simp only [Act.put, sA, s0, s1]
          refine WL.nil ?_
          try simp only [Act.put, sA, s0, s1]
          go_upto_region 10 with fail
          refine WL.start ?_
          refine wp_takeW (.pointer (some ⟨b, 13, none⟩)) (by kernel_rfl) (by kernel_rfl) ?_
          try simp only [Act.put, sA, s0, s1]
          refine wp_takeW (.agg #[.int .i64 (prepM i0 x.v.b).h.n, .int .i64 (prepM i0 x.v.b).h.c]) (exec_load 23 _ rfl ⟨b, 13, none⟩ (by kernel_rfl) (.agg #[.int .i64 (prepM i0 x.v.b).h.n, .int .i64 (prepM i0 x.v.b).h.c]) (load_S HMs.out (Mg.partH _))) (by kernel_rfl) ?_
          try simp only [Act.put, sA, s0, s1]
          refine wp_takeW (.pointer (some ⟨X, 3, none⟩)) (by kernel_rfl) (by kernel_rfl) ?_
          try simp only [Act.put, sA, s0, s1]
          refine wp_storeW 23 _ _ rfl ⟨X, 3, none⟩ (.agg #[.int .i64 (prepM i0 x.v.b).h.n, .int .i64 (prepM i0 x.v.b).h.c]) (by kernel_rfl) (by kernel_rfl) _ (store_setH HX.out (prepM i0 x.v.b).h) (by kernel_rfl) ?_
          try simp only [Act.put, sA, s0, s1]
          have HLT : Hid (X < (wk51.setRow X (((x.addP s (some ⟨g1, 0, none⟩) c1).setH (prepM i0 x.v.b).h).cells)).heap.size) := by show _ < _; rw [setRow_size]; exact HLT.out
          have HPM : Hid (PM w0 (wk51.setRow X (((x.addP s (some ⟨g1, 0, none⟩) c1).setH (prepM i0 x.v.b).h).cells)) p bI (some ⟨lg, 0, none⟩) lc ({ st with is := st.is.set s (prepI i0 x.v.b) }) (xs) (some (k, false))) := HPM.out.far HPB.out (Kept.setRow _ _ _) (fun q e => by have e : q = X := e; have := HO.out; omega)
          have HNO : Hid (Own 3 1 (wk51.setRow X (((x.addP s (some ⟨g1, 0, none⟩) c1).setH (prepM i0 x.v.b).h).cells)) w0.heap.size (some ⟨g1, 0, none⟩) c1 (x.v.pr ++ [(s : Int)]).length (ints (x.v.pr ++ [(s : Int)]))) := HNO.out.kept (Kept.setRow _ _ _) (fun q hq e => own_box HNO.out HX.out (by decide) hq e)
          have HPl : Hid (Box (wk51.setRow X (((x.addP s (some ⟨g1, 0, none⟩) c1).setH (prepM i0 x.v.b).h).cells)) (p) 69 ((playC st.f bI (st.is.set s (prepI i0 x.v.b)).length (some ⟨lg, 0, none⟩) xs.length lc st.dec).toArray)) := HPl.out.rowNe (by have := HO.out; omega) _
          have HX : Hid (Box (wk51.setRow X (((x.addP s (some ⟨g1, 0, none⟩) c1).setH (prepM i0 x.v.b).h).cells)) (X) 87 (((x.addP s (some ⟨g1, 0, none⟩) c1).setH (prepM i0 x.v.b).h).cells)) := HX.out.setRow _
          have HN : Hid (Box (wk51.setRow X (((x.addP s (some ⟨g1, 0, none⟩) c1).setH (prepM i0 x.v.b).h).cells)) (a) 29 ((prepI i0 x.v.b).cells)) := HN.out.rowNe (by have := HO.out; omega) _
          have HMs : Hid (Box (wk51.setRow X (((x.addP s (some ⟨g1, 0, none⟩) c1).setH (prepM i0 x.v.b).h).cells)) (b) 52 ((prepM i0 x.v.b).cells)) := HMs.out.rowNe (by have := HO.out; omega) _
          have HK : Hid (Kept (PSet p bI (some ⟨lg, 0, none⟩) xs) w (wk51.setRow X (((x.addP s (some ⟨g1, 0, none⟩) c1).setH (prepM i0 x.v.b).h).cells))) := HK.out.newRowS (by have := HO.out; omega) _
          generalize wk51.setRow X (((x.addP s (some ⟨g1, 0, none⟩) c1).setH (prepM i0 x.v.b).h).cells) = wk52 at HPl HX HN HMs HK HLT HPM HNO ⊢
          refine WL.nil ?_
          try simp only [Act.put, sA, s0, s1]
          go_upto_region 11 with fail
          refine WL.start ?_
          refine wp_takeW (.pointer (some ⟨b, 16, none⟩)) (by kernel_rfl) (by kernel_rfl) ?_
          try simp only [Act.put, sA, s0, s1]
          refine wp_takeW (.agg (prepM i0 x.v.b).c.cells) (exec_load 27 _ rfl ⟨b, 16, none⟩ (by kernel_rfl) (.agg (prepM i0 x.v.b).c.cells) (load_MC HMs.out)) (by kernel_rfl) ?_
          try simp only [Act.put, sA, s0, s1]
          refine wp_takeW (.pointer (some ⟨X, 5, none⟩)) (by kernel_rfl) (by kernel_rfl) ?_
          try simp only [Act.put, sA, s0, s1]
          refine wp_storeW 27 _ _ rfl ⟨X, 5, none⟩ (.agg (prepM i0 x.v.b).c.cells) (by kernel_rfl) (by kernel_rfl) _ (store_setC HX.out (prepM i0 x.v.b).c) (by kernel_rfl) ?_
          try simp only [Act.put, sA, s0, s1]
          have HLT : Hid (X < (wk52.setRow X ((((x.addP s (some ⟨g1, 0, none⟩) c1).setH (prepM i0 x.v.b).h).setC (prepM i0 x.v.b).c).cells)).heap.size) := by show _ < _; rw [setRow_size]; exact HLT.out
          have HPM : Hid (PM w0 (wk52.setRow X ((((x.addP s (some ⟨g1, 0, none⟩) c1).setH (prepM i0 x.v.b).h).setC (prepM i0 x.v.b).c).cells)) p bI (some ⟨lg, 0, none⟩) lc ({ st with is := st.is.set s (prepI i0 x.v.b) }) (xs) (some (k, false))) := HPM.out.far HPB.out (Kept.setRow _ _ _) (fun q e => by have e : q = X := e; have := HO.out; omega)
          have HNO : Hid (Own 3 1 (wk52.setRow X ((((x.addP s (some ⟨g1, 0, none⟩) c1).setH (prepM i0 x.v.b).h).setC (prepM i0 x.v.b).c).cells)) w0.heap.size (some ⟨g1, 0, none⟩) c1 (x.v.pr ++ [(s : Int)]).length (ints (x.v.pr ++ [(s : Int)]))) := HNO.out.kept (Kept.setRow _ _ _) (fun q hq e => own_box HNO.out HX.out (by decide) hq e)
          have HPl : Hid (Box (wk52.setRow X ((((x.addP s (some ⟨g1, 0, none⟩) c1).setH (prepM i0 x.v.b).h).setC (prepM i0 x.v.b).c).cells)) (p) 69 ((playC st.f bI (st.is.set s (prepI i0 x.v.b)).length (some ⟨lg, 0, none⟩) xs.length lc st.dec).toArray)) := HPl.out.rowNe (by have := HO.out; omega) _
          have HX : Hid (Box (wk52.setRow X ((((x.addP s (some ⟨g1, 0, none⟩) c1).setH (prepM i0 x.v.b).h).setC (prepM i0 x.v.b).c).cells)) (X) 87 ((((x.addP s (some ⟨g1, 0, none⟩) c1).setH (prepM i0 x.v.b).h).setC (prepM i0 x.v.b).c).cells)) := HX.out.setRow _
          have HN : Hid (Box (wk52.setRow X ((((x.addP s (some ⟨g1, 0, none⟩) c1).setH (prepM i0 x.v.b).h).setC (prepM i0 x.v.b).c).cells)) (a) 29 ((prepI i0 x.v.b).cells)) := HN.out.rowNe (by have := HO.out; omega) _
          have HMs : Hid (Box (wk52.setRow X ((((x.addP s (some ⟨g1, 0, none⟩) c1).setH (prepM i0 x.v.b).h).setC (prepM i0 x.v.b).c).cells)) (b) 52 ((prepM i0 x.v.b).cells)) := HMs.out.rowNe (by have := HO.out; omega) _
          have HK : Hid (Kept (PSet p bI (some ⟨lg, 0, none⟩) xs) w (wk52.setRow X ((((x.addP s (some ⟨g1, 0, none⟩) c1).setH (prepM i0 x.v.b).h).setC (prepM i0 x.v.b).c).cells))) := HK.out.newRowS (by have := HO.out; omega) _
          generalize wk52.setRow X ((((x.addP s (some ⟨g1, 0, none⟩) c1).setH (prepM i0 x.v.b).h).setC (prepM i0 x.v.b).c).cells) = wk53 at HPl HX HN HMs HK HLT HPM HNO ⊢
          refine WL.nil ?_
          try simp only [Act.put, sA, s0, s1]
          go_upto_region 12 with fail
          have HXc : Hid (wk53.cell? ⟨X, 2, none⟩ = some (.slice (some ⟨g1, 0, none⟩) (x.v.pr ++ [(s : Int)]).length c1)) := HX.out.cell 2
          refine wp_region_held_drew (S := fun w' => Box w' (p) 69 ((playC st.f bI (st.is.set s (prepI i0 x.v.b)).length (some ⟨lg, 0, none⟩) xs.length lc st.dec).toArray) ∧ w'.cell? ⟨X, 2, none⟩ = some (.slice (some ⟨g1, 0, none⟩) (x.v.pr ++ [(s : Int)]).length c1)) rfl ⟨HPl.out, HXc.out⟩ (fun hH => ?_)
          have HPl : Hid (Box wk53.drew (p) 69 ((playC st.f bI (st.is.set s (prepI i0 x.v.b)).length (some ⟨lg, 0, none⟩) xs.length lc st.dec).toArray)) := HPl.out
          have HX : Hid (Box wk53.drew (X) 87 ((((x.addP s (some ⟨g1, 0, none⟩) c1).setH (prepM i0 x.v.b).h).setC (prepM i0 x.v.b).c).cells)) := HX.out
          have HN : Hid (Box wk53.drew (a) 29 ((prepI i0 x.v.b).cells)) := HN.out
          have HMs : Hid (Box wk53.drew (b) 52 ((prepM i0 x.v.b).cells)) := HMs.out
          have HXc : Hid (wk53.drew.cell? ⟨X, 2, none⟩ = some (.slice (some ⟨g1, 0, none⟩) (x.v.pr ++ [(s : Int)]).length c1)) := HXc.out
          have HK : Hid (Kept (PSet p bI (some ⟨lg, 0, none⟩) xs) w wk53.drew) := HK.out.drew
          have HPM : Hid (PM w0 (wk53.drew) p bI (some ⟨lg, 0, none⟩) lc ({ st with is := st.is.set s (prepI i0 x.v.b) }) (xs) (some (k, false))) := HPM.out.no (Kept.refl No _).drew
          have HNO : Hid (Own 3 1 (wk53.drew) w0.heap.size (some ⟨g1, 0, none⟩) c1 (x.v.pr ++ [(s : Int)]).length (ints (x.v.pr ++ [(s : Int)]))) := HNO.out.no (Kept.refl No _).drew
          have HLT : Hid (X < wk53.drew.heap.size) := HLT.out
          generalize wk53.drew = wk54 at HPl HX HN HMs HXc HK HLT hH HPM HNO ⊢
          refine any_take (i := 0) (oi := { dst := some 86, op := Op.fieldAddr 87 (Operand.tmp 9) 1, type := 0, pos := "outright.go:141", after := #[], guard := none }) (v := .pointer (some ⟨X, 2, none⟩)) rfl (by kernel_rfl) (by kernel_rfl) (by kernel_rfl) (fun _ _ _ h => h) (by kernel_rfl) (fun _ _ => by kernel_rfl) hH ?_
          try simp only [Act.put, sA, s0, s1]
          refine any_take (i := 1) (oi := { dst := some 87, op := Op.load 33 (Operand.tmp 86), type := 33, pos := "outright.go:141", after := #[{ on := 0, ground := Ground.data }], guard := none }) (v := .slice (some ⟨g1, 0, none⟩) (x.v.pr ++ [(s : Int)]).length c1) rfl (by kernel_rfl) (by kernel_rfl) (by kernel_rfl) (fun _ _ _ h => h) (by kernel_rfl) (fun w' hw => exec_load 33 _ rfl ⟨X, 2, none⟩ (by kernel_rfl) (.slice (some ⟨g1, 0, none⟩) (x.v.pr ++ [(s : Int)]).length c1) (load_one hw.2 Try.und33 rfl)) hH ?_
          try simp only [Act.put, sA, s0, s1]
          refine any_take (i := 2) (oi := { dst := some 88, op := Op.call { callee := Callee.builtin Builtin.len, args := #[Operand.tmp 87], argTypes := #[33] }, type := 3, pos := "outright.go:141", after := #[{ on := 1, ground := Ground.data }], guard := none }) (v := .int .i64 ((x.v.pr ++ [(s : Int)]).length : Int)) rfl (by kernel_rfl) (by kernel_rfl) (by kernel_rfl) (fun _ _ _ h => h) (by kernel_rfl) (fun _ _ => by kernel_rfl) hH ?_
          try simp only [Act.put, sA, s0, s1]
          refine any_take (i := 3) (oi := { dst := some 89, op := Op.move (Operand.tmp 0), type := 65, pos := "outright.go:141", after := #[], guard := none }) (v := .pointer (some ⟨p, 0, none⟩)) rfl (by kernel_rfl) (by kernel_rfl) (by kernel_rfl) (fun _ _ _ h => h) (by kernel_rfl) (fun _ _ => by kernel_rfl) hH ?_
          try simp only [Act.put, sA, s0, s1]
          refine any_take (i := 4) (oi := { dst := some 90, op := Op.nilCheck (Operand.tmp 89), type := 0, pos := "outright.go:141", after := #[{ on := 3, ground := Ground.data }], guard := none }) (v := .pointer (some ⟨p, 0, none⟩)) rfl (by kernel_rfl) (by kernel_rfl) (by kernel_rfl) (fun _ _ _ h => h) (by kernel_rfl) (fun _ _ => by kernel_rfl) hH ?_
          try simp only [Act.put, sA, s0, s1]
          refine any_take (i := 5) (oi := { dst := some 91, op := Op.fieldAddr 69 (Operand.tmp 90) 0, type := 0, pos := "outright.go:141", after := #[{ on := 4, ground := Ground.data }], guard := none }) (v := .pointer (some ⟨p, 0, none⟩)) rfl (by kernel_rfl) (by kernel_rfl) (by kernel_rfl) (fun _ _ _ h => h) (by kernel_rfl) (fun _ _ => by kernel_rfl) hH ?_
          try simp only [Act.put, sA, s0, s1]
          refine any_take (i := 6) (oi := { dst := some 92, op := Op.load 3 (Operand.tmp 91), type := 3, pos := "outright.go:141", after := #[{ on := 5, ground := Ground.data }], guard := none }) (v := .int .i64 (st.f : Int)) rfl (by kernel_rfl) (by kernel_rfl) (by kernel_rfl) (fun _ _ _ h => h) (by kernel_rfl) (fun w' hw => exec_load 3 _ rfl ⟨p, 0, none⟩ (by kernel_rfl) (.int .i64 (st.f : Int)) (load_pF hw.1)) hH ?_
          try simp only [Act.put, sA, s0, s1]
          refine any_take (i := 7) (oi := { dst := some 93, op := Op.binOp BinOp.add 3 (Operand.tmp 92) (Operand.const (Value.int IntKind.i64 1)) 3, type := 3, pos := "outright.go:141", after := #[{ on := 6, ground := Ground.data }], guard := none }) (v := .int .i64 ((st.f : Int) + 1)) rfl (by kernel_rfl) (by kernel_rfl) (by kernel_rfl) (fun _ _ _ h => h) (by kernel_rfl) (fun w' hw => exec_bin .add 3 _ _ _ rfl (.int .i64 (st.f : Int)) (.int .i64 1) (.int .i64 ((st.f : Int) + 1)) (by kernel_rfl) (by kernel_rfl) (by kernel_rfl) (addN _ _ (by omega) (by omega))) hH ?_
          try simp only [Act.put, sA, s0, s1]
          refine any_take (i := 8) (oi := { dst := some 94, op := Op.binOp BinOp.eql 3 (Operand.tmp 88) (Operand.tmp 93) 3, type := 4, pos := "outright.go:141", after := #[{ on := 2, ground := Ground.data }, { on := 7, ground := Ground.data }], guard := none }) (v := .bool (decide (x.v.pr.length + 1 = st.f + 1))) rfl (by kernel_rfl) (by kernel_rfl) (by kernel_rfl) (fun _ _ _ h => h) (by kernel_rfl) (fun w' hw => exec_bin .eql 3 _ _ _ rfl (.int .i64 ((x.v.pr ++ [(s : Int)]).length : Int)) (.int .i64 ((st.f : Int) + 1)) (.bool (decide (x.v.pr.length + 1 = st.f + 1))) (by kernel_rfl) (by kernel_rfl) (by kernel_rfl) (by rw [eqlN, List.length_append, List.length_singleton, chEq])) hH ?_
          try simp only [Act.put, sA, s0, s1]
          refine any_take (i := 9) (oi := { dst := some 95, op := Op.fieldAddr 87 (Operand.tmp 9) 4, type := 0, pos := "outright.go:141", after := #[{ on := 0, ground := Ground.phase }, { on := 1, ground := Ground.phase }, { on := 2, ground := Ground.phase }, { on := 3, ground := Ground.phase }, { on := 4, ground := Ground.phase }, { on := 5, ground := Ground.phase }, { on := 6, ground := Ground.phase }, { on := 7, ground := Ground.phase }, { on := 8, ground := Ground.phase }], guard := none }) (v := .pointer (some ⟨X, 14, none⟩)) rfl (by kernel_rfl) (by kernel_rfl) (by kernel_rfl) (fun _ _ _ h => h) (by kernel_rfl) (fun _ _ => by kernel_rfl) hH ?_
          try simp only [Act.put, sA, s0, s1]
          refine any_store (i := 10) (o := { dst := none, op := Op.store 4 (Operand.tmp 95) (Operand.tmp 94), type := 0, pos := "outright.go:141", after := #[{ on := 9, ground := Ground.data }, { on := 8, ground := Ground.data }, { on := 0, ground := Ground.phase }, { on := 1, ground := Ground.phase }, { on := 2, ground := Ground.phase }, { on := 3, ground := Ground.phase }, { on := 4, ground := Ground.phase }, { on := 5, ground := Ground.phase }, { on := 6, ground := Ground.phase }, { on := 7, ground := Ground.phase }, { on := 8, ground := Ground.phase }], guard := none }) rfl (by kernel_rfl) (by kernel_rfl) 4 _ _ rfl ⟨X, 14, none⟩ (.bool (decide (x.v.pr.length + 1 = st.f + 1))) (by kernel_rfl) (by kernel_rfl) (store_setB HX.out (decide (x.v.pr.length + 1 = st.f + 1))) ⟨HPl.out.rowNe (by have := HO.out; omega) _, (HX.out.setRow _).cell 2⟩ (fun hH => ?_)
          have HPM : Hid (PM w0 (wk54.setRow X (((((x.addP s (some ⟨g1, 0, none⟩) c1).setH (prepM i0 x.v.b).h).setC (prepM i0 x.v.b).c).setB (decide (x.v.pr.length + 1 = st.f + 1))).cells)) p bI (some ⟨lg, 0, none⟩) lc ({ st with is := st.is.set s (prepI i0 x.v.b) }) (xs) (some (k, false))) := HPM.out.far HPB.out (Kept.setRow _ _ _) (fun q e => by have e : q = X := e; have := HO.out; omega)
          have HNO : Hid (Own 3 1 (wk54.setRow X (((((x.addP s (some ⟨g1, 0, none⟩) c1).setH (prepM i0 x.v.b).h).setC (prepM i0 x.v.b).c).setB (decide (x.v.pr.length + 1 = st.f + 1))).cells)) w0.heap.size (some ⟨g1, 0, none⟩) c1 (x.v.pr ++ [(s : Int)]).length (ints (x.v.pr ++ [(s : Int)]))) := HNO.out.kept (Kept.setRow _ _ _) (fun q hq e => own_box HNO.out HX.out (by decide) hq e)
          have HPl : Hid (Box (wk54.setRow X (((((x.addP s (some ⟨g1, 0, none⟩) c1).setH (prepM i0 x.v.b).h).setC (prepM i0 x.v.b).c).setB (decide (x.v.pr.length + 1 = st.f + 1))).cells)) (p) 69 ((playC st.f bI (st.is.set s (prepI i0 x.v.b)).length (some ⟨lg, 0, none⟩) xs.length lc st.dec).toArray)) := HPl.out.rowNe (by have := HO.out; omega) _
          have HX : Hid (Box (wk54.setRow X (((((x.addP s (some ⟨g1, 0, none⟩) c1).setH (prepM i0 x.v.b).h).setC (prepM i0 x.v.b).c).setB (decide (x.v.pr.length + 1 = st.f + 1))).cells)) (X) 87 (((((x.addP s (some ⟨g1, 0, none⟩) c1).setH (prepM i0 x.v.b).h).setC (prepM i0 x.v.b).c).setB (decide (x.v.pr.length + 1 = st.f + 1))).cells)) := HX.out.setRow _
          have HN : Hid (Box (wk54.setRow X (((((x.addP s (some ⟨g1, 0, none⟩) c1).setH (prepM i0 x.v.b).h).setC (prepM i0 x.v.b).c).setB (decide (x.v.pr.length + 1 = st.f + 1))).cells)) (a) 29 ((prepI i0 x.v.b).cells)) := HN.out.rowNe (by have := HO.out; omega) _
          have HMs : Hid (Box (wk54.setRow X (((((x.addP s (some ⟨g1, 0, none⟩) c1).setH (prepM i0 x.v.b).h).setC (prepM i0 x.v.b).c).setB (decide (x.v.pr.length + 1 = st.f + 1))).cells)) (b) 52 ((prepM i0 x.v.b).cells)) := HMs.out.rowNe (by have := HO.out; omega) _
          have HK : Hid (Kept (PSet p bI (some ⟨lg, 0, none⟩) xs) w (wk54.setRow X (((((x.addP s (some ⟨g1, 0, none⟩) c1).setH (prepM i0 x.v.b).h).setC (prepM i0 x.v.b).c).setB (decide (x.v.pr.length + 1 = st.f + 1))).cells))) := HK.out.newRowS (by have := HO.out; omega) _
          have HLT : Hid (X < (wk54.setRow X (((((x.addP s (some ⟨g1, 0, none⟩) c1).setH (prepM i0 x.v.b).h).setC (prepM i0 x.v.b).c).setB (decide (x.v.pr.length + 1 = st.f + 1))).cells)).heap.size) := by show _ < _; rw [setRow_size]; exact HLT.out
          generalize wk54.setRow X (((((x.addP s (some ⟨g1, 0, none⟩) c1).setH (prepM i0 x.v.b).h).setC (prepM i0 x.v.b).c).setB (decide (x.v.pr.length + 1 = st.f + 1))).cells) = wk55 at HPl HX HN HMs HK HLT hH HPM HNO ⊢
          clear HXc
          refine wpAnyH_done (by kernel_rfl) ?_ _
          try simp only [Act.put, sA, s0, s1]
          go_upto_region 13 with fail
          refine wp_region_held_drew (S := fun w' => Box w' (p) 69 ((playC st.f bI (st.is.set s (prepI i0 x.v.b)).length (some ⟨lg, 0, none⟩) xs.length lc st.dec).toArray) ∧ Box w' (X) 87 (((((x.addP s (some ⟨g1, 0, none⟩) c1).setH (prepM i0 x.v.b).h).setC (prepM i0 x.v.b).c).setB (decide (x.v.pr.length + 1 = st.f + 1))).cells)) rfl ⟨HPl.out, HX.out⟩ (fun hH => ?_)
          have HPl : Hid (Box wk55.drew (p) 69 ((playC st.f bI (st.is.set s (prepI i0 x.v.b)).length (some ⟨lg, 0, none⟩) xs.length lc st.dec).toArray)) := HPl.out
          have HX : Hid (Box wk55.drew (X) 87 (((((x.addP s (some ⟨g1, 0, none⟩) c1).setH (prepM i0 x.v.b).h).setC (prepM i0 x.v.b).c).setB (decide (x.v.pr.length + 1 = st.f + 1))).cells)) := HX.out
          have HN : Hid (Box wk55.drew (a) 29 ((prepI i0 x.v.b).cells)) := HN.out
          have HMs : Hid (Box wk55.drew (b) 52 ((prepM i0 x.v.b).cells)) := HMs.out
          have HK : Hid (Kept (PSet p bI (some ⟨lg, 0, none⟩) xs) w wk55.drew) := HK.out.drew
          have HPM : Hid (PM w0 (wk55.drew) p bI (some ⟨lg, 0, none⟩) lc ({ st with is := st.is.set s (prepI i0 x.v.b) }) (xs) (some (k, false))) := HPM.out.no (Kept.refl No _).drew
          have HNO : Hid (Own 3 1 (wk55.drew) w0.heap.size (some ⟨g1, 0, none⟩) c1 (x.v.pr ++ [(s : Int)]).length (ints (x.v.pr ++ [(s : Int)]))) := HNO.out.no (Kept.refl No _).drew
          have HLT : Hid (X < wk55.drew.heap.size) := HLT.out
          generalize wk55.drew = wk56 at HPl HX HN HMs HK HLT hH HPM HNO ⊢
          refine any_take (i := 0) (oi := { dst := some 96, op := Op.move (Operand.tmp 0), type := 65, pos := "outright.go:142", after := #[], guard := none }) (v := .pointer (some ⟨p, 0, none⟩)) rfl (by kernel_rfl) (by kernel_rfl) (by kernel_rfl) (fun _ _ _ h => h) (by kernel_rfl) (fun _ _ => by kernel_rfl) hH ?_
          try simp only [Act.put, sA, s0, s1]
          refine any_take (i := 1) (oi := { dst := some 97, op := Op.nilCheck (Operand.tmp 96), type := 0, pos := "outright.go:142", after := #[{ on := 0, ground := Ground.data }], guard := none }) (v := .pointer (some ⟨p, 0, none⟩)) rfl (by kernel_rfl) (by kernel_rfl) (by kernel_rfl) (fun _ _ _ h => h) (by kernel_rfl) (fun _ _ => by kernel_rfl) hH ?_
          try simp only [Act.put, sA, s0, s1]
          refine any_take (i := 2) (oi := { dst := some 98, op := Op.fieldAddr 69 (Operand.tmp 97) 2, type := 0, pos := "outright.go:142", after := #[{ on := 1, ground := Ground.data }], guard := none }) (v := .pointer (some ⟨p, 2, none⟩)) rfl (by kernel_rfl) (by kernel_rfl) (by kernel_rfl) (fun _ _ _ h => h) (by kernel_rfl) (fun _ _ => by kernel_rfl) hH ?_
          try simp only [Act.put, sA, s0, s1]
          refine any_take (i := 3) (oi := { dst := some 99, op := Op.load 67 (Operand.tmp 98), type := 67, pos := "outright.go:142", after := #[{ on := 2, ground := Ground.data }], guard := none }) (v := .slice (some ⟨lg, 0, none⟩) xs.length lc) rfl (by kernel_rfl) (by kernel_rfl) (by kernel_rfl) (fun _ _ _ h => h) (by kernel_rfl) (fun w' hw => exec_load 67 _ rfl ⟨p, 2, none⟩ (by kernel_rfl) (.slice (some ⟨lg, 0, none⟩) xs.length lc) (load_pL hw.1)) hH ?_
          try simp only [Act.put, sA, s0, s1]
          refine any_take (i := 4) (oi := { dst := some 100, op := Op.move (Operand.tmp 1), type := 3, pos := "outright.go:142", after := #[], guard := none }) (v := .int .i64 k) rfl (by kernel_rfl) (by kernel_rfl) (by kernel_rfl) (fun _ _ _ h => h) (by kernel_rfl) (fun _ _ => by kernel_rfl) hH ?_
          try simp only [Act.put, sA, s0, s1]
          refine any_take (i := 5) (oi := { dst := some 101, op := Op.load 87 (Operand.tmp 9), type := 87, pos := "outright.go:142", after := #[], guard := none }) (v := .agg (((((x.addP s (some ⟨g1, 0, none⟩) c1).setH (prepM i0 x.v.b).h).setC (prepM i0 x.v.b).c).setB (decide (x.v.pr.length + 1 = st.f + 1))).cells)) rfl (by kernel_rfl) (by kernel_rfl) (by kernel_rfl) (fun _ _ _ h => h) (by kernel_rfl) (fun w' hw => exec_load 87 _ rfl ⟨X, 0, none⟩ (by kernel_rfl) (.agg (((((x.addP s (some ⟨g1, 0, none⟩) c1).setH (prepM i0 x.v.b).h).setC (prepM i0 x.v.b).c).setB (decide (x.v.pr.length + 1 = st.f + 1))).cells)) (load_P hw.2)) hH ?_
          try simp only [Act.put, sA, s0, s1]
          refine any_take (i := 6) (oi := { dst := some 102, op := Op.indexAddr 67 (Operand.tmp 99) (Operand.tmp 100), type := 0, pos := "outright.go:142", after := #[{ on := 3, ground := Ground.data }, { on := 4, ground := Ground.data }, { on := 0, ground := Ground.phase }, { on := 1, ground := Ground.phase }, { on := 2, ground := Ground.phase }, { on := 3, ground := Ground.phase }, { on := 4, ground := Ground.phase }, { on := 5, ground := Ground.phase }], guard := none }) (v := .pointer (some ⟨lg, 0 + k * 16, none⟩)) rfl (by kernel_rfl) (by kernel_rfl) (by kernel_rfl) (fun _ _ _ h => h) (by kernel_rfl) (fun w' hw => exec_ixA 67 16 Try.und67e Try.size67e _ _ rfl lg 0 xs.length lc k (by kernel_rfl) (by kernel_rfl) hkl) hH ?_
          try simp only [Act.put, sA, s0, s1]
          obtain ⟨cs2, hr2, hm2⟩ := HPM.out.setL (y := ((((x.addP s (some ⟨g1, 0, none⟩) c1).setH (prepM i0 x.v.b).h).setC (prepM i0 x.v.b).c).setB (decide (x.v.pr.length + 1 = st.f + 1)))) HXK.out (.inr (.inl rfl)) HNO.out (HPM.out.aown k x HXK.out (by simp)) HAP.out.1 HAP.out.2
          refine any_store (i := 7) (o := { dst := none, op := Op.store 87 (Operand.tmp 102) (Operand.tmp 101), type := 0, pos := "outright.go:142", after := #[{ on := 6, ground := Ground.data }, { on := 5, ground := Ground.data }, { on := 0, ground := Ground.phase }, { on := 1, ground := Ground.phase }, { on := 2, ground := Ground.phase }, { on := 3, ground := Ground.phase }, { on := 4, ground := Ground.phase }, { on := 5, ground := Ground.phase }], guard := none }) rfl (by kernel_rfl) (by kernel_rfl) 87 _ _ rfl ⟨lg, 0 + k * 16, none⟩ (.agg (((((x.addP s (some ⟨g1, 0, none⟩) c1).setH (prepM i0 x.v.b).h).setC (prepM i0 x.v.b).c).setB (decide (x.v.pr.length + 1 = st.f + 1))).cells)) (by kernel_rfl) (by kernel_rfl) hr2 (⟨hH.1.rowNe (by have := HO.out; omega) _, hH.2.rowNe (by have := HO.out; omega) _⟩) (fun hH => ?_)
          have HF : Hid (PM w0 (wk56.setRow lg cs2) p bI (some ⟨lg, 0, none⟩) lc { ({ st with is := st.is.set s (prepI i0 x.v.b) } : PS) with ls := st.ls.set k (((((x.addP s (some ⟨g1, 0, none⟩) c1).setH (prepM i0 x.v.b).h).setC (prepM i0 x.v.b).c).setB (decide (x.v.pr.length + 1 = st.f + 1)))).v } (xs.set k (((((x.addP s (some ⟨g1, 0, none⟩) c1).setH (prepM i0 x.v.b).h).setC (prepM i0 x.v.b).c).setB (decide (x.v.pr.length + 1 = st.f + 1))))) none) := hm2
          have HK : Hid (Kept (PSet p bI (some ⟨lg, 0, none⟩) xs) w (wk56.setRow lg cs2)) := HK.out.inRow (.inr (.inr (.inl ⟨_, rfl, rfl⟩))) _
          clear hr2 hm2
          generalize wk56.setRow lg cs2 = wk57 at HF HK hH ⊢
          try simp only [Act.put, sA, s0, s1]
          refine wpAnyH_done (by kernel_rfl) ?_ _
          try simp only [Act.put, sA, s0, s1]
          have hv : (((((x.addP s (some ⟨g1, 0, none⟩) c1).setH (prepM i0 x.v.b).h).setC (prepM i0 x.v.b).c).setB (decide (x.v.pr.length + 1 = st.f + 1)))).v = cntP st.f x.v (prepI i0 x.v.b).a (prepI i0 x.v.b).c s := by
            have e := prep_k13 q4
            have hl : lt x.v.h i0.a = true := by have h := q6; rw [e.2.2.2.1] at h; exact h
            rw [e.2.2.1]
            simp [Px.addP, Px.setH, Px.setC, Px.setB, cntP, hl, e.2.2.2.1, e.2.2.2.2]
          have HFI : Hid (Inv { ({ st with is := st.is.set s (prepI i0 x.v.b) } : PS) with ls := st.ls.set k (((((x.addP s (some ⟨g1, 0, none⟩) c1).setH (prepM i0 x.v.b).h).setC (prepM i0 x.v.b).c).setB (decide (x.v.pr.length + 1 = st.f + 1)))).v }) := by
            have e := prep_k13 q4
            have h1 := HIv.out.prep HSI.out x.v.b
            have h2 := set_here (x := (prepI i0 x.v.b)) HSI.out
            rw [hv]
            exact h1.count HXV.out h2 (by rw [e.2.2.1]; exact e.1) (by rw [e.2.2.1]) q3 (by simpa using q5)
          go_wp2
          go_ret
          exact ⟨rfl, _, xs.set k (((((x.addP s (some ⟨g1, 0, none⟩) c1).setH (prepM i0 x.v.b).h).setC (prepM i0 x.v.b).c).setB (decide (x.v.pr.length + 1 = st.f + 1)))), HF.out, HFI.out, rfl, by simp, HK.out⟩
        ·skip
         refine wp_callW 36 #[.slice x.pa x.v.pr.length x.pc, .int .i64 s] (by kernel_rfl) _ (has_any _ _ _ x.v.pr _ _ rfl (by have := HLE.out; omega) ((HPM.out.pown k x HXK.out (by simp)).nums rfl)) (by kernel_rfl) ?_
         rintro e wq ⟨rfl, hwq⟩
         rw [hwq]
         clear hwq wq
         refine ⟨.bool true, by rw [q5], ?_⟩
         try simp only [Act.put, sA, s0, s1]
         refine wp_takeW (.bool true) (by kernel_rfl) (by kernel_rfl) ?_
         try simp only [Act.put, sA, s0, s1]
         refine WL.nil ?_
         try simp only [Act.put, sA, s0, s1]
         go_wp2
         go_ret
         exact ⟨rfl, _, xs, HPM.out, HIv.out.prep HSI.out _, rfl, rfl, HK.out⟩
      ·skip
       refine wp_takeW (.bool true) (exec_load 4 _ rfl ⟨X, 14, none⟩ (by kernel_rfl) (.bool true) (by rw [← q3]; exact load_P14 HX.out)) (by kernel_rfl) ?_
       try simp only [Act.put, sA, s0, s1]
       refine wp_takeW (.bool true) (by kernel_rfl) (by kernel_rfl) ?_
       try simp only [Act.put, sA, s0, s1]
       refine wp_takeW (.bool true) (by kernel_rfl) (by kernel_rfl) ?_
       try simp only [Act.put, sA, s0, s1]
       refine wp_skip (by kernel_rfl) ?_
       try simp only [Act.put, sA, s0, s1]
       refine wp_skip (by kernel_rfl) ?_
       try simp only [Act.put, sA, s0, s1]
       refine wp_skip (by kernel_rfl) ?_
       try simp only [Act.put, sA, s0, s1]
       refine wp_takeW (.bool true) (by kernel_rfl) (by kernel_rfl) ?_
       try simp only [Act.put, sA, s0, s1]
       refine wp_takeW (.bool true) (by kernel_rfl) (by kernel_rfl) ?_
       try simp only [Act.put, sA, s0, s1]
       refine wp_skip (by kernel_rfl) ?_
       try simp only [Act.put, sA, s0, s1]
       refine wp_skip (by kernel_rfl) ?_
       try simp only [Act.put, sA, s0, s1]
       refine wp_skip (by kernel_rfl) ?_
       try simp only [Act.put, sA, s0, s1]
       refine wp_skip (by kernel_rfl) ?_
       try simp only [Act.put, sA, s0, s1]
       refine wp_takeW (.bool true) (by kernel_rfl) (by kernel_rfl) ?_
       try simp only [Act.put, sA, s0, s1]
       refine WL.nil ?_
       try simp only [Act.put, sA, s0, s1]
       go_wp2
       go_ret
       exact ⟨rfl, _, xs, HPM.out, HIv.out.prep HSI.out _, rfl, rfl, HK.out⟩
     ·skip
      have HLE : Hid (x.v.pr.length ≤ 1000) := by have := (HIv.out.ok k x.v HXV.out).le; show _ ≤ _; omega
      refine WL.start ?_
      refine wp_takeW (.bool true) (by kernel_rfl) (by kernel_rfl) ?_
      try simp only [Act.put, sA, s0, s1]
      refine wp_takeW (.bool true) (by kernel_rfl) (by kernel_rfl) ?_
      try simp only [Act.put, sA, s0, s1]
      refine wp_skip (by kernel_rfl) ?_
      try simp only [Act.put, sA, s0, s1]
      refine wp_skip (by kernel_rfl) ?_
      try simp only [Act.put, sA, s0, s1]
      refine wp_takeW (.bool true) (by kernel_rfl) (by kernel_rfl) ?_
      try simp only [Act.put, sA, s0, s1]
      refine wp_takeW (.bool true) (by kernel_rfl) (by kernel_rfl) ?_
      try simp only [Act.put, sA, s0, s1]
      refine wp_skip (by kernel_rfl) ?_
      try simp only [Act.put, sA, s0, s1]
      refine wp_skip (by kernel_rfl) ?_
      try simp only [Act.put, sA, s0, s1]
      refine wp_skip (by kernel_rfl) ?_
      try simp only [Act.put, sA, s0, s1]
      refine wp_takeW (.bool true) (by kernel_rfl) (by kernel_rfl) ?_
      try simp only [Act.put, sA, s0, s1]
      refine wp_takeW (.bool true) (by kernel_rfl) (by kernel_rfl) ?_
      try simp only [Act.put, sA, s0, s1]
      refine wp_skip (by kernel_rfl) ?_
      try simp only [Act.put, sA, s0, s1]
      refine wp_skip (by kernel_rfl) ?_
      try simp only [Act.put, sA, s0, s1]
      refine wp_skip (by kernel_rfl) ?_
      try simp only [Act.put, sA, s0, s1]
      refine wp_skip (by kernel_rfl) ?_
      try simp only [Act.put, sA, s0, s1]
      refine wp_takeW (.bool true) (by kernel_rfl) (by kernel_rfl) ?_
      try simp only [Act.put, sA, s0, s1]
      refine WL.nil ?_
      try simp only [Act.put, sA, s0, s1]
      go_wp2
      go_ret
      exact ⟨rfl, _, xs, HPM.out, HIv.out.prep HSI.out _, rfl, rfl, HK.out⟩
    ·skip
     refine any_take (i := 2) (oi := { dst := some 43, op := Op.binOp BinOp.eql 3 (Operand.tmp 42) (Operand.const (Value.int IntKind.i64 16)) 3, type := 4, pos := "outright.go:130", after := #[{ on := 1, ground := Ground.data }], guard := none }) (v := .bool true) rfl (by kernel_rfl) (by kernel_rfl) (by kernel_rfl) (fun _ _ _ h => h) (by kernel_rfl) (fun w' hw => exec_bin .eql 3 _ _ _ rfl (.int .i64 (prepM i0 x.v.b).k) (.int .i64 16) (.bool true) (by kernel_rfl) (by kernel_rfl) (by kernel_rfl) (by rw [eqlN, q1]; try rfl)) hH ?_
     try simp only [Act.put, sA, s0, s1]
     refine any_take (i := 3) (oi := { dst := some 44, op := Op.move (Operand.tmp 43), type := 4, pos := "outright.go:130", after := #[{ on := 2, ground := Ground.data }], guard := none }) (v := .bool true) rfl (by kernel_rfl) (by kernel_rfl) (by kernel_rfl) (fun _ _ _ h => h) (by kernel_rfl) (fun _ _ => by kernel_rfl) hH ?_
     try simp only [Act.put, sA, s0, s1]
     refine any_take (i := 4) (oi := { dst := some 45, op := Op.fieldAddr 52 (Operand.tmp 11) 9, type := 0, pos := "outright.go:130", after := #[{ on := 3, ground := Ground.guard }], guard := some (3, true) }) (v := .pointer (some ⟨b, 16, none⟩)) rfl (by kernel_rfl) (by kernel_rfl) (by kernel_rfl) (fun _ _ _ h => h) (by kernel_rfl) (fun _ _ => by kernel_rfl) hH ?_
     try simp only [Act.put, sA, s0, s1]
     refine any_take (i := 5) (oi := { dst := some 46, op := Op.load 27 (Operand.tmp 45), type := 27, pos := "outright.go:130", after := #[{ on := 4, ground := Ground.data }, { on := 3, ground := Ground.guard }], guard := some (3, true) }) (v := .agg (prepM i0 x.v.b).c.cells) rfl (by kernel_rfl) (by kernel_rfl) (by kernel_rfl) (fun _ _ _ h => h) (by kernel_rfl) (fun w' hw => exec_load 27 _ rfl ⟨b, 16, none⟩ (by kernel_rfl) (.agg (prepM i0 x.v.b).c.cells) (load_MC hw.2)) hH ?_
     try simp only [Act.put, sA, s0, s1]
     refine any_take (i := 6) (oi := { dst := some 47, op := Op.move (Operand.tmp 0), type := 65, pos := "outright.go:130", after := #[{ on := 3, ground := Ground.guard }], guard := some (3, true) }) (v := .pointer (some ⟨p, 0, none⟩)) rfl (by kernel_rfl) (by kernel_rfl) (by kernel_rfl) (fun _ _ _ h => h) (by kernel_rfl) (fun _ _ => by kernel_rfl) hH ?_
     try simp only [Act.put, sA, s0, s1]
     refine any_take (i := 7) (oi := { dst := some 48, op := Op.nilCheck (Operand.tmp 47), type := 0, pos := "outright.go:130", after := #[{ on := 6, ground := Ground.data }, { on := 3, ground := Ground.guard }], guard := some (3, true) }) (v := .pointer (some ⟨p, 0, none⟩)) rfl (by kernel_rfl) (by kernel_rfl) (by kernel_rfl) (fun _ _ _ h => h) (by kernel_rfl) (fun _ _ => by kernel_rfl) hH ?_
     try simp only [Act.put, sA, s0, s1]
     refine any_take (i := 8) (oi := { dst := some 49, op := Op.fieldAddr 69 (Operand.tmp 48) 3, type := 0, pos := "outright.go:130", after := #[{ on := 7, ground := Ground.data }, { on := 3, ground := Ground.guard }], guard := some (3, true) }) (v := .pointer (some ⟨p, 3, none⟩)) rfl (by kernel_rfl) (by kernel_rfl) (by kernel_rfl) (fun _ _ _ h => h) (by kernel_rfl) (fun _ _ => by kernel_rfl) hH ?_
     try simp only [Act.put, sA, s0, s1]
     refine any_take (i := 9) (oi := { dst := some 50, op := Op.load 27 (Operand.tmp 49), type := 27, pos := "outright.go:130", after := #[{ on := 8, ground := Ground.data }, { on := 3, ground := Ground.guard }], guard := some (3, true) }) (v := .agg st.dec.cells) rfl (by kernel_rfl) (by kernel_rfl) (by kernel_rfl) (fun _ _ _ h => h) (by kernel_rfl) (fun w' hw => exec_load 27 _ rfl ⟨p, 3, none⟩ (by kernel_rfl) (.agg st.dec.cells) (load_pD hw.1)) hH ?_
     try simp only [Act.put, sA, s0, s1]
     refine any_take (i := 10) (oi := { dst := some 51, op := Op.binOp BinOp.neq 27 (Operand.tmp 46) (Operand.tmp 50) 27, type := 4, pos := "outright.go:130", after := #[{ on := 5, ground := Ground.data }, { on := 9, ground := Ground.data }, { on := 3, ground := Ground.guard }], guard := some (3, true) }) (v := .bool false) rfl (by kernel_rfl) (by kernel_rfl) (by kernel_rfl) (fun _ _ _ h => h) (by kernel_rfl) (fun w' hw => exec_bin .neq 27 _ _ _ rfl (.agg (prepM i0 x.v.b).c.cells) (.agg st.dec.cells) (.bool false) (by kernel_rfl) (by kernel_rfl) (guard_C _ (.inr rfl) _ _ _ _ _) (by rw [neqC, (prep_k16 q1).2, (HIv.out.kn s i0 HSI.out (prep_k16 q1).1).1, eqC_refl]; rfl)) hH ?_
     try simp only [Act.put, sA, s0, s1]
     refine any_take (i := 11) (oi := { dst := some 52, op := Op.pick (Operand.tmp 44) (Operand.tmp 51) (Operand.const (Value.bool false)), type := 4, pos := "outright.go:130", after := #[{ on := 3, ground := Ground.data }, { on := 10, ground := Ground.data }], guard := none }) (v := .bool false) rfl (by kernel_rfl) (by kernel_rfl) (by kernel_rfl) (fun _ _ _ h => h) (by kernel_rfl) (fun _ _ => by kernel_rfl) hH ?_
     try simp only [Act.put, sA, s0, s1]
     refine wpAnyH_done (by kernel_rfl) ?_ _
     try simp only [Act.put, sA, s0, s1]
     go_upto_region 6 with fail
     cases q7 : (lost)
     ·skip
      have HLE : Hid (x.v.pr.length ≤ 1000) := by have := (HIv.out.ok k x.v HXV.out).le; show _ ≤ _; omega
      refine WL.start ?_
      refine wp_takeW (.bool false) (by kernel_rfl) (by kernel_rfl) ?_
      try simp only [Act.put, sA, s0, s1]
      refine wp_takeW (.bool false) (by kernel_rfl) (by kernel_rfl) ?_
      try simp only [Act.put, sA, s0, s1]
      refine wp_takeW (.pointer (some ⟨X, 14, none⟩)) (by kernel_rfl) (by kernel_rfl) ?_
      try simp only [Act.put, sA, s0, s1]
      cases q8 : (x.v.ch)
      ·skip
       refine wp_takeW (.bool false) (exec_load 4 _ rfl ⟨X, 14, none⟩ (by kernel_rfl) (.bool false) (by rw [← q8]; exact load_P14 HX.out)) (by kernel_rfl) ?_
       try simp only [Act.put, sA, s0, s1]
       refine wp_takeW (.bool false) (by kernel_rfl) (by kernel_rfl) ?_
       try simp only [Act.put, sA, s0, s1]
       refine wp_takeW (.bool false) (by kernel_rfl) (by kernel_rfl) ?_
       try simp only [Act.put, sA, s0, s1]
       refine wp_takeW (.pointer (some ⟨b, 0, none⟩)) (by kernel_rfl) (by kernel_rfl) ?_
       try simp only [Act.put, sA, s0, s1]
       refine wp_takeW (.int .i64 (prepM i0 x.v.b).k) (exec_load 3 _ rfl ⟨b, 0, none⟩ (by kernel_rfl) (.int .i64 (prepM i0 x.v.b).k) (load_N (Mg.cel HMs.out).1)) (by kernel_rfl) ?_
       try simp only [Act.put, sA, s0, s1]
       cases q9 : ((prepM i0 x.v.b).k == 13)
       ·skip
        refine wp_takeW (.bool true) (exec_bin .neq 3 _ _ _ rfl (.int .i64 (prepM i0 x.v.b).k) (.int .i64 13) (.bool true) (by kernel_rfl) (by kernel_rfl) (by kernel_rfl) (by rw [neqN, q9]; try rfl)) (by kernel_rfl) ?_
        try simp only [Act.put, sA, s0, s1]
        refine wp_takeW (.bool true) (by kernel_rfl) (by kernel_rfl) ?_
        try simp only [Act.put, sA, s0, s1]
        refine wp_takeW (.bool true) (by kernel_rfl) (by kernel_rfl) ?_
        try simp only [Act.put, sA, s0, s1]
        refine wp_skip (by kernel_rfl) ?_
        try simp only [Act.put, sA, s0, s1]
        refine wp_skip (by kernel_rfl) ?_
        try simp only [Act.put, sA, s0, s1]
        refine wp_skip (by kernel_rfl) ?_
        try simp only [Act.put, sA, s0, s1]
        refine wp_skip (by kernel_rfl) ?_
        try simp only [Act.put, sA, s0, s1]
        refine wp_takeW (.bool true) (by kernel_rfl) (by kernel_rfl) ?_
        try simp only [Act.put, sA, s0, s1]
        refine WL.nil ?_
        try simp only [Act.put, sA, s0, s1]
        go_wp2
        go_ret
        exact ⟨rfl, _, xs, HPM.out, HIv.out.prep HSI.out _, rfl, rfl, HK.out⟩
       ·skip
        refine wp_takeW (.bool false) (exec_bin .neq 3 _ _ _ rfl (.int .i64 (prepM i0 x.v.b).k) (.int .i64 13) (.bool false) (by kernel_rfl) (by kernel_rfl) (by kernel_rfl) (by rw [neqN, q9]; try rfl)) (by kernel_rfl) ?_
        try simp only [Act.put, sA, s0, s1]
        refine wp_takeW (.bool false) (by kernel_rfl) (by kernel_rfl) ?_
        try simp only [Act.put, sA, s0, s1]
        refine wp_takeW (.bool false) (by kernel_rfl) (by kernel_rfl) ?_
        try simp only [Act.put, sA, s0, s1]
        refine wp_takeW (.pointer (some ⟨X, 2, none⟩)) (by kernel_rfl) (by kernel_rfl) ?_
        try simp only [Act.put, sA, s0, s1]
        refine wp_takeW (.slice x.pa x.v.pr.length x.pc) (exec_load 33 _ rfl ⟨X, 2, none⟩ (by kernel_rfl) (.slice x.pa x.v.pr.length x.pc) (load_PS2 HX.out)) (by kernel_rfl) ?_
        try simp only [Act.put, sA, s0, s1]
        refine wp_takeW (.int .i64 s) (by kernel_rfl) (by kernel_rfl) ?_
        try simp only [Act.put, sA, s0, s1]
        cases q10 : (decide ((s : Int) ∈ x.v.pr))
        ·skip
         refine wp_callW 36 #[.slice x.pa x.v.pr.length x.pc, .int .i64 s] (by kernel_rfl) _ (has_any _ _ _ x.v.pr _ _ rfl (by have := HLE.out; omega) ((HPM.out.pown k x HXK.out (by simp)).nums rfl)) (by kernel_rfl) ?_
         rintro e wq ⟨rfl, hwq⟩
         rw [hwq]
         clear hwq wq
         refine ⟨.bool false, by rw [q10], ?_⟩
         try simp only [Act.put, sA, s0, s1]
         refine wp_takeW (.bool false) (by kernel_rfl) (by kernel_rfl) ?_
         try simp only [Act.put, sA, s0, s1]
         refine WL.nil ?_
         try simp only [Act.put, sA, s0, s1]
         go_upto_region 8 with fail
         refine WL.start ?_
         refine wp_takeW (.pointer (some ⟨X, 2, none⟩)) (by kernel_rfl) (by kernel_rfl) ?_
         try simp only [Act.put, sA, s0, s1]
         refine wp_takeW (.slice x.pa x.v.pr.length x.pc) (exec_load 33 _ rfl ⟨X, 2, none⟩ (by kernel_rfl) (.slice x.pa x.v.pr.length x.pc) (load_PS2 HX.out)) (by kernel_rfl) ?_
         try simp only [Act.put, sA, s0, s1]
         refine wp_takeW (.int .i64 s) (by kernel_rfl) (by kernel_rfl) ?_
         try simp only [Act.put, sA, s0, s1]
         refine wp_runW (.slice (some ⟨wk43.heap.size, 0, none⟩) 1 1) (wk43.alloc (.cells #[.int .i64 s] 3)) (exec_slice2 33 3 _ rfl #[.int .i64 s] (.int .i64 s) (by kernel_rfl) (slice1_int s _)) (by kernel_rfl) ?_
         try simp only [Act.put, sA, s0, s1]
         have HNB : Hid (Box (wk43.alloc (.cells #[.int .i64 s] 3)) wk43.heap.size 3 #[.int .i64 s]) := Box.new _ _ _
         have HPl : Hid (Box (wk43.alloc (.cells #[.int .i64 s] 3)) (p) 69 ((playC st.f bI (st.is.set s (prepI i0 x.v.b)).length (some ⟨lg, 0, none⟩) xs.length lc st.dec).toArray)) := HPl.out.alloc _
         have HX : Hid (Box (wk43.alloc (.cells #[.int .i64 s] 3)) (X) 87 (x.cells)) := HX.out.alloc _
         have HN : Hid (Box (wk43.alloc (.cells #[.int .i64 s] 3)) (a) 29 ((prepI i0 x.v.b).cells)) := HN.out.alloc _
         have HMs : Hid (Box (wk43.alloc (.cells #[.int .i64 s] 3)) (b) 52 ((prepM i0 x.v.b).cells)) := HMs.out.alloc _
         have HK : Hid (Kept (PSet p bI (some ⟨lg, 0, none⟩) xs) w (wk43.alloc (.cells #[.int .i64 s] 3))) := HK.out.alloc _
         have HPM : Hid (PM w0 (wk43.alloc (.cells #[.int .i64 s] 3)) p bI (some ⟨lg, 0, none⟩) lc ({ st with is := st.is.set s (prepI i0 x.v.b) }) (xs) (none)) := HPM.out.no ((Kept.refl No _).alloc _)
         have HLT : Hid (X < (wk43.alloc (.cells #[.int .i64 s] 3)).heap.size) := by show _ < _; rw [show (wk43.alloc (.cells #[.int .i64 s] 3)).heap.size = wk43.heap.size + 1 by simp]; exact Nat.lt_succ_of_lt HLT.out
         generalize wk43.alloc (.cells #[.int .i64 s] 3) = wk58 at HPl HX HN HMs HK HLT HNB HPM ⊢
         generalize wk43.heap.size = nb at HNB ⊢
         have happ := fun (A : Act) (h1 : A.eval (Operand.tmp 70) = .slice x.pa x.v.pr.length x.pc) (h2 : A.eval (Operand.tmp 72) = .slice (some ⟨nb, 0, none⟩) 1 1) => exec_append (w := wk58) (a := A) (o := { dst := some 73, op := Op.call { callee := Callee.builtin Builtin.append, args := #[Operand.tmp 70, Operand.tmp 72], argTypes := #[33, 33] }, type := 33, pos := "outright.go:136", after := #[{ on := 1, ground := Ground.data }, { on := 3, ground := Ground.data }], guard := none }) _ _ 33 3 1 8 (.int .i64 0) Try.und33 Try.info3 rfl (by decide) rfl w0.heap.size x.v.pr.length x.pc x.pa (ints x.v.pr) h1 (HPM.out.pown k x HXK.out (by simp)) ⟨nb, 0, none⟩ 1 [.int .i64 s] h2 rfl (fun j u hu => by
           match j, hu with
           | 0, hu => rw [addr_add]; simp at hu; subst hu; exact HNB.out.cell 0
           | j + 1, hu => simp at hu) (by simp [Value.oneCell']) (by have := HLE.out; omega) (by have := HLE.out; omega) (by have := HPM.out.np; have := HPM.out.box.lt; omega)
         refine wp_appW happ (by kernel_rfl) (by kernel_rfl) (by kernel_rfl) ?_
         intro g1 c1 wa hown hka hga
         try simp only [Act.put, sA, s0, s1]
         clear happ
         obtain ⟨hm3, hap, hself⟩ := HPM.out.appP HXK.out hka hga
         have HAP : Hid ((∀ (j : Nat) (z : Px), xs[j]? = some z → j ≠ k → ∀ q, (At (some ⟨g1, 0, none⟩) q → ¬ At z.pa q ∧ ¬ At z.aa q) ∧ (At x.aa q → ¬ At z.pa q ∧ ¬ At z.aa q)) ∧ (∀ q, At (some ⟨g1, 0, none⟩) q → ¬ At x.aa q)) := ⟨hap, hself⟩
         have HNO : Hid (Own 3 1 wa w0.heap.size (some ⟨g1, 0, none⟩) c1 (x.v.pr ++ [(s : Int)]).length (ints (x.v.pr ++ [(s : Int)]))) := by have h := hown; simp only [ints, List.map_append, List.map_cons, List.map_nil, List.length_append, List.length_singleton]; exact h
         have HPl : Hid (Box wa (p) 69 ((playC st.f bI (st.is.set s (prepI i0 x.v.b)).length (some ⟨lg, 0, none⟩) xs.length lc st.dec).toArray)) := hm3.box
         have HX : Hid (Box wa (X) 87 (x.cells)) := HX.out.kept hka (fun e => own_box (HPM.out.pown k x HXK.out (by simp)) HX.out (by decide) e rfl)
         have HN : Hid (Box wa (a) 29 ((prepI i0 x.v.b).cells)) := HN.out.kept hka (fun e => own_box (HPM.out.pown k x HXK.out (by simp)) HN.out (by decide) e rfl)
         have HMs : Hid (Box wa (b) 52 ((prepM i0 x.v.b).cells)) := HMs.out.kept hka (fun e => own_box (HPM.out.pown k x HXK.out (by simp)) HMs.out (by decide) e rfl)
         have HK : Hid (Kept (PSet p bI (some ⟨lg, 0, none⟩) xs) w wa) := HK.out.trans hka (fun _ e => e) (fun q hq e => .inr (.inr (.inr ⟨k, x, HXK.out, .inl e⟩)))
         have HLT : Hid (X < wa.heap.size) := Nat.lt_of_lt_of_le HLT.out hka.size
         have HPM : Hid (PM w0 wa p bI (some ⟨lg, 0, none⟩) lc ({ st with is := st.is.set s (prepI i0 x.v.b) }) (xs) (some (k, false))) := hm3
         clear hm3 hap hself hown hka hga HNB
         refine wp_takeW (.pointer (some ⟨X, 2, none⟩)) (by kernel_rfl) (by kernel_rfl) ?_
         try simp only [Act.put, sA, s0, s1]
         refine wp_storeW 33 _ _ rfl ⟨X, 2, none⟩ (.slice (some ⟨g1, 0, none⟩) (x.v.pr.length + 1) c1) (by kernel_rfl) (by kernel_rfl) _ (store_addP HX.out s (some ⟨g1, 0, none⟩) c1) (by kernel_rfl) ?_
         try simp only [Act.put, sA, s0, s1]
         have HLT : Hid (X < (wa.setRow X ((x.addP s (some ⟨g1, 0, none⟩) c1).cells)).heap.size) := by show _ < _; rw [setRow_size]; exact HLT.out
         have HPM : Hid (PM w0 (wa.setRow X ((x.addP s (some ⟨g1, 0, none⟩) c1).cells)) p bI (some ⟨lg, 0, none⟩) lc ({ st with is := st.is.set s (prepI i0 x.v.b) }) (xs) (some (k, false))) := HPM.out.far HPB.out (Kept.setRow _ _ _) (fun q e => by have e : q = X := e; have := HO.out; omega)
         have HNO : Hid (Own 3 1 (wa.setRow X ((x.addP s (some ⟨g1, 0, none⟩) c1).cells)) w0.heap.size (some ⟨g1, 0, none⟩) c1 (x.v.pr ++ [(s : Int)]).length (ints (x.v.pr ++ [(s : Int)]))) := HNO.out.kept (Kept.setRow _ _ _) (fun q hq e => own_box HNO.out HX.out (by decide) hq e)
         have HPl : Hid (Box (wa.setRow X ((x.addP s (some ⟨g1, 0, none⟩) c1).cells)) (p) 69 ((playC st.f bI (st.is.set s (prepI i0 x.v.b)).length (some ⟨lg, 0, none⟩) xs.length lc st.dec).toArray)) := HPl.out.rowNe (by have := HO.out; omega) _
         have HX : Hid (Box (wa.setRow X ((x.addP s (some ⟨g1, 0, none⟩) c1).cells)) (X) 87 ((x.addP s (some ⟨g1, 0, none⟩) c1).cells)) := HX.out.setRow _
         have HN : Hid (Box (wa.setRow X ((x.addP s (some ⟨g1, 0, none⟩) c1).cells)) (a) 29 ((prepI i0 x.v.b).cells)) := HN.out.rowNe (by have := HO.out; omega) _
         have HMs : Hid (Box (wa.setRow X ((x.addP s (some ⟨g1, 0, none⟩) c1).cells)) (b) 52 ((prepM i0 x.v.b).cells)) := HMs.out.rowNe (by have := HO.out; omega) _
         have HK : Hid (Kept (PSet p bI (some ⟨lg, 0, none⟩) xs) w (wa.setRow X ((x.addP s (some ⟨g1, 0, none⟩) c1).cells))) := HK.out.newRowS (by have := HO.out; omega) _
         generalize wa.setRow X ((x.addP s (some ⟨g1, 0, none⟩) c1).cells) = wk59 at HPl HX HN HMs HK HLT HPM HNO ⊢
         refine WL.nil ?_
         try simp only [Act.put, sA, s0, s1]
         go_upto_region 9 with fail
         refine WL.start ?_
         refine wp_takeW (.pointer (some ⟨b, 13, none⟩)) (by kernel_rfl) (by kernel_rfl) ?_
         try simp only [Act.put, sA, s0, s1]
         refine wp_takeW (.agg #[.int .i64 (prepM i0 x.v.b).h.n, .int .i64 (prepM i0 x.v.b).h.c]) (exec_load 23 _ rfl ⟨b, 13, none⟩ (by kernel_rfl) (.agg #[.int .i64 (prepM i0 x.v.b).h.n, .int .i64 (prepM i0 x.v.b).h.c]) (load_S HMs.out (Mg.partH _))) (by kernel_rfl) ?_
         try simp only [Act.put, sA, s0, s1]
         refine wp_takeW (.pointer (some ⟨X, 3, none⟩)) (by kernel_rfl) (by kernel_rfl) ?_
         try simp only [Act.put, sA, s0, s1]
         refine wp_takeW (.agg #[.int .i64 (x.addP s (some ⟨g1, 0, none⟩) c1).v.h.n, .int .i64 (x.addP s (some ⟨g1, 0, none⟩) c1).v.h.c]) (exec_load 23 _ rfl ⟨X, 3, none⟩ (by kernel_rfl) (.agg #[.int .i64 (x.addP s (some ⟨g1, 0, none⟩) c1).v.h.n, .int .i64 (x.addP s (some ⟨g1, 0, none⟩) c1).v.h.c]) (load_S HX.out (Px.partH _))) (by kernel_rfl) ?_
         try simp only [Act.put, sA, s0, s1]
         cases q11 : (lessB x.v.h.n x.v.h.c (prepM i0 x.v.b).h.n (prepM i0 x.v.b).h.c)
         ·skip
          refine wp_callW 19 #[.agg #[.int .i64 (prepM i0 x.v.b).h.n, .int .i64 (prepM i0 x.v.b).h.c], .agg #[.int .i64 (x.addP s (some ⟨g1, 0, none⟩) c1).v.h.n, .int .i64 (x.addP s (some ⟨g1, 0, none⟩) c1).v.h.c]] (by kernel_rfl) _ (above_any (prepM i0 x.v.b).h.n (prepM i0 x.v.b).h.c x.v.h.n x.v.h.c _) (by kernel_rfl) ?_
          rintro e wk60 ⟨rfl, hk⟩
          have HPl : Hid (Box wk60 (p) 69 ((playC st.f bI (st.is.set s (prepI i0 x.v.b)).length (some ⟨lg, 0, none⟩) xs.length lc st.dec).toArray)) := HPl.out.kept hk (fun e => e)
          have HX : Hid (Box wk60 (X) 87 ((x.addP s (some ⟨g1, 0, none⟩) c1).cells)) := HX.out.kept hk (fun e => e)
          have HN : Hid (Box wk60 (a) 29 ((prepI i0 x.v.b).cells)) := HN.out.kept hk (fun e => e)
          have HMs : Hid (Box wk60 (b) 52 ((prepM i0 x.v.b).cells)) := HMs.out.kept hk (fun e => e)
          have HK : Hid (Kept (PSet p bI (some ⟨lg, 0, none⟩) xs) w wk60) := HK.out.thenNo hk
          have HPM : Hid (PM w0 (wk60) p bI (some ⟨lg, 0, none⟩) lc ({ st with is := st.is.set s (prepI i0 x.v.b) }) (xs) (some (k, false))) := HPM.out.no hk
          have HNO : Hid (Own 3 1 (wk60) w0.heap.size (some ⟨g1, 0, none⟩) c1 (x.v.pr ++ [(s : Int)]).length (ints (x.v.pr ++ [(s : Int)]))) := HNO.out.no hk
          have HLT : Hid (X < wk60.heap.size) := Nat.lt_of_lt_of_le HLT.out hk.size
          clear hk
          refine ⟨.bool false, by rw [q11], ?_⟩
          try simp only [Act.put, sA, s0, s1]
          refine WL.nil ?_
          try simp only [Act.put, sA, s0, s1]
          go_upto_region 12 with fail
          have HXc : Hid (wk60.cell? ⟨X, 2, none⟩ = some (.slice (some ⟨g1, 0, none⟩) (x.v.pr ++ [(s : Int)]).length c1)) := HX.out.cell 2
          refine wp_region_held_drew (S := fun w' => Box w' (p) 69 ((playC st.f bI (st.is.set s (prepI i0 x.v.b)).length (some ⟨lg, 0, none⟩) xs.length lc st.dec).toArray) ∧ w'.cell? ⟨X, 2, none⟩ = some (.slice (some ⟨g1, 0, none⟩) (x.v.pr ++ [(s : Int)]).length c1)) rfl ⟨HPl.out, HXc.out⟩ (fun hH => ?_)
          have HPl : Hid (Box wk60.drew (p) 69 ((playC st.f bI (st.is.set s (prepI i0 x.v.b)).length (some ⟨lg, 0, none⟩) xs.length lc st.dec).toArray)) := HPl.out
          have HX : Hid (Box wk60.drew (X) 87 ((x.addP s (some ⟨g1, 0, none⟩) c1).cells)) := HX.out
          have HN : Hid (Box wk60.drew (a) 29 ((prepI i0 x.v.b).cells)) := HN.out
          have HMs : Hid (Box wk60.drew (b) 52 ((prepM i0 x.v.b).cells)) := HMs.out
          have HXc : Hid (wk60.drew.cell? ⟨X, 2, none⟩ = some (.slice (some ⟨g1, 0, none⟩) (x.v.pr ++ [(s : Int)]).length c1)) := HXc.out
          have HK : Hid (Kept (PSet p bI (some ⟨lg, 0, none⟩) xs) w wk60.drew) := HK.out.drew
          have HPM : Hid (PM w0 (wk60.drew) p bI (some ⟨lg, 0, none⟩) lc ({ st with is := st.is.set s (prepI i0 x.v.b) }) (xs) (some (k, false))) := HPM.out.no (Kept.refl No _).drew
          have HNO : Hid (Own 3 1 (wk60.drew) w0.heap.size (some ⟨g1, 0, none⟩) c1 (x.v.pr ++ [(s : Int)]).length (ints (x.v.pr ++ [(s : Int)]))) := HNO.out.no (Kept.refl No _).drew
          have HLT : Hid (X < wk60.drew.heap.size) := HLT.out
          generalize wk60.drew = wk61 at HPl HX HN HMs HXc HK HLT hH HPM HNO ⊢
          refine any_take (i := 0) (oi := { dst := some 86, op := Op.fieldAddr 87 (Operand.tmp 9) 1, type := 0, pos := "outright.go:141", after := #[], guard := none }) (v := .pointer (some ⟨X, 2, none⟩)) rfl (by kernel_rfl) (by kernel_rfl) (by kernel_rfl) (fun _ _ _ h => h) (by kernel_rfl) (fun _ _ => by kernel_rfl) hH ?_
          try simp only [Act.put, sA, s0, s1]
          refine any_take (i := 1) (oi := { dst := some 87, op := Op.load 33 (Operand.tmp 86), type := 33, pos := "outright.go:141", after := #[{ on := 0, ground := Ground.data }], guard := none }) (v := .slice (some ⟨g1, 0, none⟩) (x.v.pr ++ [(s : Int)]).length c1) rfl (by kernel_rfl) (by kernel_rfl) (by kernel_rfl) (fun _ _ _ h => h) (by kernel_rfl) (fun w' hw => exec_load 33 _ rfl ⟨X, 2, none⟩ (by kernel_rfl) (.slice (some ⟨g1, 0, none⟩) (x.v.pr ++ [(s : Int)]).length c1) (load_one hw.2 Try.und33 rfl)) hH ?_
          try simp only [Act.put, sA, s0, s1]
          refine any_take (i := 2) (oi := { dst := some 88, op := Op.call { callee := Callee.builtin Builtin.len, args := #[Operand.tmp 87], argTypes := #[33] }, type := 3, pos := "outright.go:141", after := #[{ on := 1, ground := Ground.data }], guard := none }) (v := .int .i64 ((x.v.pr ++ [(s : Int)]).length : Int)) rfl (by kernel_rfl) (by kernel_rfl) (by kernel_rfl) (fun _ _ _ h => h) (by kernel_rfl) (fun _ _ => by kernel_rfl) hH ?_
          try simp only [Act.put, sA, s0, s1]
          refine any_take (i := 3) (oi := { dst := some 89, op := Op.move (Operand.tmp 0), type := 65, pos := "outright.go:141", after := #[], guard := none }) (v := .pointer (some ⟨p, 0, none⟩)) rfl (by kernel_rfl) (by kernel_rfl) (by kernel_rfl) (fun _ _ _ h => h) (by kernel_rfl) (fun _ _ => by kernel_rfl) hH ?_
          try simp only [Act.put, sA, s0, s1]
          refine any_take (i := 4) (oi := { dst := some 90, op := Op.nilCheck (Operand.tmp 89), type := 0, pos := "outright.go:141", after := #[{ on := 3, ground := Ground.data }], guard := none }) (v := .pointer (some ⟨p, 0, none⟩)) rfl (by kernel_rfl) (by kernel_rfl) (by kernel_rfl) (fun _ _ _ h => h) (by kernel_rfl) (fun _ _ => by kernel_rfl) hH ?_
          try simp only [Act.put, sA, s0, s1]
          refine any_take (i := 5) (oi := { dst := some 91, op := Op.fieldAddr 69 (Operand.tmp 90) 0, type := 0, pos := "outright.go:141", after := #[{ on := 4, ground := Ground.data }], guard := none }) (v := .pointer (some ⟨p, 0, none⟩)) rfl (by kernel_rfl) (by kernel_rfl) (by kernel_rfl) (fun _ _ _ h => h) (by kernel_rfl) (fun _ _ => by kernel_rfl) hH ?_
          try simp only [Act.put, sA, s0, s1]
          refine any_take (i := 6) (oi := { dst := some 92, op := Op.load 3 (Operand.tmp 91), type := 3, pos := "outright.go:141", after := #[{ on := 5, ground := Ground.data }], guard := none }) (v := .int .i64 (st.f : Int)) rfl (by kernel_rfl) (by kernel_rfl) (by kernel_rfl) (fun _ _ _ h => h) (by kernel_rfl) (fun w' hw => exec_load 3 _ rfl ⟨p, 0, none⟩ (by kernel_rfl) (.int .i64 (st.f : Int)) (load_pF hw.1)) hH ?_
          try simp only [Act.put, sA, s0, s1]
          refine any_take (i := 7) (oi := { dst := some 93, op := Op.binOp BinOp.add 3 (Operand.tmp 92) (Operand.const (Value.int IntKind.i64 1)) 3, type := 3, pos := "outright.go:141", after := #[{ on := 6, ground := Ground.data }], guard := none }) (v := .int .i64 ((st.f : Int) + 1)) rfl (by kernel_rfl) (by kernel_rfl) (by kernel_rfl) (fun _ _ _ h => h) (by kernel_rfl) (fun w' hw => exec_bin .add 3 _ _ _ rfl (.int .i64 (st.f : Int)) (.int .i64 1) (.int .i64 ((st.f : Int) + 1)) (by kernel_rfl) (by kernel_rfl) (by kernel_rfl) (addN _ _ (by omega) (by omega))) hH ?_
          try simp only [Act.put, sA, s0, s1]
          refine any_take (i := 8) (oi := { dst := some 94, op := Op.binOp BinOp.eql 3 (Operand.tmp 88) (Operand.tmp 93) 3, type := 4, pos := "outright.go:141", after := #[{ on := 2, ground := Ground.data }, { on := 7, ground := Ground.data }], guard := none }) (v := .bool (decide (x.v.pr.length + 1 = st.f + 1))) rfl (by kernel_rfl) (by kernel_rfl) (by kernel_rfl) (fun _ _ _ h => h) (by kernel_rfl) (fun w' hw => exec_bin .eql 3 _ _ _ rfl (.int .i64 ((x.v.pr ++ [(s : Int)]).length : Int)) (.int .i64 ((st.f : Int) + 1)) (.bool (decide (x.v.pr.length + 1 = st.f + 1))) (by kernel_rfl) (by kernel_rfl) (by kernel_rfl) (by rw [eqlN, List.length_append, List.length_singleton, chEq])) hH ?_
          try simp only [Act.put, sA, s0, s1]
          refine any_take (i := 9) (oi := { dst := some 95, op := Op.fieldAddr 87 (Operand.tmp 9) 4, type := 0, pos := "outright.go:141", after := #[{ on := 0, ground := Ground.phase }, { on := 1, ground := Ground.phase }, { on := 2, ground := Ground.phase }, { on := 3, ground := Ground.phase }, { on := 4, ground := Ground.phase }, { on := 5, ground := Ground.phase }, { on := 6, ground := Ground.phase }, { on := 7, ground := Ground.phase }, { on := 8, ground := Ground.phase }], guard := none }) (v := .pointer (some ⟨X, 14, none⟩)) rfl (by kernel_rfl) (by kernel_rfl) (by kernel_rfl) (fun _ _ _ h => h) (by kernel_rfl) (fun _ _ => by kernel_rfl) hH ?_
          try simp only [Act.put, sA, s0, s1]
          refine any_store (i := 10) (o := { dst := none, op := Op.store 4 (Operand.tmp 95) (Operand.tmp 94), type := 0, pos := "outright.go:141", after := #[{ on := 9, ground := Ground.data }, { on := 8, ground := Ground.data }, { on := 0, ground := Ground.phase }, { on := 1, ground := Ground.phase }, { on := 2, ground := Ground.phase }, { on := 3, ground := Ground.phase }, { on := 4, ground := Ground.phase }, { on := 5, ground := Ground.phase }, { on := 6, ground := Ground.phase }, { on := 7, ground := Ground.phase }, { on := 8, ground := Ground.phase }], guard := none }) rfl (by kernel_rfl) (by kernel_rfl) 4 _ _ rfl ⟨X, 14, none⟩ (.bool (decide (x.v.pr.length + 1 = st.f + 1))) (by kernel_rfl) (by kernel_rfl) (store_setB HX.out (decide (x.v.pr.length + 1 = st.f + 1))) ⟨HPl.out.rowNe (by have := HO.out; omega) _, (HX.out.setRow _).cell 2⟩ (fun hH => ?_)
          have HPM : Hid (PM w0 (wk61.setRow X (((x.addP s (some ⟨g1, 0, none⟩) c1).setB (decide (x.v.pr.length + 1 = st.f + 1))).cells)) p bI (some ⟨lg, 0, none⟩) lc ({ st with is := st.is.set s (prepI i0 x.v.b) }) (xs) (some (k, false))) := HPM.out.far HPB.out (Kept.setRow _ _ _) (fun q e => by have e : q = X := e; have := HO.out; omega)
          have HNO : Hid (Own 3 1 (wk61.setRow X (((x.addP s (some ⟨g1, 0, none⟩) c1).setB (decide (x.v.pr.length + 1 = st.f + 1))).cells)) w0.heap.size (some ⟨g1, 0, none⟩) c1 (x.v.pr ++ [(s : Int)]).length (ints (x.v.pr ++ [(s : Int)]))) := HNO.out.kept (Kept.setRow _ _ _) (fun q hq e => own_box HNO.out HX.out (by decide) hq e)
          have HPl : Hid (Box (wk61.setRow X (((x.addP s (some ⟨g1, 0, none⟩) c1).setB (decide (x.v.pr.length + 1 = st.f + 1))).cells)) (p) 69 ((playC st.f bI (st.is.set s (prepI i0 x.v.b)).length (some ⟨lg, 0, none⟩) xs.length lc st.dec).toArray)) := HPl.out.rowNe (by have := HO.out; omega) _
          have HX : Hid (Box (wk61.setRow X (((x.addP s (some ⟨g1, 0, none⟩) c1).setB (decide (x.v.pr.length + 1 = st.f + 1))).cells)) (X) 87 (((x.addP s (some ⟨g1, 0, none⟩) c1).setB (decide (x.v.pr.length + 1 = st.f + 1))).cells)) := HX.out.setRow _
          have HN : Hid (Box (wk61.setRow X (((x.addP s (some ⟨g1, 0, none⟩) c1).setB (decide (x.v.pr.length + 1 = st.f + 1))).cells)) (a) 29 ((prepI i0 x.v.b).cells)) := HN.out.rowNe (by have := HO.out; omega) _
          have HMs : Hid (Box (wk61.setRow X (((x.addP s (some ⟨g1, 0, none⟩) c1).setB (decide (x.v.pr.length + 1 = st.f + 1))).cells)) (b) 52 ((prepM i0 x.v.b).cells)) := HMs.out.rowNe (by have := HO.out; omega) _
          have HK : Hid (Kept (PSet p bI (some ⟨lg, 0, none⟩) xs) w (wk61.setRow X (((x.addP s (some ⟨g1, 0, none⟩) c1).setB (decide (x.v.pr.length + 1 = st.f + 1))).cells))) := HK.out.newRowS (by have := HO.out; omega) _
          have HLT : Hid (X < (wk61.setRow X (((x.addP s (some ⟨g1, 0, none⟩) c1).setB (decide (x.v.pr.length + 1 = st.f + 1))).cells)).heap.size) := by show _ < _; rw [setRow_size]; exact HLT.out
          generalize wk61.setRow X (((x.addP s (some ⟨g1, 0, none⟩) c1).setB (decide (x.v.pr.length + 1 = st.f + 1))).cells) = wk62 at HPl HX HN HMs HK HLT hH HPM HNO ⊢
          clear HXc
          refine wpAnyH_done (by kernel_rfl) ?_ _
          try simp only [Act.put, sA, s0, s1]
          go_upto_region 13 with fail
          refine wp_region_held_drew (S := fun w' => Box w' (p) 69 ((playC st.f bI (st.is.set s (prepI i0 x.v.b)).length (some ⟨lg, 0, none⟩) xs.length lc st.dec).toArray) ∧ Box w' (X) 87 (((x.addP s (some ⟨g1, 0, none⟩) c1).setB (decide (x.v.pr.length + 1 = st.f + 1))).cells)) rfl ⟨HPl.out, HX.out⟩ (fun hH => ?_)
          have HPl : Hid (Box wk62.drew (p) 69 ((playC st.f bI (st.is.set s (prepI i0 x.v.b)).length (some ⟨lg, 0, none⟩) xs.length lc st.dec).toArray)) := HPl.out
          have HX : Hid (Box wk62.drew (X) 87 (((x.addP s (some ⟨g1, 0, none⟩) c1).setB (decide (x.v.pr.length + 1 = st.f + 1))).cells)) := HX.out
          have HN : Hid (Box wk62.drew (a) 29 ((prepI i0 x.v.b).cells)) := HN.out
          have HMs : Hid (Box wk62.drew (b) 52 ((prepM i0 x.v.b).cells)) := HMs.out
          have HK : Hid (Kept (PSet p bI (some ⟨lg, 0, none⟩) xs) w wk62.drew) := HK.out.drew
          have HPM : Hid (PM w0 (wk62.drew) p bI (some ⟨lg, 0, none⟩) lc ({ st with is := st.is.set s (prepI i0 x.v.b) }) (xs) (some (k, false))) := HPM.out.no (Kept.refl No _).drew
          have HNO : Hid (Own 3 1 (wk62.drew) w0.heap.size (some ⟨g1, 0, none⟩) c1 (x.v.pr ++ [(s : Int)]).length (ints (x.v.pr ++ [(s : Int)]))) := HNO.out.no (Kept.refl No _).drew
          have HLT : Hid (X < wk62.drew.heap.size) := HLT.out
          generalize wk62.drew = wk63 at HPl HX HN HMs HK HLT hH HPM HNO ⊢
          refine any_take (i := 0) (oi := { dst := some 96, op := Op.move (Operand.tmp 0), type := 65, pos := "outright.go:142", after := #[], guard := none }) (v := .pointer (some ⟨p, 0, none⟩)) rfl (by kernel_rfl) (by kernel_rfl) (by kernel_rfl) (fun _ _ _ h => h) (by kernel_rfl) (fun _ _ => by kernel_rfl) hH ?_
          try simp only [Act.put, sA, s0, s1]
          refine any_take (i := 1) (oi := { dst := some 97, op := Op.nilCheck (Operand.tmp 96), type := 0, pos := "outright.go:142", after := #[{ on := 0, ground := Ground.data }], guard := none }) (v := .pointer (some ⟨p, 0, none⟩)) rfl (by kernel_rfl) (by kernel_rfl) (by kernel_rfl) (fun _ _ _ h => h) (by kernel_rfl) (fun _ _ => by kernel_rfl) hH ?_
          try simp only [Act.put, sA, s0, s1]
          refine any_take (i := 2) (oi := { dst := some 98, op := Op.fieldAddr 69 (Operand.tmp 97) 2, type := 0, pos := "outright.go:142", after := #[{ on := 1, ground := Ground.data }], guard := none }) (v := .pointer (some ⟨p, 2, none⟩)) rfl (by kernel_rfl) (by kernel_rfl) (by kernel_rfl) (fun _ _ _ h => h) (by kernel_rfl) (fun _ _ => by kernel_rfl) hH ?_
          try simp only [Act.put, sA, s0, s1]
          refine any_take (i := 3) (oi := { dst := some 99, op := Op.load 67 (Operand.tmp 98), type := 67, pos := "outright.go:142", after := #[{ on := 2, ground := Ground.data }], guard := none }) (v := .slice (some ⟨lg, 0, none⟩) xs.length lc) rfl (by kernel_rfl) (by kernel_rfl) (by kernel_rfl) (fun _ _ _ h => h) (by kernel_rfl) (fun w' hw => exec_load 67 _ rfl ⟨p, 2, none⟩ (by kernel_rfl) (.slice (some ⟨lg, 0, none⟩) xs.length lc) (load_pL hw.1)) hH ?_
          try simp only [Act.put, sA, s0, s1]
          refine any_take (i := 4) (oi := { dst := some 100, op := Op.move (Operand.tmp 1), type := 3, pos := "outright.go:142", after := #[], guard := none }) (v := .int .i64 k) rfl (by kernel_rfl) (by kernel_rfl) (by kernel_rfl) (fun _ _ _ h => h) (by kernel_rfl) (fun _ _ => by kernel_rfl) hH ?_
          try simp only [Act.put, sA, s0, s1]
          refine any_take (i := 5) (oi := { dst := some 101, op := Op.load 87 (Operand.tmp 9), type := 87, pos := "outright.go:142", after := #[], guard := none }) (v := .agg (((x.addP s (some ⟨g1, 0, none⟩) c1).setB (decide (x.v.pr.length + 1 = st.f + 1))).cells)) rfl (by kernel_rfl) (by kernel_rfl) (by kernel_rfl) (fun _ _ _ h => h) (by kernel_rfl) (fun w' hw => exec_load 87 _ rfl ⟨X, 0, none⟩ (by kernel_rfl) (.agg (((x.addP s (some ⟨g1, 0, none⟩) c1).setB (decide (x.v.pr.length + 1 = st.f + 1))).cells)) (load_P hw.2)) hH ?_
          try simp only [Act.put, sA, s0, s1]
          refine any_take (i := 6) (oi := { dst := some 102, op := Op.indexAddr 67 (Operand.tmp 99) (Operand.tmp 100), type := 0, pos := "outright.go:142", after := #[{ on := 3, ground := Ground.data }, { on := 4, ground := Ground.data }, { on := 0, ground := Ground.phase }, { on := 1, ground := Ground.phase }, { on := 2, ground := Ground.phase }, { on := 3, ground := Ground.phase }, { on := 4, ground := Ground.phase }, { on := 5, ground := Ground.phase }], guard := none }) (v := .pointer (some ⟨lg, 0 + k * 16, none⟩)) rfl (by kernel_rfl) (by kernel_rfl) (by kernel_rfl) (fun _ _ _ h => h) (by kernel_rfl) (fun w' hw => exec_ixA 67 16 Try.und67e Try.size67e _ _ rfl lg 0 xs.length lc k (by kernel_rfl) (by kernel_rfl) hkl) hH ?_
          try simp only [Act.put, sA, s0, s1]
          obtain ⟨cs2, hr2, hm2⟩ := HPM.out.setL (y := ((x.addP s (some ⟨g1, 0, none⟩) c1).setB (decide (x.v.pr.length + 1 = st.f + 1)))) HXK.out (.inr (.inl rfl)) HNO.out (HPM.out.aown k x HXK.out (by simp)) HAP.out.1 HAP.out.2
          refine any_store (i := 7) (o := { dst := none, op := Op.store 87 (Operand.tmp 102) (Operand.tmp 101), type := 0, pos := "outright.go:142", after := #[{ on := 6, ground := Ground.data }, { on := 5, ground := Ground.data }, { on := 0, ground := Ground.phase }, { on := 1, ground := Ground.phase }, { on := 2, ground := Ground.phase }, { on := 3, ground := Ground.phase }, { on := 4, ground := Ground.phase }, { on := 5, ground := Ground.phase }], guard := none }) rfl (by kernel_rfl) (by kernel_rfl) 87 _ _ rfl ⟨lg, 0 + k * 16, none⟩ (.agg (((x.addP s (some ⟨g1, 0, none⟩) c1).setB (decide (x.v.pr.length + 1 = st.f + 1))).cells)) (by kernel_rfl) (by kernel_rfl) hr2 (⟨hH.1.rowNe (by have := HO.out; omega) _, hH.2.rowNe (by have := HO.out; omega) _⟩) (fun hH => ?_)
          have HF : Hid (PM w0 (wk63.setRow lg cs2) p bI (some ⟨lg, 0, none⟩) lc { ({ st with is := st.is.set s (prepI i0 x.v.b) } : PS) with ls := st.ls.set k (((x.addP s (some ⟨g1, 0, none⟩) c1).setB (decide (x.v.pr.length + 1 = st.f + 1)))).v } (xs.set k (((x.addP s (some ⟨g1, 0, none⟩) c1).setB (decide (x.v.pr.length + 1 = st.f + 1))))) none) := hm2
          have HK : Hid (Kept (PSet p bI (some ⟨lg, 0, none⟩) xs) w (wk63.setRow lg cs2)) := HK.out.inRow (.inr (.inr (.inl ⟨_, rfl, rfl⟩))) _
          clear hr2 hm2
          generalize wk63.setRow lg cs2 = wk64 at HF HK hH ⊢
          try simp only [Act.put, sA, s0, s1]
          refine wpAnyH_done (by kernel_rfl) ?_ _
          try simp only [Act.put, sA, s0, s1]
          have hv : (((x.addP s (some ⟨g1, 0, none⟩) c1).setB (decide (x.v.pr.length + 1 = st.f + 1)))).v = cntP st.f x.v (prepI i0 x.v.b).a (prepI i0 x.v.b).c s := by
            have e := prep_k13 q9
            have hl : lt x.v.h i0.a = false := by have h := q11; rw [e.2.2.2.1] at h; exact h
            rw [e.2.2.1]
            simp [Px.addP, Px.setH, Px.setC, Px.setB, cntP, hl, e.2.2.2.1, e.2.2.2.2]
          have HFI : Hid (Inv { ({ st with is := st.is.set s (prepI i0 x.v.b) } : PS) with ls := st.ls.set k (((x.addP s (some ⟨g1, 0, none⟩) c1).setB (decide (x.v.pr.length + 1 = st.f + 1)))).v }) := by
            have e := prep_k13 q9
            have h1 := HIv.out.prep HSI.out x.v.b
            have h2 := set_here (x := (prepI i0 x.v.b)) HSI.out
            rw [hv]
            exact h1.count HXV.out h2 (by rw [e.2.2.1]; exact e.1) (by rw [e.2.2.1]) q8 (by simpa using q10)
          go_wp2
          go_ret
          exact ⟨rfl, _, xs.set k (((x.addP s (some ⟨g1, 0, none⟩) c1).setB (decide (x.v.pr.length + 1 = st.f + 1)))), HF.out, HFI.out, rfl, by simp, HK.out⟩
         ·skip
          refine wp_callW 19 #[.agg #[.int .i64 (prepM i0 x.v.b).h.n, .int .i64 (prepM i0 x.v.b).h.c], .agg #[.int .i64 (x.addP s (some ⟨g1, 0, none⟩) c1).v.h.n, .int .i64 (x.addP s (some ⟨g1, 0, none⟩) c1).v.h.c]] (by kernel_rfl) _ (above_any (prepM i0 x.v.b).h.n (prepM i0 x.v.b).h.c x.v.h.n x.v.h.c _) (by kernel_rfl) ?_
          rintro e wk65 ⟨rfl, hk⟩
          have HPl : Hid (Box wk65 (p) 69 ((playC st.f bI (st.is.set s (prepI i0 x.v.b)).length (some ⟨lg, 0, none⟩) xs.length lc st.dec).toArray)) := HPl.out.kept hk (fun e => e)
          have HX : Hid (Box wk65 (X) 87 ((x.addP s (some ⟨g1, 0, none⟩) c1).cells)) := HX.out.kept hk (fun e => e)
          have HN : Hid (Box wk65 (a) 29 ((prepI i0 x.v.b).cells)) := HN.out.kept hk (fun e => e)
          have HMs : Hid (Box wk65 (b) 52 ((prepM i0 x.v.b).cells)) := HMs.out.kept hk (fun e => e)
          have HK : Hid (Kept (PSet p bI (some ⟨lg, 0, none⟩) xs) w wk65) := HK.out.thenNo hk
          have HPM : Hid (PM w0 (wk65) p bI (some ⟨lg, 0, none⟩) lc ({ st with is := st.is.set s (prepI i0 x.v.b) }) (xs) (some (k, false))) := HPM.out.no hk
          have HNO : Hid (Own 3 1 (wk65) w0.heap.size (some ⟨g1, 0, none⟩) c1 (x.v.pr ++ [(s : Int)]).length (ints (x.v.pr ++ [(s : Int)]))) := HNO.out.no hk
          have HLT : Hid (X < wk65.heap.size) := Nat.lt_of_lt_of_le HLT.out hk.size
          clear hk
          refine ⟨.bool true, by rw [q11], ?_⟩
          try simp only [Act.put, sA, s0, s1]
          refine WL.nil ?_
          try simp only [Act.put, sA, s0, s1]
          go_upto_region 10 with fail
          refine WL.start ?_
          refine wp_takeW (.pointer (some ⟨b, 13, none⟩)) (by kernel_rfl) (by kernel_rfl) ?_
          try simp only [Act.put, sA, s0, s1]
          refine wp_takeW (.agg #[.int .i64 (prepM i0 x.v.b).h.n, .int .i64 (prepM i0 x.v.b).h.c]) (exec_load 23 _ rfl ⟨b, 13, none⟩ (by kernel_rfl) (.agg #[.int .i64 (prepM i0 x.v.b).h.n, .int .i64 (prepM i0 x.v.b).h.c]) (load_S HMs.out (Mg.partH _))) (by kernel_rfl) ?_
          try simp only [Act.put, sA, s0, s1]
          refine wp_takeW (.pointer (some ⟨X, 3, none⟩)) (by kernel_rfl) (by kernel_rfl) ?_
          try simp only [Act.put, sA, s0, s1]
          refine wp_storeW 23 _ _ rfl ⟨X, 3, none⟩ (.agg #[.int .i64 (prepM i0 x.v.b).h.n, .int .i64 (prepM i0 x.v.b).h.c]) (by kernel_rfl) (by kernel_rfl) _ (store_setH HX.out (prepM i0 x.v.b).h) (by kernel_rfl) ?_
          try simp only [Act.put, sA, s0, s1]
          have HLT : Hid (X < (wk65.setRow X (((x.addP s (some ⟨g1, 0, none⟩) c1).setH (prepM i0 x.v.b).h).cells)).heap.size) := by show _ < _; rw [setRow_size]; exact HLT.out
          have HPM : Hid (PM w0 (wk65.setRow X (((x.addP s (some ⟨g1, 0, none⟩) c1).setH (prepM i0 x.v.b).h).cells)) p bI (some ⟨lg, 0, none⟩) lc ({ st with is := st.is.set s (prepI i0 x.v.b) }) (xs) (some (k, false))) := HPM.out.far HPB.out (Kept.setRow _ _ _) (fun q e => by have e : q = X := e; have := HO.out; omega)
          have HNO : Hid (Own 3 1 (wk65.setRow X (((x.addP s (some ⟨g1, 0, none⟩) c1).setH (prepM i0 x.v.b).h).cells)) w0.heap.size (some ⟨g1, 0, none⟩) c1 (x.v.pr ++ [(s : Int)]).length (ints (x.v.pr ++ [(s : Int)]))) := HNO.out.kept (Kept.setRow _ _ _) (fun q hq e => own_box HNO.out HX.out (by decide) hq e)
          have HPl : Hid (Box (wk65.setRow X (((x.addP s (some ⟨g1, 0, none⟩) c1).setH (prepM i0 x.v.b).h).cells)) (p) 69 ((playC st.f bI (st.is.set s (prepI i0 x.v.b)).length (some ⟨lg, 0, none⟩) xs.length lc st.dec).toArray)) := HPl.out.rowNe (by have := HO.out; omega) _
          have HX : Hid (Box (wk65.setRow X (((x.addP s (some ⟨g1, 0, none⟩) c1).setH (prepM i0 x.v.b).h).cells)) (X) 87 (((x.addP s (some ⟨g1, 0, none⟩) c1).setH (prepM i0 x.v.b).h).cells)) := HX.out.setRow _
          have HN : Hid (Box (wk65.setRow X (((x.addP s (some ⟨g1, 0, none⟩) c1).setH (prepM i0 x.v.b).h).cells)) (a) 29 ((prepI i0 x.v.b).cells)) := HN.out.rowNe (by have := HO.out; omega) _
          have HMs : Hid (Box (wk65.setRow X (((x.addP s (some ⟨g1, 0, none⟩) c1).setH (prepM i0 x.v.b).h).cells)) (b) 52 ((prepM i0 x.v.b).cells)) := HMs.out.rowNe (by have := HO.out; omega) _
          have HK : Hid (Kept (PSet p bI (some ⟨lg, 0, none⟩) xs) w (wk65.setRow X (((x.addP s (some ⟨g1, 0, none⟩) c1).setH (prepM i0 x.v.b).h).cells))) := HK.out.newRowS (by have := HO.out; omega) _
          generalize wk65.setRow X (((x.addP s (some ⟨g1, 0, none⟩) c1).setH (prepM i0 x.v.b).h).cells) = wk66 at HPl HX HN HMs HK HLT HPM HNO ⊢
          refine WL.nil ?_
          try simp only [Act.put, sA, s0, s1]
          go_upto_region 11 with fail
          refine WL.start ?_
          refine wp_takeW (.pointer (some ⟨b, 16, none⟩)) (by kernel_rfl) (by kernel_rfl) ?_
          try simp only [Act.put, sA, s0, s1]
          refine wp_takeW (.agg (prepM i0 x.v.b).c.cells) (exec_load 27 _ rfl ⟨b, 16, none⟩ (by kernel_rfl) (.agg (prepM i0 x.v.b).c.cells) (load_MC HMs.out)) (by kernel_rfl) ?_
          try simp only [Act.put, sA, s0, s1]
          refine wp_takeW (.pointer (some ⟨X, 5, none⟩)) (by kernel_rfl) (by kernel_rfl) ?_
          try simp only [Act.put, sA, s0, s1]
          refine wp_storeW 27 _ _ rfl ⟨X, 5, none⟩ (.agg (prepM i0 x.v.b).c.cells) (by kernel_rfl) (by kernel_rfl) _ (store_setC HX.out (prepM i0 x.v.b).c) (by kernel_rfl) ?_
          try simp only [Act.put, sA, s0, s1]
          have HLT : Hid (X < (wk66.setRow X ((((x.addP s (some ⟨g1, 0, none⟩) c1).setH (prepM i0 x.v.b).h).setC (prepM i0 x.v.b).c).cells)).heap.size) := by show _ < _; rw [setRow_size]; exact HLT.out
          have HPM : Hid (PM w0 (wk66.setRow X ((((x.addP s (some ⟨g1, 0, none⟩) c1).setH (prepM i0 x.v.b).h).setC (prepM i0 x.v.b).c).cells)) p bI (some ⟨lg, 0, none⟩) lc ({ st with is := st.is.set s (prepI i0 x.v.b) }) (xs) (some (k, false))) := HPM.out.far HPB.out (Kept.setRow _ _ _) (fun q e => by have e : q = X := e; have := HO.out; omega)
          have HNO : Hid (Own 3 1 (wk66.setRow X ((((x.addP s (some ⟨g1, 0, none⟩) c1).setH (prepM i0 x.v.b).h).setC (prepM i0 x.v.b).c).cells)) w0.heap.size (some ⟨g1, 0, none⟩) c1 (x.v.pr ++ [(s : Int)]).length (ints (x.v.pr ++ [(s : Int)]))) := HNO.out.kept (Kept.setRow _ _ _) (fun q hq e => own_box HNO.out HX.out (by decide) hq e)
          have HPl : Hid (Box (wk66.setRow X ((((x.addP s (some ⟨g1, 0, none⟩) c1).setH (prepM i0 x.v.b).h).setC (prepM i0 x.v.b).c).cells)) (p) 69 ((playC st.f bI (st.is.set s (prepI i0 x.v.b)).length (some ⟨lg, 0, none⟩) xs.length lc st.dec).toArray)) := HPl.out.rowNe (by have := HO.out; omega) _
          have HX : Hid (Box (wk66.setRow X ((((x.addP s (some ⟨g1, 0, none⟩) c1).setH (prepM i0 x.v.b).h).setC (prepM i0 x.v.b).c).cells)) (X) 87 ((((x.addP s (some ⟨g1, 0, none⟩) c1).setH (prepM i0 x.v.b).h).setC (prepM i0 x.v.b).c).cells)) := HX.out.setRow _
          have HN : Hid (Box (wk66.setRow X ((((x.addP s (some ⟨g1, 0, none⟩) c1).setH (prepM i0 x.v.b).h).setC (prepM i0 x.v.b).c).cells)) (a) 29 ((prepI i0 x.v.b).cells)) := HN.out.rowNe (by have := HO.out; omega) _
          have HMs : Hid (Box (wk66.setRow X ((((x.addP s (some ⟨g1, 0, none⟩) c1).setH (prepM i0 x.v.b).h).setC (prepM i0 x.v.b).c).cells)) (b) 52 ((prepM i0 x.v.b).cells)) := HMs.out.rowNe (by have := HO.out; omega) _
          have HK : Hid (Kept (PSet p bI (some ⟨lg, 0, none⟩) xs) w (wk66.setRow X ((((x.addP s (some ⟨g1, 0, none⟩) c1).setH (prepM i0 x.v.b).h).setC (prepM i0 x.v.b).c).cells))) := HK.out.newRowS (by have := HO.out; omega) _
          generalize wk66.setRow X ((((x.addP s (some ⟨g1, 0, none⟩) c1).setH (prepM i0 x.v.b).h).setC (prepM i0 x.v.b).c).cells) = wk67 at HPl HX HN HMs HK HLT HPM HNO ⊢
          refine WL.nil ?_
          try simp only [Act.put, sA, s0, s1]
          go_upto_region 12 with fail
          have HXc : Hid (wk67.cell? ⟨X, 2, none⟩ = some (.slice (some ⟨g1, 0, none⟩) (x.v.pr ++ [(s : Int)]).length c1)) := HX.out.cell 2
          refine wp_region_held_drew (S := fun w' => Box w' (p) 69 ((playC st.f bI (st.is.set s (prepI i0 x.v.b)).length (some ⟨lg, 0, none⟩) xs.length lc st.dec).toArray) ∧ w'.cell? ⟨X, 2, none⟩ = some (.slice (some ⟨g1, 0, none⟩) (x.v.pr ++ [(s : Int)]).length c1)) rfl ⟨HPl.out, HXc.out⟩ (fun hH => ?_)
          have HPl : Hid (Box wk67.drew (p) 69 ((playC st.f bI (st.is.set s (prepI i0 x.v.b)).length (some ⟨lg, 0, none⟩) xs.length lc st.dec).toArray)) := HPl.out
          have HX : Hid (Box wk67.drew (X) 87 ((((x.addP s (some ⟨g1, 0, none⟩) c1).setH (prepM i0 x.v.b).h).setC (prepM i0 x.v.b).c).cells)) := HX.out
          have HN : Hid (Box wk67.drew (a) 29 ((prepI i0 x.v.b).cells)) := HN.out
          have HMs : Hid (Box wk67.drew (b) 52 ((prepM i0 x.v.b).cells)) := HMs.out
          have HXc : Hid (wk67.drew.cell? ⟨X, 2, none⟩ = some (.slice (some ⟨g1, 0, none⟩) (x.v.pr ++ [(s : Int)]).length c1)) := HXc.out
          have HK : Hid (Kept (PSet p bI (some ⟨lg, 0, none⟩) xs) w wk67.drew) := HK.out.drew
          have HPM : Hid (PM w0 (wk67.drew) p bI (some ⟨lg, 0, none⟩) lc ({ st with is := st.is.set s (prepI i0 x.v.b) }) (xs) (some (k, false))) := HPM.out.no (Kept.refl No _).drew
          have HNO : Hid (Own 3 1 (wk67.drew) w0.heap.size (some ⟨g1, 0, none⟩) c1 (x.v.pr ++ [(s : Int)]).length (ints (x.v.pr ++ [(s : Int)]))) := HNO.out.no (Kept.refl No _).drew
          have HLT : Hid (X < wk67.drew.heap.size) := HLT.out
          generalize wk67.drew = wk68 at HPl HX HN HMs HXc HK HLT hH HPM HNO ⊢
          refine any_take (i := 0) (oi := { dst := some 86, op := Op.fieldAddr 87 (Operand.tmp 9) 1, type := 0, pos := "outright.go:141", after := #[], guard := none }) (v := .pointer (some ⟨X, 2, none⟩)) rfl (by kernel_rfl) (by kernel_rfl) (by kernel_rfl) (fun _ _ _ h => h) (by kernel_rfl) (fun _ _ => by kernel_rfl) hH ?_
          try simp only [Act.put, sA, s0, s1]
          refine any_take (i := 1) (oi := { dst := some 87, op := Op.load 33 (Operand.tmp 86), type := 33, pos := "outright.go:141", after := #[{ on := 0, ground := Ground.data }], guard := none }) (v := .slice (some ⟨g1, 0, none⟩) (x.v.pr ++ [(s : Int)]).length c1) rfl (by kernel_rfl) (by kernel_rfl) (by kernel_rfl) (fun _ _ _ h => h) (by kernel_rfl) (fun w' hw => exec_load 33 _ rfl ⟨X, 2, none⟩ (by kernel_rfl) (.slice (some ⟨g1, 0, none⟩) (x.v.pr ++ [(s : Int)]).length c1) (load_one hw.2 Try.und33 rfl)) hH ?_
          try simp only [Act.put, sA, s0, s1]
          refine any_take (i := 2) (oi := { dst := some 88, op := Op.call { callee := Callee.builtin Builtin.len, args := #[Operand.tmp 87], argTypes := #[33] }, type := 3, pos := "outright.go:141", after := #[{ on := 1, ground := Ground.data }], guard := none }) (v := .int .i64 ((x.v.pr ++ [(s : Int)]).length : Int)) rfl (by kernel_rfl) (by kernel_rfl) (by kernel_rfl) (fun _ _ _ h => h) (by kernel_rfl) (fun _ _ => by kernel_rfl) hH ?_
          try simp only [Act.put, sA, s0, s1]
          refine any_take (i := 3) (oi := { dst := some 89, op := Op.move (Operand.tmp 0), type := 65, pos := "outright.go:141", after := #[], guard := none }) (v := .pointer (some ⟨p, 0, none⟩)) rfl (by kernel_rfl) (by kernel_rfl) (by kernel_rfl) (fun _ _ _ h => h) (by kernel_rfl) (fun _ _ => by kernel_rfl) hH ?_
          try simp only [Act.put, sA, s0, s1]
          refine any_take (i := 4) (oi := { dst := some 90, op := Op.nilCheck (Operand.tmp 89), type := 0, pos := "outright.go:141", after := #[{ on := 3, ground := Ground.data }], guard := none }) (v := .pointer (some ⟨p, 0, none⟩)) rfl (by kernel_rfl) (by kernel_rfl) (by kernel_rfl) (fun _ _ _ h => h) (by kernel_rfl) (fun _ _ => by kernel_rfl) hH ?_
          try simp only [Act.put, sA, s0, s1]
          refine any_take (i := 5) (oi := { dst := some 91, op := Op.fieldAddr 69 (Operand.tmp 90) 0, type := 0, pos := "outright.go:141", after := #[{ on := 4, ground := Ground.data }], guard := none }) (v := .pointer (some ⟨p, 0, none⟩)) rfl (by kernel_rfl) (by kernel_rfl) (by kernel_rfl) (fun _ _ _ h => h) (by kernel_rfl) (fun _ _ => by kernel_rfl) hH ?_
          try simp only [Act.put, sA, s0, s1]
          refine any_take (i := 6) (oi := { dst := some 92, op := Op.load 3 (Operand.tmp 91), type := 3, pos := "outright.go:141", after := #[{ on := 5, ground := Ground.data }], guard := none }) (v := .int .i64 (st.f : Int)) rfl (by kernel_rfl) (by kernel_rfl) (by kernel_rfl) (fun _ _ _ h => h) (by kernel_rfl) (fun w' hw => exec_load 3 _ rfl ⟨p, 0, none⟩ (by kernel_rfl) (.int .i64 (st.f : Int)) (load_pF hw.1)) hH ?_
          try simp only [Act.put, sA, s0, s1]
          refine any_take (i := 7) (oi := { dst := some 93, op := Op.binOp BinOp.add 3 (Operand.tmp 92) (Operand.const (Value.int IntKind.i64 1)) 3, type := 3, pos := "outright.go:141", after := #[{ on := 6, ground := Ground.data }], guard := none }) (v := .int .i64 ((st.f : Int) + 1)) rfl (by kernel_rfl) (by kernel_rfl) (by kernel_rfl) (fun _ _ _ h => h) (by kernel_rfl) (fun w' hw => exec_bin .add 3 _ _ _ rfl (.int .i64 (st.f : Int)) (.int .i64 1) (.int .i64 ((st.f : Int) + 1)) (by kernel_rfl) (by kernel_rfl) (by kernel_rfl) (addN _ _ (by omega) (by omega))) hH ?_
          try simp only [Act.put, sA, s0, s1]
          refine any_take (i := 8) (oi := { dst := some 94, op := Op.binOp BinOp.eql 3 (Operand.tmp 88) (Operand.tmp 93) 3, type := 4, pos := "outright.go:141", after := #[{ on := 2, ground := Ground.data }, { on := 7, ground := Ground.data }], guard := none }) (v := .bool (decide (x.v.pr.length + 1 = st.f + 1))) rfl (by kernel_rfl) (by kernel_rfl) (by kernel_rfl) (fun _ _ _ h => h) (by kernel_rfl) (fun w' hw => exec_bin .eql 3 _ _ _ rfl (.int .i64 ((x.v.pr ++ [(s : Int)]).length : Int)) (.int .i64 ((st.f : Int) + 1)) (.bool (decide (x.v.pr.length + 1 = st.f + 1))) (by kernel_rfl) (by kernel_rfl) (by kernel_rfl) (by rw [eqlN, List.length_append, List.length_singleton, chEq])) hH ?_
          try simp only [Act.put, sA, s0, s1]
          refine any_take (i := 9) (oi := { dst := some 95, op := Op.fieldAddr 87 (Operand.tmp 9) 4, type := 0, pos := "outright.go:141", after := #[{ on := 0, ground := Ground.phase }, { on := 1, ground := Ground.phase }, { on := 2, ground := Ground.phase }, { on := 3, ground := Ground.phase }, { on := 4, ground := Ground.phase }, { on := 5, ground := Ground.phase }, { on := 6, ground := Ground.phase }, { on := 7, ground := Ground.phase }, { on := 8, ground := Ground.phase }], guard := none }) (v := .pointer (some ⟨X, 14, none⟩)) rfl (by kernel_rfl) (by kernel_rfl) (by kernel_rfl) (fun _ _ _ h => h) (by kernel_rfl) (fun _ _ => by kernel_rfl) hH ?_
          try simp only [Act.put, sA, s0, s1]
          refine any_store (i := 10) (o := { dst := none, op := Op.store 4 (Operand.tmp 95) (Operand.tmp 94), type := 0, pos := "outright.go:141", after := #[{ on := 9, ground := Ground.data }, { on := 8, ground := Ground.data }, { on := 0, ground := Ground.phase }, { on := 1, ground := Ground.phase }, { on := 2, ground := Ground.phase }, { on := 3, ground := Ground.phase }, { on := 4, ground := Ground.phase }, { on := 5, ground := Ground.phase }, { on := 6, ground := Ground.phase }, { on := 7, ground := Ground.phase }, { on := 8, ground := Ground.phase }], guard := none }) rfl (by kernel_rfl) (by kernel_rfl) 4 _ _ rfl ⟨X, 14, none⟩ (.bool (decide (x.v.pr.length + 1 = st.f + 1))) (by kernel_rfl) (by kernel_rfl) (store_setB HX.out (decide (x.v.pr.length + 1 = st.f + 1))) ⟨HPl.out.rowNe (by have := HO.out; omega) _, (HX.out.setRow _).cell 2⟩ (fun hH => ?_)
          have HPM : Hid (PM w0 (wk68.setRow X (((((x.addP s (some ⟨g1, 0, none⟩) c1).setH (prepM i0 x.v.b).h).setC (prepM i0 x.v.b).c).setB (decide (x.v.pr.length + 1 = st.f + 1))).cells)) p bI (some ⟨lg, 0, none⟩) lc ({ st with is := st.is.set s (prepI i0 x.v.b) }) (xs) (some (k, false))) := HPM.out.far HPB.out (Kept.setRow _ _ _) (fun q e => by have e : q = X := e; have := HO.out; omega)
          have HNO : Hid (Own 3 1 (wk68.setRow X (((((x.addP s (some ⟨g1, 0, none⟩) c1).setH (prepM i0 x.v.b).h).setC (prepM i0 x.v.b).c).setB (decide (x.v.pr.length + 1 = st.f + 1))).cells)) w0.heap.size (some ⟨g1, 0, none⟩) c1 (x.v.pr ++ [(s : Int)]).length (ints (x.v.pr ++ [(s : Int)]))) := HNO.out.kept (Kept.setRow _ _ _) (fun q hq e => own_box HNO.out HX.out (by decide) hq e)
          have HPl : Hid (Box (wk68.setRow X (((((x.addP s (some ⟨g1, 0, none⟩) c1).setH (prepM i0 x.v.b).h).setC (prepM i0 x.v.b).c).setB (decide (x.v.pr.length + 1 = st.f + 1))).cells)) (p) 69 ((playC st.f bI (st.is.set s (prepI i0 x.v.b)).length (some ⟨lg, 0, none⟩) xs.length lc st.dec).toArray)) := HPl.out.rowNe (by have := HO.out; omega) _
          have HX : Hid (Box (wk68.setRow X (((((x.addP s (some ⟨g1, 0, none⟩) c1).setH (prepM i0 x.v.b).h).setC (prepM i0 x.v.b).c).setB (decide (x.v.pr.length + 1 = st.f + 1))).cells)) (X) 87 (((((x.addP s (some ⟨g1, 0, none⟩) c1).setH (prepM i0 x.v.b).h).setC (prepM i0 x.v.b).c).setB (decide (x.v.pr.length + 1 = st.f + 1))).cells)) := HX.out.setRow _
          have HN : Hid (Box (wk68.setRow X (((((x.addP s (some ⟨g1, 0, none⟩) c1).setH (prepM i0 x.v.b).h).setC (prepM i0 x.v.b).c).setB (decide (x.v.pr.length + 1 = st.f + 1))).cells)) (a) 29 ((prepI i0 x.v.b).cells)) := HN.out.rowNe (by have := HO.out; omega) _
          have HMs : Hid (Box (wk68.setRow X (((((x.addP s (some ⟨g1, 0, none⟩) c1).setH (prepM i0 x.v.b).h).setC (prepM i0 x.v.b).c).setB (decide (x.v.pr.length + 1 = st.f + 1))).cells)) (b) 52 ((prepM i0 x.v.b).cells)) := HMs.out.rowNe (by have := HO.out; omega) _
          have HK : Hid (Kept (PSet p bI (some ⟨lg, 0, none⟩) xs) w (wk68.setRow X (((((x.addP s (some ⟨g1, 0, none⟩) c1).setH (prepM i0 x.v.b).h).setC (prepM i0 x.v.b).c).setB (decide (x.v.pr.length + 1 = st.f + 1))).cells))) := HK.out.newRowS (by have := HO.out; omega) _
          have HLT : Hid (X < (wk68.setRow X (((((x.addP s (some ⟨g1, 0, none⟩) c1).setH (prepM i0 x.v.b).h).setC (prepM i0 x.v.b).c).setB (decide (x.v.pr.length + 1 = st.f + 1))).cells)).heap.size) := by show _ < _; rw [setRow_size]; exact HLT.out
          generalize wk68.setRow X (((((x.addP s (some ⟨g1, 0, none⟩) c1).setH (prepM i0 x.v.b).h).setC (prepM i0 x.v.b).c).setB (decide (x.v.pr.length + 1 = st.f + 1))).cells) = wk69 at HPl HX HN HMs HK HLT hH HPM HNO ⊢
          clear HXc
          refine wpAnyH_done (by kernel_rfl) ?_ _
          try simp only [Act.put, sA, s0, s1]
          go_upto_region 13 with fail
          refine wp_region_held_drew (S := fun w' => Box w' (p) 69 ((playC st.f bI (st.is.set s (prepI i0 x.v.b)).length (some ⟨lg, 0, none⟩) xs.length lc st.dec).toArray) ∧ Box w' (X) 87 (((((x.addP s (some ⟨g1, 0, none⟩) c1).setH (prepM i0 x.v.b).h).setC (prepM i0 x.v.b).c).setB (decide (x.v.pr.length + 1 = st.f + 1))).cells)) rfl ⟨HPl.out, HX.out⟩ (fun hH => ?_)
          have HPl : Hid (Box wk69.drew (p) 69 ((playC st.f bI (st.is.set s (prepI i0 x.v.b)).length (some ⟨lg, 0, none⟩) xs.length lc st.dec).toArray)) := HPl.out
          have HX : Hid (Box wk69.drew (X) 87 (((((x.addP s (some ⟨g1, 0, none⟩) c1).setH (prepM i0 x.v.b).h).setC (prepM i0 x.v.b).c).setB (decide (x.v.pr.length + 1 = st.f + 1))).cells)) := HX.out
          have HN : Hid (Box wk69.drew (a) 29 ((prepI i0 x.v.b).cells)) := HN.out
          have HMs : Hid (Box wk69.drew (b) 52 ((prepM i0 x.v.b).cells)) := HMs.out
          have HK : Hid (Kept (PSet p bI (some ⟨lg, 0, none⟩) xs) w wk69.drew) := HK.out.drew
          have HPM : Hid (PM w0 (wk69.drew) p bI (some ⟨lg, 0, none⟩) lc ({ st with is := st.is.set s (prepI i0 x.v.b) }) (xs) (some (k, false))) := HPM.out.no (Kept.refl No _).drew
          have HNO : Hid (Own 3 1 (wk69.drew) w0.heap.size (some ⟨g1, 0, none⟩) c1 (x.v.pr ++ [(s : Int)]).length (ints (x.v.pr ++ [(s : Int)]))) := HNO.out.no (Kept.refl No _).drew
          have HLT : Hid (X < wk69.drew.heap.size) := HLT.out
          generalize wk69.drew = wk70 at HPl HX HN HMs HK HLT hH HPM HNO ⊢
          refine any_take (i := 0) (oi := { dst := some 96, op := Op.move (Operand.tmp 0), type := 65, pos := "outright.go:142", after := #[], guard := none }) (v := .pointer (some ⟨p, 0, none⟩)) rfl (by kernel_rfl) (by kernel_rfl) (by kernel_rfl) (fun _ _ _ h => h) (by kernel_rfl) (fun _ _ => by kernel_rfl) hH ?_
          try simp only [Act.put, sA, s0, s1]
          refine any_take (i := 1) (oi := { dst := some 97, op := Op.nilCheck (Operand.tmp 96), type := 0, pos := "outright.go:142", after := #[{ on := 0, ground := Ground.data }], guard := none }) (v := .pointer (some ⟨p, 0, none⟩)) rfl (by kernel_rfl) (by kernel_rfl) (by kernel_rfl) (fun _ _ _ h => h) (by kernel_rfl) (fun _ _ => by kernel_rfl) hH ?_
          try simp only [Act.put, sA, s0, s1]
          refine any_take (i := 2) (oi := { dst := some 98, op := Op.fieldAddr 69 (Operand.tmp 97) 2, type := 0, pos := "outright.go:142", after := #[{ on := 1, ground := Ground.data }], guard := none }) (v := .pointer (some ⟨p, 2, none⟩)) rfl (by kernel_rfl) (by kernel_rfl) (by kernel_rfl) (fun _ _ _ h => h) (by kernel_rfl) (fun _ _ => by kernel_rfl) hH ?_
          try simp only [Act.put, sA, s0, s1]
          refine any_take (i := 3) (oi := { dst := some 99, op := Op.load 67 (Operand.tmp 98), type := 67, pos := "outright.go:142", after := #[{ on := 2, ground := Ground.data }], guard := none }) (v := .slice (some ⟨lg, 0, none⟩) xs.length lc) rfl (by kernel_rfl) (by kernel_rfl) (by kernel_rfl) (fun _ _ _ h => h) (by kernel_rfl) (fun w' hw => exec_load 67 _ rfl ⟨p, 2, none⟩ (by kernel_rfl) (.slice (some ⟨lg, 0, none⟩) xs.length lc) (load_pL hw.1)) hH ?_
          try simp only [Act.put, sA, s0, s1]
          refine any_take (i := 4) (oi := { dst := some 100, op := Op.move (Operand.tmp 1), type := 3, pos := "outright.go:142", after := #[], guard := none }) (v := .int .i64 k) rfl (by kernel_rfl) (by kernel_rfl) (by kernel_rfl) (fun _ _ _ h => h) (by kernel_rfl) (fun _ _ => by kernel_rfl) hH ?_
          try simp only [Act.put, sA, s0, s1]
          refine any_take (i := 5) (oi := { dst := some 101, op := Op.load 87 (Operand.tmp 9), type := 87, pos := "outright.go:142", after := #[], guard := none }) (v := .agg (((((x.addP s (some ⟨g1, 0, none⟩) c1).setH (prepM i0 x.v.b).h).setC (prepM i0 x.v.b).c).setB (decide (x.v.pr.length + 1 = st.f + 1))).cells)) rfl (by kernel_rfl) (by kernel_rfl) (by kernel_rfl) (fun _ _ _ h => h) (by kernel_rfl) (fun w' hw => exec_load 87 _ rfl ⟨X, 0, none⟩ (by kernel_rfl) (.agg (((((x.addP s (some ⟨g1, 0, none⟩) c1).setH (prepM i0 x.v.b).h).setC (prepM i0 x.v.b).c).setB (decide (x.v.pr.length + 1 = st.f + 1))).cells)) (load_P hw.2)) hH ?_
          try simp only [Act.put, sA, s0, s1]
          refine any_take (i := 6) (oi := { dst := some 102, op := Op.indexAddr 67 (Operand.tmp 99) (Operand.tmp 100), type := 0, pos := "outright.go:142", after := #[{ on := 3, ground := Ground.data }, { on := 4, ground := Ground.data }, { on := 0, ground := Ground.phase }, { on := 1, ground := Ground.phase }, { on := 2, ground := Ground.phase }, { on := 3, ground := Ground.phase }, { on := 4, ground := Ground.phase }, { on := 5, ground := Ground.phase }], guard := none }) (v := .pointer (some ⟨lg, 0 + k * 16, none⟩)) rfl (by kernel_rfl) (by kernel_rfl) (by kernel_rfl) (fun _ _ _ h => h) (by kernel_rfl) (fun w' hw => exec_ixA 67 16 Try.und67e Try.size67e _ _ rfl lg 0 xs.length lc k (by kernel_rfl) (by kernel_rfl) hkl) hH ?_
          try simp only [Act.put, sA, s0, s1]
          obtain ⟨cs2, hr2, hm2⟩ := HPM.out.setL (y := ((((x.addP s (some ⟨g1, 0, none⟩) c1).setH (prepM i0 x.v.b).h).setC (prepM i0 x.v.b).c).setB (decide (x.v.pr.length + 1 = st.f + 1)))) HXK.out (.inr (.inl rfl)) HNO.out (HPM.out.aown k x HXK.out (by simp)) HAP.out.1 HAP.out.2
          refine any_store (i := 7) (o := { dst := none, op := Op.store 87 (Operand.tmp 102) (Operand.tmp 101), type := 0, pos := "outright.go:142", after := #[{ on := 6, ground := Ground.data }, { on := 5, ground := Ground.data }, { on := 0, ground := Ground.phase }, { on := 1, ground := Ground.phase }, { on := 2, ground := Ground.phase }, { on := 3, ground := Ground.phase }, { on := 4, ground := Ground.phase }, { on := 5, ground := Ground.phase }], guard := none }) rfl (by kernel_rfl) (by kernel_rfl) 87 _ _ rfl ⟨lg, 0 + k * 16, none⟩ (.agg (((((x.addP s (some ⟨g1, 0, none⟩) c1).setH (prepM i0 x.v.b).h).setC (prepM i0 x.v.b).c).setB (decide (x.v.pr.length + 1 = st.f + 1))).cells)) (by kernel_rfl) (by kernel_rfl) hr2 (⟨hH.1.rowNe (by have := HO.out; omega) _, hH.2.rowNe (by have := HO.out; omega) _⟩) (fun hH => ?_)
          have HF : Hid (PM w0 (wk70.setRow lg cs2) p bI (some ⟨lg, 0, none⟩) lc { ({ st with is := st.is.set s (prepI i0 x.v.b) } : PS) with ls := st.ls.set k (((((x.addP s (some ⟨g1, 0, none⟩) c1).setH (prepM i0 x.v.b).h).setC (prepM i0 x.v.b).c).setB (decide (x.v.pr.length + 1 = st.f + 1)))).v } (xs.set k (((((x.addP s (some ⟨g1, 0, none⟩) c1).setH (prepM i0 x.v.b).h).setC (prepM i0 x.v.b).c).setB (decide (x.v.pr.length + 1 = st.f + 1))))) none) := hm2
          have HK : Hid (Kept (PSet p bI (some ⟨lg, 0, none⟩) xs) w (wk70.setRow lg cs2)) := HK.out.inRow (.inr (.inr (.inl ⟨_, rfl, rfl⟩))) _
          clear hr2 hm2
          generalize wk70.setRow lg cs2 = wk71 at HF HK hH ⊢
          try simp only [Act.put, sA, s0, s1]
          refine wpAnyH_done (by kernel_rfl) ?_ _
          try simp only [Act.put, sA, s0, s1]
          have hv : (((((x.addP s (some ⟨g1, 0, none⟩) c1).setH (prepM i0 x.v.b).h).setC (prepM i0 x.v.b).c).setB (decide (x.v.pr.length + 1 = st.f + 1)))).v = cntP st.f x.v (prepI i0 x.v.b).a (prepI i0 x.v.b).c s := by
            have e := prep_k13 q9
            have hl : lt x.v.h i0.a = true := by have h := q11; rw [e.2.2.2.1] at h; exact h
            rw [e.2.2.1]
            simp [Px.addP, Px.setH, Px.setC, Px.setB, cntP, hl, e.2.2.2.1, e.2.2.2.2]
          have HFI : Hid (Inv { ({ st with is := st.is.set s (prepI i0 x.v.b) } : PS) with ls := st.ls.set k (((((x.addP s (some ⟨g1, 0, none⟩) c1).setH (prepM i0 x.v.b).h).setC (prepM i0 x.v.b).c).setB (decide (x.v.pr.length + 1 = st.f + 1)))).v }) := by
            have e := prep_k13 q9
            have h1 := HIv.out.prep HSI.out x.v.b
            have h2 := set_here (x := (prepI i0 x.v.b)) HSI.out
            rw [hv]
            exact h1.count HXV.out h2 (by rw [e.2.2.1]; exact e.1) (by rw [e.2.2.1]) q8 (by simpa using q10)
          go_wp2
          go_ret
          exact ⟨rfl, _, xs.set k (((((x.addP s (some ⟨g1, 0, none⟩) c1).setH (prepM i0 x.v.b).h).setC (prepM i0 x.v.b).c).setB (decide (x.v.pr.length + 1 = st.f + 1)))), HF.out, HFI.out, rfl, by simp, HK.out⟩
        ·skip
         refine wp_callW 36 #[.slice x.pa x.v.pr.length x.pc, .int .i64 s] (by kernel_rfl) _ (has_any _ _ _ x.v.pr _ _ rfl (by have := HLE.out; omega) ((HPM.out.pown k x HXK.out (by simp)).nums rfl)) (by kernel_rfl) ?_
         rintro e wq ⟨rfl, hwq⟩
         rw [hwq]
         clear hwq wq
         refine ⟨.bool true, by rw [q10], ?_⟩
         try simp only [Act.put, sA, s0, s1]
         refine wp_takeW (.bool true) (by kernel_rfl) (by kernel_rfl) ?_
         try simp only [Act.put, sA, s0, s1]
         refine WL.nil ?_
         try simp only [Act.put, sA, s0, s1]
         go_wp2
         go_ret
         exact ⟨rfl, _, xs, HPM.out, HIv.out.prep HSI.out _, rfl, rfl, HK.out⟩
      ·skip
       refine wp_takeW (.bool true) (exec_load 4 _ rfl ⟨X, 14, none⟩ (by kernel_rfl) (.bool true) (by rw [← q8]; exact load_P14 HX.out)) (by kernel_rfl) ?_
       try simp only [Act.put, sA, s0, s1]
       refine wp_takeW (.bool true) (by kernel_rfl) (by kernel_rfl) ?_
       try simp only [Act.put, sA, s0, s1]
       refine wp_takeW (.bool true) (by kernel_rfl) (by kernel_rfl) ?_
       try simp only [Act.put, sA, s0, s1]
       refine wp_skip (by kernel_rfl) ?_
       try simp only [Act.put, sA, s0, s1]
       refine wp_skip (by kernel_rfl) ?_
       try simp only [Act.put, sA, s0, s1]
       refine wp_skip (by kernel_rfl) ?_
       try simp only [Act.put, sA, s0, s1]
       refine wp_takeW (.bool true) (by kernel_rfl) (by kernel_rfl) ?_
       try simp only [Act.put, sA, s0, s1]
       refine wp_takeW (.bool true) (by kernel_rfl) (by kernel_rfl) ?_
       try simp only [Act.put, sA, s0, s1]
       refine wp_skip (by kernel_rfl) ?_
       try simp only [Act.put, sA, s0, s1]
       refine wp_skip (by kernel_rfl) ?_
       try simp only [Act.put, sA, s0, s1]
       refine wp_skip (by kernel_rfl) ?_
       try simp only [Act.put, sA, s0, s1]
       refine wp_skip (by kernel_rfl) ?_
       try simp only [Act.put, sA, s0, s1]
       refine wp_takeW (.bool true) (by kernel_rfl) (by kernel_rfl) ?_
       try simp only [Act.put, sA, s0, s1]
       refine WL.nil ?_
       try simp only [Act.put, sA, s0, s1]
       go_wp2
       go_ret
       exact ⟨rfl, _, xs, HPM.out, HIv.out.prep HSI.out _, rfl, rfl, HK.out⟩
     ·skip
      have HLE : Hid (x.v.pr.length ≤ 1000) := by have := (HIv.out.ok k x.v HXV.out).le; show _ ≤ _; omega
      refine WL.start ?_
      refine wp_takeW (.bool true) (by kernel_rfl) (by kernel_rfl) ?_
      try simp only [Act.put, sA, s0, s1]
      refine wp_takeW (.bool true) (by kernel_rfl) (by kernel_rfl) ?_
      try simp only [Act.put, sA, s0, s1]
      refine wp_skip (by kernel_rfl) ?_
      try simp only [Act.put, sA, s0, s1]
      refine wp_skip (by kernel_rfl) ?_
      try simp only [Act.put, sA, s0, s1]
      refine wp_takeW (.bool true) (by kernel_rfl) (by kernel_rfl) ?_
      try simp only [Act.put, sA, s0, s1]
      refine wp_takeW (.bool true) (by kernel_rfl) (by kernel_rfl) ?_
      try simp only [Act.put, sA, s0, s1]
      refine wp_skip (by kernel_rfl) ?_
      try simp only [Act.put, sA, s0, s1]
      refine wp_skip (by kernel_rfl) ?_
      try simp only [Act.put, sA, s0, s1]
      refine wp_skip (by kernel_rfl) ?_
      try simp only [Act.put, sA, s0, s1]
      refine wp_takeW (.bool true) (by kernel_rfl) (by kernel_rfl) ?_
      try simp only [Act.put, sA, s0, s1]
      refine wp_takeW (.bool true) (by kernel_rfl) (by kernel_rfl) ?_
      try simp only [Act.put, sA, s0, s1]
      refine wp_skip (by kernel_rfl) ?_
      try simp only [Act.put, sA, s0, s1]
      refine wp_skip (by kernel_rfl) ?_
      try simp only [Act.put, sA, s0, s1]
      refine wp_skip (by kernel_rfl) ?_
      try simp only [Act.put, sA, s0, s1]
      refine wp_skip (by kernel_rfl) ?_
      try simp only [Act.put, sA, s0, s1]
      refine wp_takeW (.bool true) (by kernel_rfl) (by kernel_rfl) ?_
      try simp only [Act.put, sA, s0, s1]
      refine WL.nil ?_
      try simp only [Act.put, sA, s0, s1]
      go_wp2
      go_ret
      exact ⟨rfl, _, xs, HPM.out, HIv.out.prep HSI.out _, rfl, rfl, HK.out⟩

end Go.Proofs.Ytapjnanenfcdjaa
