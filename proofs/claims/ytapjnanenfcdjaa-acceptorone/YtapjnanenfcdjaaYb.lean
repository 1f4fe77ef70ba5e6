import Derived.Test.YtapjnanenfcdjaaYa
namespace Go.Proofs.Ytapjnanenfcdjaa
open Go.RowKit
set_option linter.unusedVariables false
set_option linter.unusedSimpArgs false

set_option maxRecDepth 100000 in
set_option maxHeartbeats 16000000 in
theorem accept_any (w0 : World) (p bI lg lc : Nat) (st : PS) (xs : List Px) (k s : Nat) (x : Px) (i0 : In) (w : World) (hM : PM w0 w p bI (some ⟨lg, 0, none⟩) lc st xs none) (hI : Inv st) (hx : xs[k]? = some x) (hi : st.is[s]? = some i0) (hf : st.f ≤ 3) :
    Calls Try.prog 24 #[.pointer (some ⟨p, 0, none⟩), .int .i64 k, .int .i64 s] w (PlayOut w0 w p bI (some ⟨lg, 0, none⟩) lc st xs) := by
  obtain ⟨wv, hwv⟩ : ∃ wv, wv = w := ⟨_, rfl⟩
  have HPM : Hid (PM w0 wv p bI (some ⟨lg, 0, none⟩) lc (st) (xs) (none)) := by rw [hwv]; exact hM
  have HPB : Hid (PB w.heap.size p bI (some ⟨lg, 0, none⟩) xs) := hM.below
  have HPl : Hid (Box wv (p) 69 ((playC st.f bI st.is.length (some ⟨lg, 0, none⟩) xs.length lc st.dec).toArray)) := by rw [hwv]; exact hM.box
  have HIn : Hid (Box wv (bI) 29 ((st.is.map In.cs).flatten.toArray)) := by rw [hwv]; exact hM.ins
  have HK : Hid (Kept (PSet p bI (some ⟨lg, 0, none⟩) xs) w wv) := by rw [hwv]; exact Kept.refl _ _
  have hlg : lg < w.heap.size := hM.below.l lg ⟨_, rfl, rfl⟩
  have HO : Hid (p < w.heap.size ∧ bI < w.heap.size ∧ lg < w.heap.size ∧ p ≠ bI ∧ p ≠ lg ∧ bI ≠ lg) := by
    have h1 := hM.box.lt
    have h2 := hM.ins.lt
    have h3 := box_ne hM.box hM.ins (by decide)
    have h4 : lg ≠ p := own_box hM.row hM.box (by decide) ⟨_, rfl, rfl⟩
    have h5 : lg ≠ bI := own_box hM.row hM.ins (by decide) ⟨_, rfl, rfl⟩
    show _ ∧ _
    omega
  have HLT : Hid (p < wv.heap.size) := by rw [hwv]; exact hM.box.lt
  have HIv : Hid (Inv st) := hI
  have HXK : Hid (xs[k]? = some x) := hx
  have HSI : Hid (st.is[s]? = some i0) := hi
  have hkl : k < xs.length := (List.getElem?_eq_some_iff.1 hx).1
  have hsl : s < st.is.length := (List.getElem?_eq_some_iff.1 hi).1
  have HXV : Hid (st.ls[k]? = some x.v) := by show _ = _; rw [← hM.vals, List.getElem?_map, hx]; rfl
  clear hM hI hx hi hlg
  go_enter Try.func24, Try.ntmps24
  go_upto_region 1 with fail
  rw [← hwv]
  clear hwv
  refine WL.start ?_
  refine wp_takeW (.pointer (some ⟨p, 0, none⟩)) (by kernel_rfl) (by kernel_rfl) ?_
  try simp only [Act.put, sA, s0, s1]
  refine wp_takeW (.pointer (some ⟨p, 0, none⟩)) (by kernel_rfl) (by kernel_rfl) ?_
  try simp only [Act.put, sA, s0, s1]
  refine wp_takeW (.pointer (some ⟨p, 2, none⟩)) (by kernel_rfl) (by kernel_rfl) ?_
  try simp only [Act.put, sA, s0, s1]
  refine wp_takeW (.slice (some ⟨lg, 0, none⟩) xs.length lc) (exec_load 67 _ rfl ⟨p, 2, none⟩ (by kernel_rfl) (.slice (some ⟨lg, 0, none⟩) xs.length lc) (load_pL HPl.out)) (by kernel_rfl) ?_
  try simp only [Act.put, sA, s0, s1]
  refine wp_takeW (.int .i64 k) (by kernel_rfl) (by kernel_rfl) ?_
  try simp only [Act.put, sA, s0, s1]
  refine wp_takeW (.pointer (some ⟨lg, 0 + k * 16, none⟩)) (exec_ixA 67 16 Try.und67e Try.size67e _ _ rfl lg 0 xs.length lc k (by kernel_rfl) (by kernel_rfl) hkl) (by kernel_rfl) ?_
  try simp only [Act.put, sA, s0, s1]
  refine wp_takeW (.agg x.cells) (exec_load 87 _ rfl ⟨lg, 0 + k * 16, none⟩ (by kernel_rfl) (.agg x.cells) (HPM.out.loadL HXK.out)) (by kernel_rfl) ?_
  try simp only [Act.put, sA, s0, s1]
  refine wp_allocW 87 rfl (prZ.cells) zero87 wv.heap.size rfl (by kernel_rfl) ?_
  try simp only [Act.put, sA, s0, s1]
  have HX : Hid (Box (wv.alloc (.cells (prZ.cells) 87)) wv.heap.size 87 (prZ.cells)) := Box.new _ _ _
  have HPl : Hid (Box (wv.alloc (.cells (prZ.cells) 87)) (p) 69 ((playC st.f bI st.is.length (some ⟨lg, 0, none⟩) xs.length lc st.dec).toArray)) := HPl.out.alloc _
  have HIn : Hid (Box (wv.alloc (.cells (prZ.cells) 87)) (bI) 29 ((st.is.map In.cs).flatten.toArray)) := HIn.out.alloc _
  have hsz := HK.out.size
  have HK : Hid (Kept (PSet p bI (some ⟨lg, 0, none⟩) xs) w (wv.alloc (.cells (prZ.cells) 87))) := HK.out.alloc _
  have HPM : Hid (PM w0 (wv.alloc (.cells (prZ.cells) 87)) p bI (some ⟨lg, 0, none⟩) lc (st) (xs) (none)) := HPM.out.no ((Kept.refl No _).alloc _)
  have HO : Hid (p < w.heap.size ∧ bI < w.heap.size ∧ lg < w.heap.size ∧ p ≠ bI ∧ p ≠ lg ∧ bI ≠ lg ∧ p < wv.heap.size ∧ w.heap.size ≤ wv.heap.size) := by
    have h := HO.out
    have l := HLT.out
    show _ ∧ _
    omega
  clear hsz
  have HLT : Hid (wv.heap.size < (wv.alloc (.cells (prZ.cells) 87)).heap.size) := by show _ < _; simp
  generalize wv.alloc (.cells (prZ.cells) 87) = wk1 at HPl HIn HX HK HLT HPM ⊢
  generalize wv.heap.size = X at HX HO HLT ⊢
  refine wp_storeW 87 _ _ rfl ⟨X, 0, none⟩ (.agg x.cells) (by kernel_rfl) (by kernel_rfl) _ (store_P HX.out rfl) (by kernel_rfl) ?_
  try simp only [Act.put, sA, s0, s1]
  have HLT : Hid (X < (wk1.setRow X (x.cells)).heap.size) := by show _ < _; rw [setRow_size]; exact HLT.out
  have HPM : Hid (PM w0 (wk1.setRow X (x.cells)) p bI (some ⟨lg, 0, none⟩) lc (st) (xs) (none)) := HPM.out.far HPB.out (Kept.setRow _ _ _) (fun q e => by have e : q = X := e; have := HO.out; omega)
  have HPl : Hid (Box (wk1.setRow X (x.cells)) (p) 69 ((playC st.f bI st.is.length (some ⟨lg, 0, none⟩) xs.length lc st.dec).toArray)) := HPl.out.rowNe (by have := HO.out; omega) _
  have HIn : Hid (Box (wk1.setRow X (x.cells)) (bI) 29 ((st.is.map In.cs).flatten.toArray)) := HIn.out.rowNe (by have := HO.out; omega) _
  have HX : Hid (Box (wk1.setRow X (x.cells)) (X) 87 (x.cells)) := HX.out.setRow _
  have HK : Hid (Kept (PSet p bI (some ⟨lg, 0, none⟩) xs) w (wk1.setRow X (x.cells))) := HK.out.newRowS (by have := HO.out; omega) _
  generalize wk1.setRow X (x.cells) = wk2 at HPl HIn HX HK HLT HPM ⊢
  refine WL.nil ?_
  try simp only [Act.put, sA, s0, s1]
  go_upto_region 2 with fail
  refine WL.start ?_
  refine wp_takeW (.pointer (some ⟨X, 14, none⟩)) (by kernel_rfl) (by kernel_rfl) ?_
  try simp only [Act.put, sA, s0, s1]
  cases q1 : (x.v.ch)
  ·skip
   refine wp_takeW (.bool false) (exec_load 4 _ rfl ⟨X, 14, none⟩ (by kernel_rfl) (.bool false) (by rw [← q1]; exact load_P14 HX.out)) (by kernel_rfl) ?_
   try simp only [Act.put, sA, s0, s1]
   refine wp_takeW (.bool true) (by kernel_rfl) (by kernel_rfl) ?_
   try simp only [Act.put, sA, s0, s1]
   refine WL.nil ?_
   try simp only [Act.put, sA, s0, s1]
   go_wp2
   go_ret
   exact ⟨rfl, st, xs, HPM.out, HIv.out, rfl, rfl, HK.out⟩
  ·skip
   refine wp_takeW (.bool true) (exec_load 4 _ rfl ⟨X, 14, none⟩ (by kernel_rfl) (.bool true) (by rw [← q1]; exact load_P14 HX.out)) (by kernel_rfl) ?_
   try simp only [Act.put, sA, s0, s1]
   refine wp_takeW (.bool false) (by kernel_rfl) (by kernel_rfl) ?_
   try simp only [Act.put, sA, s0, s1]
   refine WL.nil ?_
   try simp only [Act.put, sA, s0, s1]
   go_upto_region 4 with fail
   refine wp_region_held_drew (S := fun w' => Box w' (p) 69 ((playC st.f bI st.is.length (some ⟨lg, 0, none⟩) xs.length lc st.dec).toArray) ∧ Box w' (bI) 29 ((st.is.map In.cs).flatten.toArray) ∧ Box w' (X) 87 (x.cells)) rfl ⟨HPl.out, HIn.out, HX.out⟩ (fun hH => ?_)
   have HPl : Hid (Box wk2.drew (p) 69 ((playC st.f bI st.is.length (some ⟨lg, 0, none⟩) xs.length lc st.dec).toArray)) := HPl.out
   have HIn : Hid (Box wk2.drew (bI) 29 ((st.is.map In.cs).flatten.toArray)) := HIn.out
   have HX : Hid (Box wk2.drew (X) 87 (x.cells)) := HX.out
   have HK : Hid (Kept (PSet p bI (some ⟨lg, 0, none⟩) xs) w wk2.drew) := HK.out.drew
   have HPM : Hid (PM w0 (wk2.drew) p bI (some ⟨lg, 0, none⟩) lc (st) (xs) (none)) := HPM.out.no (Kept.refl No _).drew
   have HLT : Hid (X < wk2.drew.heap.size) := HLT.out
   generalize wk2.drew = wk3 at HPl HIn HX HK HLT hH HPM ⊢
   refine any_take (i := 0) (oi := { dst := some 22, op := Op.move (Operand.tmp 0), type := 65, pos := "outright.go:152", after := #[], guard := none }) (v := .pointer (some ⟨p, 0, none⟩)) rfl (by kernel_rfl) (by kernel_rfl) (by kernel_rfl) (fun _ _ _ h => h) (by kernel_rfl) (fun _ _ => by kernel_rfl) hH ?_
   try simp only [Act.put, sA, s0, s1]
   refine any_take (i := 1) (oi := { dst := some 23, op := Op.nilCheck (Operand.tmp 22), type := 0, pos := "outright.go:152", after := #[{ on := 0, ground := Ground.data }], guard := none }) (v := .pointer (some ⟨p, 0, none⟩)) rfl (by kernel_rfl) (by kernel_rfl) (by kernel_rfl) (fun _ _ _ h => h) (by kernel_rfl) (fun _ _ => by kernel_rfl) hH ?_
   try simp only [Act.put, sA, s0, s1]
   refine any_take (i := 2) (oi := { dst := some 24, op := Op.fieldAddr 69 (Operand.tmp 23) 1, type := 0, pos := "outright.go:152", after := #[{ on := 1, ground := Ground.data }], guard := none }) (v := .pointer (some ⟨p, 1, none⟩)) rfl (by kernel_rfl) (by kernel_rfl) (by kernel_rfl) (fun _ _ _ h => h) (by kernel_rfl) (fun _ _ => by kernel_rfl) hH ?_
   try simp only [Act.put, sA, s0, s1]
   refine any_take (i := 3) (oi := { dst := some 25, op := Op.load 66 (Operand.tmp 24), type := 66, pos := "outright.go:152", after := #[{ on := 2, ground := Ground.data }], guard := none }) (v := .slice (some ⟨bI, 0, none⟩) st.is.length st.is.length) rfl (by kernel_rfl) (by kernel_rfl) (by kernel_rfl) (fun _ _ _ h => h) (by kernel_rfl) (fun w' hw => exec_load 66 _ rfl ⟨p, 1, none⟩ (by kernel_rfl) (.slice (some ⟨bI, 0, none⟩) st.is.length st.is.length) (load_pI hw.1)) hH ?_
   try simp only [Act.put, sA, s0, s1]
   refine any_take (i := 4) (oi := { dst := some 26, op := Op.move (Operand.tmp 2), type := 3, pos := "outright.go:152", after := #[], guard := none }) (v := .int .i64 s) rfl (by kernel_rfl) (by kernel_rfl) (by kernel_rfl) (fun _ _ _ h => h) (by kernel_rfl) (fun _ _ => by kernel_rfl) hH ?_
   try simp only [Act.put, sA, s0, s1]
   refine any_take (i := 5) (oi := { dst := some 27, op := Op.indexAddr 66 (Operand.tmp 25) (Operand.tmp 26), type := 0, pos := "outright.go:152", after := #[{ on := 3, ground := Ground.data }, { on := 4, ground := Ground.data }], guard := none }) (v := .pointer (some ⟨bI, 0 + s * 14, none⟩)) rfl (by kernel_rfl) (by kernel_rfl) (by kernel_rfl) (fun _ _ _ h => h) (by kernel_rfl) (fun w' hw => exec_ixA 66 14 Try.und66e Try.size66e _ _ rfl bI 0 st.is.length st.is.length s (by kernel_rfl) (by kernel_rfl) hsl) hH ?_
   try simp only [Act.put, sA, s0, s1]
   refine any_take (i := 6) (oi := { dst := some 28, op := Op.load 29 (Operand.tmp 27), type := 29, pos := "outright.go:152", after := #[{ on := 5, ground := Ground.data }], guard := none }) (v := .agg i0.cells) rfl (by kernel_rfl) (by kernel_rfl) (by kernel_rfl) (fun _ _ _ h => h) (by kernel_rfl) (fun w' hw => exec_load 29 _ rfl ⟨bI, 0 + s * 14, none⟩ (by kernel_rfl) (.agg i0.cells) (load_In hw.2.1 HSI.out)) hH ?_
   try simp only [Act.put, sA, s0, s1]
   refine any_take (i := 7) (oi := { dst := some 29, op := Op.fieldAddr 87 (Operand.tmp 7) 0, type := 0, pos := "outright.go:152", after := #[], guard := none }) (v := .pointer (some ⟨X, 0, none⟩)) rfl (by kernel_rfl) (by kernel_rfl) (by kernel_rfl) (fun _ _ _ h => h) (by kernel_rfl) (fun _ _ => by kernel_rfl) hH ?_
   try simp only [Act.put, sA, s0, s1]
   refine any_take (i := 8) (oi := { dst := some 30, op := Op.load 23 (Operand.tmp 29), type := 23, pos := "outright.go:152", after := #[{ on := 7, ground := Ground.data }], guard := none }) (v := .agg #[.int .i64 x.v.b.n, .int .i64 x.v.b.c]) rfl (by kernel_rfl) (by kernel_rfl) (by kernel_rfl) (fun _ _ _ h => h) (by kernel_rfl) (fun w' hw => exec_load 23 _ rfl ⟨X, 0, none⟩ (by kernel_rfl) (.agg #[.int .i64 x.v.b.n, .int .i64 x.v.b.c]) (load_S hw.2.2 (Px.partB _))) hH ?_
   try simp only [Act.put, sA, s0, s1]
   refine any_take (i := 9) (oi := { dst := some 31, op := Op.fieldAddr 87 (Operand.tmp 7) 3, type := 0, pos := "outright.go:152", after := #[], guard := none }) (v := .pointer (some ⟨X, 5, none⟩)) rfl (by kernel_rfl) (by kernel_rfl) (by kernel_rfl) (fun _ _ _ h => h) (by kernel_rfl) (fun _ _ => by kernel_rfl) hH ?_
   try simp only [Act.put, sA, s0, s1]
   refine any_take (i := 10) (oi := { dst := some 32, op := Op.load 27 (Operand.tmp 31), type := 27, pos := "outright.go:152", after := #[{ on := 9, ground := Ground.data }], guard := none }) (v := .agg x.v.c.cells) rfl (by kernel_rfl) (by kernel_rfl) (by kernel_rfl) (fun _ _ _ h => h) (by kernel_rfl) (fun w' hw => exec_load 27 _ rfl ⟨X, 5, none⟩ (by kernel_rfl) (.agg x.v.c.cells) (load_PC hw.2.2)) hH ?_
   try simp only [Act.put, sA, s0, s1]
   refine' meet3 (J := fun W a b => Kept (PSet p bI (some ⟨lg, 0, none⟩) xs) w W ∧ PM w0 W p bI (some ⟨lg, 0, none⟩) lc (st) (xs) (none) ∧ Box W p 69 ((playC st.f bI st.is.length (some ⟨lg, 0, none⟩) xs.length lc st.dec).toArray) ∧ Box W X 87 (x.cells) ∧ Box W a 29 ((accI i0 x.v.b x.v.c).cells) ∧ Box W b 52 ((accM i0 x.v.b).cells) ∧ (p < w.heap.size ∧ bI < w.heap.size ∧ lg < w.heap.size ∧ p ≠ bI ∧ p ≠ lg ∧ bI ≠ lg ∧ w.heap.size ≤ X ∧ X < a ∧ X < b ∧ a ≠ b) ∧ X < W.heap.size) (fun hh => ?region) (fun W a b hJ => ?tail)
   case region =>
     refine any_pick (rs := [11, 16, 17]) (by kernel_rfl) (by simp) ?_
     intro i hi
     rcases pick3 hi with rfl | rfl | rfl
     ·skip
      clear hi
      refine step_call (i := 11) (o := { dst := some 33, op := Op.call { callee := Callee.value (Operand.func 13), args := #[Operand.tmp 28, Operand.tmp 30, Operand.tmp 32], argTypes := #[29, 23, 27] }, type := 53, pos := "outright.go:152", after := #[{ on := 6, ground := Ground.data }, { on := 8, ground := Ground.data }, { on := 10, ground := Ground.data }], guard := none }) rfl (by kernel_rfl) 13 #[.agg i0.cells, .agg #[.int .i64 x.v.b.n, .int .i64 x.v.b.c], .agg x.v.c.cells] (by kernel_rfl) _ (acc_any i0 x.v.b x.v.c _) ?_
      rintro e wk4 ⟨rfl, hk⟩
      have HPl : Hid (Box wk4 (p) 69 ((playC st.f bI st.is.length (some ⟨lg, 0, none⟩) xs.length lc st.dec).toArray)) := HPl.out.kept hk (fun e => e)
      have HIn : Hid (Box wk4 (bI) 29 ((st.is.map In.cs).flatten.toArray)) := HIn.out.kept hk (fun e => e)
      have HX : Hid (Box wk4 (X) 87 (x.cells)) := HX.out.kept hk (fun e => e)
      have HK : Hid (Kept (PSet p bI (some ⟨lg, 0, none⟩) xs) w wk4) := HK.out.thenNo hk
      have HPM : Hid (PM w0 (wk4) p bI (some ⟨lg, 0, none⟩) lc (st) (xs) (none)) := HPM.out.no hk
      have HLT : Hid (X < wk4.heap.size) := Nat.lt_of_lt_of_le HLT.out hk.size
      clear hk
      refine ⟨.tuple #[.agg ((accI i0 x.v.b x.v.c).cells), .agg ((accM i0 x.v.b).cells), .bool (accB i0 x.v.b x.v.c)], rfl, ⟨HPl.out, HIn.out, HX.out⟩, fun hH => ?_⟩
      try simp only [Act.put, sA, s0, s1]
      refine any_take (i := 12) (oi := { dst := some 21, op := Op.move (Operand.tmp 33), type := 53, pos := "outright.go:152", after := #[{ on := 11, ground := Ground.data }], guard := none }) (v := .tuple #[.agg ((accI i0 x.v.b x.v.c).cells), .agg ((accM i0 x.v.b).cells), .bool (accB i0 x.v.b x.v.c)]) rfl (by kernel_rfl) (by kernel_rfl) (by kernel_rfl) (fun _ _ _ h => h) (by kernel_rfl) (fun _ _ => by kernel_rfl) hH ?_
      try simp only [Act.put, sA, s0, s1]
      refine any_take (i := 13) (oi := { dst := some 34, op := Op.extract (Operand.tmp 21) 0, type := 29, pos := "outright.go:152", after := #[{ on := 12, ground := Ground.data }], guard := none }) (v := .agg ((accI i0 x.v.b x.v.c).cells)) rfl (by kernel_rfl) (by kernel_rfl) (by kernel_rfl) (fun _ _ _ h => h) (by kernel_rfl) (fun _ _ => by kernel_rfl) hH ?_
      try simp only [Act.put, sA, s0, s1]
      refine any_take (i := 14) (oi := { dst := some 35, op := Op.extract (Operand.tmp 21) 1, type := 52, pos := "outright.go:152", after := #[{ on := 12, ground := Ground.data }, { on := 18, ground := Ground.gcOnly Departure.lateStores }], guard := none }) (v := .agg ((accM i0 x.v.b).cells)) rfl (by kernel_rfl) (by kernel_rfl) (by kernel_rfl) (fun _ _ _ h => h) (by kernel_rfl) (fun _ _ => by kernel_rfl) hH ?_
      try simp only [Act.put, sA, s0, s1]
      refine any_take (i := 15) (oi := { dst := some 36, op := Op.extract (Operand.tmp 21) 2, type := 4, pos := "outright.go:152", after := #[{ on := 12, ground := Ground.data }, { on := 19, ground := Ground.gcOnly Departure.lateStores }], guard := none }) (v := .bool (accB i0 x.v.b x.v.c)) rfl (by kernel_rfl) (by kernel_rfl) (by kernel_rfl) (fun _ _ _ h => h) (by kernel_rfl) (fun _ _ => by kernel_rfl) hH ?_
      try simp only [Act.put, sA, s0, s1]
      refine any_pick (rs := [16, 17]) (by kernel_rfl) (by simp) ?_
      intro i hi
      rcases pick2 hi with rfl | rfl
      ·skip
       clear hi
       refine step_run (i := 16) (o := { dst := some 8, op := Op.alloc 29, type := 0, pos := "outright.go:152", after := #[], guard := none }) rfl (by kernel_rfl) (exec_alloc 29 rfl _ zero29) ⟨HPl.out.alloc _, HIn.out.alloc _, HX.out.alloc _⟩ (fun hH => ?_)
       have HN : Hid (Box (wk4.alloc (.cells (iZ.cells) 29)) wk4.heap.size 29 (iZ.cells)) := Box.new _ _ _
       have HPl : Hid (Box (wk4.alloc (.cells (iZ.cells) 29)) (p) 69 ((playC st.f bI st.is.length (some ⟨lg, 0, none⟩) xs.length lc st.dec).toArray)) := HPl.out.alloc _
       have HIn : Hid (Box (wk4.alloc (.cells (iZ.cells) 29)) (bI) 29 ((st.is.map In.cs).flatten.toArray)) := HIn.out.alloc _
       have HX : Hid (Box (wk4.alloc (.cells (iZ.cells) 29)) (X) 87 (x.cells)) := HX.out.alloc _
       have hsz := HK.out.size
       have HK : Hid (Kept (PSet p bI (some ⟨lg, 0, none⟩) xs) w (wk4.alloc (.cells (iZ.cells) 29))) := HK.out.alloc _
       have HPM : Hid (PM w0 (wk4.alloc (.cells (iZ.cells) 29)) p bI (some ⟨lg, 0, none⟩) lc (st) (xs) (none)) := HPM.out.no ((Kept.refl No _).alloc _)
       have HO : Hid (p < w.heap.size ∧ bI < w.heap.size ∧ lg < w.heap.size ∧ p ≠ bI ∧ p ≠ lg ∧ bI ≠ lg ∧ w.heap.size ≤ X ∧ X < wk4.heap.size ∧ w.heap.size ≤ wk4.heap.size) := by
         have h := HO.out
         have l := HLT.out
         show _ ∧ _
         omega
       clear hsz
       have HLT : Hid (wk4.heap.size < (wk4.alloc (.cells (iZ.cells) 29)).heap.size) := by show _ < _; simp
       generalize wk4.alloc (.cells (iZ.cells) 29) = wk5 at HPl HIn HX HN HK HLT hH HPM ⊢
       generalize wk4.heap.size = gk6 at HN HO HLT ⊢
       try simp only [Act.put, sA, s0, s1]
       refine any_step (i := 17) (o := { dst := some 9, op := Op.alloc 52, type := 0, pos := "outright.go:152", after := #[], guard := none }) rfl (by kernel_rfl) (by kernel_rfl) (exec_alloc 52 rfl _ zero52) ⟨HPl.out.alloc _, HIn.out.alloc _, HX.out.alloc _⟩ (fun hH => ?_)
       have HMs : Hid (Box (wk5.alloc (.cells (mZ.cells) 52)) wk5.heap.size 52 (mZ.cells)) := Box.new _ _ _
       have HPl : Hid (Box (wk5.alloc (.cells (mZ.cells) 52)) (p) 69 ((playC st.f bI st.is.length (some ⟨lg, 0, none⟩) xs.length lc st.dec).toArray)) := HPl.out.alloc _
       have HIn : Hid (Box (wk5.alloc (.cells (mZ.cells) 52)) (bI) 29 ((st.is.map In.cs).flatten.toArray)) := HIn.out.alloc _
       have HX : Hid (Box (wk5.alloc (.cells (mZ.cells) 52)) (X) 87 (x.cells)) := HX.out.alloc _
       have HN : Hid (Box (wk5.alloc (.cells (mZ.cells) 52)) (gk6) 29 (iZ.cells)) := HN.out.alloc _
       have hsz := HK.out.size
       have HK : Hid (Kept (PSet p bI (some ⟨lg, 0, none⟩) xs) w (wk5.alloc (.cells (mZ.cells) 52))) := HK.out.alloc _
       have HPM : Hid (PM w0 (wk5.alloc (.cells (mZ.cells) 52)) p bI (some ⟨lg, 0, none⟩) lc (st) (xs) (none)) := HPM.out.no ((Kept.refl No _).alloc _)
       have HO : Hid (p < w.heap.size ∧ bI < w.heap.size ∧ lg < w.heap.size ∧ p ≠ bI ∧ p ≠ lg ∧ bI ≠ lg ∧ w.heap.size ≤ X ∧ w.heap.size ≤ gk6 ∧ X < gk6 ∧ gk6 < wk5.heap.size ∧ w.heap.size ≤ wk5.heap.size) := by
         have h := HO.out
         have l := HLT.out
         show _ ∧ _
         omega
       clear hsz
       have HLT : Hid (wk5.heap.size < (wk5.alloc (.cells (mZ.cells) 52)).heap.size) := by show _ < _; simp
       generalize wk5.alloc (.cells (mZ.cells) 52) = wk7 at HPl HIn HX HN HMs HK HLT hH HPM ⊢
       generalize wk5.heap.size = gk8 at HMs HO HLT ⊢
       try simp only [Act.put, sA, s0, s1]
       refine any_store (i := 18) (o := { dst := none, op := Op.store 29 (Operand.tmp 8) (Operand.tmp 34), type := 0, pos := "outright.go:152", after := #[{ on := 16, ground := Ground.data }, { on := 13, ground := Ground.data }, { on := 11, ground := Ground.chain }, { on := 0, ground := Ground.phase }, { on := 1, ground := Ground.phase }, { on := 2, ground := Ground.phase }, { on := 3, ground := Ground.phase }, { on := 4, ground := Ground.phase }, { on := 5, ground := Ground.phase }, { on := 6, ground := Ground.phase }, { on := 7, ground := Ground.phase }, { on := 8, ground := Ground.phase }, { on := 9, ground := Ground.phase }, { on := 10, ground := Ground.phase }, { on := 11, ground := Ground.phase }, { on := 12, ground := Ground.phase }, { on := 13, ground := Ground.phase }, { on := 14, ground := Ground.textOnly Departure.lateStores }, { on := 15, ground := Ground.textOnly Departure.lateStores }, { on := 16, ground := Ground.phase }, { on := 17, ground := Ground.phase }], guard := none }) rfl (by kernel_rfl) (by kernel_rfl) 29 _ _ rfl ⟨gk6, 0, none⟩ (.agg ((accI i0 x.v.b x.v.c).cells)) (by kernel_rfl) (by kernel_rfl) (store_I HN.out rfl) (⟨hH.1.rowNe (by have := HO.out; omega) _, hH.2.1.rowNe (by have := HO.out; omega) _, hH.2.2.rowNe (by have := HO.out; omega) _⟩) (fun hH => ?_)
       have HLT : Hid (gk8 < (wk7.setRow gk6 ((accI i0 x.v.b x.v.c).cells)).heap.size) := by show _ < _; rw [setRow_size]; exact HLT.out
       have HPM : Hid (PM w0 (wk7.setRow gk6 ((accI i0 x.v.b x.v.c).cells)) p bI (some ⟨lg, 0, none⟩) lc (st) (xs) (none)) := HPM.out.far HPB.out (Kept.setRow _ _ _) (fun q e => by have e : q = gk6 := e; have := HO.out; omega)
       have HPl : Hid (Box (wk7.setRow gk6 ((accI i0 x.v.b x.v.c).cells)) (p) 69 ((playC st.f bI st.is.length (some ⟨lg, 0, none⟩) xs.length lc st.dec).toArray)) := HPl.out.rowNe (by have := HO.out; omega) _
       have HIn : Hid (Box (wk7.setRow gk6 ((accI i0 x.v.b x.v.c).cells)) (bI) 29 ((st.is.map In.cs).flatten.toArray)) := HIn.out.rowNe (by have := HO.out; omega) _
       have HX : Hid (Box (wk7.setRow gk6 ((accI i0 x.v.b x.v.c).cells)) (X) 87 (x.cells)) := HX.out.rowNe (by have := HO.out; omega) _
       have HN : Hid (Box (wk7.setRow gk6 ((accI i0 x.v.b x.v.c).cells)) (gk6) 29 ((accI i0 x.v.b x.v.c).cells)) := HN.out.setRow _
       have HMs : Hid (Box (wk7.setRow gk6 ((accI i0 x.v.b x.v.c).cells)) (gk8) 52 (mZ.cells)) := HMs.out.rowNe (by have := HO.out; omega) _
       have HK : Hid (Kept (PSet p bI (some ⟨lg, 0, none⟩) xs) w (wk7.setRow gk6 ((accI i0 x.v.b x.v.c).cells))) := HK.out.newRowS (by have := HO.out; omega) _
       generalize wk7.setRow gk6 ((accI i0 x.v.b x.v.c).cells) = wk9 at HPl HIn HX HN HMs HK HLT hH HPM ⊢
       refine any_store (i := 19) (o := { dst := none, op := Op.store 52 (Operand.tmp 9) (Operand.tmp 35), type := 0, pos := "outright.go:152", after := #[{ on := 17, ground := Ground.data }, { on := 14, ground := Ground.data }, { on := 18, ground := Ground.chain }, { on := 0, ground := Ground.phase }, { on := 1, ground := Ground.phase }, { on := 2, ground := Ground.phase }, { on := 3, ground := Ground.phase }, { on := 4, ground := Ground.phase }, { on := 5, ground := Ground.phase }, { on := 6, ground := Ground.phase }, { on := 7, ground := Ground.phase }, { on := 8, ground := Ground.phase }, { on := 9, ground := Ground.phase }, { on := 10, ground := Ground.phase }, { on := 11, ground := Ground.phase }, { on := 12, ground := Ground.phase }, { on := 13, ground := Ground.phase }, { on := 14, ground := Ground.phase }, { on := 15, ground := Ground.textOnly Departure.lateStores }, { on := 16, ground := Ground.phase }, { on := 17, ground := Ground.phase }, { on := 18, ground := Ground.phase }], guard := none }) rfl (by kernel_rfl) (by kernel_rfl) 52 _ _ rfl ⟨gk8, 0, none⟩ (.agg ((accM i0 x.v.b).cells)) (by kernel_rfl) (by kernel_rfl) (store_M HMs.out rfl) (⟨hH.1.rowNe (by have := HO.out; omega) _, hH.2.1.rowNe (by have := HO.out; omega) _, hH.2.2.rowNe (by have := HO.out; omega) _⟩) (fun hH => ?_)
       have HLT : Hid (gk8 < (wk9.setRow gk8 ((accM i0 x.v.b).cells)).heap.size) := by show _ < _; rw [setRow_size]; exact HLT.out
       have HPM : Hid (PM w0 (wk9.setRow gk8 ((accM i0 x.v.b).cells)) p bI (some ⟨lg, 0, none⟩) lc (st) (xs) (none)) := HPM.out.far HPB.out (Kept.setRow _ _ _) (fun q e => by have e : q = gk8 := e; have := HO.out; omega)
       have HPl : Hid (Box (wk9.setRow gk8 ((accM i0 x.v.b).cells)) (p) 69 ((playC st.f bI st.is.length (some ⟨lg, 0, none⟩) xs.length lc st.dec).toArray)) := HPl.out.rowNe (by have := HO.out; omega) _
       have HIn : Hid (Box (wk9.setRow gk8 ((accM i0 x.v.b).cells)) (bI) 29 ((st.is.map In.cs).flatten.toArray)) := HIn.out.rowNe (by have := HO.out; omega) _
       have HX : Hid (Box (wk9.setRow gk8 ((accM i0 x.v.b).cells)) (X) 87 (x.cells)) := HX.out.rowNe (by have := HO.out; omega) _
       have HN : Hid (Box (wk9.setRow gk8 ((accM i0 x.v.b).cells)) (gk6) 29 ((accI i0 x.v.b x.v.c).cells)) := HN.out.rowNe (by have := HO.out; omega) _
       have HMs : Hid (Box (wk9.setRow gk8 ((accM i0 x.v.b).cells)) (gk8) 52 ((accM i0 x.v.b).cells)) := HMs.out.setRow _
       have HK : Hid (Kept (PSet p bI (some ⟨lg, 0, none⟩) xs) w (wk9.setRow gk8 ((accM i0 x.v.b).cells))) := HK.out.newRowS (by have := HO.out; omega) _
       generalize wk9.setRow gk8 ((accM i0 x.v.b).cells) = wk10 at HPl HIn HX HN HMs HK HLT hH HPM ⊢
       refine any_take (i := 20) (oi := { dst := some 10, op := Op.assign (Operand.tmp 36), type := 4, pos := "outright.go:152", after := #[{ on := 15, ground := Ground.data }, { on := 19, ground := Ground.chain }, { on := 0, ground := Ground.phase }, { on := 1, ground := Ground.phase }, { on := 2, ground := Ground.phase }, { on := 3, ground := Ground.phase }, { on := 4, ground := Ground.phase }, { on := 5, ground := Ground.phase }, { on := 6, ground := Ground.phase }, { on := 7, ground := Ground.phase }, { on := 8, ground := Ground.phase }, { on := 9, ground := Ground.phase }, { on := 10, ground := Ground.phase }, { on := 11, ground := Ground.phase }, { on := 12, ground := Ground.phase }, { on := 13, ground := Ground.phase }, { on := 14, ground := Ground.phase }, { on := 15, ground := Ground.phase }, { on := 16, ground := Ground.phase }, { on := 17, ground := Ground.phase }, { on := 18, ground := Ground.phase }, { on := 19, ground := Ground.phase }], guard := none }) (v := .bool (accB i0 x.v.b x.v.c)) rfl (by kernel_rfl) (by kernel_rfl) (by kernel_rfl) (fun _ _ _ h => h) (by kernel_rfl) (fun _ _ => by kernel_rfl) hH ?_
       try simp only [Act.put, sA, s0, s1]
       refine wpAnyH_done (by kernel_rfl) ?_ _
       try simp only [Act.put, sA, s0, s1]
       exact hh _ gk6 gk8 ⟨HK.out, HPM.out, HPl.out, HX.out, HN.out, HMs.out, by have := HO.out; omega, Nat.lt_of_le_of_lt (by have := HO.out; omega) HLT.out⟩
      ·skip
       clear hi
       refine step_run (i := 17) (o := { dst := some 9, op := Op.alloc 52, type := 0, pos := "outright.go:152", after := #[], guard := none }) rfl (by kernel_rfl) (exec_alloc 52 rfl _ zero52) ⟨HPl.out.alloc _, HIn.out.alloc _, HX.out.alloc _⟩ (fun hH => ?_)
       have HMs : Hid (Box (wk4.alloc (.cells (mZ.cells) 52)) wk4.heap.size 52 (mZ.cells)) := Box.new _ _ _
       have HPl : Hid (Box (wk4.alloc (.cells (mZ.cells) 52)) (p) 69 ((playC st.f bI st.is.length (some ⟨lg, 0, none⟩) xs.length lc st.dec).toArray)) := HPl.out.alloc _
       have HIn : Hid (Box (wk4.alloc (.cells (mZ.cells) 52)) (bI) 29 ((st.is.map In.cs).flatten.toArray)) := HIn.out.alloc _
       have HX : Hid (Box (wk4.alloc (.cells (mZ.cells) 52)) (X) 87 (x.cells)) := HX.out.alloc _
       have hsz := HK.out.size
       have HK : Hid (Kept (PSet p bI (some ⟨lg, 0, none⟩) xs) w (wk4.alloc (.cells (mZ.cells) 52))) := HK.out.alloc _
       have HPM : Hid (PM w0 (wk4.alloc (.cells (mZ.cells) 52)) p bI (some ⟨lg, 0, none⟩) lc (st) (xs) (none)) := HPM.out.no ((Kept.refl No _).alloc _)
       have HO : Hid (p < w.heap.size ∧ bI < w.heap.size ∧ lg < w.heap.size ∧ p ≠ bI ∧ p ≠ lg ∧ bI ≠ lg ∧ w.heap.size ≤ X ∧ X < wk4.heap.size ∧ w.heap.size ≤ wk4.heap.size) := by
         have h := HO.out
         have l := HLT.out
         show _ ∧ _
         omega
       clear hsz
       have HLT : Hid (wk4.heap.size < (wk4.alloc (.cells (mZ.cells) 52)).heap.size) := by show _ < _; simp
       generalize wk4.alloc (.cells (mZ.cells) 52) = wk11 at HPl HIn HX HMs HK HLT hH HPM ⊢
       generalize wk4.heap.size = gk12 at HMs HO HLT ⊢
       try simp only [Act.put, sA, s0, s1]
       refine any_step (i := 16) (o := { dst := some 8, op := Op.alloc 29, type := 0, pos := "outright.go:152", after := #[], guard := none }) rfl (by kernel_rfl) (by kernel_rfl) (exec_alloc 29 rfl _ zero29) ⟨HPl.out.alloc _, HIn.out.alloc _, HX.out.alloc _⟩ (fun hH => ?_)
       have HN : Hid (Box (wk11.alloc (.cells (iZ.cells) 29)) wk11.heap.size 29 (iZ.cells)) := Box.new _ _ _
       have HPl : Hid (Box (wk11.alloc (.cells (iZ.cells) 29)) (p) 69 ((playC st.f bI st.is.length (some ⟨lg, 0, none⟩) xs.length lc st.dec).toArray)) := HPl.out.alloc _
       have HIn : Hid (Box (wk11.alloc (.cells (iZ.cells) 29)) (bI) 29 ((st.is.map In.cs).flatten.toArray)) := HIn.out.alloc _
       have HX : Hid (Box (wk11.alloc (.cells (iZ.cells) 29)) (X) 87 (x.cells)) := HX.out.alloc _
       have HMs : Hid (Box (wk11.alloc (.cells (iZ.cells) 29)) (gk12) 52 (mZ.cells)) := HMs.out.alloc _
       have hsz := HK.out.size
       have HK : Hid (Kept (PSet p bI (some ⟨lg, 0, none⟩) xs) w (wk11.alloc (.cells (iZ.cells) 29))) := HK.out.alloc _
       have HPM : Hid (PM w0 (wk11.alloc (.cells (iZ.cells) 29)) p bI (some ⟨lg, 0, none⟩) lc (st) (xs) (none)) := HPM.out.no ((Kept.refl No _).alloc _)
       have HO : Hid (p < w.heap.size ∧ bI < w.heap.size ∧ lg < w.heap.size ∧ p ≠ bI ∧ p ≠ lg ∧ bI ≠ lg ∧ w.heap.size ≤ X ∧ w.heap.size ≤ gk12 ∧ X < gk12 ∧ gk12 < wk11.heap.size ∧ w.heap.size ≤ wk11.heap.size) := by
         have h := HO.out
         have l := HLT.out
         show _ ∧ _
         omega
       clear hsz
       have HLT : Hid (wk11.heap.size < (wk11.alloc (.cells (iZ.cells) 29)).heap.size) := by show _ < _; simp
       generalize wk11.alloc (.cells (iZ.cells) 29) = wk13 at HPl HIn HX HMs HN HK HLT hH HPM ⊢
       generalize wk11.heap.size = gk14 at HN HO HLT ⊢
       try simp only [Act.put, sA, s0, s1]
       refine any_store (i := 18) (o := { dst := none, op := Op.store 29 (Operand.tmp 8) (Operand.tmp 34), type := 0, pos := "outright.go:152", after := #[{ on := 16, ground := Ground.data }, { on := 13, ground := Ground.data }, { on := 11, ground := Ground.chain }, { on := 0, ground := Ground.phase }, { on := 1, ground := Ground.phase }, { on := 2, ground := Ground.phase }, { on := 3, ground := Ground.phase }, { on := 4, ground := Ground.phase }, { on := 5, ground := Ground.phase }, { on := 6, ground := Ground.phase }, { on := 7, ground := Ground.phase }, { on := 8, ground := Ground.phase }, { on := 9, ground := Ground.phase }, { on := 10, ground := Ground.phase }, { on := 11, ground := Ground.phase }, { on := 12, ground := Ground.phase }, { on := 13, ground := Ground.phase }, { on := 14, ground := Ground.textOnly Departure.lateStores }, { on := 15, ground := Ground.textOnly Departure.lateStores }, { on := 16, ground := Ground.phase }, { on := 17, ground := Ground.phase }], guard := none }) rfl (by kernel_rfl) (by kernel_rfl) 29 _ _ rfl ⟨gk14, 0, none⟩ (.agg ((accI i0 x.v.b x.v.c).cells)) (by kernel_rfl) (by kernel_rfl) (store_I HN.out rfl) (⟨hH.1.rowNe (by have := HO.out; omega) _, hH.2.1.rowNe (by have := HO.out; omega) _, hH.2.2.rowNe (by have := HO.out; omega) _⟩) (fun hH => ?_)
       have HLT : Hid (gk14 < (wk13.setRow gk14 ((accI i0 x.v.b x.v.c).cells)).heap.size) := by show _ < _; rw [setRow_size]; exact HLT.out
       have HPM : Hid (PM w0 (wk13.setRow gk14 ((accI i0 x.v.b x.v.c).cells)) p bI (some ⟨lg, 0, none⟩) lc (st) (xs) (none)) := HPM.out.far HPB.out (Kept.setRow _ _ _) (fun q e => by have e : q = gk14 := e; have := HO.out; omega)
       have HPl : Hid (Box (wk13.setRow gk14 ((accI i0 x.v.b x.v.c).cells)) (p) 69 ((playC st.f bI st.is.length (some ⟨lg, 0, none⟩) xs.length lc st.dec).toArray)) := HPl.out.rowNe (by have := HO.out; omega) _
       have HIn : Hid (Box (wk13.setRow gk14 ((accI i0 x.v.b x.v.c).cells)) (bI) 29 ((st.is.map In.cs).flatten.toArray)) := HIn.out.rowNe (by have := HO.out; omega) _
       have HX : Hid (Box (wk13.setRow gk14 ((accI i0 x.v.b x.v.c).cells)) (X) 87 (x.cells)) := HX.out.rowNe (by have := HO.out; omega) _
       have HMs : Hid (Box (wk13.setRow gk14 ((accI i0 x.v.b x.v.c).cells)) (gk12) 52 (mZ.cells)) := HMs.out.rowNe (by have := HO.out; omega) _
       have HN : Hid (Box (wk13.setRow gk14 ((accI i0 x.v.b x.v.c).cells)) (gk14) 29 ((accI i0 x.v.b x.v.c).cells)) := HN.out.setRow _
       have HK : Hid (Kept (PSet p bI (some ⟨lg, 0, none⟩) xs) w (wk13.setRow gk14 ((accI i0 x.v.b x.v.c).cells))) := HK.out.newRowS (by have := HO.out; omega) _
       generalize wk13.setRow gk14 ((accI i0 x.v.b x.v.c).cells) = wk15 at HPl HIn HX HMs HN HK HLT hH HPM ⊢
       refine any_store (i := 19) (o := { dst := none, op := Op.store 52 (Operand.tmp 9) (Operand.tmp 35), type := 0, pos := "outright.go:152", after := #[{ on := 17, ground := Ground.data }, { on := 14, ground := Ground.data }, { on := 18, ground := Ground.chain }, { on := 0, ground := Ground.phase }, { on := 1, ground := Ground.phase }, { on := 2, ground := Ground.phase }, { on := 3, ground := Ground.phase }, { on := 4, ground := Ground.phase }, { on := 5, ground := Ground.phase }, { on := 6, ground := Ground.phase }, { on := 7, ground := Ground.phase }, { on := 8, ground := Ground.phase }, { on := 9, ground := Ground.phase }, { on := 10, ground := Ground.phase }, { on := 11, ground := Ground.phase }, { on := 12, ground := Ground.phase }, { on := 13, ground := Ground.phase }, { on := 14, ground := Ground.phase }, { on := 15, ground := Ground.textOnly Departure.lateStores }, { on := 16, ground := Ground.phase }, { on := 17, ground := Ground.phase }, { on := 18, ground := Ground.phase }], guard := none }) rfl (by kernel_rfl) (by kernel_rfl) 52 _ _ rfl ⟨gk12, 0, none⟩ (.agg ((accM i0 x.v.b).cells)) (by kernel_rfl) (by kernel_rfl) (store_M HMs.out rfl) (⟨hH.1.rowNe (by have := HO.out; omega) _, hH.2.1.rowNe (by have := HO.out; omega) _, hH.2.2.rowNe (by have := HO.out; omega) _⟩) (fun hH => ?_)
       have HLT : Hid (gk14 < (wk15.setRow gk12 ((accM i0 x.v.b).cells)).heap.size) := by show _ < _; rw [setRow_size]; exact HLT.out
       have HPM : Hid (PM w0 (wk15.setRow gk12 ((accM i0 x.v.b).cells)) p bI (some ⟨lg, 0, none⟩) lc (st) (xs) (none)) := HPM.out.far HPB.out (Kept.setRow _ _ _) (fun q e => by have e : q = gk12 := e; have := HO.out; omega)
       have HPl : Hid (Box (wk15.setRow gk12 ((accM i0 x.v.b).cells)) (p) 69 ((playC st.f bI st.is.length (some ⟨lg, 0, none⟩) xs.length lc st.dec).toArray)) := HPl.out.rowNe (by have := HO.out; omega) _
       have HIn : Hid (Box (wk15.setRow gk12 ((accM i0 x.v.b).cells)) (bI) 29 ((st.is.map In.cs).flatten.toArray)) := HIn.out.rowNe (by have := HO.out; omega) _
       have HX : Hid (Box (wk15.setRow gk12 ((accM i0 x.v.b).cells)) (X) 87 (x.cells)) := HX.out.rowNe (by have := HO.out; omega) _
       have HMs : Hid (Box (wk15.setRow gk12 ((accM i0 x.v.b).cells)) (gk12) 52 ((accM i0 x.v.b).cells)) := HMs.out.setRow _
       have HN : Hid (Box (wk15.setRow gk12 ((accM i0 x.v.b).cells)) (gk14) 29 ((accI i0 x.v.b x.v.c).cells)) := HN.out.rowNe (by have := HO.out; omega) _
       have HK : Hid (Kept (PSet p bI (some ⟨lg, 0, none⟩) xs) w (wk15.setRow gk12 ((accM i0 x.v.b).cells))) := HK.out.newRowS (by have := HO.out; omega) _
       generalize wk15.setRow gk12 ((accM i0 x.v.b).cells) = wk16 at HPl HIn HX HMs HN HK HLT hH HPM ⊢
       refine any_take (i := 20) (oi := { dst := some 10, op := Op.assign (Operand.tmp 36), type := 4, pos := "outright.go:152", after := #[{ on := 15, ground := Ground.data }, { on := 19, ground := Ground.chain }, { on := 0, ground := Ground.phase }, { on := 1, ground := Ground.phase }, { on := 2, ground := Ground.phase }, { on := 3, ground := Ground.phase }, { on := 4, ground := Ground.phase }, { on := 5, ground := Ground.phase }, { on := 6, ground := Ground.phase }, { on := 7, ground := Ground.phase }, { on := 8, ground := Ground.phase }, { on := 9, ground := Ground.phase }, { on := 10, ground := Ground.phase }, { on := 11, ground := Ground.phase }, { on := 12, ground := Ground.phase }, { on := 13, ground := Ground.phase }, { on := 14, ground := Ground.phase }, { on := 15, ground := Ground.phase }, { on := 16, ground := Ground.phase }, { on := 17, ground := Ground.phase }, { on := 18, ground := Ground.phase }, { on := 19, ground := Ground.phase }], guard := none }) (v := .bool (accB i0 x.v.b x.v.c)) rfl (by kernel_rfl) (by kernel_rfl) (by kernel_rfl) (fun _ _ _ h => h) (by kernel_rfl) (fun _ _ => by kernel_rfl) hH ?_
       try simp only [Act.put, sA, s0, s1]
       refine wpAnyH_done (by kernel_rfl) ?_ _
       try simp only [Act.put, sA, s0, s1]
       exact hh _ gk14 gk12 ⟨HK.out, HPM.out, HPl.out, HX.out, HN.out, HMs.out, by have := HO.out; omega, Nat.lt_of_le_of_lt (by have := HO.out; omega) HLT.out⟩
     ·skip
      clear hi
      refine step_run (i := 16) (o := { dst := some 8, op := Op.alloc 29, type := 0, pos := "outright.go:152", after := #[], guard := none }) rfl (by kernel_rfl) (exec_alloc 29 rfl _ zero29) ⟨HPl.out.alloc _, HIn.out.alloc _, HX.out.alloc _⟩ (fun hH => ?_)
      have HN : Hid (Box (wk3.alloc (.cells (iZ.cells) 29)) wk3.heap.size 29 (iZ.cells)) := Box.new _ _ _
      have HPl : Hid (Box (wk3.alloc (.cells (iZ.cells) 29)) (p) 69 ((playC st.f bI st.is.length (some ⟨lg, 0, none⟩) xs.length lc st.dec).toArray)) := HPl.out.alloc _
      have HIn : Hid (Box (wk3.alloc (.cells (iZ.cells) 29)) (bI) 29 ((st.is.map In.cs).flatten.toArray)) := HIn.out.alloc _
      have HX : Hid (Box (wk3.alloc (.cells (iZ.cells) 29)) (X) 87 (x.cells)) := HX.out.alloc _
      have hsz := HK.out.size
      have HK : Hid (Kept (PSet p bI (some ⟨lg, 0, none⟩) xs) w (wk3.alloc (.cells (iZ.cells) 29))) := HK.out.alloc _
      have HPM : Hid (PM w0 (wk3.alloc (.cells (iZ.cells) 29)) p bI (some ⟨lg, 0, none⟩) lc (st) (xs) (none)) := HPM.out.no ((Kept.refl No _).alloc _)
      have HO : Hid (p < w.heap.size ∧ bI < w.heap.size ∧ lg < w.heap.size ∧ p ≠ bI ∧ p ≠ lg ∧ bI ≠ lg ∧ w.heap.size ≤ X ∧ X < wk3.heap.size ∧ w.heap.size ≤ wk3.heap.size) := by
        have h := HO.out
        have l := HLT.out
        show _ ∧ _
        omega
      clear hsz
      have HLT : Hid (wk3.heap.size < (wk3.alloc (.cells (iZ.cells) 29)).heap.size) := by show _ < _; simp
      generalize wk3.alloc (.cells (iZ.cells) 29) = wk17 at HPl HIn HX HN HK HLT hH HPM ⊢
      generalize wk3.heap.size = gk18 at HN HO HLT ⊢
      try simp only [Act.put, sA, s0, s1]
      refine any_pick (rs := [11, 17]) (by kernel_rfl) (by simp) ?_
      intro i hi
      rcases pick2 hi with rfl | rfl
      ·skip
       clear hi
       refine step_call (i := 11) (o := { dst := some 33, op := Op.call { callee := Callee.value (Operand.func 13), args := #[Operand.tmp 28, Operand.tmp 30, Operand.tmp 32], argTypes := #[29, 23, 27] }, type := 53, pos := "outright.go:152", after := #[{ on := 6, ground := Ground.data }, { on := 8, ground := Ground.data }, { on := 10, ground := Ground.data }], guard := none }) rfl (by kernel_rfl) 13 #[.agg i0.cells, .agg #[.int .i64 x.v.b.n, .int .i64 x.v.b.c], .agg x.v.c.cells] (by kernel_rfl) _ (acc_any i0 x.v.b x.v.c _) ?_
       rintro e wk19 ⟨rfl, hk⟩
       have HPl : Hid (Box wk19 (p) 69 ((playC st.f bI st.is.length (some ⟨lg, 0, none⟩) xs.length lc st.dec).toArray)) := HPl.out.kept hk (fun e => e)
       have HIn : Hid (Box wk19 (bI) 29 ((st.is.map In.cs).flatten.toArray)) := HIn.out.kept hk (fun e => e)
       have HX : Hid (Box wk19 (X) 87 (x.cells)) := HX.out.kept hk (fun e => e)
       have HN : Hid (Box wk19 (gk18) 29 (iZ.cells)) := HN.out.kept hk (fun e => e)
       have HK : Hid (Kept (PSet p bI (some ⟨lg, 0, none⟩) xs) w wk19) := HK.out.thenNo hk
       have HPM : Hid (PM w0 (wk19) p bI (some ⟨lg, 0, none⟩) lc (st) (xs) (none)) := HPM.out.no hk
       have HLT : Hid (gk18 < wk19.heap.size) := Nat.lt_of_lt_of_le HLT.out hk.size
       clear hk
       refine ⟨.tuple #[.agg ((accI i0 x.v.b x.v.c).cells), .agg ((accM i0 x.v.b).cells), .bool (accB i0 x.v.b x.v.c)], rfl, ⟨HPl.out, HIn.out, HX.out⟩, fun hH => ?_⟩
       try simp only [Act.put, sA, s0, s1]
       refine any_take (i := 12) (oi := { dst := some 21, op := Op.move (Operand.tmp 33), type := 53, pos := "outright.go:152", after := #[{ on := 11, ground := Ground.data }], guard := none }) (v := .tuple #[.agg ((accI i0 x.v.b x.v.c).cells), .agg ((accM i0 x.v.b).cells), .bool (accB i0 x.v.b x.v.c)]) rfl (by kernel_rfl) (by kernel_rfl) (by kernel_rfl) (fun _ _ _ h => h) (by kernel_rfl) (fun _ _ => by kernel_rfl) hH ?_
       try simp only [Act.put, sA, s0, s1]
       refine any_take (i := 13) (oi := { dst := some 34, op := Op.extract (Operand.tmp 21) 0, type := 29, pos := "outright.go:152", after := #[{ on := 12, ground := Ground.data }], guard := none }) (v := .agg ((accI i0 x.v.b x.v.c).cells)) rfl (by kernel_rfl) (by kernel_rfl) (by kernel_rfl) (fun _ _ _ h => h) (by kernel_rfl) (fun _ _ => by kernel_rfl) hH ?_
       try simp only [Act.put, sA, s0, s1]
       refine any_take (i := 14) (oi := { dst := some 35, op := Op.extract (Operand.tmp 21) 1, type := 52, pos := "outright.go:152", after := #[{ on := 12, ground := Ground.data }, { on := 18, ground := Ground.gcOnly Departure.lateStores }], guard := none }) (v := .agg ((accM i0 x.v.b).cells)) rfl (by kernel_rfl) (by kernel_rfl) (by kernel_rfl) (fun _ _ _ h => h) (by kernel_rfl) (fun _ _ => by kernel_rfl) hH ?_
       try simp only [Act.put, sA, s0, s1]
       refine any_take (i := 15) (oi := { dst := some 36, op := Op.extract (Operand.tmp 21) 2, type := 4, pos := "outright.go:152", after := #[{ on := 12, ground := Ground.data }, { on := 19, ground := Ground.gcOnly Departure.lateStores }], guard := none }) (v := .bool (accB i0 x.v.b x.v.c)) rfl (by kernel_rfl) (by kernel_rfl) (by kernel_rfl) (fun _ _ _ h => h) (by kernel_rfl) (fun _ _ => by kernel_rfl) hH ?_
       try simp only [Act.put, sA, s0, s1]
       refine any_step (i := 17) (o := { dst := some 9, op := Op.alloc 52, type := 0, pos := "outright.go:152", after := #[], guard := none }) rfl (by kernel_rfl) (by kernel_rfl) (exec_alloc 52 rfl _ zero52) ⟨HPl.out.alloc _, HIn.out.alloc _, HX.out.alloc _⟩ (fun hH => ?_)
       have HMs : Hid (Box (wk19.alloc (.cells (mZ.cells) 52)) wk19.heap.size 52 (mZ.cells)) := Box.new _ _ _
       have HPl : Hid (Box (wk19.alloc (.cells (mZ.cells) 52)) (p) 69 ((playC st.f bI st.is.length (some ⟨lg, 0, none⟩) xs.length lc st.dec).toArray)) := HPl.out.alloc _
       have HIn : Hid (Box (wk19.alloc (.cells (mZ.cells) 52)) (bI) 29 ((st.is.map In.cs).flatten.toArray)) := HIn.out.alloc _
       have HX : Hid (Box (wk19.alloc (.cells (mZ.cells) 52)) (X) 87 (x.cells)) := HX.out.alloc _
       have HN : Hid (Box (wk19.alloc (.cells (mZ.cells) 52)) (gk18) 29 (iZ.cells)) := HN.out.alloc _
       have hsz := HK.out.size
       have HK : Hid (Kept (PSet p bI (some ⟨lg, 0, none⟩) xs) w (wk19.alloc (.cells (mZ.cells) 52))) := HK.out.alloc _
       have HPM : Hid (PM w0 (wk19.alloc (.cells (mZ.cells) 52)) p bI (some ⟨lg, 0, none⟩) lc (st) (xs) (none)) := HPM.out.no ((Kept.refl No _).alloc _)
       have HO : Hid (p < w.heap.size ∧ bI < w.heap.size ∧ lg < w.heap.size ∧ p ≠ bI ∧ p ≠ lg ∧ bI ≠ lg ∧ w.heap.size ≤ X ∧ w.heap.size ≤ gk18 ∧ X < gk18 ∧ gk18 < wk19.heap.size ∧ w.heap.size ≤ wk19.heap.size) := by
         have h := HO.out
         have l := HLT.out
         show _ ∧ _
         omega
       clear hsz
       have HLT : Hid (wk19.heap.size < (wk19.alloc (.cells (mZ.cells) 52)).heap.size) := by show _ < _; simp
       generalize wk19.alloc (.cells (mZ.cells) 52) = wk20 at HPl HIn HX HN HMs HK HLT hH HPM ⊢
       generalize wk19.heap.size = gk21 at HMs HO HLT ⊢
       try simp only [Act.put, sA, s0, s1]
       refine any_store (i := 18) (o := { dst := none, op := Op.store 29 (Operand.tmp 8) (Operand.tmp 34), type := 0, pos := "outright.go:152", after := #[{ on := 16, ground := Ground.data }, { on := 13, ground := Ground.data }, { on := 11, ground := Ground.chain }, { on := 0, ground := Ground.phase }, { on := 1, ground := Ground.phase }, { on := 2, ground := Ground.phase }, { on := 3, ground := Ground.phase }, { on := 4, ground := Ground.phase }, { on := 5, ground := Ground.phase }, { on := 6, ground := Ground.phase }, { on := 7, ground := Ground.phase }, { on := 8, ground := Ground.phase }, { on := 9, ground := Ground.phase }, { on := 10, ground := Ground.phase }, { on := 11, ground := Ground.phase }, { on := 12, ground := Ground.phase }, { on := 13, ground := Ground.phase }, { on := 14, ground := Ground.textOnly Departure.lateStores }, { on := 15, ground := Ground.textOnly Departure.lateStores }, { on := 16, ground := Ground.phase }, { on := 17, ground := Ground.phase }], guard := none }) rfl (by kernel_rfl) (by kernel_rfl) 29 _ _ rfl ⟨gk18, 0, none⟩ (.agg ((accI i0 x.v.b x.v.c).cells)) (by kernel_rfl) (by kernel_rfl) (store_I HN.out rfl) (⟨hH.1.rowNe (by have := HO.out; omega) _, hH.2.1.rowNe (by have := HO.out; omega) _, hH.2.2.rowNe (by have := HO.out; omega) _⟩) (fun hH => ?_)
       have HLT : Hid (gk21 < (wk20.setRow gk18 ((accI i0 x.v.b x.v.c).cells)).heap.size) := by show _ < _; rw [setRow_size]; exact HLT.out
       have HPM : Hid (PM w0 (wk20.setRow gk18 ((accI i0 x.v.b x.v.c).cells)) p bI (some ⟨lg, 0, none⟩) lc (st) (xs) (none)) := HPM.out.far HPB.out (Kept.setRow _ _ _) (fun q e => by have e : q = gk18 := e; have := HO.out; omega)
       have HPl : Hid (Box (wk20.setRow gk18 ((accI i0 x.v.b x.v.c).cells)) (p) 69 ((playC st.f bI st.is.length (some ⟨lg, 0, none⟩) xs.length lc st.dec).toArray)) := HPl.out.rowNe (by have := HO.out; omega) _
       have HIn : Hid (Box (wk20.setRow gk18 ((accI i0 x.v.b x.v.c).cells)) (bI) 29 ((st.is.map In.cs).flatten.toArray)) := HIn.out.rowNe (by have := HO.out; omega) _
       have HX : Hid (Box (wk20.setRow gk18 ((accI i0 x.v.b x.v.c).cells)) (X) 87 (x.cells)) := HX.out.rowNe (by have := HO.out; omega) _
       have HN : Hid (Box (wk20.setRow gk18 ((accI i0 x.v.b x.v.c).cells)) (gk18) 29 ((accI i0 x.v.b x.v.c).cells)) := HN.out.setRow _
       have HMs : Hid (Box (wk20.setRow gk18 ((accI i0 x.v.b x.v.c).cells)) (gk21) 52 (mZ.cells)) := HMs.out.rowNe (by have := HO.out; omega) _
       have HK : Hid (Kept (PSet p bI (some ⟨lg, 0, none⟩) xs) w (wk20.setRow gk18 ((accI i0 x.v.b x.v.c).cells))) := HK.out.newRowS (by have := HO.out; omega) _
       generalize wk20.setRow gk18 ((accI i0 x.v.b x.v.c).cells) = wk22 at HPl HIn HX HN HMs HK HLT hH HPM ⊢
       refine any_store (i := 19) (o := { dst := none, op := Op.store 52 (Operand.tmp 9) (Operand.tmp 35), type := 0, pos := "outright.go:152", after := #[{ on := 17, ground := Ground.data }, { on := 14, ground := Ground.data }, { on := 18, ground := Ground.chain }, { on := 0, ground := Ground.phase }, { on := 1, ground := Ground.phase }, { on := 2, ground := Ground.phase }, { on := 3, ground := Ground.phase }, { on := 4, ground := Ground.phase }, { on := 5, ground := Ground.phase }, { on := 6, ground := Ground.phase }, { on := 7, ground := Ground.phase }, { on := 8, ground := Ground.phase }, { on := 9, ground := Ground.phase }, { on := 10, ground := Ground.phase }, { on := 11, ground := Ground.phase }, { on := 12, ground := Ground.phase }, { on := 13, ground := Ground.phase }, { on := 14, ground := Ground.phase }, { on := 15, ground := Ground.textOnly Departure.lateStores }, { on := 16, ground := Ground.phase }, { on := 17, ground := Ground.phase }, { on := 18, ground := Ground.phase }], guard := none }) rfl (by kernel_rfl) (by kernel_rfl) 52 _ _ rfl ⟨gk21, 0, none⟩ (.agg ((accM i0 x.v.b).cells)) (by kernel_rfl) (by kernel_rfl) (store_M HMs.out rfl) (⟨hH.1.rowNe (by have := HO.out; omega) _, hH.2.1.rowNe (by have := HO.out; omega) _, hH.2.2.rowNe (by have := HO.out; omega) _⟩) (fun hH => ?_)
       have HLT : Hid (gk21 < (wk22.setRow gk21 ((accM i0 x.v.b).cells)).heap.size) := by show _ < _; rw [setRow_size]; exact HLT.out
       have HPM : Hid (PM w0 (wk22.setRow gk21 ((accM i0 x.v.b).cells)) p bI (some ⟨lg, 0, none⟩) lc (st) (xs) (none)) := HPM.out.far HPB.out (Kept.setRow _ _ _) (fun q e => by have e : q = gk21 := e; have := HO.out; omega)
       have HPl : Hid (Box (wk22.setRow gk21 ((accM i0 x.v.b).cells)) (p) 69 ((playC st.f bI st.is.length (some ⟨lg, 0, none⟩) xs.length lc st.dec).toArray)) := HPl.out.rowNe (by have := HO.out; omega) _
       have HIn : Hid (Box (wk22.setRow gk21 ((accM i0 x.v.b).cells)) (bI) 29 ((st.is.map In.cs).flatten.toArray)) := HIn.out.rowNe (by have := HO.out; omega) _
       have HX : Hid (Box (wk22.setRow gk21 ((accM i0 x.v.b).cells)) (X) 87 (x.cells)) := HX.out.rowNe (by have := HO.out; omega) _
       have HN : Hid (Box (wk22.setRow gk21 ((accM i0 x.v.b).cells)) (gk18) 29 ((accI i0 x.v.b x.v.c).cells)) := HN.out.rowNe (by have := HO.out; omega) _
       have HMs : Hid (Box (wk22.setRow gk21 ((accM i0 x.v.b).cells)) (gk21) 52 ((accM i0 x.v.b).cells)) := HMs.out.setRow _
       have HK : Hid (Kept (PSet p bI (some ⟨lg, 0, none⟩) xs) w (wk22.setRow gk21 ((accM i0 x.v.b).cells))) := HK.out.newRowS (by have := HO.out; omega) _
       generalize wk22.setRow gk21 ((accM i0 x.v.b).cells) = wk23 at HPl HIn HX HN HMs HK HLT hH HPM ⊢
       refine any_take (i := 20) (oi := { dst := some 10, op := Op.assign (Operand.tmp 36), type := 4, pos := "outright.go:152", after := #[{ on := 15, ground := Ground.data }, { on := 19, ground := Ground.chain }, { on := 0, ground := Ground.phase }, { on := 1, ground := Ground.phase }, { on := 2, ground := Ground.phase }, { on := 3, ground := Ground.phase }, { on := 4, ground := Ground.phase }, { on := 5, ground := Ground.phase }, { on := 6, ground := Ground.phase }, { on := 7, ground := Ground.phase }, { on := 8, ground := Ground.phase }, { on := 9, ground := Ground.phase }, { on := 10, ground := Ground.phase }, { on := 11, ground := Ground.phase }, { on := 12, ground := Ground.phase }, { on := 13, ground := Ground.phase }, { on := 14, ground := Ground.phase }, { on := 15, ground := Ground.phase }, { on := 16, ground := Ground.phase }, { on := 17, ground := Ground.phase }, { on := 18, ground := Ground.phase }, { on := 19, ground := Ground.phase }], guard := none }) (v := .bool (accB i0 x.v.b x.v.c)) rfl (by kernel_rfl) (by kernel_rfl) (by kernel_rfl) (fun _ _ _ h => h) (by kernel_rfl) (fun _ _ => by kernel_rfl) hH ?_
       try simp only [Act.put, sA, s0, s1]
       refine wpAnyH_done (by kernel_rfl) ?_ _
       try simp only [Act.put, sA, s0, s1]
       exact hh _ gk18 gk21 ⟨HK.out, HPM.out, HPl.out, HX.out, HN.out, HMs.out, by have := HO.out; omega, Nat.lt_of_le_of_lt (by have := HO.out; omega) HLT.out⟩
      ·skip
       clear hi
       refine step_run (i := 17) (o := { dst := some 9, op := Op.alloc 52, type := 0, pos := "outright.go:152", after := #[], guard := none }) rfl (by kernel_rfl) (exec_alloc 52 rfl _ zero52) ⟨HPl.out.alloc _, HIn.out.alloc _, HX.out.alloc _⟩ (fun hH => ?_)
       have HMs : Hid (Box (wk17.alloc (.cells (mZ.cells) 52)) wk17.heap.size 52 (mZ.cells)) := Box.new _ _ _
       have HPl : Hid (Box (wk17.alloc (.cells (mZ.cells) 52)) (p) 69 ((playC st.f bI st.is.length (some ⟨lg, 0, none⟩) xs.length lc st.dec).toArray)) := HPl.out.alloc _
       have HIn : Hid (Box (wk17.alloc (.cells (mZ.cells) 52)) (bI) 29 ((st.is.map In.cs).flatten.toArray)) := HIn.out.alloc _
       have HX : Hid (Box (wk17.alloc (.cells (mZ.cells) 52)) (X) 87 (x.cells)) := HX.out.alloc _
       have HN : Hid (Box (wk17.alloc (.cells (mZ.cells) 52)) (gk18) 29 (iZ.cells)) := HN.out.alloc _
       have hsz := HK.out.size
       have HK : Hid (Kept (PSet p bI (some ⟨lg, 0, none⟩) xs) w (wk17.alloc (.cells (mZ.cells) 52))) := HK.out.alloc _
       have HPM : Hid (PM w0 (wk17.alloc (.cells (mZ.cells) 52)) p bI (some ⟨lg, 0, none⟩) lc (st) (xs) (none)) := HPM.out.no ((Kept.refl No _).alloc _)
       have HO : Hid (p < w.heap.size ∧ bI < w.heap.size ∧ lg < w.heap.size ∧ p ≠ bI ∧ p ≠ lg ∧ bI ≠ lg ∧ w.heap.size ≤ X ∧ w.heap.size ≤ gk18 ∧ X < gk18 ∧ gk18 < wk17.heap.size ∧ w.heap.size ≤ wk17.heap.size) := by
         have h := HO.out
         have l := HLT.out
         show _ ∧ _
         omega
       clear hsz
       have HLT : Hid (wk17.heap.size < (wk17.alloc (.cells (mZ.cells) 52)).heap.size) := by show _ < _; simp
       generalize wk17.alloc (.cells (mZ.cells) 52) = wk24 at HPl HIn HX HN HMs HK HLT hH HPM ⊢
       generalize wk17.heap.size = gk25 at HMs HO HLT ⊢
       try simp only [Act.put, sA, s0, s1]
       refine any_call (i := 11) (o := { dst := some 33, op := Op.call { callee := Callee.value (Operand.func 13), args := #[Operand.tmp 28, Operand.tmp 30, Operand.tmp 32], argTypes := #[29, 23, 27] }, type := 53, pos := "outright.go:152", after := #[{ on := 6, ground := Ground.data }, { on := 8, ground := Ground.data }, { on := 10, ground := Ground.data }], guard := none }) rfl (by kernel_rfl) (by kernel_rfl) 13 #[.agg i0.cells, .agg #[.int .i64 x.v.b.n, .int .i64 x.v.b.c], .agg x.v.c.cells] (by kernel_rfl) _ (acc_any i0 x.v.b x.v.c _) ?_
       rintro e wk26 ⟨rfl, hk⟩
       have HPl : Hid (Box wk26 (p) 69 ((playC st.f bI st.is.length (some ⟨lg, 0, none⟩) xs.length lc st.dec).toArray)) := HPl.out.kept hk (fun e => e)
       have HIn : Hid (Box wk26 (bI) 29 ((st.is.map In.cs).flatten.toArray)) := HIn.out.kept hk (fun e => e)
       have HX : Hid (Box wk26 (X) 87 (x.cells)) := HX.out.kept hk (fun e => e)
       have HN : Hid (Box wk26 (gk18) 29 (iZ.cells)) := HN.out.kept hk (fun e => e)
       have HMs : Hid (Box wk26 (gk25) 52 (mZ.cells)) := HMs.out.kept hk (fun e => e)
       have HK : Hid (Kept (PSet p bI (some ⟨lg, 0, none⟩) xs) w wk26) := HK.out.thenNo hk
       have HPM : Hid (PM w0 (wk26) p bI (some ⟨lg, 0, none⟩) lc (st) (xs) (none)) := HPM.out.no hk
       have HLT : Hid (gk25 < wk26.heap.size) := Nat.lt_of_lt_of_le HLT.out hk.size
       clear hk
       refine ⟨.tuple #[.agg ((accI i0 x.v.b x.v.c).cells), .agg ((accM i0 x.v.b).cells), .bool (accB i0 x.v.b x.v.c)], rfl, ⟨HPl.out, HIn.out, HX.out⟩, fun hH => ?_⟩
       try simp only [Act.put, sA, s0, s1]
       refine any_take (i := 12) (oi := { dst := some 21, op := Op.move (Operand.tmp 33), type := 53, pos := "outright.go:152", after := #[{ on := 11, ground := Ground.data }], guard := none }) (v := .tuple #[.agg ((accI i0 x.v.b x.v.c).cells), .agg ((accM i0 x.v.b).cells), .bool (accB i0 x.v.b x.v.c)]) rfl (by kernel_rfl) (by kernel_rfl) (by kernel_rfl) (fun _ _ _ h => h) (by kernel_rfl) (fun _ _ => by kernel_rfl) hH ?_
       try simp only [Act.put, sA, s0, s1]
       refine any_take (i := 13) (oi := { dst := some 34, op := Op.extract (Operand.tmp 21) 0, type := 29, pos := "outright.go:152", after := #[{ on := 12, ground := Ground.data }], guard := none }) (v := .agg ((accI i0 x.v.b x.v.c).cells)) rfl (by kernel_rfl) (by kernel_rfl) (by kernel_rfl) (fun _ _ _ h => h) (by kernel_rfl) (fun _ _ => by kernel_rfl) hH ?_
       try simp only [Act.put, sA, s0, s1]
       refine any_take (i := 14) (oi := { dst := some 35, op := Op.extract (Operand.tmp 21) 1, type := 52, pos := "outright.go:152", after := #[{ on := 12, ground := Ground.data }, { on := 18, ground := Ground.gcOnly Departure.lateStores }], guard := none }) (v := .agg ((accM i0 x.v.b).cells)) rfl (by kernel_rfl) (by kernel_rfl) (by kernel_rfl) (fun _ _ _ h => h) (by kernel_rfl) (fun _ _ => by kernel_rfl) hH ?_
       try simp only [Act.put, sA, s0, s1]
       refine any_take (i := 15) (oi := { dst := some 36, op := Op.extract (Operand.tmp 21) 2, type := 4, pos := "outright.go:152", after := #[{ on := 12, ground := Ground.data }, { on := 19, ground := Ground.gcOnly Departure.lateStores }], guard := none }) (v := .bool (accB i0 x.v.b x.v.c)) rfl (by kernel_rfl) (by kernel_rfl) (by kernel_rfl) (fun _ _ _ h => h) (by kernel_rfl) (fun _ _ => by kernel_rfl) hH ?_
       try simp only [Act.put, sA, s0, s1]
       refine any_store (i := 18) (o := { dst := none, op := Op.store 29 (Operand.tmp 8) (Operand.tmp 34), type := 0, pos := "outright.go:152", after := #[{ on := 16, ground := Ground.data }, { on := 13, ground := Ground.data }, { on := 11, ground := Ground.chain }, { on := 0, ground := Ground.phase }, { on := 1, ground := Ground.phase }, { on := 2, ground := Ground.phase }, { on := 3, ground := Ground.phase }, { on := 4, ground := Ground.phase }, { on := 5, ground := Ground.phase }, { on := 6, ground := Ground.phase }, { on := 7, ground := Ground.phase }, { on := 8, ground := Ground.phase }, { on := 9, ground := Ground.phase }, { on := 10, ground := Ground.phase }, { on := 11, ground := Ground.phase }, { on := 12, ground := Ground.phase }, { on := 13, ground := Ground.phase }, { on := 14, ground := Ground.textOnly Departure.lateStores }, { on := 15, ground := Ground.textOnly Departure.lateStores }, { on := 16, ground := Ground.phase }, { on := 17, ground := Ground.phase }], guard := none }) rfl (by kernel_rfl) (by kernel_rfl) 29 _ _ rfl ⟨gk18, 0, none⟩ (.agg ((accI i0 x.v.b x.v.c).cells)) (by kernel_rfl) (by kernel_rfl) (store_I HN.out rfl) (⟨hH.1.rowNe (by have := HO.out; omega) _, hH.2.1.rowNe (by have := HO.out; omega) _, hH.2.2.rowNe (by have := HO.out; omega) _⟩) (fun hH => ?_)
       have HLT : Hid (gk25 < (wk26.setRow gk18 ((accI i0 x.v.b x.v.c).cells)).heap.size) := by show _ < _; rw [setRow_size]; exact HLT.out
       have HPM : Hid (PM w0 (wk26.setRow gk18 ((accI i0 x.v.b x.v.c).cells)) p bI (some ⟨lg, 0, none⟩) lc (st) (xs) (none)) := HPM.out.far HPB.out (Kept.setRow _ _ _) (fun q e => by have e : q = gk18 := e; have := HO.out; omega)
       have HPl : Hid (Box (wk26.setRow gk18 ((accI i0 x.v.b x.v.c).cells)) (p) 69 ((playC st.f bI st.is.length (some ⟨lg, 0, none⟩) xs.length lc st.dec).toArray)) := HPl.out.rowNe (by have := HO.out; omega) _
       have HIn : Hid (Box (wk26.setRow gk18 ((accI i0 x.v.b x.v.c).cells)) (bI) 29 ((st.is.map In.cs).flatten.toArray)) := HIn.out.rowNe (by have := HO.out; omega) _
       have HX : Hid (Box (wk26.setRow gk18 ((accI i0 x.v.b x.v.c).cells)) (X) 87 (x.cells)) := HX.out.rowNe (by have := HO.out; omega) _
       have HN : Hid (Box (wk26.setRow gk18 ((accI i0 x.v.b x.v.c).cells)) (gk18) 29 ((accI i0 x.v.b x.v.c).cells)) := HN.out.setRow _
       have HMs : Hid (Box (wk26.setRow gk18 ((accI i0 x.v.b x.v.c).cells)) (gk25) 52 (mZ.cells)) := HMs.out.rowNe (by have := HO.out; omega) _
       have HK : Hid (Kept (PSet p bI (some ⟨lg, 0, none⟩) xs) w (wk26.setRow gk18 ((accI i0 x.v.b x.v.c).cells))) := HK.out.newRowS (by have := HO.out; omega) _
       generalize wk26.setRow gk18 ((accI i0 x.v.b x.v.c).cells) = wk27 at HPl HIn HX HN HMs HK HLT hH HPM ⊢
       refine any_store (i := 19) (o := { dst := none, op := Op.store 52 (Operand.tmp 9) (Operand.tmp 35), type := 0, pos := "outright.go:152", after := #[{ on := 17, ground := Ground.data }, { on := 14, ground := Ground.data }, { on := 18, ground := Ground.chain }, { on := 0, ground := Ground.phase }, { on := 1, ground := Ground.phase }, { on := 2, ground := Ground.phase }, { on := 3, ground := Ground.phase }, { on := 4, ground := Ground.phase }, { on := 5, ground := Ground.phase }, { on := 6, ground := Ground.phase }, { on := 7, ground := Ground.phase }, { on := 8, ground := Ground.phase }, { on := 9, ground := Ground.phase }, { on := 10, ground := Ground.phase }, { on := 11, ground := Ground.phase }, { on := 12, ground := Ground.phase }, { on := 13, ground := Ground.phase }, { on := 14, ground := Ground.phase }, { on := 15, ground := Ground.textOnly Departure.lateStores }, { on := 16, ground := Ground.phase }, { on := 17, ground := Ground.phase }, { on := 18, ground := Ground.phase }], guard := none }) rfl (by kernel_rfl) (by kernel_rfl) 52 _ _ rfl ⟨gk25, 0, none⟩ (.agg ((accM i0 x.v.b).cells)) (by kernel_rfl) (by kernel_rfl) (store_M HMs.out rfl) (⟨hH.1.rowNe (by have := HO.out; omega) _, hH.2.1.rowNe (by have := HO.out; omega) _, hH.2.2.rowNe (by have := HO.out; omega) _⟩) (fun hH => ?_)
       have HLT : Hid (gk25 < (wk27.setRow gk25 ((accM i0 x.v.b).cells)).heap.size) := by show _ < _; rw [setRow_size]; exact HLT.out
       have HPM : Hid (PM w0 (wk27.setRow gk25 ((accM i0 x.v.b).cells)) p bI (some ⟨lg, 0, none⟩) lc (st) (xs) (none)) := HPM.out.far HPB.out (Kept.setRow _ _ _) (fun q e => by have e : q = gk25 := e; have := HO.out; omega)
       have HPl : Hid (Box (wk27.setRow gk25 ((accM i0 x.v.b).cells)) (p) 69 ((playC st.f bI st.is.length (some ⟨lg, 0, none⟩) xs.length lc st.dec).toArray)) := HPl.out.rowNe (by have := HO.out; omega) _
       have HIn : Hid (Box (wk27.setRow gk25 ((accM i0 x.v.b).cells)) (bI) 29 ((st.is.map In.cs).flatten.toArray)) := HIn.out.rowNe (by have := HO.out; omega) _
       have HX : Hid (Box (wk27.setRow gk25 ((accM i0 x.v.b).cells)) (X) 87 (x.cells)) := HX.out.rowNe (by have := HO.out; omega) _
       have HN : Hid (Box (wk27.setRow gk25 ((accM i0 x.v.b).cells)) (gk18) 29 ((accI i0 x.v.b x.v.c).cells)) := HN.out.rowNe (by have := HO.out; omega) _
       have HMs : Hid (Box (wk27.setRow gk25 ((accM i0 x.v.b).cells)) (gk25) 52 ((accM i0 x.v.b).cells)) := HMs.out.setRow _
       have HK : Hid (Kept (PSet p bI (some ⟨lg, 0, none⟩) xs) w (wk27.setRow gk25 ((accM i0 x.v.b).cells))) := HK.out.newRowS (by have := HO.out; omega) _
       generalize wk27.setRow gk25 ((accM i0 x.v.b).cells) = wk28 at HPl HIn HX HN HMs HK HLT hH HPM ⊢
       refine any_take (i := 20) (oi := { dst := some 10, op := Op.assign (Operand.tmp 36), type := 4, pos := "outright.go:152", after := #[{ on := 15, ground := Ground.data }, { on := 19, ground := Ground.chain }, { on := 0, ground := Ground.phase }, { on := 1, ground := Ground.phase }, { on := 2, ground := Ground.phase }, { on := 3, ground := Ground.phase }, { on := 4, ground := Ground.phase }, { on := 5, ground := Ground.phase }, { on := 6, ground := Ground.phase }, { on := 7, ground := Ground.phase }, { on := 8, ground := Ground.phase }, { on := 9, ground := Ground.phase }, { on := 10, ground := Ground.phase }, { on := 11, ground := Ground.phase }, { on := 12, ground := Ground.phase }, { on := 13, ground := Ground.phase }, { on := 14, ground := Ground.phase }, { on := 15, ground := Ground.phase }, { on := 16, ground := Ground.phase }, { on := 17, ground := Ground.phase }, { on := 18, ground := Ground.phase }, { on := 19, ground := Ground.phase }], guard := none }) (v := .bool (accB i0 x.v.b x.v.c)) rfl (by kernel_rfl) (by kernel_rfl) (by kernel_rfl) (fun _ _ _ h => h) (by kernel_rfl) (fun _ _ => by kernel_rfl) hH ?_
       try simp only [Act.put, sA, s0, s1]
       refine wpAnyH_done (by kernel_rfl) ?_ _
       try simp only [Act.put, sA, s0, s1]
       exact hh _ gk18 gk25 ⟨HK.out, HPM.out, HPl.out, HX.out, HN.out, HMs.out, by have := HO.out; omega, Nat.lt_of_le_of_lt (by have := HO.out; omega) HLT.out⟩
     ·skip
      clear hi
      refine step_run (i := 17) (o := { dst := some 9, op := Op.alloc 52, type := 0, pos := "outright.go:152", after := #[], guard := none }) rfl (by kernel_rfl) (exec_alloc 52 rfl _ zero52) ⟨HPl.out.alloc _, HIn.out.alloc _, HX.out.alloc _⟩ (fun hH => ?_)
      have HMs : Hid (Box (wk3.alloc (.cells (mZ.cells) 52)) wk3.heap.size 52 (mZ.cells)) := Box.new _ _ _
      have HPl : Hid (Box (wk3.alloc (.cells (mZ.cells) 52)) (p) 69 ((playC st.f bI st.is.length (some ⟨lg, 0, none⟩) xs.length lc st.dec).toArray)) := HPl.out.alloc _
      have HIn : Hid (Box (wk3.alloc (.cells (mZ.cells) 52)) (bI) 29 ((st.is.map In.cs).flatten.toArray)) := HIn.out.alloc _
      have HX : Hid (Box (wk3.alloc (.cells (mZ.cells) 52)) (X) 87 (x.cells)) := HX.out.alloc _
      have hsz := HK.out.size
      have HK : Hid (Kept (PSet p bI (some ⟨lg, 0, none⟩) xs) w (wk3.alloc (.cells (mZ.cells) 52))) := HK.out.alloc _
      have HPM : Hid (PM w0 (wk3.alloc (.cells (mZ.cells) 52)) p bI (some ⟨lg, 0, none⟩) lc (st) (xs) (none)) := HPM.out.no ((Kept.refl No _).alloc _)
      have HO : Hid (p < w.heap.size ∧ bI < w.heap.size ∧ lg < w.heap.size ∧ p ≠ bI ∧ p ≠ lg ∧ bI ≠ lg ∧ w.heap.size ≤ X ∧ X < wk3.heap.size ∧ w.heap.size ≤ wk3.heap.size) := by
        have h := HO.out
        have l := HLT.out
        show _ ∧ _
        omega
      clear hsz
      have HLT : Hid (wk3.heap.size < (wk3.alloc (.cells (mZ.cells) 52)).heap.size) := by show _ < _; simp
      generalize wk3.alloc (.cells (mZ.cells) 52) = wk29 at HPl HIn HX HMs HK HLT hH HPM ⊢
      generalize wk3.heap.size = gk30 at HMs HO HLT ⊢
      try simp only [Act.put, sA, s0, s1]
      refine any_pick (rs := [11, 16]) (by kernel_rfl) (by simp) ?_
      intro i hi
      rcases pick2 hi with rfl | rfl
      ·skip
       clear hi
       refine step_call (i := 11) (o := { dst := some 33, op := Op.call { callee := Callee.value (Operand.func 13), args := #[Operand.tmp 28, Operand.tmp 30, Operand.tmp 32], argTypes := #[29, 23, 27] }, type := 53, pos := "outright.go:152", after := #[{ on := 6, ground := Ground.data }, { on := 8, ground := Ground.data }, { on := 10, ground := Ground.data }], guard := none }) rfl (by kernel_rfl) 13 #[.agg i0.cells, .agg #[.int .i64 x.v.b.n, .int .i64 x.v.b.c], .agg x.v.c.cells] (by kernel_rfl) _ (acc_any i0 x.v.b x.v.c _) ?_
       rintro e wk31 ⟨rfl, hk⟩
       have HPl : Hid (Box wk31 (p) 69 ((playC st.f bI st.is.length (some ⟨lg, 0, none⟩) xs.length lc st.dec).toArray)) := HPl.out.kept hk (fun e => e)
       have HIn : Hid (Box wk31 (bI) 29 ((st.is.map In.cs).flatten.toArray)) := HIn.out.kept hk (fun e => e)
       have HX : Hid (Box wk31 (X) 87 (x.cells)) := HX.out.kept hk (fun e => e)
       have HMs : Hid (Box wk31 (gk30) 52 (mZ.cells)) := HMs.out.kept hk (fun e => e)
       have HK : Hid (Kept (PSet p bI (some ⟨lg, 0, none⟩) xs) w wk31) := HK.out.thenNo hk
       have HPM : Hid (PM w0 (wk31) p bI (some ⟨lg, 0, none⟩) lc (st) (xs) (none)) := HPM.out.no hk
       have HLT : Hid (gk30 < wk31.heap.size) := Nat.lt_of_lt_of_le HLT.out hk.size
       clear hk
       refine ⟨.tuple #[.agg ((accI i0 x.v.b x.v.c).cells), .agg ((accM i0 x.v.b).cells), .bool (accB i0 x.v.b x.v.c)], rfl, ⟨HPl.out, HIn.out, HX.out⟩, fun hH => ?_⟩
       try simp only [Act.put, sA, s0, s1]
       refine any_take (i := 12) (oi := { dst := some 21, op := Op.move (Operand.tmp 33), type := 53, pos := "outright.go:152", after := #[{ on := 11, ground := Ground.data }], guard := none }) (v := .tuple #[.agg ((accI i0 x.v.b x.v.c).cells), .agg ((accM i0 x.v.b).cells), .bool (accB i0 x.v.b x.v.c)]) rfl (by kernel_rfl) (by kernel_rfl) (by kernel_rfl) (fun _ _ _ h => h) (by kernel_rfl) (fun _ _ => by kernel_rfl) hH ?_
       try simp only [Act.put, sA, s0, s1]
       refine any_take (i := 13) (oi := { dst := some 34, op := Op.extract (Operand.tmp 21) 0, type := 29, pos := "outright.go:152", after := #[{ on := 12, ground := Ground.data }], guard := none }) (v := .agg ((accI i0 x.v.b x.v.c).cells)) rfl (by kernel_rfl) (by kernel_rfl) (by kernel_rfl) (fun _ _ _ h => h) (by kernel_rfl) (fun _ _ => by kernel_rfl) hH ?_
       try simp only [Act.put, sA, s0, s1]
       refine any_take (i := 14) (oi := { dst := some 35, op := Op.extract (Operand.tmp 21) 1, type := 52, pos := "outright.go:152", after := #[{ on := 12, ground := Ground.data }, { on := 18, ground := Ground.gcOnly Departure.lateStores }], guard := none }) (v := .agg ((accM i0 x.v.b).cells)) rfl (by kernel_rfl) (by kernel_rfl) (by kernel_rfl) (fun _ _ _ h => h) (by kernel_rfl) (fun _ _ => by kernel_rfl) hH ?_
       try simp only [Act.put, sA, s0, s1]
       refine any_take (i := 15) (oi := { dst := some 36, op := Op.extract (Operand.tmp 21) 2, type := 4, pos := "outright.go:152", after := #[{ on := 12, ground := Ground.data }, { on := 19, ground := Ground.gcOnly Departure.lateStores }], guard := none }) (v := .bool (accB i0 x.v.b x.v.c)) rfl (by kernel_rfl) (by kernel_rfl) (by kernel_rfl) (fun _ _ _ h => h) (by kernel_rfl) (fun _ _ => by kernel_rfl) hH ?_
       try simp only [Act.put, sA, s0, s1]
       refine any_step (i := 16) (o := { dst := some 8, op := Op.alloc 29, type := 0, pos := "outright.go:152", after := #[], guard := none }) rfl (by kernel_rfl) (by kernel_rfl) (exec_alloc 29 rfl _ zero29) ⟨HPl.out.alloc _, HIn.out.alloc _, HX.out.alloc _⟩ (fun hH => ?_)
       have HN : Hid (Box (wk31.alloc (.cells (iZ.cells) 29)) wk31.heap.size 29 (iZ.cells)) := Box.new _ _ _
       have HPl : Hid (Box (wk31.alloc (.cells (iZ.cells) 29)) (p) 69 ((playC st.f bI st.is.length (some ⟨lg, 0, none⟩) xs.length lc st.dec).toArray)) := HPl.out.alloc _
       have HIn : Hid (Box (wk31.alloc (.cells (iZ.cells) 29)) (bI) 29 ((st.is.map In.cs).flatten.toArray)) := HIn.out.alloc _
       have HX : Hid (Box (wk31.alloc (.cells (iZ.cells) 29)) (X) 87 (x.cells)) := HX.out.alloc _
       have HMs : Hid (Box (wk31.alloc (.cells (iZ.cells) 29)) (gk30) 52 (mZ.cells)) := HMs.out.alloc _
       have hsz := HK.out.size
       have HK : Hid (Kept (PSet p bI (some ⟨lg, 0, none⟩) xs) w (wk31.alloc (.cells (iZ.cells) 29))) := HK.out.alloc _
       have HPM : Hid (PM w0 (wk31.alloc (.cells (iZ.cells) 29)) p bI (some ⟨lg, 0, none⟩) lc (st) (xs) (none)) := HPM.out.no ((Kept.refl No _).alloc _)
       have HO : Hid (p < w.heap.size ∧ bI < w.heap.size ∧ lg < w.heap.size ∧ p ≠ bI ∧ p ≠ lg ∧ bI ≠ lg ∧ w.heap.size ≤ X ∧ w.heap.size ≤ gk30 ∧ X < gk30 ∧ gk30 < wk31.heap.size ∧ w.heap.size ≤ wk31.heap.size) := by
         have h := HO.out
         have l := HLT.out
         show _ ∧ _
         omega
       clear hsz
       have HLT : Hid (wk31.heap.size < (wk31.alloc (.cells (iZ.cells) 29)).heap.size) := by show _ < _; simp
       generalize wk31.alloc (.cells (iZ.cells) 29) = wk32 at HPl HIn HX HMs HN HK HLT hH HPM ⊢
       generalize wk31.heap.size = gk33 at HN HO HLT ⊢
       try simp only [Act.put, sA, s0, s1]
       refine any_store (i := 18) (o := { dst := none, op := Op.store 29 (Operand.tmp 8) (Operand.tmp 34), type := 0, pos := "outright.go:152", after := #[{ on := 16, ground := Ground.data }, { on := 13, ground := Ground.data }, { on := 11, ground := Ground.chain }, { on := 0, ground := Ground.phase }, { on := 1, ground := Ground.phase }, { on := 2, ground := Ground.phase }, { on := 3, ground := Ground.phase }, { on := 4, ground := Ground.phase }, { on := 5, ground := Ground.phase }, { on := 6, ground := Ground.phase }, { on := 7, ground := Ground.phase }, { on := 8, ground := Ground.phase }, { on := 9, ground := Ground.phase }, { on := 10, ground := Ground.phase }, { on := 11, ground := Ground.phase }, { on := 12, ground := Ground.phase }, { on := 13, ground := Ground.phase }, { on := 14, ground := Ground.textOnly Departure.lateStores }, { on := 15, ground := Ground.textOnly Departure.lateStores }, { on := 16, ground := Ground.phase }, { on := 17, ground := Ground.phase }], guard := none }) rfl (by kernel_rfl) (by kernel_rfl) 29 _ _ rfl ⟨gk33, 0, none⟩ (.agg ((accI i0 x.v.b x.v.c).cells)) (by kernel_rfl) (by kernel_rfl) (store_I HN.out rfl) (⟨hH.1.rowNe (by have := HO.out; omega) _, hH.2.1.rowNe (by have := HO.out; omega) _, hH.2.2.rowNe (by have := HO.out; omega) _⟩) (fun hH => ?_)
       have HLT : Hid (gk33 < (wk32.setRow gk33 ((accI i0 x.v.b x.v.c).cells)).heap.size) := by show _ < _; rw [setRow_size]; exact HLT.out
       have HPM : Hid (PM w0 (wk32.setRow gk33 ((accI i0 x.v.b x.v.c).cells)) p bI (some ⟨lg, 0, none⟩) lc (st) (xs) (none)) := HPM.out.far HPB.out (Kept.setRow _ _ _) (fun q e => by have e : q = gk33 := e; have := HO.out; omega)
       have HPl : Hid (Box (wk32.setRow gk33 ((accI i0 x.v.b x.v.c).cells)) (p) 69 ((playC st.f bI st.is.length (some ⟨lg, 0, none⟩) xs.length lc st.dec).toArray)) := HPl.out.rowNe (by have := HO.out; omega) _
       have HIn : Hid (Box (wk32.setRow gk33 ((accI i0 x.v.b x.v.c).cells)) (bI) 29 ((st.is.map In.cs).flatten.toArray)) := HIn.out.rowNe (by have := HO.out; omega) _
       have HX : Hid (Box (wk32.setRow gk33 ((accI i0 x.v.b x.v.c).cells)) (X) 87 (x.cells)) := HX.out.rowNe (by have := HO.out; omega) _
       have HMs : Hid (Box (wk32.setRow gk33 ((accI i0 x.v.b x.v.c).cells)) (gk30) 52 (mZ.cells)) := HMs.out.rowNe (by have := HO.out; omega) _
       have HN : Hid (Box (wk32.setRow gk33 ((accI i0 x.v.b x.v.c).cells)) (gk33) 29 ((accI i0 x.v.b x.v.c).cells)) := HN.out.setRow _
       have HK : Hid (Kept (PSet p bI (some ⟨lg, 0, none⟩) xs) w (wk32.setRow gk33 ((accI i0 x.v.b x.v.c).cells))) := HK.out.newRowS (by have := HO.out; omega) _
       generalize wk32.setRow gk33 ((accI i0 x.v.b x.v.c).cells) = wk34 at HPl HIn HX HMs HN HK HLT hH HPM ⊢
       refine any_store (i := 19) (o := { dst := none, op := Op.store 52 (Operand.tmp 9) (Operand.tmp 35), type := 0, pos := "outright.go:152", after := #[{ on := 17, ground := Ground.data }, { on := 14, ground := Ground.data }, { on := 18, ground := Ground.chain }, { on := 0, ground := Ground.phase }, { on := 1, ground := Ground.phase }, { on := 2, ground := Ground.phase }, { on := 3, ground := Ground.phase }, { on := 4, ground := Ground.phase }, { on := 5, ground := Ground.phase }, { on := 6, ground := Ground.phase }, { on := 7, ground := Ground.phase }, { on := 8, ground := Ground.phase }, { on := 9, ground := Ground.phase }, { on := 10, ground := Ground.phase }, { on := 11, ground := Ground.phase }, { on := 12, ground := Ground.phase }, { on := 13, ground := Ground.phase }, { on := 14, ground := Ground.phase }, { on := 15, ground := Ground.textOnly Departure.lateStores }, { on := 16, ground := Ground.phase }, { on := 17, ground := Ground.phase }, { on := 18, ground := Ground.phase }], guard := none }) rfl (by kernel_rfl) (by kernel_rfl) 52 _ _ rfl ⟨gk30, 0, none⟩ (.agg ((accM i0 x.v.b).cells)) (by kernel_rfl) (by kernel_rfl) (store_M HMs.out rfl) (⟨hH.1.rowNe (by have := HO.out; omega) _, hH.2.1.rowNe (by have := HO.out; omega) _, hH.2.2.rowNe (by have := HO.out; omega) _⟩) (fun hH => ?_)
       have HLT : Hid (gk33 < (wk34.setRow gk30 ((accM i0 x.v.b).cells)).heap.size) := by show _ < _; rw [setRow_size]; exact HLT.out
       have HPM : Hid (PM w0 (wk34.setRow gk30 ((accM i0 x.v.b).cells)) p bI (some ⟨lg, 0, none⟩) lc (st) (xs) (none)) := HPM.out.far HPB.out (Kept.setRow _ _ _) (fun q e => by have e : q = gk30 := e; have := HO.out; omega)
       have HPl : Hid (Box (wk34.setRow gk30 ((accM i0 x.v.b).cells)) (p) 69 ((playC st.f bI st.is.length (some ⟨lg, 0, none⟩) xs.length lc st.dec).toArray)) := HPl.out.rowNe (by have := HO.out; omega) _
       have HIn : Hid (Box (wk34.setRow gk30 ((accM i0 x.v.b).cells)) (bI) 29 ((st.is.map In.cs).flatten.toArray)) := HIn.out.rowNe (by have := HO.out; omega) _
       have HX : Hid (Box (wk34.setRow gk30 ((accM i0 x.v.b).cells)) (X) 87 (x.cells)) := HX.out.rowNe (by have := HO.out; omega) _
       have HMs : Hid (Box (wk34.setRow gk30 ((accM i0 x.v.b).cells)) (gk30) 52 ((accM i0 x.v.b).cells)) := HMs.out.setRow _
       have HN : Hid (Box (wk34.setRow gk30 ((accM i0 x.v.b).cells)) (gk33) 29 ((accI i0 x.v.b x.v.c).cells)) := HN.out.rowNe (by have := HO.out; omega) _
       have HK : Hid (Kept (PSet p bI (some ⟨lg, 0, none⟩) xs) w (wk34.setRow gk30 ((accM i0 x.v.b).cells))) := HK.out.newRowS (by have := HO.out; omega) _
       generalize wk34.setRow gk30 ((accM i0 x.v.b).cells) = wk35 at HPl HIn HX HMs HN HK HLT hH HPM ⊢
       refine any_take (i := 20) (oi := { dst := some 10, op := Op.assign (Operand.tmp 36), type := 4, pos := "outright.go:152", after := #[{ on := 15, ground := Ground.data }, { on := 19, ground := Ground.chain }, { on := 0, ground := Ground.phase }, { on := 1, ground := Ground.phase }, { on := 2, ground := Ground.phase }, { on := 3, ground := Ground.phase }, { on := 4, ground := Ground.phase }, { on := 5, ground := Ground.phase }, { on := 6, ground := Ground.phase }, { on := 7, ground := Ground.phase }, { on := 8, ground := Ground.phase }, { on := 9, ground := Ground.phase }, { on := 10, ground := Ground.phase }, { on := 11, ground := Ground.phase }, { on := 12, ground := Ground.phase }, { on := 13, ground := Ground.phase }, { on := 14, ground := Ground.phase }, { on := 15, ground := Ground.phase }, { on := 16, ground := Ground.phase }, { on := 17, ground := Ground.phase }, { on := 18, ground := Ground.phase }, { on := 19, ground := Ground.phase }], guard := none }) (v := .bool (accB i0 x.v.b x.v.c)) rfl (by kernel_rfl) (by kernel_rfl) (by kernel_rfl) (fun _ _ _ h => h) (by kernel_rfl) (fun _ _ => by kernel_rfl) hH ?_
       try simp only [Act.put, sA, s0, s1]
       refine wpAnyH_done (by kernel_rfl) ?_ _
       try simp only [Act.put, sA, s0, s1]
       exact hh _ gk33 gk30 ⟨HK.out, HPM.out, HPl.out, HX.out, HN.out, HMs.out, by have := HO.out; omega, Nat.lt_of_le_of_lt (by have := HO.out; omega) HLT.out⟩
      ·skip
       clear hi
       refine step_run (i := 16) (o := { dst := some 8, op := Op.alloc 29, type := 0, pos := "outright.go:152", after := #[], guard := none }) rfl (by kernel_rfl) (exec_alloc 29 rfl _ zero29) ⟨HPl.out.alloc _, HIn.out.alloc _, HX.out.alloc _⟩ (fun hH => ?_)
       have HN : Hid (Box (wk29.alloc (.cells (iZ.cells) 29)) wk29.heap.size 29 (iZ.cells)) := Box.new _ _ _
       have HPl : Hid (Box (wk29.alloc (.cells (iZ.cells) 29)) (p) 69 ((playC st.f bI st.is.length (some ⟨lg, 0, none⟩) xs.length lc st.dec).toArray)) := HPl.out.alloc _
       have HIn : Hid (Box (wk29.alloc (.cells (iZ.cells) 29)) (bI) 29 ((st.is.map In.cs).flatten.toArray)) := HIn.out.alloc _
       have HX : Hid (Box (wk29.alloc (.cells (iZ.cells) 29)) (X) 87 (x.cells)) := HX.out.alloc _
       have HMs : Hid (Box (wk29.alloc (.cells (iZ.cells) 29)) (gk30) 52 (mZ.cells)) := HMs.out.alloc _
       have hsz := HK.out.size
       have HK : Hid (Kept (PSet p bI (some ⟨lg, 0, none⟩) xs) w (wk29.alloc (.cells (iZ.cells) 29))) := HK.out.alloc _
       have HPM : Hid (PM w0 (wk29.alloc (.cells (iZ.cells) 29)) p bI (some ⟨lg, 0, none⟩) lc (st) (xs) (none)) := HPM.out.no ((Kept.refl No _).alloc _)
       have HO : Hid (p < w.heap.size ∧ bI < w.heap.size ∧ lg < w.heap.size ∧ p ≠ bI ∧ p ≠ lg ∧ bI ≠ lg ∧ w.heap.size ≤ X ∧ w.heap.size ≤ gk30 ∧ X < gk30 ∧ gk30 < wk29.heap.size ∧ w.heap.size ≤ wk29.heap.size) := by
         have h := HO.out
         have l := HLT.out
         show _ ∧ _
         omega
       clear hsz
       have HLT : Hid (wk29.heap.size < (wk29.alloc (.cells (iZ.cells) 29)).heap.size) := by show _ < _; simp
       generalize wk29.alloc (.cells (iZ.cells) 29) = wk36 at HPl HIn HX HMs HN HK HLT hH HPM ⊢
       generalize wk29.heap.size = gk37 at HN HO HLT ⊢
       try simp only [Act.put, sA, s0, s1]
       refine any_call (i := 11) (o := { dst := some 33, op := Op.call { callee := Callee.value (Operand.func 13), args := #[Operand.tmp 28, Operand.tmp 30, Operand.tmp 32], argTypes := #[29, 23, 27] }, type := 53, pos := "outright.go:152", after := #[{ on := 6, ground := Ground.data }, { on := 8, ground := Ground.data }, { on := 10, ground := Ground.data }], guard := none }) rfl (by kernel_rfl) (by kernel_rfl) 13 #[.agg i0.cells, .agg #[.int .i64 x.v.b.n, .int .i64 x.v.b.c], .agg x.v.c.cells] (by kernel_rfl) _ (acc_any i0 x.v.b x.v.c _) ?_
       rintro e wk38 ⟨rfl, hk⟩
       have HPl : Hid (Box wk38 (p) 69 ((playC st.f bI st.is.length (some ⟨lg, 0, none⟩) xs.length lc st.dec).toArray)) := HPl.out.kept hk (fun e => e)
       have HIn : Hid (Box wk38 (bI) 29 ((st.is.map In.cs).flatten.toArray)) := HIn.out.kept hk (fun e => e)
       have HX : Hid (Box wk38 (X) 87 (x.cells)) := HX.out.kept hk (fun e => e)
       have HMs : Hid (Box wk38 (gk30) 52 (mZ.cells)) := HMs.out.kept hk (fun e => e)
       have HN : Hid (Box wk38 (gk37) 29 (iZ.cells)) := HN.out.kept hk (fun e => e)
       have HK : Hid (Kept (PSet p bI (some ⟨lg, 0, none⟩) xs) w wk38) := HK.out.thenNo hk
       have HPM : Hid (PM w0 (wk38) p bI (some ⟨lg, 0, none⟩) lc (st) (xs) (none)) := HPM.out.no hk
       have HLT : Hid (gk37 < wk38.heap.size) := Nat.lt_of_lt_of_le HLT.out hk.size
       clear hk
       refine ⟨.tuple #[.agg ((accI i0 x.v.b x.v.c).cells), .agg ((accM i0 x.v.b).cells), .bool (accB i0 x.v.b x.v.c)], rfl, ⟨HPl.out, HIn.out, HX.out⟩, fun hH => ?_⟩
       try simp only [Act.put, sA, s0, s1]
       refine any_take (i := 12) (oi := { dst := some 21, op := Op.move (Operand.tmp 33), type := 53, pos := "outright.go:152", after := #[{ on := 11, ground := Ground.data }], guard := none }) (v := .tuple #[.agg ((accI i0 x.v.b x.v.c).cells), .agg ((accM i0 x.v.b).cells), .bool (accB i0 x.v.b x.v.c)]) rfl (by kernel_rfl) (by kernel_rfl) (by kernel_rfl) (fun _ _ _ h => h) (by kernel_rfl) (fun _ _ => by kernel_rfl) hH ?_
       try simp only [Act.put, sA, s0, s1]
       refine any_take (i := 13) (oi := { dst := some 34, op := Op.extract (Operand.tmp 21) 0, type := 29, pos := "outright.go:152", after := #[{ on := 12, ground := Ground.data }], guard := none }) (v := .agg ((accI i0 x.v.b x.v.c).cells)) rfl (by kernel_rfl) (by kernel_rfl) (by kernel_rfl) (fun _ _ _ h => h) (by kernel_rfl) (fun _ _ => by kernel_rfl) hH ?_
       try simp only [Act.put, sA, s0, s1]
       refine any_take (i := 14) (oi := { dst := some 35, op := Op.extract (Operand.tmp 21) 1, type := 52, pos := "outright.go:152", after := #[{ on := 12, ground := Ground.data }, { on := 18, ground := Ground.gcOnly Departure.lateStores }], guard := none }) (v := .agg ((accM i0 x.v.b).cells)) rfl (by kernel_rfl) (by kernel_rfl) (by kernel_rfl) (fun _ _ _ h => h) (by kernel_rfl) (fun _ _ => by kernel_rfl) hH ?_
       try simp only [Act.put, sA, s0, s1]
       refine any_take (i := 15) (oi := { dst := some 36, op := Op.extract (Operand.tmp 21) 2, type := 4, pos := "outright.go:152", after := #[{ on := 12, ground := Ground.data }, { on := 19, ground := Ground.gcOnly Departure.lateStores }], guard := none }) (v := .bool (accB i0 x.v.b x.v.c)) rfl (by kernel_rfl) (by kernel_rfl) (by kernel_rfl) (fun _ _ _ h => h) (by kernel_rfl) (fun _ _ => by kernel_rfl) hH ?_
       try simp only [Act.put, sA, s0, s1]
       refine any_store (i := 18) (o := { dst := none, op := Op.store 29 (Operand.tmp 8) (Operand.tmp 34), type := 0, pos := "outright.go:152", after := #[{ on := 16, ground := Ground.data }, { on := 13, ground := Ground.data }, { on := 11, ground := Ground.chain }, { on := 0, ground := Ground.phase }, { on := 1, ground := Ground.phase }, { on := 2, ground := Ground.phase }, { on := 3, ground := Ground.phase }, { on := 4, ground := Ground.phase }, { on := 5, ground := Ground.phase }, { on := 6, ground := Ground.phase }, { on := 7, ground := Ground.phase }, { on := 8, ground := Ground.phase }, { on := 9, ground := Ground.phase }, { on := 10, ground := Ground.phase }, { on := 11, ground := Ground.phase }, { on := 12, ground := Ground.phase }, { on := 13, ground := Ground.phase }, { on := 14, ground := Ground.textOnly Departure.lateStores }, { on := 15, ground := Ground.textOnly Departure.lateStores }, { on := 16, ground := Ground.phase }, { on := 17, ground := Ground.phase }], guard := none }) rfl (by kernel_rfl) (by kernel_rfl) 29 _ _ rfl ⟨gk37, 0, none⟩ (.agg ((accI i0 x.v.b x.v.c).cells)) (by kernel_rfl) (by kernel_rfl) (store_I HN.out rfl) (⟨hH.1.rowNe (by have := HO.out; omega) _, hH.2.1.rowNe (by have := HO.out; omega) _, hH.2.2.rowNe (by have := HO.out; omega) _⟩) (fun hH => ?_)
       have HLT : Hid (gk37 < (wk38.setRow gk37 ((accI i0 x.v.b x.v.c).cells)).heap.size) := by show _ < _; rw [setRow_size]; exact HLT.out
       have HPM : Hid (PM w0 (wk38.setRow gk37 ((accI i0 x.v.b x.v.c).cells)) p bI (some ⟨lg, 0, none⟩) lc (st) (xs) (none)) := HPM.out.far HPB.out (Kept.setRow _ _ _) (fun q e => by have e : q = gk37 := e; have := HO.out; omega)
       have HPl : Hid (Box (wk38.setRow gk37 ((accI i0 x.v.b x.v.c).cells)) (p) 69 ((playC st.f bI st.is.length (some ⟨lg, 0, none⟩) xs.length lc st.dec).toArray)) := HPl.out.rowNe (by have := HO.out; omega) _
       have HIn : Hid (Box (wk38.setRow gk37 ((accI i0 x.v.b x.v.c).cells)) (bI) 29 ((st.is.map In.cs).flatten.toArray)) := HIn.out.rowNe (by have := HO.out; omega) _
       have HX : Hid (Box (wk38.setRow gk37 ((accI i0 x.v.b x.v.c).cells)) (X) 87 (x.cells)) := HX.out.rowNe (by have := HO.out; omega) _
       have HMs : Hid (Box (wk38.setRow gk37 ((accI i0 x.v.b x.v.c).cells)) (gk30) 52 (mZ.cells)) := HMs.out.rowNe (by have := HO.out; omega) _
       have HN : Hid (Box (wk38.setRow gk37 ((accI i0 x.v.b x.v.c).cells)) (gk37) 29 ((accI i0 x.v.b x.v.c).cells)) := HN.out.setRow _
       have HK : Hid (Kept (PSet p bI (some ⟨lg, 0, none⟩) xs) w (wk38.setRow gk37 ((accI i0 x.v.b x.v.c).cells))) := HK.out.newRowS (by have := HO.out; omega) _
       generalize wk38.setRow gk37 ((accI i0 x.v.b x.v.c).cells) = wk39 at HPl HIn HX HMs HN HK HLT hH HPM ⊢
       refine any_store (i := 19) (o := { dst := none, op := Op.store 52 (Operand.tmp 9) (Operand.tmp 35), type := 0, pos := "outright.go:152", after := #[{ on := 17, ground := Ground.data }, { on := 14, ground := Ground.data }, { on := 18, ground := Ground.chain }, { on := 0, ground := Ground.phase }, { on := 1, ground := Ground.phase }, { on := 2, ground := Ground.phase }, { on := 3, ground := Ground.phase }, { on := 4, ground := Ground.phase }, { on := 5, ground := Ground.phase }, { on := 6, ground := Ground.phase }, { on := 7, ground := Ground.phase }, { on := 8, ground := Ground.phase }, { on := 9, ground := Ground.phase }, { on := 10, ground := Ground.phase }, { on := 11, ground := Ground.phase }, { on := 12, ground := Ground.phase }, { on := 13, ground := Ground.phase }, { on := 14, ground := Ground.phase }, { on := 15, ground := Ground.textOnly Departure.lateStores }, { on := 16, ground := Ground.phase }, { on := 17, ground := Ground.phase }, { on := 18, ground := Ground.phase }], guard := none }) rfl (by kernel_rfl) (by kernel_rfl) 52 _ _ rfl ⟨gk30, 0, none⟩ (.agg ((accM i0 x.v.b).cells)) (by kernel_rfl) (by kernel_rfl) (store_M HMs.out rfl) (⟨hH.1.rowNe (by have := HO.out; omega) _, hH.2.1.rowNe (by have := HO.out; omega) _, hH.2.2.rowNe (by have := HO.out; omega) _⟩) (fun hH => ?_)
       have HLT : Hid (gk37 < (wk39.setRow gk30 ((accM i0 x.v.b).cells)).heap.size) := by show _ < _; rw [setRow_size]; exact HLT.out
       have HPM : Hid (PM w0 (wk39.setRow gk30 ((accM i0 x.v.b).cells)) p bI (some ⟨lg, 0, none⟩) lc (st) (xs) (none)) := HPM.out.far HPB.out (Kept.setRow _ _ _) (fun q e => by have e : q = gk30 := e; have := HO.out; omega)
       have HPl : Hid (Box (wk39.setRow gk30 ((accM i0 x.v.b).cells)) (p) 69 ((playC st.f bI st.is.length (some ⟨lg, 0, none⟩) xs.length lc st.dec).toArray)) := HPl.out.rowNe (by have := HO.out; omega) _
       have HIn : Hid (Box (wk39.setRow gk30 ((accM i0 x.v.b).cells)) (bI) 29 ((st.is.map In.cs).flatten.toArray)) := HIn.out.rowNe (by have := HO.out; omega) _
       have HX : Hid (Box (wk39.setRow gk30 ((accM i0 x.v.b).cells)) (X) 87 (x.cells)) := HX.out.rowNe (by have := HO.out; omega) _
       have HMs : Hid (Box (wk39.setRow gk30 ((accM i0 x.v.b).cells)) (gk30) 52 ((accM i0 x.v.b).cells)) := HMs.out.setRow _
       have HN : Hid (Box (wk39.setRow gk30 ((accM i0 x.v.b).cells)) (gk37) 29 ((accI i0 x.v.b x.v.c).cells)) := HN.out.rowNe (by have := HO.out; omega) _
       have HK : Hid (Kept (PSet p bI (some ⟨lg, 0, none⟩) xs) w (wk39.setRow gk30 ((accM i0 x.v.b).cells))) := HK.out.newRowS (by have := HO.out; omega) _
       generalize wk39.setRow gk30 ((accM i0 x.v.b).cells) = wk40 at HPl HIn HX HMs HN HK HLT hH HPM ⊢
       refine any_take (i := 20) (oi := { dst := some 10, op := Op.assign (Operand.tmp 36), type := 4, pos := "outright.go:152", after := #[{ on := 15, ground := Ground.data }, { on := 19, ground := Ground.chain }, { on := 0, ground := Ground.phase }, { on := 1, ground := Ground.phase }, { on := 2, ground := Ground.phase }, { on := 3, ground := Ground.phase }, { on := 4, ground := Ground.phase }, { on := 5, ground := Ground.phase }, { on := 6, ground := Ground.phase }, { on := 7, ground := Ground.phase }, { on := 8, ground := Ground.phase }, { on := 9, ground := Ground.phase }, { on := 10, ground := Ground.phase }, { on := 11, ground := Ground.phase }, { on := 12, ground := Ground.phase }, { on := 13, ground := Ground.phase }, { on := 14, ground := Ground.phase }, { on := 15, ground := Ground.phase }, { on := 16, ground := Ground.phase }, { on := 17, ground := Ground.phase }, { on := 18, ground := Ground.phase }, { on := 19, ground := Ground.phase }], guard := none }) (v := .bool (accB i0 x.v.b x.v.c)) rfl (by kernel_rfl) (by kernel_rfl) (by kernel_rfl) (fun _ _ _ h => h) (by kernel_rfl) (fun _ _ => by kernel_rfl) hH ?_
       try simp only [Act.put, sA, s0, s1]
       refine wpAnyH_done (by kernel_rfl) ?_ _
       try simp only [Act.put, sA, s0, s1]
       exact hh _ gk37 gk30 ⟨HK.out, HPM.out, HPl.out, HX.out, HN.out, HMs.out, by have := HO.out; omega, Nat.lt_of_le_of_lt (by have := HO.out; omega) HLT.out⟩
   case tail =>
     have HK : Hid (Kept (PSet p bI (some ⟨lg, 0, none⟩) xs) w W) := hJ.1
     have HPM : Hid (PM w0 W p bI (some ⟨lg, 0, none⟩) lc (st) (xs) (none)) := hJ.2.1
     have HPl : Hid (Box W (p) 69 ((playC st.f bI st.is.length (some ⟨lg, 0, none⟩) xs.length lc st.dec).toArray)) := hJ.2.2.1
     have HX : Hid (Box W (X) 87 (x.cells)) := hJ.2.2.2.1
     have HN : Hid (Box W (a) 29 ((accI i0 x.v.b x.v.c).cells)) := hJ.2.2.2.2.1
     have HMs : Hid (Box W (b) 52 ((accM i0 x.v.b).cells)) := hJ.2.2.2.2.2.1
     have HO : Hid (p < w.heap.size ∧ bI < w.heap.size ∧ lg < w.heap.size ∧ p ≠ bI ∧ p ≠ lg ∧ bI ≠ lg ∧ w.heap.size ≤ X ∧ X < a ∧ X < b ∧ a ≠ b) := hJ.2.2.2.2.2.2.1
     have HLT : Hid (X < W.heap.size) := hJ.2.2.2.2.2.2.2
     have HLE : Hid (x.v.ac.length ≤ 1000) := by
       have o := HIv.out.ok k x.v HXV.out
       have := nodup_le (n := 2 * st.f + 1) x.v.ac o.na (fun t ht => by have := o.ba t ht; omega)
       show _ ≤ _
       omega
     clear hJ HIn
     go_upto_region 5 with fail
     refine wp_region_held_drew (S := fun w' => Box w' (p) 69 ((playC st.f bI st.is.length (some ⟨lg, 0, none⟩) xs.length lc st.dec).toArray) ∧ Box w' (X) 87 (x.cells) ∧ Box w' (a) 29 ((accI i0 x.v.b x.v.c).cells) ∧ Box w' (b) 52 ((accM i0 x.v.b).cells)) rfl ⟨HPl.out, HX.out, HN.out, HMs.out⟩ (fun hH => ?_)
     have HPl : Hid (Box W.drew (p) 69 ((playC st.f bI st.is.length (some ⟨lg, 0, none⟩) xs.length lc st.dec).toArray)) := HPl.out
     have HX : Hid (Box W.drew (X) 87 (x.cells)) := HX.out
     have HN : Hid (Box W.drew (a) 29 ((accI i0 x.v.b x.v.c).cells)) := HN.out
     have HMs : Hid (Box W.drew (b) 52 ((accM i0 x.v.b).cells)) := HMs.out
     have HK : Hid (Kept (PSet p bI (some ⟨lg, 0, none⟩) xs) w W.drew) := HK.out.drew
     have HPM : Hid (PM w0 (W.drew) p bI (some ⟨lg, 0, none⟩) lc (st) (xs) (none)) := HPM.out.no (Kept.refl No _).drew
     have HLT : Hid (X < W.drew.heap.size) := HLT.out
     generalize W.drew = wk41 at HPl HX HN HMs HK HLT hH HPM ⊢
     refine any_take (i := 0) (oi := { dst := some 37, op := Op.move (Operand.tmp 0), type := 65, pos := "outright.go:153", after := #[], guard := none }) (v := .pointer (some ⟨p, 0, none⟩)) rfl (by kernel_rfl) (by kernel_rfl) (by kernel_rfl) (fun _ _ _ h => h) (by kernel_rfl) (fun _ _ => by kernel_rfl) hH ?_
     try simp only [Act.put, sA, s0, s1]
     refine any_take (i := 1) (oi := { dst := some 38, op := Op.nilCheck (Operand.tmp 37), type := 0, pos := "outright.go:153", after := #[{ on := 0, ground := Ground.data }], guard := none }) (v := .pointer (some ⟨p, 0, none⟩)) rfl (by kernel_rfl) (by kernel_rfl) (by kernel_rfl) (fun _ _ _ h => h) (by kernel_rfl) (fun _ _ => by kernel_rfl) hH ?_
     try simp only [Act.put, sA, s0, s1]
     refine any_take (i := 2) (oi := { dst := some 39, op := Op.fieldAddr 69 (Operand.tmp 38) 1, type := 0, pos := "outright.go:153", after := #[{ on := 1, ground := Ground.data }], guard := none }) (v := .pointer (some ⟨p, 1, none⟩)) rfl (by kernel_rfl) (by kernel_rfl) (by kernel_rfl) (fun _ _ _ h => h) (by kernel_rfl) (fun _ _ => by kernel_rfl) hH ?_
     try simp only [Act.put, sA, s0, s1]
     refine any_take (i := 3) (oi := { dst := some 40, op := Op.load 66 (Operand.tmp 39), type := 66, pos := "outright.go:153", after := #[{ on := 2, ground := Ground.data }], guard := none }) (v := .slice (some ⟨bI, 0, none⟩) st.is.length st.is.length) rfl (by kernel_rfl) (by kernel_rfl) (by kernel_rfl) (fun _ _ _ h => h) (by kernel_rfl) (fun w' hw => exec_load 66 _ rfl ⟨p, 1, none⟩ (by kernel_rfl) (.slice (some ⟨bI, 0, none⟩) st.is.length st.is.length) (load_pI hw.1)) hH ?_
     try simp only [Act.put, sA, s0, s1]
     refine any_take (i := 4) (oi := { dst := some 41, op := Op.move (Operand.tmp 2), type := 3, pos := "outright.go:153", after := #[], guard := none }) (v := .int .i64 s) rfl (by kernel_rfl) (by kernel_rfl) (by kernel_rfl) (fun _ _ _ h => h) (by kernel_rfl) (fun _ _ => by kernel_rfl) hH ?_
     try simp only [Act.put, sA, s0, s1]
     refine any_take (i := 5) (oi := { dst := some 42, op := Op.load 29 (Operand.tmp 8), type := 29, pos := "outright.go:153", after := #[], guard := none }) (v := .agg ((accI i0 x.v.b x.v.c).cells)) rfl (by kernel_rfl) (by kernel_rfl) (by kernel_rfl) (fun _ _ _ h => h) (by kernel_rfl) (fun w' hw => exec_load 29 _ rfl ⟨a, 0, none⟩ (by kernel_rfl) (.agg ((accI i0 x.v.b x.v.c).cells)) (load_I hw.2.2.1)) hH ?_
     try simp only [Act.put, sA, s0, s1]
     refine any_take (i := 6) (oi := { dst := some 43, op := Op.indexAddr 66 (Operand.tmp 40) (Operand.tmp 41), type := 0, pos := "outright.go:153", after := #[{ on := 3, ground := Ground.data }, { on := 4, ground := Ground.data }, { on := 0, ground := Ground.phase }, { on := 1, ground := Ground.phase }, { on := 2, ground := Ground.phase }, { on := 3, ground := Ground.phase }, { on := 4, ground := Ground.phase }, { on := 5, ground := Ground.phase }], guard := none }) (v := .pointer (some ⟨bI, 0 + s * 14, none⟩)) rfl (by kernel_rfl) (by kernel_rfl) (by kernel_rfl) (fun _ _ _ h => h) (by kernel_rfl) (fun w' hw => exec_ixA 66 14 Try.und66e Try.size66e _ _ rfl bI 0 st.is.length st.is.length s (by kernel_rfl) (by kernel_rfl) hsl) hH ?_
     try simp only [Act.put, sA, s0, s1]
     obtain ⟨cs1, hr1, hm1⟩ := HPM.out.setI hsl (accI i0 x.v.b x.v.c)
     refine any_store (i := 7) (o := { dst := none, op := Op.store 29 (Operand.tmp 43) (Operand.tmp 42), type := 0, pos := "outright.go:153", after := #[{ on := 6, ground := Ground.data }, { on := 5, ground := Ground.data }, { on := 0, ground := Ground.phase }, { on := 1, ground := Ground.phase }, { on := 2, ground := Ground.phase }, { on := 3, ground := Ground.phase }, { on := 4, ground := Ground.phase }, { on := 5, ground := Ground.phase }], guard := none }) rfl (by kernel_rfl) (by kernel_rfl) 29 _ _ rfl ⟨bI, 0 + s * 14, none⟩ (.agg ((accI i0 x.v.b x.v.c).cells)) (by kernel_rfl) (by kernel_rfl) hr1 (⟨hH.1.rowNe (by have := HO.out; omega) _, hH.2.1.rowNe (by have := HO.out; omega) _, hH.2.2.1.rowNe (by have := HO.out; omega) _, hH.2.2.2.rowNe (by have := HO.out; omega) _⟩) (fun hH => ?_)
     have HX : Hid (Box (wk41.setRow bI cs1) (X) 87 (x.cells)) := HX.out.rowNe (by have := HO.out; omega) _
     have HN : Hid (Box (wk41.setRow bI cs1) (a) 29 ((accI i0 x.v.b x.v.c).cells)) := HN.out.rowNe (by have := HO.out; omega) _
     have HMs : Hid (Box (wk41.setRow bI cs1) (b) 52 ((accM i0 x.v.b).cells)) := HMs.out.rowNe (by have := HO.out; omega) _
     have HK : Hid (Kept (PSet p bI (some ⟨lg, 0, none⟩) xs) w (wk41.setRow bI cs1)) := HK.out.inRow (.inr (.inl rfl)) _
     have HLT : Hid (X < (wk41.setRow bI cs1).heap.size) := by show _ < _; rw [setRow_size]; exact HLT.out
     have HPM : Hid (PM w0 (wk41.setRow bI cs1) p bI (some ⟨lg, 0, none⟩) lc ({ st with is := st.is.set s (accI i0 x.v.b x.v.c) }) (xs) (none)) := hm1
     have HPl : Hid (Box (wk41.setRow bI cs1) (p) 69 ((playC st.f bI (st.is.set s (accI i0 x.v.b x.v.c)).length (some ⟨lg, 0, none⟩) xs.length lc st.dec).toArray)) := hm1.box
     clear hr1 hm1
     generalize wk41.setRow bI cs1 = wk42 at HPl HX HN HMs HK HLT HPM hH ⊢
     try simp only [Act.put, sA, s0, s1]
     refine wpAnyH_done (by kernel_rfl) ?_ _
     try simp only [Act.put, sA, s0, s1]
     go_upto_region 6 with fail
     refine wp_region_held_drew (S := fun w' => Box w' (p) 69 ((playC st.f bI (st.is.set s (accI i0 x.v.b x.v.c)).length (some ⟨lg, 0, none⟩) xs.length lc st.dec).toArray) ∧ Box w' (b) 52 ((accM i0 x.v.b).cells)) rfl ⟨HPl.out, HMs.out⟩ (fun hH => ?_)
     have HPl : Hid (Box wk42.drew (p) 69 ((playC st.f bI (st.is.set s (accI i0 x.v.b x.v.c)).length (some ⟨lg, 0, none⟩) xs.length lc st.dec).toArray)) := HPl.out
     have HX : Hid (Box wk42.drew (X) 87 (x.cells)) := HX.out
     have HN : Hid (Box wk42.drew (a) 29 ((accI i0 x.v.b x.v.c).cells)) := HN.out
     have HMs : Hid (Box wk42.drew (b) 52 ((accM i0 x.v.b).cells)) := HMs.out
     have HK : Hid (Kept (PSet p bI (some ⟨lg, 0, none⟩) xs) w wk42.drew) := HK.out.drew
     have HPM : Hid (PM w0 (wk42.drew) p bI (some ⟨lg, 0, none⟩) lc ({ st with is := st.is.set s (accI i0 x.v.b x.v.c) }) (xs) (none)) := HPM.out.no (Kept.refl No _).drew
     have HLT : Hid (X < wk42.drew.heap.size) := HLT.out
     generalize wk42.drew = wk43 at HPl HX HN HMs HK HLT hH HPM ⊢
     refine any_take (i := 0) (oi := { dst := some 44, op := Op.fieldAddr 52 (Operand.tmp 9) 0, type := 0, pos := "outright.go:154", after := #[], guard := none }) (v := .pointer (some ⟨b, 0, none⟩)) rfl (by kernel_rfl) (by kernel_rfl) (by kernel_rfl) (fun _ _ _ h => h) (by kernel_rfl) (fun _ _ => by kernel_rfl) hH ?_
     try simp only [Act.put, sA, s0, s1]
     refine any_take (i := 1) (oi := { dst := some 45, op := Op.load 3 (Operand.tmp 44), type := 3, pos := "outright.go:154", after := #[{ on := 0, ground := Ground.data }], guard := none }) (v := .int .i64 (accM i0 x.v.b).k) rfl (by kernel_rfl) (by kernel_rfl) (by kernel_rfl) (fun _ _ _ h => h) (by kernel_rfl) (fun w' hw => exec_load 3 _ rfl ⟨b, 0, none⟩ (by kernel_rfl) (.int .i64 (accM i0 x.v.b).k) (load_N (Mg.cel hw.2).1)) hH ?_
     try simp only [Act.put, sA, s0, s1]
     cases q2 : ((accM i0 x.v.b).k == 16)
     ·skip
      refine any_take (i := 2) (oi := { dst := some 46, op := Op.binOp BinOp.eql 3 (Operand.tmp 45) (Operand.const (Value.int IntKind.i64 16)) 3, type := 4, pos := "outright.go:154", after := #[{ on := 1, ground := Ground.data }], guard := none }) (v := .bool false) rfl (by kernel_rfl) (by kernel_rfl) (by kernel_rfl) (fun _ _ _ h => h) (by kernel_rfl) (fun w' hw => exec_bin .eql 3 _ _ _ rfl (.int .i64 (accM i0 x.v.b).k) (.int .i64 16) (.bool false) (by kernel_rfl) (by kernel_rfl) (by kernel_rfl) (by rw [eqlN, q2]; try rfl)) hH ?_
      try simp only [Act.put, sA, s0, s1]
      refine any_take (i := 3) (oi := { dst := some 47, op := Op.move (Operand.tmp 46), type := 4, pos := "outright.go:154", after := #[{ on := 2, ground := Ground.data }], guard := none }) (v := .bool false) rfl (by kernel_rfl) (by kernel_rfl) (by kernel_rfl) (fun _ _ _ h => h) (by kernel_rfl) (fun _ _ => by kernel_rfl) hH ?_
      try simp only [Act.put, sA, s0, s1]
      refine any_skip (i := 4) (oi := { dst := some 48, op := Op.fieldAddr 52 (Operand.tmp 9) 9, type := 0, pos := "outright.go:154", after := #[{ on := 3, ground := Ground.guard }], guard := some (3, true) }) rfl (by kernel_rfl) (by kernel_rfl) (by kernel_rfl) (fun _ _ _ h => h) (by kernel_rfl) hH ?_
      try simp only [Act.put, sA, s0, s1]
      refine any_skip (i := 5) (oi := { dst := some 49, op := Op.load 27 (Operand.tmp 48), type := 27, pos := "outright.go:154", after := #[{ on := 4, ground := Ground.data }, { on := 3, ground := Ground.guard }], guard := some (3, true) }) rfl (by kernel_rfl) (by kernel_rfl) (by kernel_rfl) (fun _ _ _ h => h) (by kernel_rfl) hH ?_
      try simp only [Act.put, sA, s0, s1]
      refine any_skip (i := 6) (oi := { dst := some 50, op := Op.move (Operand.tmp 0), type := 65, pos := "outright.go:154", after := #[{ on := 3, ground := Ground.guard }], guard := some (3, true) }) rfl (by kernel_rfl) (by kernel_rfl) (by kernel_rfl) (fun _ _ _ h => h) (by kernel_rfl) hH ?_
      try simp only [Act.put, sA, s0, s1]
      refine any_skip (i := 7) (oi := { dst := some 51, op := Op.nilCheck (Operand.tmp 50), type := 0, pos := "outright.go:154", after := #[{ on := 6, ground := Ground.data }, { on := 3, ground := Ground.guard }], guard := some (3, true) }) rfl (by kernel_rfl) (by kernel_rfl) (by kernel_rfl) (fun _ _ _ h => h) (by kernel_rfl) hH ?_
      try simp only [Act.put, sA, s0, s1]
      refine any_skip (i := 8) (oi := { dst := some 52, op := Op.fieldAddr 69 (Operand.tmp 51) 3, type := 0, pos := "outright.go:154", after := #[{ on := 7, ground := Ground.data }, { on := 3, ground := Ground.guard }], guard := some (3, true) }) rfl (by kernel_rfl) (by kernel_rfl) (by kernel_rfl) (fun _ _ _ h => h) (by kernel_rfl) hH ?_
      try simp only [Act.put, sA, s0, s1]
      refine any_skip (i := 9) (oi := { dst := some 53, op := Op.load 27 (Operand.tmp 52), type := 27, pos := "outright.go:154", after := #[{ on := 8, ground := Ground.data }, { on := 3, ground := Ground.guard }], guard := some (3, true) }) rfl (by kernel_rfl) (by kernel_rfl) (by kernel_rfl) (fun _ _ _ h => h) (by kernel_rfl) hH ?_
      try simp only [Act.put, sA, s0, s1]
      refine any_skip (i := 10) (oi := { dst := some 54, op := Op.binOp BinOp.neq 27 (Operand.tmp 49) (Operand.tmp 53) 27, type := 4, pos := "outright.go:154", after := #[{ on := 5, ground := Ground.data }, { on := 9, ground := Ground.data }, { on := 3, ground := Ground.guard }], guard := some (3, true) }) rfl (by kernel_rfl) (by kernel_rfl) (by kernel_rfl) (fun _ _ _ h => h) (by kernel_rfl) hH ?_
      try simp only [Act.put, sA, s0, s1]
      refine any_take (i := 11) (oi := { dst := some 55, op := Op.pick (Operand.tmp 47) (Operand.tmp 54) (Operand.const (Value.bool false)), type := 4, pos := "outright.go:154", after := #[{ on := 3, ground := Ground.data }, { on := 10, ground := Ground.data }], guard := none }) (v := .bool false) rfl (by kernel_rfl) (by kernel_rfl) (by kernel_rfl) (fun _ _ _ h => h) (by kernel_rfl) (fun _ _ => by kernel_rfl) hH ?_
      try simp only [Act.put, sA, s0, s1]
      refine wpAnyH_done (by kernel_rfl) ?_ _
      try simp only [Act.put, sA, s0, s1]
      go_upto_region 8 with fail
      refine WL.start ?_
      refine wp_takeW (.pointer (some ⟨b, 0, none⟩)) (by kernel_rfl) (by kernel_rfl) ?_
      try simp only [Act.put, sA, s0, s1]
      refine wp_takeW (.int .i64 (accM i0 x.v.b).k) (exec_load 3 _ rfl ⟨b, 0, none⟩ (by kernel_rfl) (.int .i64 (accM i0 x.v.b).k) (load_N (Mg.cel HMs.out).1)) (by kernel_rfl) ?_
      try simp only [Act.put, sA, s0, s1]
      cases q3 : ((accM i0 x.v.b).k == 15)
      ·skip
       refine wp_takeW (.bool true) (exec_bin .neq 3 _ _ _ rfl (.int .i64 (accM i0 x.v.b).k) (.int .i64 15) (.bool true) (by kernel_rfl) (by kernel_rfl) (by kernel_rfl) (by rw [neqN, q3]; try rfl)) (by kernel_rfl) ?_
       try simp only [Act.put, sA, s0, s1]
       refine wp_takeW (.bool true) (by kernel_rfl) (by kernel_rfl) ?_
       try simp only [Act.put, sA, s0, s1]
       refine wp_skip (by kernel_rfl) ?_
       try simp only [Act.put, sA, s0, s1]
       refine wp_skip (by kernel_rfl) ?_
       try simp only [Act.put, sA, s0, s1]
       refine wp_skip (by kernel_rfl) ?_
       try simp only [Act.put, sA, s0, s1]
       refine wp_skip (by kernel_rfl) ?_
       try simp only [Act.put, sA, s0, s1]
       refine wp_takeW (.bool true) (by kernel_rfl) (by kernel_rfl) ?_
       try simp only [Act.put, sA, s0, s1]
       refine WL.nil ?_
       try simp only [Act.put, sA, s0, s1]
       have HFI : Hid (Inv ({ st with is := st.is.set s (accI i0 x.v.b x.v.c) } : PS)) := by have h := HIv.out; rw [acc_no15 q3, set_same HSI.out]; exact h
       go_wp2
       go_ret
       exact ⟨rfl, _, xs, HPM.out, HFI.out, rfl, rfl, HK.out⟩
      ·skip
       refine wp_takeW (.bool false) (exec_bin .neq 3 _ _ _ rfl (.int .i64 (accM i0 x.v.b).k) (.int .i64 15) (.bool false) (by kernel_rfl) (by kernel_rfl) (by kernel_rfl) (by rw [neqN, q3]; try rfl)) (by kernel_rfl) ?_
       try simp only [Act.put, sA, s0, s1]
       refine wp_takeW (.bool false) (by kernel_rfl) (by kernel_rfl) ?_
       try simp only [Act.put, sA, s0, s1]
       refine wp_takeW (.pointer (some ⟨X, 15, none⟩)) (by kernel_rfl) (by kernel_rfl) ?_
       try simp only [Act.put, sA, s0, s1]
       refine wp_takeW (.slice x.aa x.v.ac.length x.ac) (exec_load 33 _ rfl ⟨X, 15, none⟩ (by kernel_rfl) (.slice x.aa x.v.ac.length x.ac) (load_PS15 HX.out)) (by kernel_rfl) ?_
       try simp only [Act.put, sA, s0, s1]
       refine wp_takeW (.int .i64 s) (by kernel_rfl) (by kernel_rfl) ?_
       try simp only [Act.put, sA, s0, s1]
       cases q4 : (decide ((s : Int) ∈ x.v.ac))
       ·skip
        refine wp_callW 36 #[.slice x.aa x.v.ac.length x.ac, .int .i64 s] (by kernel_rfl) _ (has_any _ _ _ x.v.ac _ _ rfl (by have := HLE.out; omega) ((HPM.out.aown k x HXK.out (by simp)).nums rfl)) (by kernel_rfl) ?_
        rintro e wq ⟨rfl, hwq⟩
        rw [hwq]
        clear hwq wq
        refine ⟨.bool false, by rw [q4], ?_⟩
        try simp only [Act.put, sA, s0, s1]
        refine wp_takeW (.bool false) (by kernel_rfl) (by kernel_rfl) ?_
        try simp only [Act.put, sA, s0, s1]
        refine WL.nil ?_
        try simp only [Act.put, sA, s0, s1]
        have HDK : Hid (st.dec.k = 0 ∨ st.dec.k = 4) := by
          rcases HIv.out.dec with h | h
          · exact .inl h.1
          · exact .inr h.1
        have HNX : Hid (∀ d : Cm, ((st.dec.k = 0 ∧ ((x.v.ac.length + 1 < st.f + 1 ∧ d = st.dec) ∨ (st.f + 1 ≤ x.v.ac.length + 1 ∧ d = x.v.c))) ∨ (st.dec.k = 4 ∧ d = st.dec)) → ∀ (a : Option Addr) (c : Nat), Inv ⟨st.f, st.is.set s (accI i0 x.v.b x.v.c), st.ls.set k (x.addA s a c).v, d⟩) := by
          intro d hd a c
          rw [(acc_k15 q3).2.2]
          exact HIv.out.acc1 HXV.out q1 HSI.out (acc_k15 (c := x.v.c) q3).1 (acc_k15 (c := x.v.c) q3).2.1 (by simpa using q4) d hd
        go_upto_region 10 with fail
        refine WL.start ?_
        refine wp_takeW (.pointer (some ⟨X, 15, none⟩)) (by kernel_rfl) (by kernel_rfl) ?_
        try simp only [Act.put, sA, s0, s1]
        refine wp_takeW (.slice x.aa x.v.ac.length x.ac) (exec_load 33 _ rfl ⟨X, 15, none⟩ (by kernel_rfl) (.slice x.aa x.v.ac.length x.ac) (load_PS15 HX.out)) (by kernel_rfl) ?_
        try simp only [Act.put, sA, s0, s1]
        refine wp_takeW (.int .i64 s) (by kernel_rfl) (by kernel_rfl) ?_
        try simp only [Act.put, sA, s0, s1]
        refine wp_runW (.slice (some ⟨wk43.heap.size, 0, none⟩) 1 1) (wk43.alloc (.cells #[.int .i64 s] 3)) (exec_slice2 33 3 _ rfl #[.int .i64 s] (.int .i64 s) (by kernel_rfl) (slice1_int s _)) (by kernel_rfl) ?_
        try simp only [Act.put, sA, s0, s1]
        have HNB : Hid (Box (wk43.alloc (.cells #[.int .i64 s] 3)) wk43.heap.size 3 #[.int .i64 s]) := Box.new _ _ _
        have HPl : Hid (Box (wk43.alloc (.cells #[.int .i64 s] 3)) (p) 69 ((playC st.f bI (st.is.set s (accI i0 x.v.b x.v.c)).length (some ⟨lg, 0, none⟩) xs.length lc st.dec).toArray)) := HPl.out.alloc _
        have HX : Hid (Box (wk43.alloc (.cells #[.int .i64 s] 3)) (X) 87 (x.cells)) := HX.out.alloc _
        have HN : Hid (Box (wk43.alloc (.cells #[.int .i64 s] 3)) (a) 29 ((accI i0 x.v.b x.v.c).cells)) := HN.out.alloc _
        have HMs : Hid (Box (wk43.alloc (.cells #[.int .i64 s] 3)) (b) 52 ((accM i0 x.v.b).cells)) := HMs.out.alloc _
        have HK : Hid (Kept (PSet p bI (some ⟨lg, 0, none⟩) xs) w (wk43.alloc (.cells #[.int .i64 s] 3))) := HK.out.alloc _
        have HPM : Hid (PM w0 (wk43.alloc (.cells #[.int .i64 s] 3)) p bI (some ⟨lg, 0, none⟩) lc ({ st with is := st.is.set s (accI i0 x.v.b x.v.c) }) (xs) (none)) := HPM.out.no ((Kept.refl No _).alloc _)
        have HLT : Hid (X < (wk43.alloc (.cells #[.int .i64 s] 3)).heap.size) := by show _ < _; rw [show (wk43.alloc (.cells #[.int .i64 s] 3)).heap.size = wk43.heap.size + 1 by simp]; exact Nat.lt_succ_of_lt HLT.out
        generalize wk43.alloc (.cells #[.int .i64 s] 3) = wk44 at HPl HX HN HMs HK HLT HNB HPM ⊢
        generalize wk43.heap.size = nb at HNB ⊢
        have happ := fun (A : Act) (h1 : A.eval (Operand.tmp 66) = .slice x.aa x.v.ac.length x.ac) (h2 : A.eval (Operand.tmp 68) = .slice (some ⟨nb, 0, none⟩) 1 1) => exec_append (w := wk44) (a := A) (o := { dst := some 69, op := Op.call { callee := Callee.builtin Builtin.append, args := #[Operand.tmp 66, Operand.tmp 68], argTypes := #[33, 33] }, type := 33, pos := "outright.go:160", after := #[{ on := 1, ground := Ground.data }, { on := 3, ground := Ground.data }], guard := none }) _ _ 33 3 1 8 (.int .i64 0) Try.und33 Try.info3 rfl (by decide) rfl w0.heap.size x.v.ac.length x.ac x.aa (ints x.v.ac) h1 (HPM.out.aown k x HXK.out (by simp)) ⟨nb, 0, none⟩ 1 [.int .i64 s] h2 rfl (fun j u hu => by
          match j, hu with
          | 0, hu => rw [addr_add]; simp at hu; subst hu; exact HNB.out.cell 0
          | j + 1, hu => simp at hu) (by simp [Value.oneCell']) (by have := HLE.out; omega) (by have := HLE.out; omega) (by have := HPM.out.np; have := HPM.out.box.lt; omega)
        refine wp_appW happ (by kernel_rfl) (by kernel_rfl) (by kernel_rfl) ?_
        intro g1 c1 wa hown hka hga
        try simp only [Act.put, sA, s0, s1]
        clear happ
        obtain ⟨hm3, hap, hself⟩ := HPM.out.appA HXK.out hka hga
        have HAP : Hid ((∀ (j : Nat) (z : Px), xs[j]? = some z → j ≠ k → ∀ q, (At x.pa q → ¬ At z.pa q ∧ ¬ At z.aa q) ∧ (At (some ⟨g1, 0, none⟩) q → ¬ At z.pa q ∧ ¬ At z.aa q)) ∧ (∀ q, At x.pa q → ¬ At (some (⟨g1, 0, none⟩ : Addr)) q)) := ⟨hap, hself⟩
        have HNO : Hid (Own 3 1 wa w0.heap.size (some ⟨g1, 0, none⟩) c1 (x.v.ac ++ [(s : Int)]).length (ints (x.v.ac ++ [(s : Int)]))) := by have h := hown; simp only [ints, List.map_append, List.map_cons, List.map_nil, List.length_append, List.length_singleton]; exact h
        have HPl : Hid (Box wa (p) 69 ((playC st.f bI (st.is.set s (accI i0 x.v.b x.v.c)).length (some ⟨lg, 0, none⟩) xs.length lc st.dec).toArray)) := hm3.box
        have HX : Hid (Box wa (X) 87 (x.cells)) := HX.out.kept hka (fun e => own_box (HPM.out.aown k x HXK.out (by simp)) HX.out (by decide) e rfl)
        have HN : Hid (Box wa (a) 29 ((accI i0 x.v.b x.v.c).cells)) := HN.out.kept hka (fun e => own_box (HPM.out.aown k x HXK.out (by simp)) HN.out (by decide) e rfl)
        have HMs : Hid (Box wa (b) 52 ((accM i0 x.v.b).cells)) := HMs.out.kept hka (fun e => own_box (HPM.out.aown k x HXK.out (by simp)) HMs.out (by decide) e rfl)
        have HK : Hid (Kept (PSet p bI (some ⟨lg, 0, none⟩) xs) w wa) := HK.out.trans hka (fun _ e => e) (fun q hq e => .inr (.inr (.inr ⟨k, x, HXK.out, .inr e⟩)))
        have HLT : Hid (X < wa.heap.size) := Nat.lt_of_lt_of_le HLT.out hka.size
        have HPM : Hid (PM w0 wa p bI (some ⟨lg, 0, none⟩) lc ({ st with is := st.is.set s (accI i0 x.v.b x.v.c) }) (xs) (some (k, true))) := hm3
        clear hm3 hap hself hown hka hga HNB
        refine wp_takeW (.pointer (some ⟨X, 15, none⟩)) (by kernel_rfl) (by kernel_rfl) ?_
        try simp only [Act.put, sA, s0, s1]
        refine wp_storeW 33 _ _ rfl ⟨X, 15, none⟩ (.slice (some ⟨g1, 0, none⟩) (x.v.ac.length + 1) c1) (by kernel_rfl) (by kernel_rfl) _ (store_addA HX.out s (some ⟨g1, 0, none⟩) c1) (by kernel_rfl) ?_
        try simp only [Act.put, sA, s0, s1]
        have HLT : Hid (X < (wa.setRow X ((x.addA s (some ⟨g1, 0, none⟩) c1).cells)).heap.size) := by show _ < _; rw [setRow_size]; exact HLT.out
        have HPM : Hid (PM w0 (wa.setRow X ((x.addA s (some ⟨g1, 0, none⟩) c1).cells)) p bI (some ⟨lg, 0, none⟩) lc ({ st with is := st.is.set s (accI i0 x.v.b x.v.c) }) (xs) (some (k, true))) := HPM.out.far HPB.out (Kept.setRow _ _ _) (fun q e => by have e : q = X := e; have := HO.out; omega)
        have HNO : Hid (Own 3 1 (wa.setRow X ((x.addA s (some ⟨g1, 0, none⟩) c1).cells)) w0.heap.size (some ⟨g1, 0, none⟩) c1 (x.v.ac ++ [(s : Int)]).length (ints (x.v.ac ++ [(s : Int)]))) := HNO.out.kept (Kept.setRow _ _ _) (fun q hq e => own_box HNO.out HX.out (by decide) hq e)
        have HPl : Hid (Box (wa.setRow X ((x.addA s (some ⟨g1, 0, none⟩) c1).cells)) (p) 69 ((playC st.f bI (st.is.set s (accI i0 x.v.b x.v.c)).length (some ⟨lg, 0, none⟩) xs.length lc st.dec).toArray)) := HPl.out.rowNe (by have := HO.out; omega) _
        have HX : Hid (Box (wa.setRow X ((x.addA s (some ⟨g1, 0, none⟩) c1).cells)) (X) 87 ((x.addA s (some ⟨g1, 0, none⟩) c1).cells)) := HX.out.setRow _
        have HN : Hid (Box (wa.setRow X ((x.addA s (some ⟨g1, 0, none⟩) c1).cells)) (a) 29 ((accI i0 x.v.b x.v.c).cells)) := HN.out.rowNe (by have := HO.out; omega) _
        have HMs : Hid (Box (wa.setRow X ((x.addA s (some ⟨g1, 0, none⟩) c1).cells)) (b) 52 ((accM i0 x.v.b).cells)) := HMs.out.rowNe (by have := HO.out; omega) _
        have HK : Hid (Kept (PSet p bI (some ⟨lg, 0, none⟩) xs) w (wa.setRow X ((x.addA s (some ⟨g1, 0, none⟩) c1).cells))) := HK.out.newRowS (by have := HO.out; omega) _
        generalize wa.setRow X ((x.addA s (some ⟨g1, 0, none⟩) c1).cells) = wk45 at HPl HX HN HMs HK HLT HPM HNO ⊢
        refine WL.nil ?_
        try simp only [Act.put, sA, s0, s1]
        go_upto_region 11 with fail
        refine wp_region_held_drew (S := fun w' => Box w' (p) 69 ((playC st.f bI (st.is.set s (accI i0 x.v.b x.v.c)).length (some ⟨lg, 0, none⟩) xs.length lc st.dec).toArray) ∧ Box w' (X) 87 ((x.addA s (some ⟨g1, 0, none⟩) c1).cells)) rfl ⟨HPl.out, HX.out⟩ (fun hH => ?_)
        have HPl : Hid (Box wk45.drew (p) 69 ((playC st.f bI (st.is.set s (accI i0 x.v.b x.v.c)).length (some ⟨lg, 0, none⟩) xs.length lc st.dec).toArray)) := HPl.out
        have HX : Hid (Box wk45.drew (X) 87 ((x.addA s (some ⟨g1, 0, none⟩) c1).cells)) := HX.out
        have HN : Hid (Box wk45.drew (a) 29 ((accI i0 x.v.b x.v.c).cells)) := HN.out
        have HMs : Hid (Box wk45.drew (b) 52 ((accM i0 x.v.b).cells)) := HMs.out
        have HK : Hid (Kept (PSet p bI (some ⟨lg, 0, none⟩) xs) w wk45.drew) := HK.out.drew
        have HPM : Hid (PM w0 (wk45.drew) p bI (some ⟨lg, 0, none⟩) lc ({ st with is := st.is.set s (accI i0 x.v.b x.v.c) }) (xs) (some (k, true))) := HPM.out.no (Kept.refl No _).drew
        have HNO : Hid (Own 3 1 (wk45.drew) w0.heap.size (some ⟨g1, 0, none⟩) c1 (x.v.ac ++ [(s : Int)]).length (ints (x.v.ac ++ [(s : Int)]))) := HNO.out.no (Kept.refl No _).drew
        have HLT : Hid (X < wk45.drew.heap.size) := HLT.out
        generalize wk45.drew = wk46 at HPl HX HN HMs HK HLT hH HPM HNO ⊢
        refine any_take (i := 0) (oi := { dst := some 71, op := Op.move (Operand.tmp 0), type := 65, pos := "outright.go:161", after := #[], guard := none }) (v := .pointer (some ⟨p, 0, none⟩)) rfl (by kernel_rfl) (by kernel_rfl) (by kernel_rfl) (fun _ _ _ h => h) (by kernel_rfl) (fun _ _ => by kernel_rfl) hH ?_
        try simp only [Act.put, sA, s0, s1]
        refine any_take (i := 1) (oi := { dst := some 72, op := Op.nilCheck (Operand.tmp 71), type := 0, pos := "outright.go:161", after := #[{ on := 0, ground := Ground.data }], guard := none }) (v := .pointer (some ⟨p, 0, none⟩)) rfl (by kernel_rfl) (by kernel_rfl) (by kernel_rfl) (fun _ _ _ h => h) (by kernel_rfl) (fun _ _ => by kernel_rfl) hH ?_
        try simp only [Act.put, sA, s0, s1]
        refine any_take (i := 2) (oi := { dst := some 73, op := Op.fieldAddr 69 (Operand.tmp 72) 2, type := 0, pos := "outright.go:161", after := #[{ on := 1, ground := Ground.data }], guard := none }) (v := .pointer (some ⟨p, 2, none⟩)) rfl (by kernel_rfl) (by kernel_rfl) (by kernel_rfl) (fun _ _ _ h => h) (by kernel_rfl) (fun _ _ => by kernel_rfl) hH ?_
        try simp only [Act.put, sA, s0, s1]
        refine any_take (i := 3) (oi := { dst := some 74, op := Op.load 67 (Operand.tmp 73), type := 67, pos := "outright.go:161", after := #[{ on := 2, ground := Ground.data }], guard := none }) (v := .slice (some ⟨lg, 0, none⟩) xs.length lc) rfl (by kernel_rfl) (by kernel_rfl) (by kernel_rfl) (fun _ _ _ h => h) (by kernel_rfl) (fun w' hw => exec_load 67 _ rfl ⟨p, 2, none⟩ (by kernel_rfl) (.slice (some ⟨lg, 0, none⟩) xs.length lc) (load_pL hw.1)) hH ?_
        try simp only [Act.put, sA, s0, s1]
        refine any_take (i := 4) (oi := { dst := some 75, op := Op.move (Operand.tmp 1), type := 3, pos := "outright.go:161", after := #[], guard := none }) (v := .int .i64 k) rfl (by kernel_rfl) (by kernel_rfl) (by kernel_rfl) (fun _ _ _ h => h) (by kernel_rfl) (fun _ _ => by kernel_rfl) hH ?_
        try simp only [Act.put, sA, s0, s1]
        refine any_take (i := 5) (oi := { dst := some 76, op := Op.load 87 (Operand.tmp 7), type := 87, pos := "outright.go:161", after := #[], guard := none }) (v := .agg ((x.addA s (some ⟨g1, 0, none⟩) c1).cells)) rfl (by kernel_rfl) (by kernel_rfl) (by kernel_rfl) (fun _ _ _ h => h) (by kernel_rfl) (fun w' hw => exec_load 87 _ rfl ⟨X, 0, none⟩ (by kernel_rfl) (.agg ((x.addA s (some ⟨g1, 0, none⟩) c1).cells)) (load_P hw.2)) hH ?_
        try simp only [Act.put, sA, s0, s1]
        refine any_take (i := 6) (oi := { dst := some 77, op := Op.indexAddr 67 (Operand.tmp 74) (Operand.tmp 75), type := 0, pos := "outright.go:161", after := #[{ on := 3, ground := Ground.data }, { on := 4, ground := Ground.data }, { on := 0, ground := Ground.phase }, { on := 1, ground := Ground.phase }, { on := 2, ground := Ground.phase }, { on := 3, ground := Ground.phase }, { on := 4, ground := Ground.phase }, { on := 5, ground := Ground.phase }], guard := none }) (v := .pointer (some ⟨lg, 0 + k * 16, none⟩)) rfl (by kernel_rfl) (by kernel_rfl) (by kernel_rfl) (fun _ _ _ h => h) (by kernel_rfl) (fun w' hw => exec_ixA 67 16 Try.und67e Try.size67e _ _ rfl lg 0 xs.length lc k (by kernel_rfl) (by kernel_rfl) hkl) hH ?_
        try simp only [Act.put, sA, s0, s1]
        obtain ⟨cs2, hr2, hm2⟩ := HPM.out.setL (y := (x.addA s (some ⟨g1, 0, none⟩) c1)) HXK.out (.inr (.inr rfl)) (HPM.out.pown k x HXK.out (by simp)) HNO.out HAP.out.1 HAP.out.2
        refine any_store (i := 7) (o := { dst := none, op := Op.store 87 (Operand.tmp 77) (Operand.tmp 76), type := 0, pos := "outright.go:161", after := #[{ on := 6, ground := Ground.data }, { on := 5, ground := Ground.data }, { on := 0, ground := Ground.phase }, { on := 1, ground := Ground.phase }, { on := 2, ground := Ground.phase }, { on := 3, ground := Ground.phase }, { on := 4, ground := Ground.phase }, { on := 5, ground := Ground.phase }], guard := none }) rfl (by kernel_rfl) (by kernel_rfl) 87 _ _ rfl ⟨lg, 0 + k * 16, none⟩ (.agg ((x.addA s (some ⟨g1, 0, none⟩) c1).cells)) (by kernel_rfl) (by kernel_rfl) hr2 (⟨hH.1.rowNe (by have := HO.out; omega) _, hH.2.rowNe (by have := HO.out; omega) _⟩) (fun hH => ?_)
        have HX : Hid (Box (wk46.setRow lg cs2) (X) 87 ((x.addA s (some ⟨g1, 0, none⟩) c1).cells)) := HX.out.rowNe (by have := HO.out; omega) _
        have HN : Hid (Box (wk46.setRow lg cs2) (a) 29 ((accI i0 x.v.b x.v.c).cells)) := HN.out.rowNe (by have := HO.out; omega) _
        have HMs : Hid (Box (wk46.setRow lg cs2) (b) 52 ((accM i0 x.v.b).cells)) := HMs.out.rowNe (by have := HO.out; omega) _
        have HK : Hid (Kept (PSet p bI (some ⟨lg, 0, none⟩) xs) w (wk46.setRow lg cs2)) := HK.out.inRow (.inr (.inr (.inl ⟨_, rfl, rfl⟩))) _
        have HLT : Hid (X < (wk46.setRow lg cs2).heap.size) := by show _ < _; rw [setRow_size]; exact HLT.out
        have HPM : Hid (PM w0 (wk46.setRow lg cs2) p bI (some ⟨lg, 0, none⟩) lc ((⟨st.f, st.is.set s (accI i0 x.v.b x.v.c), st.ls.set k (x.addA s (some ⟨g1, 0, none⟩) c1).v, st.dec⟩ : PS)) (xs.set k (x.addA s (some ⟨g1, 0, none⟩) c1)) (none)) := hm2
        have HPl : Hid (Box (wk46.setRow lg cs2) (p) 69 ((playC st.f bI (st.is.set s (accI i0 x.v.b x.v.c)).length (some ⟨lg, 0, none⟩) (xs.set k (x.addA s (some ⟨g1, 0, none⟩) c1)).length lc st.dec).toArray)) := hm2.box
        clear hr2 hm2
        generalize wk46.setRow lg cs2 = wk47 at HPl HX HN HMs HK HLT HPM hH ⊢
        try simp only [Act.put, sA, s0, s1]
        refine wpAnyH_done (by kernel_rfl) ?_ _
        try simp only [Act.put, sA, s0, s1]
        go_upto_region 12 with fail
        refine wp_region_held_drew (S := fun w' => Box w' (p) 69 ((playC st.f bI (st.is.set s (accI i0 x.v.b x.v.c)).length (some ⟨lg, 0, none⟩) (xs.set k (x.addA s (some ⟨g1, 0, none⟩) c1)).length lc st.dec).toArray) ∧ Box w' (X) 87 ((x.addA s (some ⟨g1, 0, none⟩) c1).cells)) rfl ⟨HPl.out, HX.out⟩ (fun hH => ?_)
        have HPl : Hid (Box wk47.drew (p) 69 ((playC st.f bI (st.is.set s (accI i0 x.v.b x.v.c)).length (some ⟨lg, 0, none⟩) (xs.set k (x.addA s (some ⟨g1, 0, none⟩) c1)).length lc st.dec).toArray)) := HPl.out
        have HX : Hid (Box wk47.drew (X) 87 ((x.addA s (some ⟨g1, 0, none⟩) c1).cells)) := HX.out
        have HN : Hid (Box wk47.drew (a) 29 ((accI i0 x.v.b x.v.c).cells)) := HN.out
        have HMs : Hid (Box wk47.drew (b) 52 ((accM i0 x.v.b).cells)) := HMs.out
        have HK : Hid (Kept (PSet p bI (some ⟨lg, 0, none⟩) xs) w wk47.drew) := HK.out.drew
        have HPM : Hid (PM w0 (wk47.drew) p bI (some ⟨lg, 0, none⟩) lc ((⟨st.f, st.is.set s (accI i0 x.v.b x.v.c), st.ls.set k (x.addA s (some ⟨g1, 0, none⟩) c1).v, st.dec⟩ : PS)) (xs.set k (x.addA s (some ⟨g1, 0, none⟩) c1)) (none)) := HPM.out.no (Kept.refl No _).drew
        have HLT : Hid (X < wk47.drew.heap.size) := HLT.out
        generalize wk47.drew = wk48 at HPl HX HN HMs HK HLT hH HPM ⊢
        refine any_take (i := 0) (oi := { dst := some 78, op := Op.fieldAddr 87 (Operand.tmp 7) 5, type := 0, pos := "outright.go:162", after := #[], guard := none }) (v := .pointer (some ⟨X, 15, none⟩)) rfl (by kernel_rfl) (by kernel_rfl) (by kernel_rfl) (fun _ _ _ h => h) (by kernel_rfl) (fun _ _ => by kernel_rfl) hH ?_
        try simp only [Act.put, sA, s0, s1]
        refine any_take (i := 1) (oi := { dst := some 79, op := Op.load 33 (Operand.tmp 78), type := 33, pos := "outright.go:162", after := #[{ on := 0, ground := Ground.data }], guard := none }) (v := .slice (some ⟨g1, 0, none⟩) (x.v.ac ++ [(s : Int)]).length c1) rfl (by kernel_rfl) (by kernel_rfl) (by kernel_rfl) (fun _ _ _ h => h) (by kernel_rfl) (fun w' hw => exec_load 33 _ rfl ⟨X, 15, none⟩ (by kernel_rfl) (.slice (some ⟨g1, 0, none⟩) (x.v.ac ++ [(s : Int)]).length c1) (load_PS15 hw.2)) hH ?_
        try simp only [Act.put, sA, s0, s1]
        refine any_take (i := 2) (oi := { dst := some 80, op := Op.call { callee := Callee.builtin Builtin.len, args := #[Operand.tmp 79], argTypes := #[33] }, type := 3, pos := "outright.go:162", after := #[{ on := 1, ground := Ground.data }], guard := none }) (v := .int .i64 ((x.v.ac ++ [(s : Int)]).length : Int)) rfl (by kernel_rfl) (by kernel_rfl) (by kernel_rfl) (fun _ _ _ h => h) (by kernel_rfl) (fun _ _ => by kernel_rfl) hH ?_
        try simp only [Act.put, sA, s0, s1]
        refine any_take (i := 3) (oi := { dst := some 81, op := Op.move (Operand.tmp 0), type := 65, pos := "outright.go:162", after := #[], guard := none }) (v := .pointer (some ⟨p, 0, none⟩)) rfl (by kernel_rfl) (by kernel_rfl) (by kernel_rfl) (fun _ _ _ h => h) (by kernel_rfl) (fun _ _ => by kernel_rfl) hH ?_
        try simp only [Act.put, sA, s0, s1]
        refine any_take (i := 4) (oi := { dst := some 82, op := Op.nilCheck (Operand.tmp 81), type := 0, pos := "outright.go:162", after := #[{ on := 3, ground := Ground.data }], guard := none }) (v := .pointer (some ⟨p, 0, none⟩)) rfl (by kernel_rfl) (by kernel_rfl) (by kernel_rfl) (fun _ _ _ h => h) (by kernel_rfl) (fun _ _ => by kernel_rfl) hH ?_
        try simp only [Act.put, sA, s0, s1]
        refine any_take (i := 5) (oi := { dst := some 83, op := Op.fieldAddr 69 (Operand.tmp 82) 0, type := 0, pos := "outright.go:162", after := #[{ on := 4, ground := Ground.data }], guard := none }) (v := .pointer (some ⟨p, 0, none⟩)) rfl (by kernel_rfl) (by kernel_rfl) (by kernel_rfl) (fun _ _ _ h => h) (by kernel_rfl) (fun _ _ => by kernel_rfl) hH ?_
        try simp only [Act.put, sA, s0, s1]
        refine any_take (i := 6) (oi := { dst := some 84, op := Op.load 3 (Operand.tmp 83), type := 3, pos := "outright.go:162", after := #[{ on := 5, ground := Ground.data }], guard := none }) (v := .int .i64 (st.f : Int)) rfl (by kernel_rfl) (by kernel_rfl) (by kernel_rfl) (fun _ _ _ h => h) (by kernel_rfl) (fun w' hw => exec_load 3 _ rfl ⟨p, 0, none⟩ (by kernel_rfl) (.int .i64 (st.f : Int)) (load_pF hw.1)) hH ?_
        try simp only [Act.put, sA, s0, s1]
        refine any_take (i := 7) (oi := { dst := some 85, op := Op.binOp BinOp.add 3 (Operand.tmp 84) (Operand.const (Value.int IntKind.i64 1)) 3, type := 3, pos := "outright.go:162", after := #[{ on := 6, ground := Ground.data }], guard := none }) (v := .int .i64 ((st.f : Int) + 1)) rfl (by kernel_rfl) (by kernel_rfl) (by kernel_rfl) (fun _ _ _ h => h) (by kernel_rfl) (fun w' hw => exec_bin .add 3 _ _ _ rfl (.int .i64 (st.f : Int)) (.int .i64 1) (.int .i64 ((st.f : Int) + 1)) (by kernel_rfl) (by kernel_rfl) (by kernel_rfl) (addN _ _ (by omega) (by omega))) hH ?_
        try simp only [Act.put, sA, s0, s1]
        cases q5 : (decide (((x.v.ac ++ [(s : Int)]).length : Int) < (st.f : Int) + 1))
        ·skip
         refine any_take (i := 8) (oi := { dst := some 86, op := Op.binOp BinOp.lss 3 (Operand.tmp 80) (Operand.tmp 85) 3, type := 4, pos := "outright.go:162", after := #[{ on := 2, ground := Ground.data }, { on := 7, ground := Ground.data }], guard := none }) (v := .bool false) rfl (by kernel_rfl) (by kernel_rfl) (by kernel_rfl) (fun _ _ _ h => h) (by kernel_rfl) (fun w' hw => exec_bin .lss 3 _ _ _ rfl (.int .i64 ((x.v.ac ++ [(s : Int)]).length : Int)) (.int .i64 ((st.f : Int) + 1)) (.bool false) (by kernel_rfl) (by kernel_rfl) (by kernel_rfl) (by rw [lssN, q5]; try rfl)) hH ?_
         try simp only [Act.put, sA, s0, s1]
         refine wpAnyH_done (by kernel_rfl) ?_ _
         try simp only [Act.put, sA, s0, s1]
         have HLN : Hid (st.f + 1 ≤ x.v.ac.length + 1) := by have h := q5; simp at h; show _ ≤ _; omega
         go_upto_region 14 with fail
         refine WL.start ?_
         refine wp_takeW (.pointer (some ⟨p, 0, none⟩)) (by kernel_rfl) (by kernel_rfl) ?_
         try simp only [Act.put, sA, s0, s1]
         refine wp_takeW (.pointer (some ⟨p, 0, none⟩)) (by kernel_rfl) (by kernel_rfl) ?_
         try simp only [Act.put, sA, s0, s1]
         refine wp_takeW (.pointer (some ⟨p, 3, none⟩)) (by kernel_rfl) (by kernel_rfl) ?_
         try simp only [Act.put, sA, s0, s1]
         refine wp_takeW (.pointer (some ⟨p, 3, none⟩)) (by kernel_rfl) (by kernel_rfl) ?_
         try simp only [Act.put, sA, s0, s1]
         refine wp_takeW (.int .i64 st.dec.k) (exec_load 3 _ rfl ⟨p, 3, none⟩ (by kernel_rfl) (.int .i64 st.dec.k) (load_pK HPl.out)) (by kernel_rfl) ?_
         try simp only [Act.put, sA, s0, s1]
         cases q6 : (st.dec.k == 0)
         ·skip
          refine wp_takeW (.bool false) (exec_bin .eql 3 _ _ _ rfl (.int .i64 st.dec.k) (.int .i64 0) (.bool false) (by kernel_rfl) (by kernel_rfl) (by kernel_rfl) (by rw [eqlN, q6]; try rfl)) (by kernel_rfl) ?_
          try simp only [Act.put, sA, s0, s1]
          refine WL.nil ?_
          try simp only [Act.put, sA, s0, s1]
          have HD4 : Hid (st.dec.k = 4) := by
            rcases HDK.out with e | e
            · simp [e] at q6
            · exact e
          have HDX : Hid (st.dec = x.v.c) := by
            have hv := HNX.out st.dec (.inr ⟨HD4.out, rfl⟩) (some ⟨g1, 0, none⟩) c1
            rcases hv.dec with e | ⟨-, j, y, hy, hm, hc⟩
            · have e : st.dec.k = 0 := e.1
              rw [HD4.out] at e; cases e
            · have hk := set_here (x := (x.addA s (some ⟨g1, 0, none⟩) c1).v) HXV.out
              have := hv.same hy hk hm (by show _ ≤ (x.v.ac ++ [(s : Int)]).length; rw [List.length_append, List.length_singleton]; exact HLN.out)
              have hc : y.c = st.dec := hc
              rw [← hc, ← this]; rfl
          go_upto_region 16 with fail
          refine wp_region_held_drew (S := fun w' => Box w' (p) 69 ((playC st.f bI (st.is.set s (accI i0 x.v.b x.v.c)).length (some ⟨lg, 0, none⟩) (xs.set k (x.addA s (some ⟨g1, 0, none⟩) c1)).length lc st.dec).toArray) ∧ Box w' (X) 87 ((x.addA s (some ⟨g1, 0, none⟩) c1).cells)) rfl ⟨HPl.out, HX.out⟩ (fun hH => ?_)
          have HPl : Hid (Box wk48.drew (p) 69 ((playC st.f bI (st.is.set s (accI i0 x.v.b x.v.c)).length (some ⟨lg, 0, none⟩) (xs.set k (x.addA s (some ⟨g1, 0, none⟩) c1)).length lc st.dec).toArray)) := HPl.out
          have HX : Hid (Box wk48.drew (X) 87 ((x.addA s (some ⟨g1, 0, none⟩) c1).cells)) := HX.out
          have HN : Hid (Box wk48.drew (a) 29 ((accI i0 x.v.b x.v.c).cells)) := HN.out
          have HMs : Hid (Box wk48.drew (b) 52 ((accM i0 x.v.b).cells)) := HMs.out
          have HK : Hid (Kept (PSet p bI (some ⟨lg, 0, none⟩) xs) w wk48.drew) := HK.out.drew
          have HPM : Hid (PM w0 (wk48.drew) p bI (some ⟨lg, 0, none⟩) lc ((⟨st.f, st.is.set s (accI i0 x.v.b x.v.c), st.ls.set k (x.addA s (some ⟨g1, 0, none⟩) c1).v, st.dec⟩ : PS)) (xs.set k (x.addA s (some ⟨g1, 0, none⟩) c1)) (none)) := HPM.out.no (Kept.refl No _).drew
          have HLT : Hid (X < wk48.drew.heap.size) := HLT.out
          generalize wk48.drew = wk49 at HPl HX HN HMs HK HLT hH HPM ⊢
          refine any_take (i := 0) (oi := { dst := some 98, op := Op.move (Operand.tmp 0), type := 65, pos := "outright.go:168", after := #[], guard := none }) (v := .pointer (some ⟨p, 0, none⟩)) rfl (by kernel_rfl) (by kernel_rfl) (by kernel_rfl) (fun _ _ _ h => h) (by kernel_rfl) (fun _ _ => by kernel_rfl) hH ?_
          try simp only [Act.put, sA, s0, s1]
          refine any_take (i := 1) (oi := { dst := some 99, op := Op.nilCheck (Operand.tmp 98), type := 0, pos := "outright.go:168", after := #[{ on := 0, ground := Ground.data }], guard := none }) (v := .pointer (some ⟨p, 0, none⟩)) rfl (by kernel_rfl) (by kernel_rfl) (by kernel_rfl) (fun _ _ _ h => h) (by kernel_rfl) (fun _ _ => by kernel_rfl) hH ?_
          try simp only [Act.put, sA, s0, s1]
          refine any_take (i := 2) (oi := { dst := some 100, op := Op.fieldAddr 69 (Operand.tmp 99) 3, type := 0, pos := "outright.go:168", after := #[{ on := 1, ground := Ground.data }], guard := none }) (v := .pointer (some ⟨p, 3, none⟩)) rfl (by kernel_rfl) (by kernel_rfl) (by kernel_rfl) (fun _ _ _ h => h) (by kernel_rfl) (fun _ _ => by kernel_rfl) hH ?_
          try simp only [Act.put, sA, s0, s1]
          refine any_take (i := 3) (oi := { dst := some 101, op := Op.load 27 (Operand.tmp 100), type := 27, pos := "outright.go:168", after := #[{ on := 2, ground := Ground.data }], guard := none }) (v := .agg st.dec.cells) rfl (by kernel_rfl) (by kernel_rfl) (by kernel_rfl) (fun _ _ _ h => h) (by kernel_rfl) (fun w' hw => exec_load 27 _ rfl ⟨p, 3, none⟩ (by kernel_rfl) (.agg st.dec.cells) (load_pD hw.1)) hH ?_
          try simp only [Act.put, sA, s0, s1]
          refine any_take (i := 4) (oi := { dst := some 102, op := Op.fieldAddr 87 (Operand.tmp 7) 3, type := 0, pos := "outright.go:168", after := #[], guard := none }) (v := .pointer (some ⟨X, 5, none⟩)) rfl (by kernel_rfl) (by kernel_rfl) (by kernel_rfl) (fun _ _ _ h => h) (by kernel_rfl) (fun _ _ => by kernel_rfl) hH ?_
          try simp only [Act.put, sA, s0, s1]
          refine any_take (i := 5) (oi := { dst := some 103, op := Op.load 27 (Operand.tmp 102), type := 27, pos := "outright.go:168", after := #[{ on := 4, ground := Ground.data }], guard := none }) (v := .agg x.v.c.cells) rfl (by kernel_rfl) (by kernel_rfl) (by kernel_rfl) (fun _ _ _ h => h) (by kernel_rfl) (fun w' hw => exec_load 27 _ rfl ⟨X, 5, none⟩ (by kernel_rfl) (.agg x.v.c.cells) (load_PC (x := (x.addA s (some ⟨g1, 0, none⟩) c1)) hw.2)) hH ?_
          try simp only [Act.put, sA, s0, s1]
          refine any_take (i := 6) (oi := { dst := some 104, op := Op.binOp BinOp.eql 27 (Operand.tmp 101) (Operand.tmp 103) 27, type := 4, pos := "outright.go:168", after := #[{ on := 3, ground := Ground.data }, { on := 5, ground := Ground.data }], guard := none }) (v := .bool true) rfl (by kernel_rfl) (by kernel_rfl) (by kernel_rfl) (fun _ _ _ h => h) (by kernel_rfl) (fun w' hw => exec_bin .eql 27 _ _ _ rfl (.agg st.dec.cells) (.agg x.v.c.cells) (.bool true) (by kernel_rfl) (by kernel_rfl) (guard_C _ (.inl rfl) _ _ _ _ _) (by rw [eqlC, HDX.out, eqC_refl])) hH ?_
          try simp only [Act.put, sA, s0, s1]
          refine any_take (i := 7) (oi := { dst := some 6, op := Op.assign (Operand.tmp 104), type := 4, pos := "outright.go:168", after := #[{ on := 6, ground := Ground.data }, { on := 0, ground := Ground.phase }, { on := 1, ground := Ground.phase }, { on := 2, ground := Ground.phase }, { on := 3, ground := Ground.phase }, { on := 4, ground := Ground.phase }, { on := 5, ground := Ground.phase }, { on := 6, ground := Ground.phase }], guard := none }) (v := .bool true) rfl (by kernel_rfl) (by kernel_rfl) (by kernel_rfl) (fun _ _ _ h => h) (by kernel_rfl) (fun _ _ => by kernel_rfl) hH ?_
          try simp only [Act.put, sA, s0, s1]
          refine wpAnyH_done (by kernel_rfl) ?_ _
          try simp only [Act.put, sA, s0, s1]
          have HFI : Hid (Inv ⟨st.f, st.is.set s (accI i0 x.v.b x.v.c), st.ls.set k (x.addA s (some ⟨g1, 0, none⟩) c1).v, st.dec⟩) := HNX.out st.dec (.inr ⟨HD4.out, rfl⟩) _ _
          go_wp2
          go_ret
          exact ⟨rfl, _, xs.set k (x.addA s (some ⟨g1, 0, none⟩) c1), HPM.out, HFI.out, rfl, by simp, HK.out⟩
         ·skip
          refine wp_takeW (.bool true) (exec_bin .eql 3 _ _ _ rfl (.int .i64 st.dec.k) (.int .i64 0) (.bool true) (by kernel_rfl) (by kernel_rfl) (by kernel_rfl) (by rw [eqlN, q6]; try rfl)) (by kernel_rfl) ?_
          try simp only [Act.put, sA, s0, s1]
          refine WL.nil ?_
          try simp only [Act.put, sA, s0, s1]
          go_upto_region 15 with fail
          refine WL.start ?_
          refine wp_takeW (.pointer (some ⟨p, 0, none⟩)) (by kernel_rfl) (by kernel_rfl) ?_
          try simp only [Act.put, sA, s0, s1]
          refine wp_takeW (.pointer (some ⟨X, 5, none⟩)) (by kernel_rfl) (by kernel_rfl) ?_
          try simp only [Act.put, sA, s0, s1]
          refine wp_takeW (.agg x.v.c.cells) (exec_load 27 _ rfl ⟨X, 5, none⟩ (by kernel_rfl) (.agg x.v.c.cells) (load_PC (x := (x.addA s (some ⟨g1, 0, none⟩) c1)) HX.out)) (by kernel_rfl) ?_
          try simp only [Act.put, sA, s0, s1]
          refine wp_takeW (.pointer (some ⟨p, 0, none⟩)) (by kernel_rfl) (by kernel_rfl) ?_
          try simp only [Act.put, sA, s0, s1]
          refine wp_takeW (.pointer (some ⟨p, 3, none⟩)) (by kernel_rfl) (by kernel_rfl) ?_
          try simp only [Act.put, sA, s0, s1]
          obtain ⟨cs3, hr3, hm4⟩ := HPM.out.setD x.v.c
          refine wp_storeW 27 _ _ rfl ⟨p, 3, none⟩ (.agg x.v.c.cells) (by kernel_rfl) (by kernel_rfl) _ hr3 (by kernel_rfl) ?_
          try simp only [Act.put, sA, s0, s1]
          have HX : Hid (Box (wk48.setRow p cs3) (X) 87 ((x.addA s (some ⟨g1, 0, none⟩) c1).cells)) := HX.out.rowNe (by have := HO.out; omega) _
          have HN : Hid (Box (wk48.setRow p cs3) (a) 29 ((accI i0 x.v.b x.v.c).cells)) := HN.out.rowNe (by have := HO.out; omega) _
          have HMs : Hid (Box (wk48.setRow p cs3) (b) 52 ((accM i0 x.v.b).cells)) := HMs.out.rowNe (by have := HO.out; omega) _
          have HK : Hid (Kept (PSet p bI (some ⟨lg, 0, none⟩) xs) w (wk48.setRow p cs3)) := HK.out.inRow (.inl rfl) _
          have HLT : Hid (X < (wk48.setRow p cs3).heap.size) := by show _ < _; rw [setRow_size]; exact HLT.out
          have HPM : Hid (PM w0 (wk48.setRow p cs3) p bI (some ⟨lg, 0, none⟩) lc ((⟨st.f, st.is.set s (accI i0 x.v.b x.v.c), st.ls.set k (x.addA s (some ⟨g1, 0, none⟩) c1).v, x.v.c⟩ : PS)) (xs.set k (x.addA s (some ⟨g1, 0, none⟩) c1)) (none)) := hm4
          have HPl : Hid (Box (wk48.setRow p cs3) (p) 69 ((playC st.f bI (st.is.set s (accI i0 x.v.b x.v.c)).length (some ⟨lg, 0, none⟩) (xs.set k (x.addA s (some ⟨g1, 0, none⟩) c1)).length lc x.v.c).toArray)) := hm4.box
          clear hr3 hm4
          generalize wk48.setRow p cs3 = wk50 at HPl HX HN HMs HK HLT HPM ⊢
          refine WL.nil ?_
          try simp only [Act.put, sA, s0, s1]
          go_upto_region 16 with fail
          refine wp_region_held_drew (S := fun w' => Box w' (p) 69 ((playC st.f bI (st.is.set s (accI i0 x.v.b x.v.c)).length (some ⟨lg, 0, none⟩) (xs.set k (x.addA s (some ⟨g1, 0, none⟩) c1)).length lc x.v.c).toArray) ∧ Box w' (X) 87 ((x.addA s (some ⟨g1, 0, none⟩) c1).cells)) rfl ⟨HPl.out, HX.out⟩ (fun hH => ?_)
          have HPl : Hid (Box wk50.drew (p) 69 ((playC st.f bI (st.is.set s (accI i0 x.v.b x.v.c)).length (some ⟨lg, 0, none⟩) (xs.set k (x.addA s (some ⟨g1, 0, none⟩) c1)).length lc x.v.c).toArray)) := HPl.out
          have HX : Hid (Box wk50.drew (X) 87 ((x.addA s (some ⟨g1, 0, none⟩) c1).cells)) := HX.out
          have HN : Hid (Box wk50.drew (a) 29 ((accI i0 x.v.b x.v.c).cells)) := HN.out
          have HMs : Hid (Box wk50.drew (b) 52 ((accM i0 x.v.b).cells)) := HMs.out
          have HK : Hid (Kept (PSet p bI (some ⟨lg, 0, none⟩) xs) w wk50.drew) := HK.out.drew
          have HPM : Hid (PM w0 (wk50.drew) p bI (some ⟨lg, 0, none⟩) lc ((⟨st.f, st.is.set s (accI i0 x.v.b x.v.c), st.ls.set k (x.addA s (some ⟨g1, 0, none⟩) c1).v, x.v.c⟩ : PS)) (xs.set k (x.addA s (some ⟨g1, 0, none⟩) c1)) (none)) := HPM.out.no (Kept.refl No _).drew
          have HLT : Hid (X < wk50.drew.heap.size) := HLT.out
          generalize wk50.drew = wk51 at HPl HX HN HMs HK HLT hH HPM ⊢
          refine any_take (i := 0) (oi := { dst := some 98, op := Op.move (Operand.tmp 0), type := 65, pos := "outright.go:168", after := #[], guard := none }) (v := .pointer (some ⟨p, 0, none⟩)) rfl (by kernel_rfl) (by kernel_rfl) (by kernel_rfl) (fun _ _ _ h => h) (by kernel_rfl) (fun _ _ => by kernel_rfl) hH ?_
          try simp only [Act.put, sA, s0, s1]
          refine any_take (i := 1) (oi := { dst := some 99, op := Op.nilCheck (Operand.tmp 98), type := 0, pos := "outright.go:168", after := #[{ on := 0, ground := Ground.data }], guard := none }) (v := .pointer (some ⟨p, 0, none⟩)) rfl (by kernel_rfl) (by kernel_rfl) (by kernel_rfl) (fun _ _ _ h => h) (by kernel_rfl) (fun _ _ => by kernel_rfl) hH ?_
          try simp only [Act.put, sA, s0, s1]
          refine any_take (i := 2) (oi := { dst := some 100, op := Op.fieldAddr 69 (Operand.tmp 99) 3, type := 0, pos := "outright.go:168", after := #[{ on := 1, ground := Ground.data }], guard := none }) (v := .pointer (some ⟨p, 3, none⟩)) rfl (by kernel_rfl) (by kernel_rfl) (by kernel_rfl) (fun _ _ _ h => h) (by kernel_rfl) (fun _ _ => by kernel_rfl) hH ?_
          try simp only [Act.put, sA, s0, s1]
          refine any_take (i := 3) (oi := { dst := some 101, op := Op.load 27 (Operand.tmp 100), type := 27, pos := "outright.go:168", after := #[{ on := 2, ground := Ground.data }], guard := none }) (v := .agg x.v.c.cells) rfl (by kernel_rfl) (by kernel_rfl) (by kernel_rfl) (fun _ _ _ h => h) (by kernel_rfl) (fun w' hw => exec_load 27 _ rfl ⟨p, 3, none⟩ (by kernel_rfl) (.agg x.v.c.cells) (load_pD hw.1)) hH ?_
          try simp only [Act.put, sA, s0, s1]
          refine any_take (i := 4) (oi := { dst := some 102, op := Op.fieldAddr 87 (Operand.tmp 7) 3, type := 0, pos := "outright.go:168", after := #[], guard := none }) (v := .pointer (some ⟨X, 5, none⟩)) rfl (by kernel_rfl) (by kernel_rfl) (by kernel_rfl) (fun _ _ _ h => h) (by kernel_rfl) (fun _ _ => by kernel_rfl) hH ?_
          try simp only [Act.put, sA, s0, s1]
          refine any_take (i := 5) (oi := { dst := some 103, op := Op.load 27 (Operand.tmp 102), type := 27, pos := "outright.go:168", after := #[{ on := 4, ground := Ground.data }], guard := none }) (v := .agg x.v.c.cells) rfl (by kernel_rfl) (by kernel_rfl) (by kernel_rfl) (fun _ _ _ h => h) (by kernel_rfl) (fun w' hw => exec_load 27 _ rfl ⟨X, 5, none⟩ (by kernel_rfl) (.agg x.v.c.cells) (load_PC (x := (x.addA s (some ⟨g1, 0, none⟩) c1)) hw.2)) hH ?_
          try simp only [Act.put, sA, s0, s1]
          refine any_take (i := 6) (oi := { dst := some 104, op := Op.binOp BinOp.eql 27 (Operand.tmp 101) (Operand.tmp 103) 27, type := 4, pos := "outright.go:168", after := #[{ on := 3, ground := Ground.data }, { on := 5, ground := Ground.data }], guard := none }) (v := .bool true) rfl (by kernel_rfl) (by kernel_rfl) (by kernel_rfl) (fun _ _ _ h => h) (by kernel_rfl) (fun w' hw => exec_bin .eql 27 _ _ _ rfl (.agg x.v.c.cells) (.agg x.v.c.cells) (.bool true) (by kernel_rfl) (by kernel_rfl) (guard_C _ (.inl rfl) _ _ _ _ _) (by rw [eqlC, eqC_refl])) hH ?_
          try simp only [Act.put, sA, s0, s1]
          refine any_take (i := 7) (oi := { dst := some 6, op := Op.assign (Operand.tmp 104), type := 4, pos := "outright.go:168", after := #[{ on := 6, ground := Ground.data }, { on := 0, ground := Ground.phase }, { on := 1, ground := Ground.phase }, { on := 2, ground := Ground.phase }, { on := 3, ground := Ground.phase }, { on := 4, ground := Ground.phase }, { on := 5, ground := Ground.phase }, { on := 6, ground := Ground.phase }], guard := none }) (v := .bool true) rfl (by kernel_rfl) (by kernel_rfl) (by kernel_rfl) (fun _ _ _ h => h) (by kernel_rfl) (fun _ _ => by kernel_rfl) hH ?_
          try simp only [Act.put, sA, s0, s1]
          refine wpAnyH_done (by kernel_rfl) ?_ _
          try simp only [Act.put, sA, s0, s1]
          have HFI : Hid (Inv ⟨st.f, st.is.set s (accI i0 x.v.b x.v.c), st.ls.set k (x.addA s (some ⟨g1, 0, none⟩) c1).v, x.v.c⟩) := HNX.out x.v.c (.inl ⟨by simpa using q6, .inr ⟨HLN.out, rfl⟩⟩) _ _
          go_wp2
          go_ret
          exact ⟨rfl, _, xs.set k (x.addA s (some ⟨g1, 0, none⟩) c1), HPM.out, HFI.out, rfl, by simp, HK.out⟩
        ·skip
         refine any_take (i := 8) (oi := { dst := some 86, op := Op.binOp BinOp.lss 3 (Operand.tmp 80) (Operand.tmp 85) 3, type := 4, pos := "outright.go:162", after := #[{ on := 2, ground := Ground.data }, { on := 7, ground := Ground.data }], guard := none }) (v := .bool true) rfl (by kernel_rfl) (by kernel_rfl) (by kernel_rfl) (fun _ _ _ h => h) (by kernel_rfl) (fun w' hw => exec_bin .lss 3 _ _ _ rfl (.int .i64 ((x.v.ac ++ [(s : Int)]).length : Int)) (.int .i64 ((st.f : Int) + 1)) (.bool true) (by kernel_rfl) (by kernel_rfl) (by kernel_rfl) (by rw [lssN, q5]; try rfl)) hH ?_
         try simp only [Act.put, sA, s0, s1]
         refine wpAnyH_done (by kernel_rfl) ?_ _
         try simp only [Act.put, sA, s0, s1]
         have hlen : x.v.ac.length + 1 < st.f + 1 := by have h := q5; simp at h; omega
         have HFI : Hid (Inv ⟨st.f, st.is.set s (accI i0 x.v.b x.v.c), st.ls.set k (x.addA s (some ⟨g1, 0, none⟩) c1).v, st.dec⟩) := HNX.out st.dec (by rcases HDK.out with h | h; exact .inl ⟨h, .inl ⟨hlen, rfl⟩⟩; exact .inr ⟨h, rfl⟩) _ _
         go_wp2
         go_ret
         exact ⟨rfl, _, xs.set k (x.addA s (some ⟨g1, 0, none⟩) c1), HPM.out, HFI.out, rfl, by simp, HK.out⟩
       ·skip
        refine wp_callW 36 #[.slice x.aa x.v.ac.length x.ac, .int .i64 s] (by kernel_rfl) _ (has_any _ _ _ x.v.ac _ _ rfl (by have := HLE.out; omega) ((HPM.out.aown k x HXK.out (by simp)).nums rfl)) (by kernel_rfl) ?_
        rintro e wq ⟨rfl, hwq⟩
        rw [hwq]
        clear hwq wq
        refine ⟨.bool true, by rw [q4], ?_⟩
        try simp only [Act.put, sA, s0, s1]
        refine wp_takeW (.bool true) (by kernel_rfl) (by kernel_rfl) ?_
        try simp only [Act.put, sA, s0, s1]
        refine WL.nil ?_
        try simp only [Act.put, sA, s0, s1]
        have HFI : Hid (Inv ({ st with is := st.is.set s (accI i0 x.v.b x.v.c) } : PS)) := by rw [(acc_k15 q3).2.2]; exact HIv.out.acc0 HXV.out HSI.out (acc_k15 (c := x.v.c) q3).1 (acc_k15 (c := x.v.c) q3).2.1 (by simpa using q4)
        go_wp2
        go_ret
        exact ⟨rfl, _, xs, HPM.out, HFI.out, rfl, rfl, HK.out⟩
     ·skip
      refine any_take (i := 2) (oi := { dst := some 46, op := Op.binOp BinOp.eql 3 (Operand.tmp 45) (Operand.const (Value.int IntKind.i64 16)) 3, type := 4, pos := "outright.go:154", after := #[{ on := 1, ground := Ground.data }], guard := none }) (v := .bool true) rfl (by kernel_rfl) (by kernel_rfl) (by kernel_rfl) (fun _ _ _ h => h) (by kernel_rfl) (fun w' hw => exec_bin .eql 3 _ _ _ rfl (.int .i64 (accM i0 x.v.b).k) (.int .i64 16) (.bool true) (by kernel_rfl) (by kernel_rfl) (by kernel_rfl) (by rw [eqlN, q2]; try rfl)) hH ?_
      try simp only [Act.put, sA, s0, s1]
      refine any_take (i := 3) (oi := { dst := some 47, op := Op.move (Operand.tmp 46), type := 4, pos := "outright.go:154", after := #[{ on := 2, ground := Ground.data }], guard := none }) (v := .bool true) rfl (by kernel_rfl) (by kernel_rfl) (by kernel_rfl) (fun _ _ _ h => h) (by kernel_rfl) (fun _ _ => by kernel_rfl) hH ?_
      try simp only [Act.put, sA, s0, s1]
      refine any_take (i := 4) (oi := { dst := some 48, op := Op.fieldAddr 52 (Operand.tmp 9) 9, type := 0, pos := "outright.go:154", after := #[{ on := 3, ground := Ground.guard }], guard := some (3, true) }) (v := .pointer (some ⟨b, 16, none⟩)) rfl (by kernel_rfl) (by kernel_rfl) (by kernel_rfl) (fun _ _ _ h => h) (by kernel_rfl) (fun _ _ => by kernel_rfl) hH ?_
      try simp only [Act.put, sA, s0, s1]
      refine any_take (i := 5) (oi := { dst := some 49, op := Op.load 27 (Operand.tmp 48), type := 27, pos := "outright.go:154", after := #[{ on := 4, ground := Ground.data }, { on := 3, ground := Ground.guard }], guard := some (3, true) }) (v := .agg (accM i0 x.v.b).c.cells) rfl (by kernel_rfl) (by kernel_rfl) (by kernel_rfl) (fun _ _ _ h => h) (by kernel_rfl) (fun w' hw => exec_load 27 _ rfl ⟨b, 16, none⟩ (by kernel_rfl) (.agg (accM i0 x.v.b).c.cells) (load_MC hw.2)) hH ?_
      try simp only [Act.put, sA, s0, s1]
      refine any_take (i := 6) (oi := { dst := some 50, op := Op.move (Operand.tmp 0), type := 65, pos := "outright.go:154", after := #[{ on := 3, ground := Ground.guard }], guard := some (3, true) }) (v := .pointer (some ⟨p, 0, none⟩)) rfl (by kernel_rfl) (by kernel_rfl) (by kernel_rfl) (fun _ _ _ h => h) (by kernel_rfl) (fun _ _ => by kernel_rfl) hH ?_
      try simp only [Act.put, sA, s0, s1]
      refine any_take (i := 7) (oi := { dst := some 51, op := Op.nilCheck (Operand.tmp 50), type := 0, pos := "outright.go:154", after := #[{ on := 6, ground := Ground.data }, { on := 3, ground := Ground.guard }], guard := some (3, true) }) (v := .pointer (some ⟨p, 0, none⟩)) rfl (by kernel_rfl) (by kernel_rfl) (by kernel_rfl) (fun _ _ _ h => h) (by kernel_rfl) (fun _ _ => by kernel_rfl) hH ?_
      try simp only [Act.put, sA, s0, s1]
      refine any_take (i := 8) (oi := { dst := some 52, op := Op.fieldAddr 69 (Operand.tmp 51) 3, type := 0, pos := "outright.go:154", after := #[{ on := 7, ground := Ground.data }, { on := 3, ground := Ground.guard }], guard := some (3, true) }) (v := .pointer (some ⟨p, 3, none⟩)) rfl (by kernel_rfl) (by kernel_rfl) (by kernel_rfl) (fun _ _ _ h => h) (by kernel_rfl) (fun _ _ => by kernel_rfl) hH ?_
      try simp only [Act.put, sA, s0, s1]
      refine any_take (i := 9) (oi := { dst := some 53, op := Op.load 27 (Operand.tmp 52), type := 27, pos := "outright.go:154", after := #[{ on := 8, ground := Ground.data }, { on := 3, ground := Ground.guard }], guard := some (3, true) }) (v := .agg st.dec.cells) rfl (by kernel_rfl) (by kernel_rfl) (by kernel_rfl) (fun _ _ _ h => h) (by kernel_rfl) (fun w' hw => exec_load 27 _ rfl ⟨p, 3, none⟩ (by kernel_rfl) (.agg st.dec.cells) (load_pD hw.1)) hH ?_
      try simp only [Act.put, sA, s0, s1]
      refine any_take (i := 10) (oi := { dst := some 54, op := Op.binOp BinOp.neq 27 (Operand.tmp 49) (Operand.tmp 53) 27, type := 4, pos := "outright.go:154", after := #[{ on := 5, ground := Ground.data }, { on := 9, ground := Ground.data }, { on := 3, ground := Ground.guard }], guard := some (3, true) }) (v := .bool false) rfl (by kernel_rfl) (by kernel_rfl) (by kernel_rfl) (fun _ _ _ h => h) (by kernel_rfl) (fun w' hw => exec_bin .neq 27 _ _ _ rfl (.agg (accM i0 x.v.b).c.cells) (.agg st.dec.cells) (.bool false) (by kernel_rfl) (by kernel_rfl) (guard_C _ (.inr rfl) _ _ _ _ _) (by rw [neqC, (acc_k16 q2).2, (HIv.out.kn s i0 HSI.out (acc_k16 q2).1).1, eqC_refl]; rfl)) hH ?_
      try simp only [Act.put, sA, s0, s1]
      refine any_take (i := 11) (oi := { dst := some 55, op := Op.pick (Operand.tmp 47) (Operand.tmp 54) (Operand.const (Value.bool false)), type := 4, pos := "outright.go:154", after := #[{ on := 3, ground := Ground.data }, { on := 10, ground := Ground.data }], guard := none }) (v := .bool false) rfl (by kernel_rfl) (by kernel_rfl) (by kernel_rfl) (fun _ _ _ h => h) (by kernel_rfl) (fun _ _ => by kernel_rfl) hH ?_
      try simp only [Act.put, sA, s0, s1]
      refine wpAnyH_done (by kernel_rfl) ?_ _
      try simp only [Act.put, sA, s0, s1]
      go_upto_region 8 with fail
      refine WL.start ?_
      refine wp_takeW (.pointer (some ⟨b, 0, none⟩)) (by kernel_rfl) (by kernel_rfl) ?_
      try simp only [Act.put, sA, s0, s1]
      refine wp_takeW (.int .i64 (accM i0 x.v.b).k) (exec_load 3 _ rfl ⟨b, 0, none⟩ (by kernel_rfl) (.int .i64 (accM i0 x.v.b).k) (load_N (Mg.cel HMs.out).1)) (by kernel_rfl) ?_
      try simp only [Act.put, sA, s0, s1]
      cases q7 : ((accM i0 x.v.b).k == 15)
      ·skip
       refine wp_takeW (.bool true) (exec_bin .neq 3 _ _ _ rfl (.int .i64 (accM i0 x.v.b).k) (.int .i64 15) (.bool true) (by kernel_rfl) (by kernel_rfl) (by kernel_rfl) (by rw [neqN, q7]; try rfl)) (by kernel_rfl) ?_
       try simp only [Act.put, sA, s0, s1]
       refine wp_takeW (.bool true) (by kernel_rfl) (by kernel_rfl) ?_
       try simp only [Act.put, sA, s0, s1]
       refine wp_skip (by kernel_rfl) ?_
       try simp only [Act.put, sA, s0, s1]
       refine wp_skip (by kernel_rfl) ?_
       try simp only [Act.put, sA, s0, s1]
       refine wp_skip (by kernel_rfl) ?_
       try simp only [Act.put, sA, s0, s1]
       refine wp_skip (by kernel_rfl) ?_
       try simp only [Act.put, sA, s0, s1]
       refine wp_takeW (.bool true) (by kernel_rfl) (by kernel_rfl) ?_
       try simp only [Act.put, sA, s0, s1]
       refine WL.nil ?_
       try simp only [Act.put, sA, s0, s1]
       have HFI : Hid (Inv ({ st with is := st.is.set s (accI i0 x.v.b x.v.c) } : PS)) := by have h := HIv.out; rw [acc_no15 q7, set_same HSI.out]; exact h
       go_wp2
       go_ret
       exact ⟨rfl, _, xs, HPM.out, HFI.out, rfl, rfl, HK.out⟩
      ·skip
       refine wp_takeW (.bool false) (exec_bin .neq 3 _ _ _ rfl (.int .i64 (accM i0 x.v.b).k) (.int .i64 15) (.bool false) (by kernel_rfl) (by kernel_rfl) (by kernel_rfl) (by rw [neqN, q7]; try rfl)) (by kernel_rfl) ?_
       try simp only [Act.put, sA, s0, s1]
       refine wp_takeW (.bool false) (by kernel_rfl) (by kernel_rfl) ?_
       try simp only [Act.put, sA, s0, s1]
       refine wp_takeW (.pointer (some ⟨X, 15, none⟩)) (by kernel_rfl) (by kernel_rfl) ?_
       try simp only [Act.put, sA, s0, s1]
       refine wp_takeW (.slice x.aa x.v.ac.length x.ac) (exec_load 33 _ rfl ⟨X, 15, none⟩ (by kernel_rfl) (.slice x.aa x.v.ac.length x.ac) (load_PS15 HX.out)) (by kernel_rfl) ?_
       try simp only [Act.put, sA, s0, s1]
       refine wp_takeW (.int .i64 s) (by kernel_rfl) (by kernel_rfl) ?_
       try simp only [Act.put, sA, s0, s1]
       cases q8 : (decide ((s : Int) ∈ x.v.ac))
       ·skip
        refine wp_callW 36 #[.slice x.aa x.v.ac.length x.ac, .int .i64 s] (by kernel_rfl) _ (has_any _ _ _ x.v.ac _ _ rfl (by have := HLE.out; omega) ((HPM.out.aown k x HXK.out (by simp)).nums rfl)) (by kernel_rfl) ?_
        rintro e wq ⟨rfl, hwq⟩
        rw [hwq]
        clear hwq wq
        refine ⟨.bool false, by rw [q8], ?_⟩
        try simp only [Act.put, sA, s0, s1]
        refine wp_takeW (.bool false) (by kernel_rfl) (by kernel_rfl) ?_
        try simp only [Act.put, sA, s0, s1]
        refine WL.nil ?_
        try simp only [Act.put, sA, s0, s1]
        have HDK : Hid (st.dec.k = 0 ∨ st.dec.k = 4) := by
          rcases HIv.out.dec with h | h
          · exact .inl h.1
          · exact .inr h.1
        have HNX : Hid (∀ d : Cm, ((st.dec.k = 0 ∧ ((x.v.ac.length + 1 < st.f + 1 ∧ d = st.dec) ∨ (st.f + 1 ≤ x.v.ac.length + 1 ∧ d = x.v.c))) ∨ (st.dec.k = 4 ∧ d = st.dec)) → ∀ (a : Option Addr) (c : Nat), Inv ⟨st.f, st.is.set s (accI i0 x.v.b x.v.c), st.ls.set k (x.addA s a c).v, d⟩) := by
          intro d hd a c
          rw [(acc_k15 q7).2.2]
          exact HIv.out.acc1 HXV.out q1 HSI.out (acc_k15 (c := x.v.c) q7).1 (acc_k15 (c := x.v.c) q7).2.1 (by simpa using q8) d hd
        go_upto_region 10 with fail
        refine WL.start ?_
        refine wp_takeW (.pointer (some ⟨X, 15, none⟩)) (by kernel_rfl) (by kernel_rfl) ?_
        try simp only [Act.put, sA, s0, s1]
        refine wp_takeW (.slice x.aa x.v.ac.length x.ac) (exec_load 33 _ rfl ⟨X, 15, none⟩ (by kernel_rfl) (.slice x.aa x.v.ac.length x.ac) (load_PS15 HX.out)) (by kernel_rfl) ?_
        try simp only [Act.put, sA, s0, s1]
        refine wp_takeW (.int .i64 s) (by kernel_rfl) (by kernel_rfl) ?_
        try simp only [Act.put, sA, s0, s1]
        refine wp_runW (.slice (some ⟨wk43.heap.size, 0, none⟩) 1 1) (wk43.alloc (.cells #[.int .i64 s] 3)) (exec_slice2 33 3 _ rfl #[.int .i64 s] (.int .i64 s) (by kernel_rfl) (slice1_int s _)) (by kernel_rfl) ?_
        try simp only [Act.put, sA, s0, s1]
        have HNB : Hid (Box (wk43.alloc (.cells #[.int .i64 s] 3)) wk43.heap.size 3 #[.int .i64 s]) := Box.new _ _ _
        have HPl : Hid (Box (wk43.alloc (.cells #[.int .i64 s] 3)) (p) 69 ((playC st.f bI (st.is.set s (accI i0 x.v.b x.v.c)).length (some ⟨lg, 0, none⟩) xs.length lc st.dec).toArray)) := HPl.out.alloc _
        have HX : Hid (Box (wk43.alloc (.cells #[.int .i64 s] 3)) (X) 87 (x.cells)) := HX.out.alloc _
        have HN : Hid (Box (wk43.alloc (.cells #[.int .i64 s] 3)) (a) 29 ((accI i0 x.v.b x.v.c).cells)) := HN.out.alloc _
        have HMs : Hid (Box (wk43.alloc (.cells #[.int .i64 s] 3)) (b) 52 ((accM i0 x.v.b).cells)) := HMs.out.alloc _
        have HK : Hid (Kept (PSet p bI (some ⟨lg, 0, none⟩) xs) w (wk43.alloc (.cells #[.int .i64 s] 3))) := HK.out.alloc _
        have HPM : Hid (PM w0 (wk43.alloc (.cells #[.int .i64 s] 3)) p bI (some ⟨lg, 0, none⟩) lc ({ st with is := st.is.set s (accI i0 x.v.b x.v.c) }) (xs) (none)) := HPM.out.no ((Kept.refl No _).alloc _)
        have HLT : Hid (X < (wk43.alloc (.cells #[.int .i64 s] 3)).heap.size) := by show _ < _; rw [show (wk43.alloc (.cells #[.int .i64 s] 3)).heap.size = wk43.heap.size + 1 by simp]; exact Nat.lt_succ_of_lt HLT.out
        generalize wk43.alloc (.cells #[.int .i64 s] 3) = wk52 at HPl HX HN HMs HK HLT HNB HPM ⊢
        generalize wk43.heap.size = nb at HNB ⊢
        have happ := fun (A : Act) (h1 : A.eval (Operand.tmp 66) = .slice x.aa x.v.ac.length x.ac) (h2 : A.eval (Operand.tmp 68) = .slice (some ⟨nb, 0, none⟩) 1 1) => exec_append (w := wk52) (a := A) (o := { dst := some 69, op := Op.call { callee := Callee.builtin Builtin.append, args := #[Operand.tmp 66, Operand.tmp 68], argTypes := #[33, 33] }, type := 33, pos := "outright.go:160", after := #[{ on := 1, ground := Ground.data }, { on := 3, ground := Ground.data }], guard := none }) _ _ 33 3 1 8 (.int .i64 0) Try.und33 Try.info3 rfl (by decide) rfl w0.heap.size x.v.ac.length x.ac x.aa (ints x.v.ac) h1 (HPM.out.aown k x HXK.out (by simp)) ⟨nb, 0, none⟩ 1 [.int .i64 s] h2 rfl (fun j u hu => by
          match j, hu with
          | 0, hu => rw [addr_add]; simp at hu; subst hu; exact HNB.out.cell 0
          | j + 1, hu => simp at hu) (by simp [Value.oneCell']) (by have := HLE.out; omega) (by have := HLE.out; omega) (by have := HPM.out.np; have := HPM.out.box.lt; omega)
        refine wp_appW happ (by kernel_rfl) (by kernel_rfl) (by kernel_rfl) ?_
        intro g1 c1 wa hown hka hga
        try simp only [Act.put, sA, s0, s1]
        clear happ
        obtain ⟨hm3, hap, hself⟩ := HPM.out.appA HXK.out hka hga
        have HAP : Hid ((∀ (j : Nat) (z : Px), xs[j]? = some z → j ≠ k → ∀ q, (At x.pa q → ¬ At z.pa q ∧ ¬ At z.aa q) ∧ (At (some ⟨g1, 0, none⟩) q → ¬ At z.pa q ∧ ¬ At z.aa q)) ∧ (∀ q, At x.pa q → ¬ At (some (⟨g1, 0, none⟩ : Addr)) q)) := ⟨hap, hself⟩
        have HNO : Hid (Own 3 1 wa w0.heap.size (some ⟨g1, 0, none⟩) c1 (x.v.ac ++ [(s : Int)]).length (ints (x.v.ac ++ [(s : Int)]))) := by have h := hown; simp only [ints, List.map_append, List.map_cons, List.map_nil, List.length_append, List.length_singleton]; exact h
        have HPl : Hid (Box wa (p) 69 ((playC st.f bI (st.is.set s (accI i0 x.v.b x.v.c)).length (some ⟨lg, 0, none⟩) xs.length lc st.dec).toArray)) := hm3.box
        have HX : Hid (Box wa (X) 87 (x.cells)) := HX.out.kept hka (fun e => own_box (HPM.out.aown k x HXK.out (by simp)) HX.out (by decide) e rfl)
        have HN : Hid (Box wa (a) 29 ((accI i0 x.v.b x.v.c).cells)) := HN.out.kept hka (fun e => own_box (HPM.out.aown k x HXK.out (by simp)) HN.out (by decide) e rfl)
        have HMs : Hid (Box wa (b) 52 ((accM i0 x.v.b).cells)) := HMs.out.kept hka (fun e => own_box (HPM.out.aown k x HXK.out (by simp)) HMs.out (by decide) e rfl)
        have HK : Hid (Kept (PSet p bI (some ⟨lg, 0, none⟩) xs) w wa) := HK.out.trans hka (fun _ e => e) (fun q hq e => .inr (.inr (.inr ⟨k, x, HXK.out, .inr e⟩)))
        have HLT : Hid (X < wa.heap.size) := Nat.lt_of_lt_of_le HLT.out hka.size
        have HPM : Hid (PM w0 wa p bI (some ⟨lg, 0, none⟩) lc ({ st with is := st.is.set s (accI i0 x.v.b x.v.c) }) (xs) (some (k, true))) := hm3
        clear hm3 hap hself hown hka hga HNB
        refine wp_takeW (.pointer (some ⟨X, 15, none⟩)) (by kernel_rfl) (by kernel_rfl) ?_
        try simp only [Act.put, sA, s0, s1]
        refine wp_storeW 33 _ _ rfl ⟨X, 15, none⟩ (.slice (some ⟨g1, 0, none⟩) (x.v.ac.length + 1) c1) (by kernel_rfl) (by kernel_rfl) _ (store_addA HX.out s (some ⟨g1, 0, none⟩) c1) (by kernel_rfl) ?_
        try simp only [Act.put, sA, s0, s1]
        have HLT : Hid (X < (wa.setRow X ((x.addA s (some ⟨g1, 0, none⟩) c1).cells)).heap.size) := by show _ < _; rw [setRow_size]; exact HLT.out
        have HPM : Hid (PM w0 (wa.setRow X ((x.addA s (some ⟨g1, 0, none⟩) c1).cells)) p bI (some ⟨lg, 0, none⟩) lc ({ st with is := st.is.set s (accI i0 x.v.b x.v.c) }) (xs) (some (k, true))) := HPM.out.far HPB.out (Kept.setRow _ _ _) (fun q e => by have e : q = X := e; have := HO.out; omega)
        have HNO : Hid (Own 3 1 (wa.setRow X ((x.addA s (some ⟨g1, 0, none⟩) c1).cells)) w0.heap.size (some ⟨g1, 0, none⟩) c1 (x.v.ac ++ [(s : Int)]).length (ints (x.v.ac ++ [(s : Int)]))) := HNO.out.kept (Kept.setRow _ _ _) (fun q hq e => own_box HNO.out HX.out (by decide) hq e)
        have HPl : Hid (Box (wa.setRow X ((x.addA s (some ⟨g1, 0, none⟩) c1).cells)) (p) 69 ((playC st.f bI (st.is.set s (accI i0 x.v.b x.v.c)).length (some ⟨lg, 0, none⟩) xs.length lc st.dec).toArray)) := HPl.out.rowNe (by have := HO.out; omega) _
        have HX : Hid (Box (wa.setRow X ((x.addA s (some ⟨g1, 0, none⟩) c1).cells)) (X) 87 ((x.addA s (some ⟨g1, 0, none⟩) c1).cells)) := HX.out.setRow _
        have HN : Hid (Box (wa.setRow X ((x.addA s (some ⟨g1, 0, none⟩) c1).cells)) (a) 29 ((accI i0 x.v.b x.v.c).cells)) := HN.out.rowNe (by have := HO.out; omega) _
        have HMs : Hid (Box (wa.setRow X ((x.addA s (some ⟨g1, 0, none⟩) c1).cells)) (b) 52 ((accM i0 x.v.b).cells)) := HMs.out.rowNe (by have := HO.out; omega) _
        have HK : Hid (Kept (PSet p bI (some ⟨lg, 0, none⟩) xs) w (wa.setRow X ((x.addA s (some ⟨g1, 0, none⟩) c1).cells))) := HK.out.newRowS (by have := HO.out; omega) _
        generalize wa.setRow X ((x.addA s (some ⟨g1, 0, none⟩) c1).cells) = wk53 at HPl HX HN HMs HK HLT HPM HNO ⊢
        refine WL.nil ?_
        try simp only [Act.put, sA, s0, s1]
        go_upto_region 11 with fail
        refine wp_region_held_drew (S := fun w' => Box w' (p) 69 ((playC st.f bI (st.is.set s (accI i0 x.v.b x.v.c)).length (some ⟨lg, 0, none⟩) xs.length lc st.dec).toArray) ∧ Box w' (X) 87 ((x.addA s (some ⟨g1, 0, none⟩) c1).cells)) rfl ⟨HPl.out, HX.out⟩ (fun hH => ?_)
        have HPl : Hid (Box wk53.drew (p) 69 ((playC st.f bI (st.is.set s (accI i0 x.v.b x.v.c)).length (some ⟨lg, 0, none⟩) xs.length lc st.dec).toArray)) := HPl.out
        have HX : Hid (Box wk53.drew (X) 87 ((x.addA s (some ⟨g1, 0, none⟩) c1).cells)) := HX.out
        have HN : Hid (Box wk53.drew (a) 29 ((accI i0 x.v.b x.v.c).cells)) := HN.out
        have HMs : Hid (Box wk53.drew (b) 52 ((accM i0 x.v.b).cells)) := HMs.out
        have HK : Hid (Kept (PSet p bI (some ⟨lg, 0, none⟩) xs) w wk53.drew) := HK.out.drew
        have HPM : Hid (PM w0 (wk53.drew) p bI (some ⟨lg, 0, none⟩) lc ({ st with is := st.is.set s (accI i0 x.v.b x.v.c) }) (xs) (some (k, true))) := HPM.out.no (Kept.refl No _).drew
        have HNO : Hid (Own 3 1 (wk53.drew) w0.heap.size (some ⟨g1, 0, none⟩) c1 (x.v.ac ++ [(s : Int)]).length (ints (x.v.ac ++ [(s : Int)]))) := HNO.out.no (Kept.refl No _).drew
        have HLT : Hid (X < wk53.drew.heap.size) := HLT.out
        generalize wk53.drew = wk54 at HPl HX HN HMs HK HLT hH HPM HNO ⊢
        refine any_take (i := 0) (oi := { dst := some 71, op := Op.move (Operand.tmp 0), type := 65, pos := "outright.go:161", after := #[], guard := none }) (v := .pointer (some ⟨p, 0, none⟩)) rfl (by kernel_rfl) (by kernel_rfl) (by kernel_rfl) (fun _ _ _ h => h) (by kernel_rfl) (fun _ _ => by kernel_rfl) hH ?_
        try simp only [Act.put, sA, s0, s1]
        refine any_take (i := 1) (oi := { dst := some 72, op := Op.nilCheck (Operand.tmp 71), type := 0, pos := "outright.go:161", after := #[{ on := 0, ground := Ground.data }], guard := none }) (v := .pointer (some ⟨p, 0, none⟩)) rfl (by kernel_rfl) (by kernel_rfl) (by kernel_rfl) (fun _ _ _ h => h) (by kernel_rfl) (fun _ _ => by kernel_rfl) hH ?_
        try simp only [Act.put, sA, s0, s1]
        refine any_take (i := 2) (oi := { dst := some 73, op := Op.fieldAddr 69 (Operand.tmp 72) 2, type := 0, pos := "outright.go:161", after := #[{ on := 1, ground := Ground.data }], guard := none }) (v := .pointer (some ⟨p, 2, none⟩)) rfl (by kernel_rfl) (by kernel_rfl) (by kernel_rfl) (fun _ _ _ h => h) (by kernel_rfl) (fun _ _ => by kernel_rfl) hH ?_
        try simp only [Act.put, sA, s0, s1]
        refine any_take (i := 3) (oi := { dst := some 74, op := Op.load 67 (Operand.tmp 73), type := 67, pos := "outright.go:161", after := #[{ on := 2, ground := Ground.data }], guard := none }) (v := .slice (some ⟨lg, 0, none⟩) xs.length lc) rfl (by kernel_rfl) (by kernel_rfl) (by kernel_rfl) (fun _ _ _ h => h) (by kernel_rfl) (fun w' hw => exec_load 67 _ rfl ⟨p, 2, none⟩ (by kernel_rfl) (.slice (some ⟨lg, 0, none⟩) xs.length lc) (load_pL hw.1)) hH ?_
        try simp only [Act.put, sA, s0, s1]
        refine any_take (i := 4) (oi := { dst := some 75, op := Op.move (Operand.tmp 1), type := 3, pos := "outright.go:161", after := #[], guard := none }) (v := .int .i64 k) rfl (by kernel_rfl) (by kernel_rfl) (by kernel_rfl) (fun _ _ _ h => h) (by kernel_rfl) (fun _ _ => by kernel_rfl) hH ?_
        try simp only [Act.put, sA, s0, s1]
        refine any_take (i := 5) (oi := { dst := some 76, op := Op.load 87 (Operand.tmp 7), type := 87, pos := "outright.go:161", after := #[], guard := none }) (v := .agg ((x.addA s (some ⟨g1, 0, none⟩) c1).cells)) rfl (by kernel_rfl) (by kernel_rfl) (by kernel_rfl) (fun _ _ _ h => h) (by kernel_rfl) (fun w' hw => exec_load 87 _ rfl ⟨X, 0, none⟩ (by kernel_rfl) (.agg ((x.addA s (some ⟨g1, 0, none⟩) c1).cells)) (load_P hw.2)) hH ?_
        try simp only [Act.put, sA, s0, s1]
        refine any_take (i := 6) (oi := { dst := some 77, op := Op.indexAddr 67 (Operand.tmp 74) (Operand.tmp 75), type := 0, pos := "outright.go:161", after := #[{ on := 3, ground := Ground.data }, { on := 4, ground := Ground.data }, { on := 0, ground := Ground.phase }, { on := 1, ground := Ground.phase }, { on := 2, ground := Ground.phase }, { on := 3, ground := Ground.phase }, { on := 4, ground := Ground.phase }, { on := 5, ground := Ground.phase }], guard := none }) (v := .pointer (some ⟨lg, 0 + k * 16, none⟩)) rfl (by kernel_rfl) (by kernel_rfl) (by kernel_rfl) (fun _ _ _ h => h) (by kernel_rfl) (fun w' hw => exec_ixA 67 16 Try.und67e Try.size67e _ _ rfl lg 0 xs.length lc k (by kernel_rfl) (by kernel_rfl) hkl) hH ?_
        try simp only [Act.put, sA, s0, s1]
        obtain ⟨cs2, hr2, hm2⟩ := HPM.out.setL (y := (x.addA s (some ⟨g1, 0, none⟩) c1)) HXK.out (.inr (.inr rfl)) (HPM.out.pown k x HXK.out (by simp)) HNO.out HAP.out.1 HAP.out.2
        refine any_store (i := 7) (o := { dst := none, op := Op.store 87 (Operand.tmp 77) (Operand.tmp 76), type := 0, pos := "outright.go:161", after := #[{ on := 6, ground := Ground.data }, { on := 5, ground := Ground.data }, { on := 0, ground := Ground.phase }, { on := 1, ground := Ground.phase }, { on := 2, ground := Ground.phase }, { on := 3, ground := Ground.phase }, { on := 4, ground := Ground.phase }, { on := 5, ground := Ground.phase }], guard := none }) rfl (by kernel_rfl) (by kernel_rfl) 87 _ _ rfl ⟨lg, 0 + k * 16, none⟩ (.agg ((x.addA s (some ⟨g1, 0, none⟩) c1).cells)) (by kernel_rfl) (by kernel_rfl) hr2 (⟨hH.1.rowNe (by have := HO.out; omega) _, hH.2.rowNe (by have := HO.out; omega) _⟩) (fun hH => ?_)
        have HX : Hid (Box (wk54.setRow lg cs2) (X) 87 ((x.addA s (some ⟨g1, 0, none⟩) c1).cells)) := HX.out.rowNe (by have := HO.out; omega) _
        have HN : Hid (Box (wk54.setRow lg cs2) (a) 29 ((accI i0 x.v.b x.v.c).cells)) := HN.out.rowNe (by have := HO.out; omega) _
        have HMs : Hid (Box (wk54.setRow lg cs2) (b) 52 ((accM i0 x.v.b).cells)) := HMs.out.rowNe (by have := HO.out; omega) _
        have HK : Hid (Kept (PSet p bI (some ⟨lg, 0, none⟩) xs) w (wk54.setRow lg cs2)) := HK.out.inRow (.inr (.inr (.inl ⟨_, rfl, rfl⟩))) _
        have HLT : Hid (X < (wk54.setRow lg cs2).heap.size) := by show _ < _; rw [setRow_size]; exact HLT.out
        have HPM : Hid (PM w0 (wk54.setRow lg cs2) p bI (some ⟨lg, 0, none⟩) lc ((⟨st.f, st.is.set s (accI i0 x.v.b x.v.c), st.ls.set k (x.addA s (some ⟨g1, 0, none⟩) c1).v, st.dec⟩ : PS)) (xs.set k (x.addA s (some ⟨g1, 0, none⟩) c1)) (none)) := hm2
        have HPl : Hid (Box (wk54.setRow lg cs2) (p) 69 ((playC st.f bI (st.is.set s (accI i0 x.v.b x.v.c)).length (some ⟨lg, 0, none⟩) (xs.set k (x.addA s (some ⟨g1, 0, none⟩) c1)).length lc st.dec).toArray)) := hm2.box
        clear hr2 hm2
        generalize wk54.setRow lg cs2 = wk55 at HPl HX HN HMs HK HLT HPM hH ⊢
        try simp only [Act.put, sA, s0, s1]
        refine wpAnyH_done (by kernel_rfl) ?_ _
        try simp only [Act.put, sA, s0, s1]
        go_upto_region 12 with fail
        refine wp_region_held_drew (S := fun w' => Box w' (p) 69 ((playC st.f bI (st.is.set s (accI i0 x.v.b x.v.c)).length (some ⟨lg, 0, none⟩) (xs.set k (x.addA s (some ⟨g1, 0, none⟩) c1)).length lc st.dec).toArray) ∧ Box w' (X) 87 ((x.addA s (some ⟨g1, 0, none⟩) c1).cells)) rfl ⟨HPl.out, HX.out⟩ (fun hH => ?_)
        have HPl : Hid (Box wk55.drew (p) 69 ((playC st.f bI (st.is.set s (accI i0 x.v.b x.v.c)).length (some ⟨lg, 0, none⟩) (xs.set k (x.addA s (some ⟨g1, 0, none⟩) c1)).length lc st.dec).toArray)) := HPl.out
        have HX : Hid (Box wk55.drew (X) 87 ((x.addA s (some ⟨g1, 0, none⟩) c1).cells)) := HX.out
        have HN : Hid (Box wk55.drew (a) 29 ((accI i0 x.v.b x.v.c).cells)) := HN.out
        have HMs : Hid (Box wk55.drew (b) 52 ((accM i0 x.v.b).cells)) := HMs.out
        have HK : Hid (Kept (PSet p bI (some ⟨lg, 0, none⟩) xs) w wk55.drew) := HK.out.drew
        have HPM : Hid (PM w0 (wk55.drew) p bI (some ⟨lg, 0, none⟩) lc ((⟨st.f, st.is.set s (accI i0 x.v.b x.v.c), st.ls.set k (x.addA s (some ⟨g1, 0, none⟩) c1).v, st.dec⟩ : PS)) (xs.set k (x.addA s (some ⟨g1, 0, none⟩) c1)) (none)) := HPM.out.no (Kept.refl No _).drew
        have HLT : Hid (X < wk55.drew.heap.size) := HLT.out
        generalize wk55.drew = wk56 at HPl HX HN HMs HK HLT hH HPM ⊢
        refine any_take (i := 0) (oi := { dst := some 78, op := Op.fieldAddr 87 (Operand.tmp 7) 5, type := 0, pos := "outright.go:162", after := #[], guard := none }) (v := .pointer (some ⟨X, 15, none⟩)) rfl (by kernel_rfl) (by kernel_rfl) (by kernel_rfl) (fun _ _ _ h => h) (by kernel_rfl) (fun _ _ => by kernel_rfl) hH ?_
        try simp only [Act.put, sA, s0, s1]
        refine any_take (i := 1) (oi := { dst := some 79, op := Op.load 33 (Operand.tmp 78), type := 33, pos := "outright.go:162", after := #[{ on := 0, ground := Ground.data }], guard := none }) (v := .slice (some ⟨g1, 0, none⟩) (x.v.ac ++ [(s : Int)]).length c1) rfl (by kernel_rfl) (by kernel_rfl) (by kernel_rfl) (fun _ _ _ h => h) (by kernel_rfl) (fun w' hw => exec_load 33 _ rfl ⟨X, 15, none⟩ (by kernel_rfl) (.slice (some ⟨g1, 0, none⟩) (x.v.ac ++ [(s : Int)]).length c1) (load_PS15 hw.2)) hH ?_
        try simp only [Act.put, sA, s0, s1]
        refine any_take (i := 2) (oi := { dst := some 80, op := Op.call { callee := Callee.builtin Builtin.len, args := #[Operand.tmp 79], argTypes := #[33] }, type := 3, pos := "outright.go:162", after := #[{ on := 1, ground := Ground.data }], guard := none }) (v := .int .i64 ((x.v.ac ++ [(s : Int)]).length : Int)) rfl (by kernel_rfl) (by kernel_rfl) (by kernel_rfl) (fun _ _ _ h => h) (by kernel_rfl) (fun _ _ => by kernel_rfl) hH ?_
        try simp only [Act.put, sA, s0, s1]
        refine any_take (i := 3) (oi := { dst := some 81, op := Op.move (Operand.tmp 0), type := 65, pos := "outright.go:162", after := #[], guard := none }) (v := .pointer (some ⟨p, 0, none⟩)) rfl (by kernel_rfl) (by kernel_rfl) (by kernel_rfl) (fun _ _ _ h => h) (by kernel_rfl) (fun _ _ => by kernel_rfl) hH ?_
        try simp only [Act.put, sA, s0, s1]
        refine any_take (i := 4) (oi := { dst := some 82, op := Op.nilCheck (Operand.tmp 81), type := 0, pos := "outright.go:162", after := #[{ on := 3, ground := Ground.data }], guard := none }) (v := .pointer (some ⟨p, 0, none⟩)) rfl (by kernel_rfl) (by kernel_rfl) (by kernel_rfl) (fun _ _ _ h => h) (by kernel_rfl) (fun _ _ => by kernel_rfl) hH ?_
        try simp only [Act.put, sA, s0, s1]
        refine any_take (i := 5) (oi := { dst := some 83, op := Op.fieldAddr 69 (Operand.tmp 82) 0, type := 0, pos := "outright.go:162", after := #[{ on := 4, ground := Ground.data }], guard := none }) (v := .pointer (some ⟨p, 0, none⟩)) rfl (by kernel_rfl) (by kernel_rfl) (by kernel_rfl) (fun _ _ _ h => h) (by kernel_rfl) (fun _ _ => by kernel_rfl) hH ?_
        try simp only [Act.put, sA, s0, s1]
        refine any_take (i := 6) (oi := { dst := some 84, op := Op.load 3 (Operand.tmp 83), type := 3, pos := "outright.go:162", after := #[{ on := 5, ground := Ground.data }], guard := none }) (v := .int .i64 (st.f : Int)) rfl (by kernel_rfl) (by kernel_rfl) (by kernel_rfl) (fun _ _ _ h => h) (by kernel_rfl) (fun w' hw => exec_load 3 _ rfl ⟨p, 0, none⟩ (by kernel_rfl) (.int .i64 (st.f : Int)) (load_pF hw.1)) hH ?_
        try simp only [Act.put, sA, s0, s1]
        refine any_take (i := 7) (oi := { dst := some 85, op := Op.binOp BinOp.add 3 (Operand.tmp 84) (Operand.const (Value.int IntKind.i64 1)) 3, type := 3, pos := "outright.go:162", after := #[{ on := 6, ground := Ground.data }], guard := none }) (v := .int .i64 ((st.f : Int) + 1)) rfl (by kernel_rfl) (by kernel_rfl) (by kernel_rfl) (fun _ _ _ h => h) (by kernel_rfl) (fun w' hw => exec_bin .add 3 _ _ _ rfl (.int .i64 (st.f : Int)) (.int .i64 1) (.int .i64 ((st.f : Int) + 1)) (by kernel_rfl) (by kernel_rfl) (by kernel_rfl) (addN _ _ (by omega) (by omega))) hH ?_
        try simp only [Act.put, sA, s0, s1]
        cases q9 : (decide (((x.v.ac ++ [(s : Int)]).length : Int) < (st.f : Int) + 1))
        ·skip
         refine any_take (i := 8) (oi := { dst := some 86, op := Op.binOp BinOp.lss 3 (Operand.tmp 80) (Operand.tmp 85) 3, type := 4, pos := "outright.go:162", after := #[{ on := 2, ground := Ground.data }, { on := 7, ground := Ground.data }], guard := none }) (v := .bool false) rfl (by kernel_rfl) (by kernel_rfl) (by kernel_rfl) (fun _ _ _ h => h) (by kernel_rfl) (fun w' hw => exec_bin .lss 3 _ _ _ rfl (.int .i64 ((x.v.ac ++ [(s : Int)]).length : Int)) (.int .i64 ((st.f : Int) + 1)) (.bool false) (by kernel_rfl) (by kernel_rfl) (by kernel_rfl) (by rw [lssN, q9]; try rfl)) hH ?_
         try simp only [Act.put, sA, s0, s1]
         refine wpAnyH_done (by kernel_rfl) ?_ _
         try simp only [Act.put, sA, s0, s1]
         have HLN : Hid (st.f + 1 ≤ x.v.ac.length + 1) := by have h := q9; simp at h; show _ ≤ _; omega
         go_upto_region 14 with fail
         refine WL.start ?_
         refine wp_takeW (.pointer (some ⟨p, 0, none⟩)) (by kernel_rfl) (by kernel_rfl) ?_
         try simp only [Act.put, sA, s0, s1]
         refine wp_takeW (.pointer (some ⟨p, 0, none⟩)) (by kernel_rfl) (by kernel_rfl) ?_
         try simp only [Act.put, sA, s0, s1]
         refine wp_takeW (.pointer (some ⟨p, 3, none⟩)) (by kernel_rfl) (by kernel_rfl) ?_
         try simp only [Act.put, sA, s0, s1]
         refine wp_takeW (.pointer (some ⟨p, 3, none⟩)) (by kernel_rfl) (by kernel_rfl) ?_
         try simp only [Act.put, sA, s0, s1]
         refine wp_takeW (.int .i64 st.dec.k) (exec_load 3 _ rfl ⟨p, 3, none⟩ (by kernel_rfl) (.int .i64 st.dec.k) (load_pK HPl.out)) (by kernel_rfl) ?_
         try simp only [Act.put, sA, s0, s1]
         cases q10 : (st.dec.k == 0)
         ·skip
          refine wp_takeW (.bool false) (exec_bin .eql 3 _ _ _ rfl (.int .i64 st.dec.k) (.int .i64 0) (.bool false) (by kernel_rfl) (by kernel_rfl) (by kernel_rfl) (by rw [eqlN, q10]; try rfl)) (by kernel_rfl) ?_
          try simp only [Act.put, sA, s0, s1]
          refine WL.nil ?_
          try simp only [Act.put, sA, s0, s1]
          have HD4 : Hid (st.dec.k = 4) := by
            rcases HDK.out with e | e
            · simp [e] at q10
            · exact e
          have HDX : Hid (st.dec = x.v.c) := by
            have hv := HNX.out st.dec (.inr ⟨HD4.out, rfl⟩) (some ⟨g1, 0, none⟩) c1
            rcases hv.dec with e | ⟨-, j, y, hy, hm, hc⟩
            · have e : st.dec.k = 0 := e.1
              rw [HD4.out] at e; cases e
            · have hk := set_here (x := (x.addA s (some ⟨g1, 0, none⟩) c1).v) HXV.out
              have := hv.same hy hk hm (by show _ ≤ (x.v.ac ++ [(s : Int)]).length; rw [List.length_append, List.length_singleton]; exact HLN.out)
              have hc : y.c = st.dec := hc
              rw [← hc, ← this]; rfl
          go_upto_region 16 with fail
          refine wp_region_held_drew (S := fun w' => Box w' (p) 69 ((playC st.f bI (st.is.set s (accI i0 x.v.b x.v.c)).length (some ⟨lg, 0, none⟩) (xs.set k (x.addA s (some ⟨g1, 0, none⟩) c1)).length lc st.dec).toArray) ∧ Box w' (X) 87 ((x.addA s (some ⟨g1, 0, none⟩) c1).cells)) rfl ⟨HPl.out, HX.out⟩ (fun hH => ?_)
          have HPl : Hid (Box wk56.drew (p) 69 ((playC st.f bI (st.is.set s (accI i0 x.v.b x.v.c)).length (some ⟨lg, 0, none⟩) (xs.set k (x.addA s (some ⟨g1, 0, none⟩) c1)).length lc st.dec).toArray)) := HPl.out
          have HX : Hid (Box wk56.drew (X) 87 ((x.addA s (some ⟨g1, 0, none⟩) c1).cells)) := HX.out
          have HN : Hid (Box wk56.drew (a) 29 ((accI i0 x.v.b x.v.c).cells)) := HN.out
          have HMs : Hid (Box wk56.drew (b) 52 ((accM i0 x.v.b).cells)) := HMs.out
          have HK : Hid (Kept (PSet p bI (some ⟨lg, 0, none⟩) xs) w wk56.drew) := HK.out.drew
          have HPM : Hid (PM w0 (wk56.drew) p bI (some ⟨lg, 0, none⟩) lc ((⟨st.f, st.is.set s (accI i0 x.v.b x.v.c), st.ls.set k (x.addA s (some ⟨g1, 0, none⟩) c1).v, st.dec⟩ : PS)) (xs.set k (x.addA s (some ⟨g1, 0, none⟩) c1)) (none)) := HPM.out.no (Kept.refl No _).drew
          have HLT : Hid (X < wk56.drew.heap.size) := HLT.out
          generalize wk56.drew = wk57 at HPl HX HN HMs HK HLT hH HPM ⊢
          refine any_take (i := 0) (oi := { dst := some 98, op := Op.move (Operand.tmp 0), type := 65, pos := "outright.go:168", after := #[], guard := none }) (v := .pointer (some ⟨p, 0, none⟩)) rfl (by kernel_rfl) (by kernel_rfl) (by kernel_rfl) (fun _ _ _ h => h) (by kernel_rfl) (fun _ _ => by kernel_rfl) hH ?_
          try simp only [Act.put, sA, s0, s1]
          refine any_take (i := 1) (oi := { dst := some 99, op := Op.nilCheck (Operand.tmp 98), type := 0, pos := "outright.go:168", after := #[{ on := 0, ground := Ground.data }], guard := none }) (v := .pointer (some ⟨p, 0, none⟩)) rfl (by kernel_rfl) (by kernel_rfl) (by kernel_rfl) (fun _ _ _ h => h) (by kernel_rfl) (fun _ _ => by kernel_rfl) hH ?_
          try simp only [Act.put, sA, s0, s1]
          refine any_take (i := 2) (oi := { dst := some 100, op := Op.fieldAddr 69 (Operand.tmp 99) 3, type := 0, pos := "outright.go:168", after := #[{ on := 1, ground := Ground.data }], guard := none }) (v := .pointer (some ⟨p, 3, none⟩)) rfl (by kernel_rfl) (by kernel_rfl) (by kernel_rfl) (fun _ _ _ h => h) (by kernel_rfl) (fun _ _ => by kernel_rfl) hH ?_
          try simp only [Act.put, sA, s0, s1]
          refine any_take (i := 3) (oi := { dst := some 101, op := Op.load 27 (Operand.tmp 100), type := 27, pos := "outright.go:168", after := #[{ on := 2, ground := Ground.data }], guard := none }) (v := .agg st.dec.cells) rfl (by kernel_rfl) (by kernel_rfl) (by kernel_rfl) (fun _ _ _ h => h) (by kernel_rfl) (fun w' hw => exec_load 27 _ rfl ⟨p, 3, none⟩ (by kernel_rfl) (.agg st.dec.cells) (load_pD hw.1)) hH ?_
          try simp only [Act.put, sA, s0, s1]
          refine any_take (i := 4) (oi := { dst := some 102, op := Op.fieldAddr 87 (Operand.tmp 7) 3, type := 0, pos := "outright.go:168", after := #[], guard := none }) (v := .pointer (some ⟨X, 5, none⟩)) rfl (by kernel_rfl) (by kernel_rfl) (by kernel_rfl) (fun _ _ _ h => h) (by kernel_rfl) (fun _ _ => by kernel_rfl) hH ?_
          try simp only [Act.put, sA, s0, s1]
          refine any_take (i := 5) (oi := { dst := some 103, op := Op.load 27 (Operand.tmp 102), type := 27, pos := "outright.go:168", after := #[{ on := 4, ground := Ground.data }], guard := none }) (v := .agg x.v.c.cells) rfl (by kernel_rfl) (by kernel_rfl) (by kernel_rfl) (fun _ _ _ h => h) (by kernel_rfl) (fun w' hw => exec_load 27 _ rfl ⟨X, 5, none⟩ (by kernel_rfl) (.agg x.v.c.cells) (load_PC (x := (x.addA s (some ⟨g1, 0, none⟩) c1)) hw.2)) hH ?_
          try simp only [Act.put, sA, s0, s1]
          refine any_take (i := 6) (oi := { dst := some 104, op := Op.binOp BinOp.eql 27 (Operand.tmp 101) (Operand.tmp 103) 27, type := 4, pos := "outright.go:168", after := #[{ on := 3, ground := Ground.data }, { on := 5, ground := Ground.data }], guard := none }) (v := .bool true) rfl (by kernel_rfl) (by kernel_rfl) (by kernel_rfl) (fun _ _ _ h => h) (by kernel_rfl) (fun w' hw => exec_bin .eql 27 _ _ _ rfl (.agg st.dec.cells) (.agg x.v.c.cells) (.bool true) (by kernel_rfl) (by kernel_rfl) (guard_C _ (.inl rfl) _ _ _ _ _) (by rw [eqlC, HDX.out, eqC_refl])) hH ?_
          try simp only [Act.put, sA, s0, s1]
          refine any_take (i := 7) (oi := { dst := some 6, op := Op.assign (Operand.tmp 104), type := 4, pos := "outright.go:168", after := #[{ on := 6, ground := Ground.data }, { on := 0, ground := Ground.phase }, { on := 1, ground := Ground.phase }, { on := 2, ground := Ground.phase }, { on := 3, ground := Ground.phase }, { on := 4, ground := Ground.phase }, { on := 5, ground := Ground.phase }, { on := 6, ground := Ground.phase }], guard := none }) (v := .bool true) rfl (by kernel_rfl) (by kernel_rfl) (by kernel_rfl) (fun _ _ _ h => h) (by kernel_rfl) (fun _ _ => by kernel_rfl) hH ?_
          try simp only [Act.put, sA, s0, s1]
          refine wpAnyH_done (by kernel_rfl) ?_ _
          try simp only [Act.put, sA, s0, s1]
          have HFI : Hid (Inv ⟨st.f, st.is.set s (accI i0 x.v.b x.v.c), st.ls.set k (x.addA s (some ⟨g1, 0, none⟩) c1).v, st.dec⟩) := HNX.out st.dec (.inr ⟨HD4.out, rfl⟩) _ _
          go_wp2
          go_ret
          exact ⟨rfl, _, xs.set k (x.addA s (some ⟨g1, 0, none⟩) c1), HPM.out, HFI.out, rfl, by simp, HK.out⟩
         ·skip
          refine wp_takeW (.bool true) (exec_bin .eql 3 _ _ _ rfl (.int .i64 st.dec.k) (.int .i64 0) (.bool true) (by kernel_rfl) (by kernel_rfl) (by kernel_rfl) (by rw [eqlN, q10]; try rfl)) (by kernel_rfl) ?_
          try simp only [Act.put, sA, s0, s1]
          refine WL.nil ?_
          try simp only [Act.put, sA, s0, s1]
          go_upto_region 15 with fail
          refine WL.start ?_
          refine wp_takeW (.pointer (some ⟨p, 0, none⟩)) (by kernel_rfl) (by kernel_rfl) ?_
          try simp only [Act.put, sA, s0, s1]
          refine wp_takeW (.pointer (some ⟨X, 5, none⟩)) (by kernel_rfl) (by kernel_rfl) ?_
          try simp only [Act.put, sA, s0, s1]
          refine wp_takeW (.agg x.v.c.cells) (exec_load 27 _ rfl ⟨X, 5, none⟩ (by kernel_rfl) (.agg x.v.c.cells) (load_PC (x := (x.addA s (some ⟨g1, 0, none⟩) c1)) HX.out)) (by kernel_rfl) ?_
          try simp only [Act.put, sA, s0, s1]
          refine wp_takeW (.pointer (some ⟨p, 0, none⟩)) (by kernel_rfl) (by kernel_rfl) ?_
          try simp only [Act.put, sA, s0, s1]
          refine wp_takeW (.pointer (some ⟨p, 3, none⟩)) (by kernel_rfl) (by kernel_rfl) ?_
          try simp only [Act.put, sA, s0, s1]
          obtain ⟨cs3, hr3, hm4⟩ := HPM.out.setD x.v.c
          refine wp_storeW 27 _ _ rfl ⟨p, 3, none⟩ (.agg x.v.c.cells) (by kernel_rfl) (by kernel_rfl) _ hr3 (by kernel_rfl) ?_
          try simp only [Act.put, sA, s0, s1]
          have HX : Hid (Box (wk56.setRow p cs3) (X) 87 ((x.addA s (some ⟨g1, 0, none⟩) c1).cells)) := HX.out.rowNe (by have := HO.out; omega) _
          have HN : Hid (Box (wk56.setRow p cs3) (a) 29 ((accI i0 x.v.b x.v.c).cells)) := HN.out.rowNe (by have := HO.out; omega) _
          have HMs : Hid (Box (wk56.setRow p cs3) (b) 52 ((accM i0 x.v.b).cells)) := HMs.out.rowNe (by have := HO.out; omega) _
          have HK : Hid (Kept (PSet p bI (some ⟨lg, 0, none⟩) xs) w (wk56.setRow p cs3)) := HK.out.inRow (.inl rfl) _
          have HLT : Hid (X < (wk56.setRow p cs3).heap.size) := by show _ < _; rw [setRow_size]; exact HLT.out
          have HPM : Hid (PM w0 (wk56.setRow p cs3) p bI (some ⟨lg, 0, none⟩) lc ((⟨st.f, st.is.set s (accI i0 x.v.b x.v.c), st.ls.set k (x.addA s (some ⟨g1, 0, none⟩) c1).v, x.v.c⟩ : PS)) (xs.set k (x.addA s (some ⟨g1, 0, none⟩) c1)) (none)) := hm4
          have HPl : Hid (Box (wk56.setRow p cs3) (p) 69 ((playC st.f bI (st.is.set s (accI i0 x.v.b x.v.c)).length (some ⟨lg, 0, none⟩) (xs.set k (x.addA s (some ⟨g1, 0, none⟩) c1)).length lc x.v.c).toArray)) := hm4.box
          clear hr3 hm4
          generalize wk56.setRow p cs3 = wk58 at HPl HX HN HMs HK HLT HPM ⊢
          refine WL.nil ?_
          try simp only [Act.put, sA, s0, s1]
          go_upto_region 16 with fail
          refine wp_region_held_drew (S := fun w' => Box w' (p) 69 ((playC st.f bI (st.is.set s (accI i0 x.v.b x.v.c)).length (some ⟨lg, 0, none⟩) (xs.set k (x.addA s (some ⟨g1, 0, none⟩) c1)).length lc x.v.c).toArray) ∧ Box w' (X) 87 ((x.addA s (some ⟨g1, 0, none⟩) c1).cells)) rfl ⟨HPl.out, HX.out⟩ (fun hH => ?_)
          have HPl : Hid (Box wk58.drew (p) 69 ((playC st.f bI (st.is.set s (accI i0 x.v.b x.v.c)).length (some ⟨lg, 0, none⟩) (xs.set k (x.addA s (some ⟨g1, 0, none⟩) c1)).length lc x.v.c).toArray)) := HPl.out
          have HX : Hid (Box wk58.drew (X) 87 ((x.addA s (some ⟨g1, 0, none⟩) c1).cells)) := HX.out
          have HN : Hid (Box wk58.drew (a) 29 ((accI i0 x.v.b x.v.c).cells)) := HN.out
          have HMs : Hid (Box wk58.drew (b) 52 ((accM i0 x.v.b).cells)) := HMs.out
          have HK : Hid (Kept (PSet p bI (some ⟨lg, 0, none⟩) xs) w wk58.drew) := HK.out.drew
          have HPM : Hid (PM w0 (wk58.drew) p bI (some ⟨lg, 0, none⟩) lc ((⟨st.f, st.is.set s (accI i0 x.v.b x.v.c), st.ls.set k (x.addA s (some ⟨g1, 0, none⟩) c1).v, x.v.c⟩ : PS)) (xs.set k (x.addA s (some ⟨g1, 0, none⟩) c1)) (none)) := HPM.out.no (Kept.refl No _).drew
          have HLT : Hid (X < wk58.drew.heap.size) := HLT.out
          generalize wk58.drew = wk59 at HPl HX HN HMs HK HLT hH HPM ⊢
          refine any_take (i := 0) (oi := { dst := some 98, op := Op.move (Operand.tmp 0), type := 65, pos := "outright.go:168", after := #[], guard := none }) (v := .pointer (some ⟨p, 0, none⟩)) rfl (by kernel_rfl) (by kernel_rfl) (by kernel_rfl) (fun _ _ _ h => h) (by kernel_rfl) (fun _ _ => by kernel_rfl) hH ?_
          try simp only [Act.put, sA, s0, s1]
          refine any_take (i := 1) (oi := { dst := some 99, op := Op.nilCheck (Operand.tmp 98), type := 0, pos := "outright.go:168", after := #[{ on := 0, ground := Ground.data }], guard := none }) (v := .pointer (some ⟨p, 0, none⟩)) rfl (by kernel_rfl) (by kernel_rfl) (by kernel_rfl) (fun _ _ _ h => h) (by kernel_rfl) (fun _ _ => by kernel_rfl) hH ?_
          try simp only [Act.put, sA, s0, s1]
          refine any_take (i := 2) (oi := { dst := some 100, op := Op.fieldAddr 69 (Operand.tmp 99) 3, type := 0, pos := "outright.go:168", after := #[{ on := 1, ground := Ground.data }], guard := none }) (v := .pointer (some ⟨p, 3, none⟩)) rfl (by kernel_rfl) (by kernel_rfl) (by kernel_rfl) (fun _ _ _ h => h) (by kernel_rfl) (fun _ _ => by kernel_rfl) hH ?_
          try simp only [Act.put, sA, s0, s1]
          refine any_take (i := 3) (oi := { dst := some 101, op := Op.load 27 (Operand.tmp 100), type := 27, pos := "outright.go:168", after := #[{ on := 2, ground := Ground.data }], guard := none }) (v := .agg x.v.c.cells) rfl (by kernel_rfl) (by kernel_rfl) (by kernel_rfl) (fun _ _ _ h => h) (by kernel_rfl) (fun w' hw => exec_load 27 _ rfl ⟨p, 3, none⟩ (by kernel_rfl) (.agg x.v.c.cells) (load_pD hw.1)) hH ?_
          try simp only [Act.put, sA, s0, s1]
          refine any_take (i := 4) (oi := { dst := some 102, op := Op.fieldAddr 87 (Operand.tmp 7) 3, type := 0, pos := "outright.go:168", after := #[], guard := none }) (v := .pointer (some ⟨X, 5, none⟩)) rfl (by kernel_rfl) (by kernel_rfl) (by kernel_rfl) (fun _ _ _ h => h) (by kernel_rfl) (fun _ _ => by kernel_rfl) hH ?_
          try simp only [Act.put, sA, s0, s1]
          refine any_take (i := 5) (oi := { dst := some 103, op := Op.load 27 (Operand.tmp 102), type := 27, pos := "outright.go:168", after := #[{ on := 4, ground := Ground.data }], guard := none }) (v := .agg x.v.c.cells) rfl (by kernel_rfl) (by kernel_rfl) (by kernel_rfl) (fun _ _ _ h => h) (by kernel_rfl) (fun w' hw => exec_load 27 _ rfl ⟨X, 5, none⟩ (by kernel_rfl) (.agg x.v.c.cells) (load_PC (x := (x.addA s (some ⟨g1, 0, none⟩) c1)) hw.2)) hH ?_
          try simp only [Act.put, sA, s0, s1]
          refine any_take (i := 6) (oi := { dst := some 104, op := Op.binOp BinOp.eql 27 (Operand.tmp 101) (Operand.tmp 103) 27, type := 4, pos := "outright.go:168", after := #[{ on := 3, ground := Ground.data }, { on := 5, ground := Ground.data }], guard := none }) (v := .bool true) rfl (by kernel_rfl) (by kernel_rfl) (by kernel_rfl) (fun _ _ _ h => h) (by kernel_rfl) (fun w' hw => exec_bin .eql 27 _ _ _ rfl (.agg x.v.c.cells) (.agg x.v.c.cells) (.bool true) (by kernel_rfl) (by kernel_rfl) (guard_C _ (.inl rfl) _ _ _ _ _) (by rw [eqlC, eqC_refl])) hH ?_
          try simp only [Act.put, sA, s0, s1]
          refine any_take (i := 7) (oi := { dst := some 6, op := Op.assign (Operand.tmp 104), type := 4, pos := "outright.go:168", after := #[{ on := 6, ground := Ground.data }, { on := 0, ground := Ground.phase }, { on := 1, ground := Ground.phase }, { on := 2, ground := Ground.phase }, { on := 3, ground := Ground.phase }, { on := 4, ground := Ground.phase }, { on := 5, ground := Ground.phase }, { on := 6, ground := Ground.phase }], guard := none }) (v := .bool true) rfl (by kernel_rfl) (by kernel_rfl) (by kernel_rfl) (fun _ _ _ h => h) (by kernel_rfl) (fun _ _ => by kernel_rfl) hH ?_
          try simp only [Act.put, sA, s0, s1]
          refine wpAnyH_done (by kernel_rfl) ?_ _
          try simp only [Act.put, sA, s0, s1]
          have HFI : Hid (Inv ⟨st.f, st.is.set s (accI i0 x.v.b x.v.c), st.ls.set k (x.addA s (some ⟨g1, 0, none⟩) c1).v, x.v.c⟩) := HNX.out x.v.c (.inl ⟨by simpa using q10, .inr ⟨HLN.out, rfl⟩⟩) _ _
          go_wp2
          go_ret
          exact ⟨rfl, _, xs.set k (x.addA s (some ⟨g1, 0, none⟩) c1), HPM.out, HFI.out, rfl, by simp, HK.out⟩
        ·skip
         refine any_take (i := 8) (oi := { dst := some 86, op := Op.binOp BinOp.lss 3 (Operand.tmp 80) (Operand.tmp 85) 3, type := 4, pos := "outright.go:162", after := #[{ on := 2, ground := Ground.data }, { on := 7, ground := Ground.data }], guard := none }) (v := .bool true) rfl (by kernel_rfl) (by kernel_rfl) (by kernel_rfl) (fun _ _ _ h => h) (by kernel_rfl) (fun w' hw => exec_bin .lss 3 _ _ _ rfl (.int .i64 ((x.v.ac ++ [(s : Int)]).length : Int)) (.int .i64 ((st.f : Int) + 1)) (.bool true) (by kernel_rfl) (by kernel_rfl) (by kernel_rfl) (by rw [lssN, q9]; try rfl)) hH ?_
         try simp only [Act.put, sA, s0, s1]
         refine wpAnyH_done (by kernel_rfl) ?_ _
         try simp only [Act.put, sA, s0, s1]
         have hlen : x.v.ac.length + 1 < st.f + 1 := by have h := q9; simp at h; omega
         have HFI : Hid (Inv ⟨st.f, st.is.set s (accI i0 x.v.b x.v.c), st.ls.set k (x.addA s (some ⟨g1, 0, none⟩) c1).v, st.dec⟩) := HNX.out st.dec (by rcases HDK.out with h | h; exact .inl ⟨h, .inl ⟨hlen, rfl⟩⟩; exact .inr ⟨h, rfl⟩) _ _
         go_wp2
         go_ret
         exact ⟨rfl, _, xs.set k (x.addA s (some ⟨g1, 0, none⟩) c1), HPM.out, HFI.out, rfl, by simp, HK.out⟩
       ·skip
        refine wp_callW 36 #[.slice x.aa x.v.ac.length x.ac, .int .i64 s] (by kernel_rfl) _ (has_any _ _ _ x.v.ac _ _ rfl (by have := HLE.out; omega) ((HPM.out.aown k x HXK.out (by simp)).nums rfl)) (by kernel_rfl) ?_
        rintro e wq ⟨rfl, hwq⟩
        rw [hwq]
        clear hwq wq
        refine ⟨.bool true, by rw [q8], ?_⟩
        try simp only [Act.put, sA, s0, s1]
        refine wp_takeW (.bool true) (by kernel_rfl) (by kernel_rfl) ?_
        try simp only [Act.put, sA, s0, s1]
        refine WL.nil ?_
        try simp only [Act.put, sA, s0, s1]
        have HFI : Hid (Inv ({ st with is := st.is.set s (accI i0 x.v.b x.v.c) } : PS)) := by rw [(acc_k15 q7).2.2]; exact HIv.out.acc0 HXV.out HSI.out (acc_k15 (c := x.v.c) q7).1 (acc_k15 (c := x.v.c) q7).2.1 (by simpa using q8)
        go_wp2
        go_ret
        exact ⟨rfl, _, xs, HPM.out, HFI.out, rfl, rfl, HK.out⟩

end Go.Proofs.Ytapjnanenfcdjaa
