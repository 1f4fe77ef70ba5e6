import Derived.Test.YtpabpeppgpeaoaaF
namespace Go.Proofs.Ytpabpeppgpeaoaa
open Go.RowKit Gt
set_option linter.unusedVariables false
set_option linter.unusedSimpArgs false

theorem load_one {w : World} {ad : Addr} {t : TypeId} {d : TypeDesc} {v : Value} (hc : w.cell? ad = some v) (hu : Try.prog.underlying t = some d) (hd : (match d with | .struct _ | .array _ _ => true | _ => false) = false) : (loadVar t ad).run Try.prog w = .ok v w := by
  have hagg : (isAgg t).run Try.prog w = .ok false w := by
    unfold isAgg
    rw [Sem.run_bind, run_underlying hu w]
    cases d <;> simp_all
  simp [loadVar, Sem.run_bind, hagg, hc]
theorem load_N {w : World} {ad : Addr} {v : Value} (hc : w.cell? ad = some v) : (loadVar 3 ad).run Try.prog w = .ok v w := load_one hc Try.und3 rfl
theorem load_B {w : World} {ad : Addr} {v : Value} (hc : w.cell? ad = some v) : (loadVar 4 ad).run Try.prog w = .ok v w := load_one hc Try.und4 rfl
theorem eqlN (a b : Int) (w : World) : (binOp .eql 3 (.int .i64 a) (.int .i64 b)).run Try.prog w = .ok (.bool (a == b)) w := by
  first | kernel_rfl | simp [binOp, Op.intCmp]
theorem Try.und37 : Try.prog.underlying 37 = some (.struct (Try.prog.fieldsOf 37)) := by kernel_rfl
theorem Try.und23 : Try.prog.underlying 23 = some (.struct (Try.prog.fieldsOf 23)) := by kernel_rfl
theorem Try.size23 : (Try.prog.info? 23).map (·.size) = some 4 := by kernel_rfl
theorem Try.size3 : (Try.prog.info? 3).map (·.size) = some 1 := by kernel_rfl
def Ky.cells (y : Ky) : Array Value := y.cs.toArray
theorem Ky.one (y : Ky) : ∀ u ∈ y.cs, u.oneCell' = true := by simp [Ky.cs, Value.oneCell']
theorem Pv.partA (v : Pv) : Part v.cs 0 [.bool true, .int .i64 v.cl] := fun j x h => by
  match j, h with
  | 0, h => exact h
  | 1, h => exact h
theorem Pv.partK (v : Pv) : Part v.cs 3 v.ky.cs := Part.mid _ _ _ rfl
theorem load_pA {w : World} {p : Nat} {v : Pv} (h : Box w p 94 v.cells) : (loadVar 37 ⟨p, 0, none⟩).run Try.prog w = .ok (.agg #[.bool true, .int .i64 v.cl]) w := run_load_part h v.partA Try.und37 rfl Try.size37
theorem load_pK {w : World} {p : Nat} {v : Pv} (h : Box w p 94 v.cells) : (loadVar 23 ⟨p, 3, none⟩).run Try.prog w = .ok (.agg v.ky.cells) w := run_load_part h v.partK Try.und23 rfl Try.size23
theorem store_mA {w : World} {g : Nat} {m : Ms} (h : Box w g 47 m.cells) (b : Bool) (i : Int) : (storeVar 37 ⟨g, 1, none⟩ (.agg #[.bool b, .int .i64 i])).run Try.prog w = .ok () (w.setRow g ({ m with fc := b, fi := i } : Ms).cells) :=
  run_store_at (vs := [.bool b, .int .i64 i]) h rfl Try.size37 (by rw [Ms.len]; exact Nat.le_of_ble_eq_true rfl) (by simp [Value.oneCell'])
theorem store_mO {w : World} {g : Nat} {m : Ms} (h : Box w g 47 m.cells) (i : Int) : (storeVar 3 ⟨g, 5, none⟩ (.int .i64 i)).run Try.prog w = .ok () (w.setRow g ({ m with op := i } : Ms).cells) :=
  run_store_at (vs := [.int .i64 i]) h rfl Try.size3 (by rw [Ms.len]; exact Nat.le_of_ble_eq_true rfl) (by simp [Value.oneCell'])
theorem store_mR {w : World} {g : Nat} {m : Ms} (h : Box w g 47 m.cells) (i : Int) : (storeVar 3 ⟨g, 6, none⟩ (.int .i64 i)).run Try.prog w = .ok () (w.setRow g ({ m with rd := i } : Ms).cells) :=
  run_store_at (vs := [.int .i64 i]) h rfl Try.size3 (by rw [Ms.len]; exact Nat.le_of_ble_eq_true rfl) (by simp [Value.oneCell'])
theorem store_mK {w : World} {g : Nat} {m : Ms} (h : Box w g 47 m.cells) (y : Ky) : (storeVar 23 ⟨g, 7, none⟩ (.agg y.cells)).run Try.prog w = .ok () (w.setRow g ({ m with ky := y } : Ms).cells) :=
  run_store_at (vs := y.cs) h rfl Try.size23 (by rw [Ms.len]; exact Nat.le_of_ble_eq_true rfl) y.one
theorem store_mm {w : World} {g : Nat} {m : Ms} {cur : Array Value} (h : Box w g 47 cur) (hl : cur.size = 30) : (storeVar 47 ⟨g, 0, none⟩ (.agg m.cells)).run Try.prog w = .ok () (w.setRow g m.cells) :=
  run_storeVar_row w g 47 47 cur m.cells h Try.size47 (by rw [hl]; rfl) m.one
theorem results_row1 {fn : Func} {p : Tmp} {t : TypeId} (h : fn.results = #[.cell p t]) (tmps : Array Value) (w : World) (g : Nat) (cs : Array Value) (hp : tmps.getD p undef = .pointer (some ⟨g, 0, none⟩)) (hrun : (loadVar t ⟨g, 0, none⟩).run Try.prog w = .ok (.agg cs) w) :
    (results fn tmps).run Try.prog w = .ok (.agg cs) w := by
  have hp' : tmps[p]?.getD undef = .pointer (some ⟨g, 0, none⟩) := by simpa using hp
  simp [results, h, hp', asAddr, hrun]

/-- The message as the proposer's own. -/
def Pv.msg (v : Pv) (m : Ms) : Ms := { m with fc := true, fi := v.cl, op := v.op, rd := v.rd, ky := v.ky }
set_option maxRecDepth 100000 in
set_option maxHeartbeats 4000000 in
theorem message_any (p : Nat) (v : Pv) (m : Ms) (w : World) (h : Box w p 94 v.cells) : Calls Try.prog 74 #[.pointer (some ⟨p, 0, none⟩), .agg m.cells] w (fun e w' => e = .returned (.agg (v.msg m).cells) ∧ Kept No w w') := by
  obtain ⟨C, hC⟩ : ∃ C, C = (fun (e : Ending) (w' : World) => e = .returned (.agg (v.msg m).cells) ∧ Kept No w w') := ⟨_, rfl⟩
  have HC : Hid (C = fun e w' => e = .returned (.agg (v.msg m).cells) ∧ Kept No w w') := hC
  rw [← hC]
  clear hC
  have HPW : Hid (Box w p 94 v.cells) := h
  have hpl := h.lt
  clear h
  go_enter Try.func74, Try.ntmps74
  go_upto_region 0 with fail
  refine WL.start ?_
  refine uR (pV w.heap.size 0) (w.alloc (.cells m.cells 47)) (exec_box 47 _ rfl m.cells (by kernel_rfl)) ?_
  try simp only [pS]
  refine wp_allocW 47 rfl msZ.cells zeroMs (w.heap.size + 1) (by simp) (by kernel_rfl) ?_
  try simp only [pS]
  refine WL.nil ?_
  try simp only [pS]
  obtain ⟨wk0, hw0⟩ : ∃ wk0, wk0 = (w.alloc (.cells m.cells 47)).alloc (.cells msZ.cells 47) := ⟨_, rfl⟩
  rw [← hw0]
  have HK : Hid (Kept No w wk0) := by rw [hw0]; exact ((Kept.refl No w).alloc _).alloc _
  have HP : Hid (Box wk0 (p) 94 (v.cells)) := by rw [hw0]; exact (HPW.out.alloc _).alloc _
  have H3 : Hid (Box wk0 (w.heap.size) 47 (m.cells)) := by rw [hw0]; exact (Box.new _ _ _).alloc _
  have H4 : Hid (Box wk0 (w.heap.size + 1) 47 (msZ.cells)) := by
    have h := Box.new (w.alloc (.cells m.cells 47)) 47 msZ.cells
    rw [World.size_alloc] at h
    rw [hw0]; exact h
  have HLT : Hid (w.heap.size + 1 < wk0.heap.size) := H4.out.lt
  obtain ⟨B3, hB3⟩ : ∃ B3, B3 = w.heap.size := ⟨_, rfl⟩
  obtain ⟨B4, hB4⟩ : ∃ B4, B4 = w.heap.size + 1 := ⟨_, rfl⟩
  rw [← hB4] at H4 HLT ⊢
  rw [← hB3] at H3 ⊢
  have HO : Hid (w.heap.size ≤ B3 ∧ B3 < B4 ∧ p < w.heap.size) := ⟨by omega, by omega, hpl⟩
  clear hw0 hB3 hB4 hpl HPW
  go_upto_region 1 with fail
  refine wp_region_held_drew (S := fun w' => Box w' (p) 94 (v.cells)) rfl HP.out (fun hH => ?_)
  have HP : Hid (Box wk0.drew (p) 94 (v.cells)) := HP.out
  have H3 : Hid (Box wk0.drew (B3) 47 (m.cells)) := H3.out
  have H4 : Hid (Box wk0.drew (B4) 47 (msZ.cells)) := H4.out
  have HK : Hid (Kept No w wk0.drew) := HK.out.drew
  have HLT : Hid (B4 < wk0.drew.heap.size) := HLT.out
  generalize wk0.drew = wk1 at HP H3 H4 HK HLT hH ⊢
  refine xV 0 5 (pV p 0) hH <| xV 1 6 (pV p 0) hH <| xV 2 7 (pV p 0) hH <| xL 3 8 37 ⟨p, 0, none⟩ (.agg #[.bool true, .int .i64 v.cl]) (fun _ hw => load_pA hw) hH <| xV 4 9 (pV p 0) hH <| xV 5 10 (pV p 0) hH <| ?_
  try simp only [pS]
  refine xV 6 11 (pV p 2) hH <| xL 7 12 3 ⟨p, 2, none⟩ (.int .i64 v.op) (fun _ hw => load_N (hw.cell 2)) hH <| xV 8 13 (pV p 0) hH <| xV 9 14 (pV p 0) hH <| xV 10 15 (pV p 20) hH <| xL 11 16 3 ⟨p, 20, none⟩ (.int .i64 v.rd) (fun _ hw => load_N (hw.cell 20)) hH <| ?_
  try simp only [pS]
  refine xV 12 17 (pV p 0) hH <| xV 13 18 (pV p 0) hH <| xV 14 19 (pV p 3) hH <| xL 15 20 23 ⟨p, 3, none⟩ (.agg v.ky.cells) (fun _ hw => load_pK hw) hH <| xV 16 21 (pV B3 1) hH <| ?_
  try simp only [pS]
  refine xS 17 37 ⟨B3, 1, none⟩ (.agg #[.bool true, .int .i64 v.cl]) (store_mA H3.out true v.cl) (hH.rowNe (by have := HO.out; omega) _) (fun hH => ?_)
  have HLT : Hid (B4 < (wk1.setRow B3 (({ m with fc := true, fi := v.cl } : Ms).cells)).heap.size) := by show _ < _; rw [setRow_size]; exact HLT.out
  have HP : Hid (Box (wk1.setRow B3 (({ m with fc := true, fi := v.cl } : Ms).cells)) (p) 94 (v.cells)) := HP.out.rowNe (by have := HO.out; omega) _
  have H3 : Hid (Box (wk1.setRow B3 (({ m with fc := true, fi := v.cl } : Ms).cells)) (B3) 47 (({ m with fc := true, fi := v.cl } : Ms).cells)) := H3.out.setRow _
  have H4 : Hid (Box (wk1.setRow B3 (({ m with fc := true, fi := v.cl } : Ms).cells)) (B4) 47 (msZ.cells)) := H4.out.rowNe (by have := HO.out; omega) _
  have HK : Hid (Kept No w (wk1.setRow B3 (({ m with fc := true, fi := v.cl } : Ms).cells))) := HK.out.newRow (by have := HO.out; omega) _
  generalize wk1.setRow B3 (({ m with fc := true, fi := v.cl } : Ms).cells) = wk2 at HP H3 H4 HK HLT hH ⊢
  refine xV 18 22 (pV B3 5) hH ?_
  try simp only [pS]
  refine xS 19 3 ⟨B3, 5, none⟩ (.int .i64 v.op) (store_mO H3.out v.op) (hH.rowNe (by have := HO.out; omega) _) (fun hH => ?_)
  have HLT : Hid (B4 < (wk2.setRow B3 (({ ({ m with fc := true, fi := v.cl } : Ms) with op := v.op } : Ms).cells)).heap.size) := by show _ < _; rw [setRow_size]; exact HLT.out
  have HP : Hid (Box (wk2.setRow B3 (({ ({ m with fc := true, fi := v.cl } : Ms) with op := v.op } : Ms).cells)) (p) 94 (v.cells)) := HP.out.rowNe (by have := HO.out; omega) _
  have H3 : Hid (Box (wk2.setRow B3 (({ ({ m with fc := true, fi := v.cl } : Ms) with op := v.op } : Ms).cells)) (B3) 47 (({ ({ m with fc := true, fi := v.cl } : Ms) with op := v.op } : Ms).cells)) := H3.out.setRow _
  have H4 : Hid (Box (wk2.setRow B3 (({ ({ m with fc := true, fi := v.cl } : Ms) with op := v.op } : Ms).cells)) (B4) 47 (msZ.cells)) := H4.out.rowNe (by have := HO.out; omega) _
  have HK : Hid (Kept No w (wk2.setRow B3 (({ ({ m with fc := true, fi := v.cl } : Ms) with op := v.op } : Ms).cells))) := HK.out.newRow (by have := HO.out; omega) _
  generalize wk2.setRow B3 (({ ({ m with fc := true, fi := v.cl } : Ms) with op := v.op } : Ms).cells) = wk3 at HP H3 H4 HK HLT hH ⊢
  refine xV 20 23 (pV B3 6) hH ?_
  try simp only [pS]
  refine xS 21 3 ⟨B3, 6, none⟩ (.int .i64 v.rd) (store_mR H3.out v.rd) (hH.rowNe (by have := HO.out; omega) _) (fun hH => ?_)
  have HLT : Hid (B4 < (wk3.setRow B3 (({ ({ ({ m with fc := true, fi := v.cl } : Ms) with op := v.op } : Ms) with rd := v.rd } : Ms).cells)).heap.size) := by show _ < _; rw [setRow_size]; exact HLT.out
  have HP : Hid (Box (wk3.setRow B3 (({ ({ ({ m with fc := true, fi := v.cl } : Ms) with op := v.op } : Ms) with rd := v.rd } : Ms).cells)) (p) 94 (v.cells)) := HP.out.rowNe (by have := HO.out; omega) _
  have H3 : Hid (Box (wk3.setRow B3 (({ ({ ({ m with fc := true, fi := v.cl } : Ms) with op := v.op } : Ms) with rd := v.rd } : Ms).cells)) (B3) 47 (({ ({ ({ m with fc := true, fi := v.cl } : Ms) with op := v.op } : Ms) with rd := v.rd } : Ms).cells)) := H3.out.setRow _
  have H4 : Hid (Box (wk3.setRow B3 (({ ({ ({ m with fc := true, fi := v.cl } : Ms) with op := v.op } : Ms) with rd := v.rd } : Ms).cells)) (B4) 47 (msZ.cells)) := H4.out.rowNe (by have := HO.out; omega) _
  have HK : Hid (Kept No w (wk3.setRow B3 (({ ({ ({ m with fc := true, fi := v.cl } : Ms) with op := v.op } : Ms) with rd := v.rd } : Ms).cells))) := HK.out.newRow (by have := HO.out; omega) _
  generalize wk3.setRow B3 (({ ({ ({ m with fc := true, fi := v.cl } : Ms) with op := v.op } : Ms) with rd := v.rd } : Ms).cells) = wk4 at HP H3 H4 HK HLT hH ⊢
  refine xV 22 24 (pV B3 7) hH ?_
  try simp only [pS]
  refine xS 23 23 ⟨B3, 7, none⟩ (.agg v.ky.cells) (store_mK H3.out v.ky) (hH.rowNe (by have := HO.out; omega) _) (fun hH => ?_)
  have HLT : Hid (B4 < (wk4.setRow B3 (({ ({ ({ ({ m with fc := true, fi := v.cl } : Ms) with op := v.op } : Ms) with rd := v.rd } : Ms) with ky := v.ky } : Ms).cells)).heap.size) := by show _ < _; rw [setRow_size]; exact HLT.out
  have HP : Hid (Box (wk4.setRow B3 (({ ({ ({ ({ m with fc := true, fi := v.cl } : Ms) with op := v.op } : Ms) with rd := v.rd } : Ms) with ky := v.ky } : Ms).cells)) (p) 94 (v.cells)) := HP.out.rowNe (by have := HO.out; omega) _
  have H3 : Hid (Box (wk4.setRow B3 (({ ({ ({ ({ m with fc := true, fi := v.cl } : Ms) with op := v.op } : Ms) with rd := v.rd } : Ms) with ky := v.ky } : Ms).cells)) (B3) 47 (({ ({ ({ ({ m with fc := true, fi := v.cl } : Ms) with op := v.op } : Ms) with rd := v.rd } : Ms) with ky := v.ky } : Ms).cells)) := H3.out.setRow _
  have H4 : Hid (Box (wk4.setRow B3 (({ ({ ({ ({ m with fc := true, fi := v.cl } : Ms) with op := v.op } : Ms) with rd := v.rd } : Ms) with ky := v.ky } : Ms).cells)) (B4) 47 (msZ.cells)) := H4.out.rowNe (by have := HO.out; omega) _
  have HK : Hid (Kept No w (wk4.setRow B3 (({ ({ ({ ({ m with fc := true, fi := v.cl } : Ms) with op := v.op } : Ms) with rd := v.rd } : Ms) with ky := v.ky } : Ms).cells))) := HK.out.newRow (by have := HO.out; omega) _
  generalize wk4.setRow B3 (({ ({ ({ ({ m with fc := true, fi := v.cl } : Ms) with op := v.op } : Ms) with rd := v.rd } : Ms) with ky := v.ky } : Ms).cells) = wk5 at HP H3 H4 HK HLT hH ⊢
  refine wpAnyH_done (by kernel_rfl) ?_ _
  try simp only [pS]
  go_upto_region 2 with fail
  refine WL.start <| uL 47 ⟨B3, 0, none⟩ (.agg (({ ({ ({ ({ m with fc := true, fi := v.cl } : Ms) with op := v.op } : Ms) with rd := v.rd } : Ms) with ky := v.ky } : Ms).cells)) (load_Ms H3.out) <| ?_
  try simp only [pS]
  refine uT 47 ⟨B4, 0, none⟩ (.agg (({ ({ ({ ({ m with fc := true, fi := v.cl } : Ms) with op := v.op } : Ms) with rd := v.rd } : Ms) with ky := v.ky } : Ms).cells)) _ (store_mm H4.out rfl) ?_
  try simp only [pS]
  have HLT : Hid (B4 < (wk5.setRow B4 (({ ({ ({ ({ m with fc := true, fi := v.cl } : Ms) with op := v.op } : Ms) with rd := v.rd } : Ms) with ky := v.ky } : Ms).cells)).heap.size) := by show _ < _; rw [setRow_size]; exact HLT.out
  have HP : Hid (Box (wk5.setRow B4 (({ ({ ({ ({ m with fc := true, fi := v.cl } : Ms) with op := v.op } : Ms) with rd := v.rd } : Ms) with ky := v.ky } : Ms).cells)) (p) 94 (v.cells)) := HP.out.rowNe (by have := HO.out; omega) _
  have H3 : Hid (Box (wk5.setRow B4 (({ ({ ({ ({ m with fc := true, fi := v.cl } : Ms) with op := v.op } : Ms) with rd := v.rd } : Ms) with ky := v.ky } : Ms).cells)) (B3) 47 (({ ({ ({ ({ m with fc := true, fi := v.cl } : Ms) with op := v.op } : Ms) with rd := v.rd } : Ms) with ky := v.ky } : Ms).cells)) := H3.out.rowNe (by have := HO.out; omega) _
  have H4 : Hid (Box (wk5.setRow B4 (({ ({ ({ ({ m with fc := true, fi := v.cl } : Ms) with op := v.op } : Ms) with rd := v.rd } : Ms) with ky := v.ky } : Ms).cells)) (B4) 47 (({ ({ ({ ({ m with fc := true, fi := v.cl } : Ms) with op := v.op } : Ms) with rd := v.rd } : Ms) with ky := v.ky } : Ms).cells)) := H4.out.setRow _
  have HK : Hid (Kept No w (wk5.setRow B4 (({ ({ ({ ({ m with fc := true, fi := v.cl } : Ms) with op := v.op } : Ms) with rd := v.rd } : Ms) with ky := v.ky } : Ms).cells))) := HK.out.newRow (by have := HO.out; omega) _
  generalize wk5.setRow B4 (({ ({ ({ ({ m with fc := true, fi := v.cl } : Ms) with op := v.op } : Ms) with rd := v.rd } : Ms) with ky := v.ky } : Ms).cells) = wk6 at HP H3 H4 HK HLT ⊢
  refine WL.nil ?_
  try simp only [pS]
  go_wp2
  rw [HC.out]
  refine bodyPost_ret (results_row1 (by rfl) _ _ B4 (v.msg m).cells (by rfl) (load_Ms H4.out)) rfl ?_
  exact ⟨rfl, HK.out⟩

end Go.Proofs.Ytpabpeppgpeaoaa
