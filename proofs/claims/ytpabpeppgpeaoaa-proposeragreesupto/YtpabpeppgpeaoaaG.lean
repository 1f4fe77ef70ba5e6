import Derived.Test.YtpabpeppgpeaoaaB
import Derived.Maps.AppendAt
namespace Go.Proofs.Ytpabpeppgpeaoaa
open Go.RowKit
set_option linter.unusedVariables false
set_option linter.unusedSimpArgs false

theorem exec_ixA {o : Oper} {a : Act} {w : World} (t : TypeId) (n : Nat) (hu : Try.prog.underlying t = some (.slice (Try.prog.elem t))) (hs : (Try.prog.info? (Try.prog.elem t)).map (·.size) = some n)
    (x y : Operand) (ho : o.op = .indexAddr t x y) (b off len cap i : Nat) (hx : a.eval x = .slice (some ⟨b, off, none⟩) len cap) (hy : a.eval y = .int .i64 i) (hi : i < len) : (execOp a.eval o).run Try.prog w = .ok (.value (.pointer (some ⟨b, off + i * n, none⟩))) w := by
  cases hq : Try.prog.info? (Try.prog.elem t) with
  | none => rw [hq] at hs; cases hs
  | some inf =>
    rw [hq] at hs
    have hsz : inf.size = n := by simpa using hs
    have hrun : (Instr.indexAt t (.slice (some ⟨b, off, none⟩) len cap) (.int .i64 i)).run Try.prog w = .ok (.pointer (some ⟨b, off + i * n, none⟩)) w := by
      rw [run_indexAt_slice w t _ len cap .i64 i hu, if_pos ⟨by omega, by omega⟩]
      simp [sizeOf, typeInfo, hq, hsz, addr_add]
    simp only [execOp, ho, hx, hy, Sem.run_bind, hrun, Result.andThen_ok, Sem.run_pure]
theorem exec_append {o : Oper} {a : Act} {w : World} (s x : Operand) (T E : TypeId) (c by' : Nat) (z : Value) (ht : Try.prog.underlying T = some (.slice E))
    (hinf : (Try.prog.info? E).map (fun i => (i.zero, i.size, i.bytes)) = some (some z, c, by')) (hzc : z.cells.size = c) (hc0 : 0 < c) (ho : o.op = .call { callee := Callee.builtin Builtin.append, args := #[s, x], argTypes := #[T, T] })
    (base n cap : Nat) (sa : Option Addr) (vs : List Value) (hs : a.eval s = .slice sa n cap) (hown : Own E c w base sa cap n vs) (ad : Addr) (cc : Nat) (news : List Value) (hx : a.eval x = .slice (some ad) 1 cc) (hl : news.length = c) (hnews : ∀ j u, news[j]? = some u → w.cell? (ad.add j) = some u) (h1 : ∀ u ∈ news, u.oneCell' = true) (hbd : (n + 1) * by' ≤ 140737488355328) (hb63 : n + 1 ≤ 100000000) (hbase : base ≤ w.heap.size) :
    ∃ g' cap' w', (execOp a.eval o).run Try.prog w = .ok (.value (.slice (some ⟨g', 0, none⟩) (n + 1) cap')) w' ∧ Own E c w' base (some ⟨g', 0, none⟩) cap' (n + 1) (vs ++ news) ∧ Kept (At sa) w w' ∧ (At sa g' ∨ g' = w.heap.size) := by
  obtain ⟨i0, hi, hz0, hz1, hz2⟩ := info_parts hinf
  obtain ⟨v', w', hrun, r1, r2, _, r4⟩ := run_append_own_at (P := Try.prog) (w := w) base T o.type E i0 z c by' ht hi hz0 hz1 hz2 hzc hc0 (.slice sa n cap) n vs hown ad 1 cc news (by omega) hnews h1 (by unfold maxLen; omega) hbd hbase
  have hk : Kept (At sa) w w' := (Kept.refl (At sa) w).grown r2 (fun k e hk => by
    cases sa with
    | none => cases e
    | some ad' => simp only [Value.ownBlock, Option.some.injEq] at e; exact ⟨ad', rfl, e⟩)
  rcases r1.2 with ⟨e, h0⟩ | ⟨g, cap', cur, e, _⟩
  · omega
  · subst e
    have h4 : At sa g ∨ g = w.heap.size := by
      rcases r4 with e | e
      · left
        cases sa with
        | none => simp [Value.ownBlock] at e
        | some ad' => simp only [Value.ownBlock, Option.some.injEq] at e; exact ⟨ad', rfl, e.symm⟩
      · right; simpa [Value.ownBlock] using e
    refine ⟨g, cap', w', ?_, r1, hk, h4⟩
    simp [execOp, ho, resolve, invoke, builtin, hs, hx, hrun, Result.andThen]
theorem exec_slice1 {o : Oper} {a : Act} {w : World} (t e : TypeId) (parts : Array (Nat × Operand)) (ho : o.op = .buildSlice t 1 parts) (cells : Array Value) (hrun : (Instr.buildSlice t 1 (parts.map fun (i, x) => (i, a.eval x))).run Try.prog w = .ok (.slice (some ⟨w.heap.size, 0, none⟩) 1 1) (w.alloc (.cells cells e))) : (execOp a.eval o).run Try.prog w = .ok (.value (.slice (some ⟨w.heap.size, 0, none⟩) 1 1)) (w.alloc (.cells cells e)) := by
  simp only [execOp, ho, Sem.run_bind, hrun, Result.andThen_ok, Sem.run_pure]
theorem exec_slice2 {o : Oper} {a : Act} {w : World} (t e : TypeId) (parts : Array (Nat × Operand)) (ho : o.op = .buildSlice t 1 parts) (cells : Array Value) (v : Value) (hp : (parts.map fun (i, x) => (i, a.eval x)) = #[(0, v)])
    (hrun : (Instr.buildSlice t 1 #[(0, v)]).run Try.prog w = .ok (.slice (some ⟨w.heap.size, 0, none⟩) 1 1) (w.alloc (.cells cells e))) : (execOp a.eval o).run Try.prog w = .ok (.value (.slice (some ⟨w.heap.size, 0, none⟩) 1 1)) (w.alloc (.cells cells e)) :=
  exec_slice1 t e parts ho cells (by rw [hp]; exact hrun)
theorem wp_appW {ops : Array Oper} {rest : List Oper} {o : Oper} {a : Act} {w : World} {Q : Exit → Act → World → Prop} {s x : Operand} {vs vx : Value} {base n c : Nat} {E : TypeId} {sa : Option Addr} {l : List Value}
    (happ : ∀ A : Act, A.eval s = vs → A.eval x = vx → ∃ g' cap' w', (execOp A.eval o).run Try.prog w = .ok (.value (.slice (some ⟨g', 0, none⟩) (n + 1) cap')) w' ∧ Own E c w' base (some ⟨g', 0, none⟩) cap' (n + 1) l ∧ Kept (At sa) w w' ∧ (At sa g' ∨ g' = w.heap.size))
    (h1 : a.eval s = vs) (h2 : a.eval x = vx) (hw : Region.wanted o (yielded ops a.tmps) = true)
    (h : ∀ g' cap' w', Own E c w' base (some ⟨g', 0, none⟩) cap' (n + 1) l → Kept (At sa) w w' → (At sa g' ∨ g' = w.heap.size) → WL ops Q rest (a.put o.dst (.slice (some ⟨g', 0, none⟩) (n + 1) cap')) w') : WL ops Q (o :: rest) a w := by
  obtain ⟨g', cap', w', hrun, ho, hk, hg⟩ := happ a h1 h2
  exact wp_runW _ w' hrun hw (h g' cap' w' ho hk hg)
theorem exec_box {o : Oper} {a : Act} {w : World} (t : TypeId) (x : Operand) (ho : o.op = .box t x) (cs : Array Value) (hx : a.eval x = .agg cs) : (execOp a.eval o).run Try.prog w = .ok (.value (.pointer (some ⟨w.heap.size, 0, none⟩))) (w.alloc (.cells cs t)) := by
  simp only [execOp, ho, hx, Instr.box, Sem.run_bind, Result.andThen_ok, newVar, newRow, run_newObj_alloc, Sem.run_pure]
  rfl
theorem slice1_ms (m : Ms) (w : World) : (Instr.buildSlice 66 1 #[(0, .agg m.cells)]).run Try.prog w = .ok (.slice (some ⟨w.heap.size, 0, none⟩) 1 1) (w.alloc (.cells m.cells 47)) := by kernel_rfl
theorem Try.und47' : Try.prog.underlying 47 = some (.struct (Try.prog.fieldsOf 47)) := by kernel_rfl
theorem Try.und66 : Try.prog.underlying 66 = some (.slice 47) := by kernel_rfl
theorem Try.info47 : (Try.prog.info? 47).map (fun i => (i.zero, i.size, i.bytes)) = some (some (.agg msZ.cells), 30, 312) := by kernel_rfl
theorem load_Ms {w : World} {g : Nat} {m : Ms} (hb : Box w g 47 m.cells) : (loadVar 47 ⟨g, 0, none⟩).run Try.prog w = .ok (.agg m.cells) w :=
  run_load_part hb (Part.all _) Try.und47' rfl Try.size47
/-- A message to one server. -/
def Ms.to (m : Ms) (z : Int) : Ms := { m with tc := false, ti := z }
theorem Try.size37 : (Try.prog.info? 37).map (·.size) = some 2 := by kernel_rfl
theorem store_To {w : World} {g : Nat} {m : Ms} (hb : Box w g 47 m.cells) (z : Int) : (storeVar 37 ⟨g, 3, none⟩ (.agg #[.bool false, .int .i64 z])).run Try.prog w = .ok () (w.setRow g (m.to z).cells) :=
  run_store_at (vs := [.bool false, .int .i64 z]) hb rfl Try.size37 (by rw [Ms.len]; exact Nat.le_of_ble_eq_true rfl) (by simp [Value.oneCell'])
def msL (l : List Ms) : List Value := l.flatMap Ms.cs
theorem msL_len (l : List Ms) : (msL l).length = l.length * 30 := by
  induction l with
  | nil => rfl
  | cons m l ih => simp only [msL, List.flatMap_cons, List.length_append, List.length_cons] at *; rw [ih, Ms.len]; omega
theorem msL_snoc (l : List Ms) (m : Ms) : msL (l ++ [m]) = msL l ++ m.cs := by simp [msL]
end Go.Proofs.Ytpabpeppgpeaoaa
namespace Go.Proofs.Ytpabpeppgpeaoaa
open Go.RowKit Gt
set_option linter.unusedVariables false
set_option linter.unusedSimpArgs false

/-- A list of messages that was told: new memory. -/
def MsgsOut (w : World) (l : List Ms) (e : Ending) (w' : World) : Prop :=
  ∃ a cap, e = .returned (.slice a l.length cap) ∧ Own 47 30 w' w.heap.size a cap l.length (msL l) ∧ Kept No w w'
theorem Ms.oneL (m : Ms) : ∀ u ∈ m.cs, u.oneCell' = true := by
  have := m.one
  simp only [Ms.cells, List.all_toArray, List.all_eq_true] at this
  exact this
theorem take_map {zs : List Int} {k : Nat} (m : Ms) (h : k < zs.length) : (zs.take (k + 1)).map m.to = (zs.take k).map m.to ++ [m.to (zs[k]?.getD 0)] := by
  rw [take_snoc h, List.map_append]; rfl

set_option maxRecDepth 100000 in
set_option maxHeartbeats 4000000 in
theorem toEach_any (a0 : Option Addr) (n0 cap0 : Nat) (zs : List Int) (m : Ms) (w : World) (hz : zs.length = n0) (hn : n0 ≤ 2000000) (hb : Nums .i64 w a0 zs) :
    Calls Try.prog 51 #[.slice a0 n0 cap0, .agg m.cells] w (MsgsOut w (zs.map m.to)) := by
  have HZ : Hid (zs.length = n0) := hz
  have HN : Hid (Nums .i64 w a0 zs) := hb
  refine hideC fun C HC => ?_
  clear hz hb
  go_enter Try.func51, Try.ntmps51
  go_upto_region 0 with fail
  refine WL.start ?_
  refine uR (pV w.heap.size 0) (w.alloc (.cells m.cells 47)) (exec_box 47 _ rfl m.cells (by kernel_rfl)) ?_
  try simp only [pS]
  refine uK (.slice none 0 0) <| WL.nil <| ?_
  try simp only [pS]
  obtain ⟨w1, hw1⟩ : ∃ w1, w1 = w.alloc (.cells m.cells 47) := ⟨_, rfl⟩
  have HB1 : Hid (Box w1 w.heap.size 47 m.cells) := by rw [hw1]; exact Box.new _ _ _
  have HK1 : Hid (Kept No w w1) := by rw [hw1]; exact (Kept.refl No w).alloc _
  rw [← hw1]
  clear hw1
  obtain ⟨B, hB⟩ : ∃ B, B = w.heap.size := ⟨_, rfl⟩
  have HBB : Hid (B = w.heap.size) := hB
  rw [← hB] at HB1
  rw [← hB]
  clear hB
  go_wp2
  go_loopw [5, 10] (fun v vi wr => ∃ (k : Nat) (a' : Option Addr) (cap' : Nat), vi = .int .i64 k ∧ k ≤ n0 ∧ v = .slice a' k cap' ∧ Hid (Own 47 30 wr w1.heap.size a' cap' k (msL ((zs.take k).map m.to))) ∧ Hid (∃ mm : Ms, Box wr B 47 mm.cells ∧ ∀ z, mm.to z = m.to z) ∧ Hid (Kept (Only B) w1 wr)) (fun _ i _ => n0 - (intOf i).toNat)
  case atStart => exact ⟨0, none, 0, by go_num, by omega, rfl, Own.nil _ _ _ _, ⟨m, HB1.out, fun z => rfl⟩, Kept.refl _ _⟩
  case round =>
    obtain ⟨k, a', cap', rfl, hk, rfl, HO, HM, HK⟩ := hrel
    have HBl : Hid (B < w1.heap.size) := HB1.out.lt
    clear HB1
    have HKw : Hid (Kept No w wr) := HK1.out.trans HK.out (fun _ e => e) (fun i hi e => by have e : i = B := e; have := HBB.out; omega)
    by_cases hlt : k < n0
    · have hlt' : (k : Int) < (n0 : Int) := by omega
      obtain ⟨bb, off, rfl, hcell⟩ := (HN.out.no HKw.out) k (by rw [HZ.out]; exact hlt)
      have HTk : Hid ((zs.take (k + 1)).map m.to = (zs.take k).map m.to ++ [m.to (zs[k]?.getD 0)]) := take_map m (by rw [HZ.out]; exact hlt)
      generalize zs[k]?.getD 0 = z at hcell HTk
      go_upto_region 5 with fail
      clear hcell
      obtain ⟨mm, hbm, hmm⟩ := HM.out
      have HBm : Hid (Box wr B 47 mm.cells) := hbm
      have HMM : Hid (mm.to z = m.to z) := hmm z
      clear hbm hmm HM
      refine WL.start <| uK (.int .i64 z) <| uW (.agg #[.bool false, .int .i64 z]) (exec_build 37 _ rfl _ (by kernel_rfl)) <| uK (pV B 3) <| ?_
      try simp only [pS]
      refine uT 37 ⟨B, 3, none⟩ (.agg #[.bool false, .int .i64 z]) _ (store_To HBm.out z) ?_
      try simp only [pS]
      refine WL.nil ?_
      try simp only [pS]
      rw [HMM.out]
      obtain ⟨w2, hw2⟩ : ∃ w2, w2 = wr.setRow B (m.to z).cells := ⟨_, rfl⟩
      have HB2 : Hid (Box w2 B 47 (m.to z).cells) := by rw [hw2]; exact HBm.out.setRow _
      have HK2 : Hid (Kept (Only B) wr w2) := by rw [hw2]; exact Kept.setRow _ _ _
      have HO2 : Hid (Own 47 30 w2 w1.heap.size a' cap' k (msL ((zs.take k).map m.to))) := HO.out.kept HK2.out (fun q hq e => by have e : q = B := e; have h1 := HO.out.base hq; have h2 := HBl.out; omega)
      have HS2 : Hid (w1.heap.size ≤ w2.heap.size) := (HK.out.then HK2.out).size
      rw [← hw2]
      clear hw2 HBm HMM HO
      go_upto_region 6 with fail
      refine WL.start <| uK (.slice a' k cap') <| uL 47 ⟨B, 0, none⟩ (.agg (m.to z).cells) (load_Ms HB2.out) <| ?_
      try simp only [pS]
      refine uR (.slice (some ⟨w2.heap.size, 0, none⟩) 1 1) (w2.alloc (.cells (m.to z).cells 47)) (exec_slice2 66 47 _ rfl (m.to z).cells (.agg (m.to z).cells) (by kernel_rfl) (slice1_ms _ _)) ?_
      try simp only [pS]
      refine wp_appW (vs := .slice a' k cap') (vx := .slice (some ⟨w2.heap.size, 0, none⟩) 1 1) (base := w1.heap.size) (n := k) (c := 30) (E := 47) (sa := a') (l := msL ((zs.take k).map m.to) ++ (m.to z).cs)
        (fun A h1 h2 => exec_append _ _ 66 47 30 312 _ Try.und66 Try.info47 rfl (by omega) rfl w1.heap.size k cap' a' _ h1 (HO2.out.no ((Kept.refl No w2).alloc _)) ⟨w2.heap.size, 0, none⟩ 1 (m.to z).cs h2 rfl (cell_newL _ _ _) (m.to z).oneL (by omega) (by omega) (by have := HS2.out; simp; omega)) (by kernel_rfl) (by kernel_rfl) (by kernel_rfl) ?_
      intro g' cap'' w3 hO3 hK3 hA3
      try simp only [pS]
      refine uK (.slice (some ⟨g', 0, none⟩) (k + 1) cap'') <| WL.nil <| ?_
      try simp only [pS]
      have HB3 : Hid (Box w3 B 47 (m.to z).cells) := (HB2.out.alloc _).kept hK3 (fun e => by have h1 := HO2.out.base e; have h2 := HBl.out; omega)
      have HK3 : Hid (Kept (Only B) w1 w3) := ((HK.out.then HK2.out).alloc _).trans hK3 (fun _ e => e) (fun i hi e => by have h1 := HO2.out.base e; omega)
      have HO3 : Hid (Own 47 30 w3 w1.heap.size (some ⟨g', 0, none⟩) cap'' (k + 1) (msL ((zs.take (k + 1)).map m.to))) := by rw [HTk.out, msL_snoc]; exact hO3
      clear hO3 hK3 hA3 HB2 HK2 HO2 HS2
      go_wp2
      go_roundw
      case rel => exact ⟨k + 1, _, _, by go_num, by omega, rfl, HO3, ⟨_, HB3.out, fun z' => rfl⟩, HK3⟩
      case measure => simp [intOf]; omega
    · have hlt' : ¬ (k : Int) < (n0 : Int) := by omega
      obtain rfl : k = n0 := by omega
      go_wp2
      rw [HC.out]
      have hO := HO.out
      rw [List.take_of_length_le (by rw [HZ.out]; omega)] at hO
      have hl : (zs.map m.to).length = k := by rw [List.length_map]; exact HZ.out
      unfold MsgsOut
      rw [hl]
      exact ⟨a', cap', rfl, Own.lower hO (HK1.out.size), HKw.out⟩
end Go.Proofs.Ytpabpeppgpeaoaa
namespace Go.Proofs.Ytpabpeppgpeaoaa
open Go.RowKit Gt
set_option linter.unusedVariables false
set_option linter.unusedSimpArgs false

theorem load_one {w : World} {ad : Addr} {t : TypeId} {d : TypeDesc} {v : Value} (hc : w.cell? ad = some v) (hu : Try.prog.underlying t = some d) (hd : (match d with | .struct _ | .array _ _ => true | _ => false) = false) : (loadVar t ad).run Try.prog w = .ok v w := by
  have hagg : (isAgg t).run Try.prog w = .ok false w := by
    unfold isAgg
    rw [Sem.run_bind, run_underlying hu w]
    cases d <;> simp_all
  simp [loadVar, Sem.run_bind, hagg, hc]
theorem load_N {w : World} {ad : Addr} {v : Value} (hc : w.cell? ad = some v) : (loadVar 3 ad).run Try.prog w = .ok v w := load_one hc Try.und3 rfl
theorem load_B {w : World} {ad : Addr} {v : Value} (hc : w.cell? ad = some v) : (loadVar 4 ad).run Try.prog w = .ok v w := load_one hc Try.und4 rfl
theorem eqlN (a b : Int) (w : World) : (binOp .eql 3 (.int .i64 a) (.int .i64 b)).run Try.prog w = .ok (.bool (a == b)) w := by
  first | kernel_rfl | simp [binOp, Op.intCmp]
theorem Try.und37 : Try.prog.underlying 37 = some (.struct (Try.prog.fieldsOf 37)) := by kernel_rfl
theorem Try.und23 : Try.prog.underlying 23 = some (.struct (Try.prog.fieldsOf 23)) := by kernel_rfl
theorem Try.size23 : (Try.prog.info? 23).map (·.size) = some 4 := by kernel_rfl
theorem Try.size3 : (Try.prog.info? 3).map (·.size) = some 1 := by kernel_rfl
def Ky.cells (y : Ky) : Array Value := y.cs.toArray
theorem Ky.one (y : Ky) : ∀ u ∈ y.cs, u.oneCell' = true := by simp [Ky.cs, Value.oneCell']
theorem Pv.partA (v : Pv) : Part v.cs 0 [.bool true, .int .i64 v.cl] := fun j x h => by
  match j, h with
  | 0, h => exact h
  | 1, h => exact h
theorem Pv.partK (v : Pv) : Part v.cs 3 v.ky.cs := Part.mid _ _ _ rfl
theorem load_pA {w : World} {p : Nat} {v : Pv} (h : Box w p 94 v.cells) : (loadVar 37 ⟨p, 0, none⟩).run Try.prog w = .ok (.agg #[.bool true, .int .i64 v.cl]) w := run_load_part h v.partA Try.und37 rfl Try.size37
theorem load_pK {w : World} {p : Nat} {v : Pv} (h : Box w p 94 v.cells) : (loadVar 23 ⟨p, 3, none⟩).run Try.prog w = .ok (.agg v.ky.cells) w := run_load_part h v.partK Try.und23 rfl Try.size23
theorem store_mA {w : World} {g : Nat} {m : Ms} (h : Box w g 47 m.cells) (b : Bool) (i : Int) : (storeVar 37 ⟨g, 1, none⟩ (.agg #[.bool b, .int .i64 i])).run Try.prog w = .ok () (w.setRow g ({ m with fc := b, fi := i } : Ms).cells) :=
  run_store_at (vs := [.bool b, .int .i64 i]) h rfl Try.size37 (by rw [Ms.len]; exact Nat.le_of_ble_eq_true rfl) (by simp [Value.oneCell'])
theorem store_mO {w : World} {g : Nat} {m : Ms} (h : Box w g 47 m.cells) (i : Int) : (storeVar 3 ⟨g, 5, none⟩ (.int .i64 i)).run Try.prog w = .ok () (w.setRow g ({ m with op := i } : Ms).cells) :=
  run_store_at (vs := [.int .i64 i]) h rfl Try.size3 (by rw [Ms.len]; exact Nat.le_of_ble_eq_true rfl) (by simp [Value.oneCell'])
theorem store_mR {w : World} {g : Nat} {m : Ms} (h : Box w g 47 m.cells) (i : Int) : (storeVar 3 ⟨g, 6, none⟩ (.int .i64 i)).run Try.prog w = .ok () (w.setRow g ({ m with rd := i } : Ms).cells) :=
  run_store_at (vs := [.int .i64 i]) h rfl Try.size3 (by rw [Ms.len]; exact Nat.le_of_ble_eq_true rfl) (by simp [Value.oneCell'])
theorem store_mK {w : World} {g : Nat} {m : Ms} (h : Box w g 47 m.cells) (y : Ky) : (storeVar 23 ⟨g, 7, none⟩ (.agg y.cells)).run Try.prog w = .ok () (w.setRow g ({ m with ky := y } : Ms).cells) :=
  run_store_at (vs := y.cs) h rfl Try.size23 (by rw [Ms.len]; exact Nat.le_of_ble_eq_true rfl) y.one
theorem store_mm {w : World} {g : Nat} {m : Ms} {cur : Array Value} (h : Box w g 47 cur) (hl : cur.size = 30) : (storeVar 47 ⟨g, 0, none⟩ (.agg m.cells)).run Try.prog w = .ok () (w.setRow g m.cells) :=
  run_storeVar_row w g 47 47 cur m.cells h Try.size47 (by rw [hl]; rfl) m.one
theorem results_row1 {fn : Func} {p : Tmp} {t : TypeId} (h : fn.results = #[.cell p t]) (tmps : Array Value) (w : World) (g : Nat) (cs : Array Value) (hp : tmps.getD p undef = .pointer (some ⟨g, 0, none⟩)) (hrun : (loadVar t ⟨g, 0, none⟩).run Try.prog w = .ok (.agg cs) w) :
    (results fn tmps).run Try.prog w = .ok (.agg cs) w := by
  have hp' : tmps[p]?.getD undef = .pointer (some ⟨g, 0, none⟩) := by simpa using hp
  simp [results, h, hp', asAddr, hrun]

/-- The message as the proposer's own. -/
def Pv.msg (v : Pv) (m : Ms) : Ms := { m with fc := true, fi := v.cl, op := v.op, rd := v.rd, ky := v.ky }
set_option maxRecDepth 100000 in
set_option maxHeartbeats 4000000 in
theorem message_any (p : Nat) (v : Pv) (m : Ms) (w : World) (h : Box w p 94 v.cells) : Calls Try.prog 74 #[.pointer (some ⟨p, 0, none⟩), .agg m.cells] w (fun e w' => e = .returned (.agg (v.msg m).cells) ∧ Kept No w w') := by
  obtain ⟨C, hC⟩ : ∃ C, C = (fun (e : Ending) (w' : World) => e = .returned (.agg (v.msg m).cells) ∧ Kept No w w') := ⟨_, rfl⟩
  have HC : Hid (C = fun e w' => e = .returned (.agg (v.msg m).cells) ∧ Kept No w w') := hC
  rw [← hC]
  clear hC
  have HPW : Hid (Box w p 94 v.cells) := h
  have hpl := h.lt
  clear h
  go_enter Try.func74, Try.ntmps74
  go_upto_region 0 with fail
  refine WL.start ?_
  refine uR (pV w.heap.size 0) (w.alloc (.cells m.cells 47)) (exec_box 47 _ rfl m.cells (by kernel_rfl)) ?_
  try simp only [pS]
  refine wp_allocW 47 rfl msZ.cells zeroMs (w.heap.size + 1) (by simp) (by kernel_rfl) ?_
  try simp only [pS]
  refine WL.nil ?_
  try simp only [pS]
  obtain ⟨wk0, hw0⟩ : ∃ wk0, wk0 = (w.alloc (.cells m.cells 47)).alloc (.cells msZ.cells 47) := ⟨_, rfl⟩
  rw [← hw0]
  have HK : Hid (Kept No w wk0) := by rw [hw0]; exact ((Kept.refl No w).alloc _).alloc _
  have HP : Hid (Box wk0 (p) 94 (v.cells)) := by rw [hw0]; exact (HPW.out.alloc _).alloc _
  have H3 : Hid (Box wk0 (w.heap.size) 47 (m.cells)) := by rw [hw0]; exact (Box.new _ _ _).alloc _
  have H4 : Hid (Box wk0 (w.heap.size + 1) 47 (msZ.cells)) := by
    have h := Box.new (w.alloc (.cells m.cells 47)) 47 msZ.cells
    rw [World.size_alloc] at h
    rw [hw0]; exact h
  have HLT : Hid (w.heap.size + 1 < wk0.heap.size) := H4.out.lt
  obtain ⟨B3, hB3⟩ : ∃ B3, B3 = w.heap.size := ⟨_, rfl⟩
  obtain ⟨B4, hB4⟩ : ∃ B4, B4 = w.heap.size + 1 := ⟨_, rfl⟩
  rw [← hB4] at H4 HLT ⊢
  rw [← hB3] at H3 ⊢
  have HO : Hid (w.heap.size ≤ B3 ∧ B3 < B4 ∧ p < w.heap.size) := ⟨by omega, by omega, hpl⟩
  clear hw0 hB3 hB4 hpl HPW
  go_upto_region 1 with fail
  refine wp_region_held_drew (S := fun w' => Box w' (p) 94 (v.cells)) rfl HP.out (fun hH => ?_)
  have HP : Hid (Box wk0.drew (p) 94 (v.cells)) := HP.out
  have H3 : Hid (Box wk0.drew (B3) 47 (m.cells)) := H3.out
  have H4 : Hid (Box wk0.drew (B4) 47 (msZ.cells)) := H4.out
  have HK : Hid (Kept No w wk0.drew) := HK.out.drew
  have HLT : Hid (B4 < wk0.drew.heap.size) := HLT.out
  generalize wk0.drew = wk1 at HP H3 H4 HK HLT hH ⊢
  refine xV 0 5 (pV p 0) hH <| xV 1 6 (pV p 0) hH <| xV 2 7 (pV p 0) hH <| xL 3 8 37 ⟨p, 0, none⟩ (.agg #[.bool true, .int .i64 v.cl]) (fun _ hw => load_pA hw) hH <| xV 4 9 (pV p 0) hH <| xV 5 10 (pV p 0) hH <| ?_
  try simp only [pS]
  refine xV 6 11 (pV p 2) hH <| xL 7 12 3 ⟨p, 2, none⟩ (.int .i64 v.op) (fun _ hw => load_N (hw.cell 2)) hH <| xV 8 13 (pV p 0) hH <| xV 9 14 (pV p 0) hH <| xV 10 15 (pV p 20) hH <| xL 11 16 3 ⟨p, 20, none⟩ (.int .i64 v.rd) (fun _ hw => load_N (hw.cell 20)) hH <| ?_
  try simp only [pS]
  refine xV 12 17 (pV p 0) hH <| xV 13 18 (pV p 0) hH <| xV 14 19 (pV p 3) hH <| xL 15 20 23 ⟨p, 3, none⟩ (.agg v.ky.cells) (fun _ hw => load_pK hw) hH <| xV 16 21 (pV B3 1) hH <| ?_
  try simp only [pS]
  refine xS 17 37 ⟨B3, 1, none⟩ (.agg #[.bool true, .int .i64 v.cl]) (store_mA H3.out true v.cl) (hH.rowNe (by have := HO.out; omega) _) (fun hH => ?_)
  have HLT : Hid (B4 < (wk1.setRow B3 (({ m with fc := true, fi := v.cl } : Ms).cells)).heap.size) := by show _ < _; rw [setRow_size]; exact HLT.out
  have HP : Hid (Box (wk1.setRow B3 (({ m with fc := true, fi := v.cl } : Ms).cells)) (p) 94 (v.cells)) := HP.out.rowNe (by have := HO.out; omega) _
  have H3 : Hid (Box (wk1.setRow B3 (({ m with fc := true, fi := v.cl } : Ms).cells)) (B3) 47 (({ m with fc := true, fi := v.cl } : Ms).cells)) := H3.out.setRow _
  have H4 : Hid (Box (wk1.setRow B3 (({ m with fc := true, fi := v.cl } : Ms).cells)) (B4) 47 (msZ.cells)) := H4.out.rowNe (by have := HO.out; omega) _
  have HK : Hid (Kept No w (wk1.setRow B3 (({ m with fc := true, fi := v.cl } : Ms).cells))) := HK.out.newRow (by have := HO.out; omega) _
  generalize wk1.setRow B3 (({ m with fc := true, fi := v.cl } : Ms).cells) = wk2 at HP H3 H4 HK HLT hH ⊢
  refine xV 18 22 (pV B3 5) hH ?_
  try simp only [pS]
  refine xS 19 3 ⟨B3, 5, none⟩ (.int .i64 v.op) (store_mO H3.out v.op) (hH.rowNe (by have := HO.out; omega) _) (fun hH => ?_)
  have HLT : Hid (B4 < (wk2.setRow B3 (({ ({ m with fc := true, fi := v.cl } : Ms) with op := v.op } : Ms).cells)).heap.size) := by show _ < _; rw [setRow_size]; exact HLT.out
  have HP : Hid (Box (wk2.setRow B3 (({ ({ m with fc := true, fi := v.cl } : Ms) with op := v.op } : Ms).cells)) (p) 94 (v.cells)) := HP.out.rowNe (by have := HO.out; omega) _
  have H3 : Hid (Box (wk2.setRow B3 (({ ({ m with fc := true, fi := v.cl } : Ms) with op := v.op } : Ms).cells)) (B3) 47 (({ ({ m with fc := true, fi := v.cl } : Ms) with op := v.op } : Ms).cells)) := H3.out.setRow _
  have H4 : Hid (Box (wk2.setRow B3 (({ ({ m with fc := true, fi := v.cl } : Ms) with op := v.op } : Ms).cells)) (B4) 47 (msZ.cells)) := H4.out.rowNe (by have := HO.out; omega) _
  have HK : Hid (Kept No w (wk2.setRow B3 (({ ({ m with fc := true, fi := v.cl } : Ms) with op := v.op } : Ms).cells))) := HK.out.newRow (by have := HO.out; omega) _
  generalize wk2.setRow B3 (({ ({ m with fc := true, fi := v.cl } : Ms) with op := v.op } : Ms).cells) = wk3 at HP H3 H4 HK HLT hH ⊢
  refine xV 20 23 (pV B3 6) hH ?_
  try simp only [pS]
  refine xS 21 3 ⟨B3, 6, none⟩ (.int .i64 v.rd) (store_mR H3.out v.rd) (hH.rowNe (by have := HO.out; omega) _) (fun hH => ?_)
  have HLT : Hid (B4 < (wk3.setRow B3 (({ ({ ({ m with fc := true, fi := v.cl } : Ms) with op := v.op } : Ms) with rd := v.rd } : Ms).cells)).heap.size) := by show _ < _; rw [setRow_size]; exact HLT.out
  have HP : Hid (Box (wk3.setRow B3 (({ ({ ({ m with fc := true, fi := v.cl } : Ms) with op := v.op } : Ms) with rd := v.rd } : Ms).cells)) (p) 94 (v.cells)) := HP.out.rowNe (by have := HO.out; omega) _
  have H3 : Hid (Box (wk3.setRow B3 (({ ({ ({ m with fc := true, fi := v.cl } : Ms) with op := v.op } : Ms) with rd := v.rd } : Ms).cells)) (B3) 47 (({ ({ ({ m with fc := true, fi := v.cl } : Ms) with op := v.op } : Ms) with rd := v.rd } : Ms).cells)) := H3.out.setRow _
  have H4 : Hid (Box (wk3.setRow B3 (({ ({ ({ m with fc := true, fi := v.cl } : Ms) with op := v.op } : Ms) with rd := v.rd } : Ms).cells)) (B4) 47 (msZ.cells)) := H4.out.rowNe (by have := HO.out; omega) _
  have HK : Hid (Kept No w (wk3.setRow B3 (({ ({ ({ m with fc := true, fi := v.cl } : Ms) with op := v.op } : Ms) with rd := v.rd } : Ms).cells))) := HK.out.newRow (by have := HO.out; omega) _
  generalize wk3.setRow B3 (({ ({ ({ m with fc := true, fi := v.cl } : Ms) with op := v.op } : Ms) with rd := v.rd } : Ms).cells) = wk4 at HP H3 H4 HK HLT hH ⊢
  refine xV 22 24 (pV B3 7) hH ?_
  try simp only [pS]
  refine xS 23 23 ⟨B3, 7, none⟩ (.agg v.ky.cells) (store_mK H3.out v.ky) (hH.rowNe (by have := HO.out; omega) _) (fun hH => ?_)
  have HLT : Hid (B4 < (wk4.setRow B3 (({ ({ ({ ({ m with fc := true, fi := v.cl } : Ms) with op := v.op } : Ms) with rd := v.rd } : Ms) with ky := v.ky } : Ms).cells)).heap.size) := by show _ < _; rw [setRow_size]; exact HLT.out
  have HP : Hid (Box (wk4.setRow B3 (({ ({ ({ ({ m with fc := true, fi := v.cl } : Ms) with op := v.op } : Ms) with rd := v.rd } : Ms) with ky := v.ky } : Ms).cells)) (p) 94 (v.cells)) := HP.out.rowNe (by have := HO.out; omega) _
  have H3 : Hid (Box (wk4.setRow B3 (({ ({ ({ ({ m with fc := true, fi := v.cl } : Ms) with op := v.op } : Ms) with rd := v.rd } : Ms) with ky := v.ky } : Ms).cells)) (B3) 47 (({ ({ ({ ({ m with fc := true, fi := v.cl } : Ms) with op := v.op } : Ms) with rd := v.rd } : Ms) with ky := v.ky } : Ms).cells)) := H3.out.setRow _
  have H4 : Hid (Box (wk4.setRow B3 (({ ({ ({ ({ m with fc := true, fi := v.cl } : Ms) with op := v.op } : Ms) with rd := v.rd } : Ms) with ky := v.ky } : Ms).cells)) (B4) 47 (msZ.cells)) := H4.out.rowNe (by have := HO.out; omega) _
  have HK : Hid (Kept No w (wk4.setRow B3 (({ ({ ({ ({ m with fc := true, fi := v.cl } : Ms) with op := v.op } : Ms) with rd := v.rd } : Ms) with ky := v.ky } : Ms).cells))) := HK.out.newRow (by have := HO.out; omega) _
  generalize wk4.setRow B3 (({ ({ ({ ({ m with fc := true, fi := v.cl } : Ms) with op := v.op } : Ms) with rd := v.rd } : Ms) with ky := v.ky } : Ms).cells) = wk5 at HP H3 H4 HK HLT hH ⊢
  refine wpAnyH_done (by kernel_rfl) ?_ _
  try simp only [pS]
  go_upto_region 2 with fail
  refine WL.start <| uL 47 ⟨B3, 0, none⟩ (.agg (({ ({ ({ ({ m with fc := true, fi := v.cl } : Ms) with op := v.op } : Ms) with rd := v.rd } : Ms) with ky := v.ky } : Ms).cells)) (load_Ms H3.out) <| ?_
  try simp only [pS]
  refine uT 47 ⟨B4, 0, none⟩ (.agg (({ ({ ({ ({ m with fc := true, fi := v.cl } : Ms) with op := v.op } : Ms) with rd := v.rd } : Ms) with ky := v.ky } : Ms).cells)) _ (store_mm H4.out rfl) ?_
  try simp only [pS]
  have HLT : Hid (B4 < (wk5.setRow B4 (({ ({ ({ ({ m with fc := true, fi := v.cl } : Ms) with op := v.op } : Ms) with rd := v.rd } : Ms) with ky := v.ky } : Ms).cells)).heap.size) := by show _ < _; rw [setRow_size]; exact HLT.out
  have HP : Hid (Box (wk5.setRow B4 (({ ({ ({ ({ m with fc := true, fi := v.cl } : Ms) with op := v.op } : Ms) with rd := v.rd } : Ms) with ky := v.ky } : Ms).cells)) (p) 94 (v.cells)) := HP.out.rowNe (by have := HO.out; omega) _
  have H3 : Hid (Box (wk5.setRow B4 (({ ({ ({ ({ m with fc := true, fi := v.cl } : Ms) with op := v.op } : Ms) with rd := v.rd } : Ms) with ky := v.ky } : Ms).cells)) (B3) 47 (({ ({ ({ ({ m with fc := true, fi := v.cl } : Ms) with op := v.op } : Ms) with rd := v.rd } : Ms) with ky := v.ky } : Ms).cells)) := H3.out.rowNe (by have := HO.out; omega) _
  have H4 : Hid (Box (wk5.setRow B4 (({ ({ ({ ({ m with fc := true, fi := v.cl } : Ms) with op := v.op } : Ms) with rd := v.rd } : Ms) with ky := v.ky } : Ms).cells)) (B4) 47 (({ ({ ({ ({ m with fc := true, fi := v.cl } : Ms) with op := v.op } : Ms) with rd := v.rd } : Ms) with ky := v.ky } : Ms).cells)) := H4.out.setRow _
  have HK : Hid (Kept No w (wk5.setRow B4 (({ ({ ({ ({ m with fc := true, fi := v.cl } : Ms) with op := v.op } : Ms) with rd := v.rd } : Ms) with ky := v.ky } : Ms).cells))) := HK.out.newRow (by have := HO.out; omega) _
  generalize wk5.setRow B4 (({ ({ ({ ({ m with fc := true, fi := v.cl } : Ms) with op := v.op } : Ms) with rd := v.rd } : Ms) with ky := v.ky } : Ms).cells) = wk6 at HP H3 H4 HK HLT ⊢
  refine WL.nil ?_
  try simp only [pS]
  go_wp2
  rw [HC.out]
  refine bodyPost_ret (results_row1 (by rfl) _ _ B4 (v.msg m).cells (by rfl) (load_Ms H4.out)) rfl ?_
  exact ⟨rfl, HK.out⟩

end Go.Proofs.Ytpabpeppgpeaoaa
