import Derived.Test.YtpabpeppgpeaoaaR
namespace Go.Proofs.Ytpabpeppgpeaoaa
open Go.RowKit Gt
set_option linter.unusedVariables false
set_option linter.unusedSimpArgs false
theorem results_row_tmp {fn : Func} {p u : Tmp} {t : TypeId} (h : fn.results = #[.cell p t, .tmp u]) (tmps : Array Value) (w : World) (g : Nat) (cs : Array Value) (hp : tmps.getD p undef = .pointer (some ⟨g, 0, none⟩)) (hrun : (loadVar t ⟨g, 0, none⟩).run Try.prog w = .ok (.agg cs) w) :
    (results fn tmps).run Try.prog w = .ok (.tuple #[.agg cs, tmps.getD u undef]) w := by
  rw [results_cell_tmp h, hp]
  simp [asAddr, hrun, Result.andThen]

theorem load_92 {w : World} {p : Nat} {v : Pv} (h : Box w p 94 v.cells) : (loadVar 92 ⟨p, 21, none⟩).run Try.prog w = .ok v.ph w := by
  have hagg : ∀ w : World, (isAgg 92).run Try.prog w = .ok false w := fun w => by kernel_rfl
  have hc : w.cell? ⟨p, 21, none⟩ = some v.ph := h.cell 21
  simp [loadVar, Sem.run_bind, hagg, run_load, hc, Result.andThen]
theorem zero28' : (Try.prog.info? 28).bind (·.zero) = some (.agg cZ.cells) := by kernel_rfl
theorem Oc.partC (o : Oc) : Part o.cs 3 o.c.cs := Part.mid _ _ _ rfl
theorem load_OC {w : World} {g : Nat} {o : Oc} (h : Box w g 102 o.cells) : (loadVar 28 ⟨g, 3, none⟩).run Try.prog w = .ok (.agg o.c.cells) w := run_load_part h o.partC Try.und28 rfl Try.size28
set_option maxRecDepth 100000 in
set_option maxHeartbeats 2000000 in
theorem decided_any (p : Nat) (v : Pv) (o : Oc) (w : World) (h : Box w p 94 v.cells) (hO : ∀ W, Calls Try.prog 45 #[v.ph] W (fun e w' => e = .returned (.agg o.cells) ∧ Kept No W w')) : Calls Try.prog 21 #[.pointer (some ⟨p, 0, none⟩)] w (fun e w' => e = .returned (.tuple #[.agg o.c.cells, .bool o.d]) ∧ Kept No w w') := by
  refine hideC fun C HC => ?_
  have HPW : Hid (Box w p 94 v.cells) := h
  have HO : Hid (∀ W, Calls Try.prog 45 #[v.ph] W (fun e w' => e = .returned (.agg o.cells) ∧ Kept No W w')) := hO
  clear h hO
  go_enter Try.func21, Try.ntmps21
  go_upto_region 0 with fail
  refine WL.start ?_
  refine wp_allocW 28 rfl cZ.cells zero28' w.heap.size rfl (by kernel_rfl) ?_
  try simp only [pS]
  refine uK (.bool false) <| WL.nil <| ?_
  try simp only [pS]
  obtain ⟨w1, hw1⟩ : ∃ w1, w1 = w.alloc (.cells cZ.cells 28) := ⟨_, rfl⟩
  rw [← hw1]
  have H2 : Hid (Box w1 w.heap.size 28 cZ.cells) := by rw [hw1]; exact Box.new _ _ _
  have HP : Hid (Box w1 p 94 v.cells) := by rw [hw1]; exact HPW.out.alloc _
  have HK : Hid (Kept No w w1) := by rw [hw1]; exact (Kept.refl No w).alloc _
  obtain ⟨B, hB⟩ : ∃ B, B = w.heap.size := ⟨_, rfl⟩
  rw [← hB] at H2 ⊢
  have HBw : Hid (w.heap.size ≤ B) := by show _ ≤ _; omega
  clear hw1 hB HPW
  go_upto_region 1 with fail
  refine WL.start <| uK (pV p 0) <| uK (pV p 0) <| uK (pV p 21) <| uL 92 ⟨p, 21, none⟩ (v.ph) (load_92 HP.out) <| ?_
  try simp only [pS]
  refine uC 45 #[v.ph] (HO.out w1) ?_
  rintro e w2 ⟨rfl, hk⟩
  have HK2 : Hid (Kept No w w2) := HK.out.then hk
  have H22 : Hid (Box w2 B 28 cZ.cells) := H2.out.kept hk (fun e => e)
  refine ⟨.agg o.cells, rfl, ?_⟩
  clear hk HK H2 HP
  try simp only [pS]
  refine wp_allocW 102 rfl ocZ.cells zero102 w2.heap.size rfl (by kernel_rfl) ?_
  try simp only [pS]
  obtain ⟨w3, hw3⟩ : ∃ w3, w3 = w2.alloc (.cells ocZ.cells 102) := ⟨_, rfl⟩
  rw [← hw3]
  have H4 : Hid (Box w3 w2.heap.size 102 ocZ.cells) := by rw [hw3]; exact Box.new _ _ _
  have H23 : Hid (Box w3 B 28 cZ.cells) := by rw [hw3]; exact H22.out.alloc _
  have HK3 : Hid (Kept No w w3) := by rw [hw3]; exact HK2.out.alloc _
  obtain ⟨B4, hB4⟩ : ∃ B4, B4 = w2.heap.size := ⟨_, rfl⟩
  rw [← hB4] at H4 ⊢
  have HB4 : Hid (w.heap.size ≤ B4 ∧ B < B4) := ⟨by have := HK2.out.size; omega, by have := H22.out.lt; omega⟩
  clear hw3 hB4 HK2 H22
  refine uT 102 ⟨B4, 0, none⟩ (.agg o.cells) _ (store_O H4.out) ?_
  try simp only [pS]
  refine WL.nil ?_
  try simp only [pS]
  obtain ⟨w4, hw4⟩ : ∃ w4, w4 = w3.setRow B4 o.cells := ⟨_, rfl⟩
  rw [← hw4]
  have H44 : Hid (Box w4 B4 102 o.cells) := by rw [hw4]; exact H4.out.setRow _
  have H24 : Hid (Box w4 B 28 cZ.cells) := by rw [hw4]; exact H23.out.rowNe (by have := HB4.out; omega) _
  have HK4 : Hid (Kept No w w4) := by rw [hw4]; exact HK3.out.newRow HB4.out.1 _
  clear hw4 H4 H23 HK3
  go_upto_region 2 with fail
  refine wp_region_held_drew (S := fun w' => Box w' B4 102 o.cells) rfl H44.out (fun hH => ?_)
  refine xV 0 10 (pV B4 3) hH <| xL 1 11 28 ⟨B4, 3, none⟩ (.agg o.c.cells) (fun _ hw => load_OC hw) hH <| xV 2 12 (pV B4 0) hH <| xL 3 13 4 ⟨B4, 0, none⟩ (.bool o.d) (fun _ hw => load_B (hw.cell 0)) hH <| ?_
  try simp only [pS]
  refine xS 4 28 ⟨B, 0, none⟩ (.agg o.c.cells) (store_C (w := w4.drew) H24.out rfl) (hH.rowNe (by have := HB4.out; omega) _) (fun hH => ?_)
  try simp only [pS]
  refine xV 5 3 (.bool o.d) hH ?_
  try simp only [pS]
  refine wpAnyH_done (by kernel_rfl) ?_ _
  try simp only [pS]
  go_wp2
  rw [HC.out]
  refine bodyPost_ret (results_row_tmp (by rfl) _ _ B o.c.cells (by rfl) (load_C (Box.setRow (w := w4.drew) H24.out _))) rfl ?_
  exact ⟨rfl, (HK4.out.drew).newRow HBw.out _⟩

/-- The place of the best of the first k + 1, gone through from the left. -/
def bi (lt : Nat → Nat → Bool) : Nat → Nat
  | 0 => 0
  | k + 1 => if lt (bi lt k) (k + 1) then k + 1 else bi lt k
theorem bi_yes {lt : Nat → Nat → Bool} {k : Nat} (h : lt (bi lt k) (k + 1) = true) : bi lt (k + 1) = k + 1 := if_pos h
theorem bi_no {lt : Nat → Nat → Bool} {k : Nat} (h : lt (bi lt k) (k + 1) = false) : bi lt (k + 1) = bi lt k := by
  show (if lt (bi lt k) (k + 1) then k + 1 else bi lt k) = _
  rw [h]; rfl



abbrev Vt := Gt.V.Vt
def vcs (v : Vt) : List Value := [.int .i64 v.n, .int .i64 v.b, .int .i64 v.k, .int .i64 v.cl, .int .i64 v.op, .string v.nm, .int .i64 v.f0, .int .i64 v.f1, .int .i64 v.g0, .int .i64 v.g1, .int .i64 v.sz]
def vcell (v : Vt) : Array Value := (vcs v).toArray
def vZ : Vt := ⟨0, 0, 0, 0, 0, ⟨#[]⟩, 0, 0, 0, 0, 0⟩
def vLess (a b : Vt) : Bool := decide (a.n < b.n) || (decide (a.n = b.n) && decide (a.b < b.b))
theorem vone (v : Vt) : (vcell v).all (·.oneCell') = true := by simp [vcell, vcs, Value.oneCell']
theorem zero153 : (Try.prog.info? 153).bind (·.zero) = some (.agg (vcell vZ)) := by kernel_rfl
theorem Try.und153 : Try.prog.underlying 153 = some (.struct (Try.prog.fieldsOf 153)) := by kernel_rfl
theorem Try.size153 : (Try.prog.info? 153).map (·.size) = some 11 := by kernel_rfl
theorem Try.und174 : Try.prog.underlying 174 = some (.slice (Try.prog.elem 174)) := by kernel_rfl
theorem Try.size174 : (Try.prog.info? (Try.prog.elem 174)).map (·.size) = some 11 := by kernel_rfl
theorem load_V {w : World} {g : Nat} {v : Vt} (h : Box w g 153 (vcell v)) : (loadVar 153 ⟨g, 0, none⟩).run Try.prog w = .ok (.agg (vcell v)) w := run_load_part h (Part.all _) Try.und153 rfl Try.size153
theorem store_V {w : World} {g : Nat} {v : Vt} {cur : Array Value} (h : Box w g 153 cur) (hl : cur.size = 11) : (storeVar 153 ⟨g, 0, none⟩ (.agg (vcell v))).run Try.prog w = .ok () (w.setRow g (vcell v)) :=
  run_storeVar_row w g 153 153 cur (vcell v) h Try.size153 (by rw [hl]; rfl) (vone v)
/-- A vote at a place. -/
def VAt (w : World) (b o : Nat) (v : Vt) : Prop := ∀ (j : Nat) u, (vcs v)[j]? = some u → w.cell? ⟨b, o + j, none⟩ = some u
theorem VAt.no {w w' : World} {b o : Nat} {v : Vt} (h : VAt w b o v) (hk : Kept No w w') : VAt w' b o v := fun j u e => hk.cell (h j u e) (fun e => e)
theorem load_VAt {w : World} {b o : Nat} {v : Vt} (h : VAt w b o v) : (loadVar 153 ⟨b, o, none⟩).run Try.prog w = .ok (.agg (vcell v)) w := by
  have hl : (loadCells ⟨b, o, none⟩ (vcs v).length).run Try.prog w = .ok (vcs v).toArray w :=
    run_loadCells_list (P := Try.prog) w ⟨b, o, none⟩ (vcs v) (fun j u e => by rw [addr_add]; exact h j u e)
  cases hq : Try.prog.info? 153 with
  | none => have := Try.size153; rw [hq] at this; cases this
  | some i =>
    have hs : i.size = (vcs v).length := by have := Try.size153; rw [hq] at this; simpa [vcs] using this
    have hagg : (isAgg 153).run Try.prog w = .ok true w := by
      unfold isAgg
      rw [Sem.run_bind, run_underlying Try.und153 w]
      rfl
    simp only [loadVar, Sem.run_bind, hagg, Result.andThen_ok, if_true]
    simp [sizeOf, typeInfo, hq, hs, hl, vcell, Result.andThen]
set_option maxRecDepth 100000 in
set_option maxHeartbeats 1000000 in
theorem tless_any (n c m d : Int) (w : World) : Calls Try.prog 94 #[.agg #[.int .i64 n, .int .i64 c], .agg #[.int .i64 m, .int .i64 d]] w (fun e w' => e = .returned (.bool (decide (n < m) || (decide (n = m) && decide (c < d)))) ∧ Kept No w w') := by
  have HE : Hid (∀ b : Bool, b = b) := fun _ => rfl
  by_cases hnm : n = m
  · subst hnm
    have hb : (n != n) = false := by simp
    go_enter Try.func94, Try.ntmps94
    go_wp2
    all_goals go_ret
    all_goals exact ⟨by simp, by repeat (first | exact Kept.refl _ _ | apply Kept.alloc)⟩
  · have hb : (n != m) = true := by simpa using hnm
    go_enter Try.func94, Try.ntmps94
    go_wp2
    all_goals go_ret
    all_goals exact ⟨by simp [hnm], by repeat (first | exact Kept.refl _ _ | apply Kept.alloc)⟩
theorem load_VS {w : World} {g : Nat} {v : Vt} (h : Box w g 153 (vcell v)) : (loadVar 39 ⟨g, 0, none⟩).run Try.prog w = .ok (.agg #[.int .i64 v.n, .int .i64 v.b]) w :=
  run_load_part (sub := [.int .i64 v.n, .int .i64 v.b]) h (fun j u e => by
    match j, e with
    | 0, e => exact e
    | 1, e => exact e) Try.und39 rfl Try.size39
set_option maxRecDepth 100000 in
set_option maxHeartbeats 1000000 in
theorem vless_any (a b : Vt) (w : World) : Calls Try.prog 93 #[.agg (vcell a), .agg (vcell b)] w (fun e w' => e = .returned (.bool (vLess a b)) ∧ Kept No w w') := by
  refine hideC fun C HC => ?_
  go_enter Try.func93, Try.ntmps93
  go_upto_region 0 with fail
  refine WL.start ?_
  refine uR (pV w.heap.size 0) (w.alloc (.cells (vcell a) 153)) (exec_box 153 _ rfl (vcell a) (by kernel_rfl)) ?_
  try simp only [pS]
  obtain ⟨wx, hwx⟩ : ∃ wx, wx = w.alloc (.cells (vcell a) 153) := ⟨_, rfl⟩
  rw [← hwx]
  have HAx : Hid (Box wx w.heap.size 153 (vcell a)) := by rw [hwx]; exact Box.new _ _ _
  have HKx : Hid (Kept No w wx) := by rw [hwx]; exact (Kept.refl No w).alloc _
  clear hwx
  refine uR (pV wx.heap.size 0) (wx.alloc (.cells (vcell b) 153)) (exec_box 153 _ rfl (vcell b) (by kernel_rfl)) ?_
  try simp only [pS]
  refine uK (.bool false) <| WL.nil <| ?_
  try simp only [pS]
  obtain ⟨w1, hw1⟩ : ∃ w1, w1 = wx.alloc (.cells (vcell b) 153) := ⟨_, rfl⟩
  rw [← hw1]
  have HA : Hid (Box w1 w.heap.size 153 (vcell a)) := by rw [hw1]; exact HAx.out.alloc _
  have HB : Hid (Box w1 wx.heap.size 153 (vcell b)) := by rw [hw1]; exact Box.new _ _ _
  have HK : Hid (Kept No w w1) := by rw [hw1]; exact HKx.out.alloc _
  clear hw1
  go_upto_region 1 with fail
  refine WL.start <| uK (pV w.heap.size 0) <| uL 39 ⟨w.heap.size, 0, none⟩ (.agg #[.int .i64 a.n, .int .i64 a.b]) (load_VS HA.out) <| uK (pV wx.heap.size 0) <| uL 39 ⟨wx.heap.size, 0, none⟩ (.agg #[.int .i64 b.n, .int .i64 b.b]) (load_VS HB.out) <| ?_
  try simp only [pS]
  refine uC 94 #[.agg #[.int .i64 a.n, .int .i64 a.b], .agg #[.int .i64 b.n, .int .i64 b.b]] (tless_any a.n a.b b.n b.b w1) ?_
  rintro e w2 ⟨rfl, hk⟩
  have HK2 : Hid (Kept No w w2) := HK.out.then hk
  refine ⟨.bool (vLess a b), rfl, ?_⟩
  clear hk
  try simp only [pS]
  refine uK (.bool (vLess a b)) <| WL.nil <| ?_
  try simp only [pS]
  go_wp2
  rw [HC.out]
  exact ⟨rfl, HK2.out⟩

def vAt (ps : List Vt) (i : Nat) : Vt := ps[i]?.getD vZ
def ltV (ps : List Vt) (i j : Nat) : Bool := vLess (vAt ps i) (vAt ps j)
def bestV (ps : List Vt) : Vt := vAt ps (bi (ltV ps) (ps.length - 1))
def Vts (w : World) (b off : Nat) (ps : List Vt) : Prop := ∀ i, i < ps.length → VAt w b (off + i * 11) (vAt ps i)
theorem Vts.no {w w' : World} {b off : Nat} {ps : List Vt} (h : Vts w b off ps) (hk : Kept No w w') : Vts w' b off ps := fun i hi => (h i hi).no hk
theorem bestV_step {ps : List Vt} {k : Nat} : (vLess (vAt ps (bi (ltV ps) k)) (vAt ps (k + 1)) = true → vAt ps (bi (ltV ps) (k + 1)) = vAt ps (k + 1)) ∧ (vLess (vAt ps (bi (ltV ps) k)) (vAt ps (k + 1)) = false → vAt ps (bi (ltV ps) (k + 1)) = vAt ps (bi (ltV ps) k)) :=
  ⟨fun h => by rw [bi_yes (lt := ltV ps) h], fun h => by rw [bi_no (lt := ltV ps) h]⟩
def BestOut (w : World) (ps : List Vt) (e : Ending) (w' : World) : Prop := e = .returned (.tuple #[.agg (vcell (bestV ps)), .bool true]) ∧ Kept No w w'
set_option maxRecDepth 100000 in
set_option maxHeartbeats 4000000 in
theorem best_any (b off n cap : Nat) (ps : List Vt) (w : World) (hs : ps.length = n + 1) (hn : n + 1 ≤ 1000000000) (hcap : n + 1 ≤ cap) (hc1 : ¬ cap = 1) (hm : cap ≤ 9223372036854775807) (h : Vts w b off ps) :
    Calls Try.prog 95 #[.func (.func 93) #[] #[], .slice (some ⟨b, off, none⟩) (n + 1) cap] w (BestOut w ps) := by
  refine hideC fun C HC => ?_
  have HS : Hid (ps.length = n + 1) := hs
  have HV : Hid (∀ W, Kept No w W → ∀ i, i < n + 1 → VAt W b (off + i * 11) (vAt ps i)) := fun W hk i hi => (h.no hk) i (by omega)
  have hb0 : ((n : Int) + 1 == 0) = false := by simp; omega
  clear hs h
  go_enter Try.func95, Try.ntmps95
  go_upto_region 0 with fail
  refine WL.start ?_
  refine wp_allocW 153 rfl (vcell vZ) zero153 w.heap.size rfl (by kernel_rfl) ?_
  try simp only [pS]
  refine uK (.bool false) <| WL.nil <| ?_
  try simp only [pS]
  obtain ⟨w1, hw1⟩ : ∃ w1, w1 = w.alloc (.cells (vcell vZ) 153) := ⟨_, rfl⟩
  rw [← hw1]
  have HA1 : Hid (Box w1 w.heap.size 153 (vcell vZ)) := by rw [hw1]; exact Box.new _ _ _
  have HK1 : Hid (Kept No w w1) := by rw [hw1]; exact (Kept.refl No w).alloc _
  obtain ⟨A, hA⟩ : ∃ A, A = w.heap.size := ⟨_, rfl⟩
  rw [← hA] at HA1 ⊢
  have HAw : Hid (w.heap.size ≤ A) := by show _ ≤ _; omega
  clear hw1 hA
  go_upto_region 4 with fail
  refine WL.start <| uK (.slice (some ⟨b, off, none⟩) (n + 1) cap) <| uW (pV b (off + 0 * 11)) (exec_ixA 174 11 Try.und174 Try.size174 _ _ rfl b off (n + 1) cap 0 (by kernel_rfl) (by kernel_rfl) (by omega)) <| uL 153 ⟨b, off + 0 * 11, none⟩ (.agg (vcell (vAt ps 0))) (load_VAt (HV.out w1 HK1.out 0 (by omega))) <| ?_
  try simp only [pS]
  refine wp_allocW 153 rfl (vcell vZ) zero153 w1.heap.size rfl (by kernel_rfl) ?_
  try simp only [pS]
  obtain ⟨w2, hw2⟩ : ∃ w2, w2 = w1.alloc (.cells (vcell vZ) 153) := ⟨_, rfl⟩
  rw [← hw2]
  have HB2 : Hid (Box w2 w1.heap.size 153 (vcell vZ)) := by rw [hw2]; exact Box.new _ _ _
  have HA2 : Hid (Box w2 A 153 (vcell vZ)) := by rw [hw2]; exact HA1.out.alloc _
  have HK2 : Hid (Kept No w w2) := by rw [hw2]; exact HK1.out.alloc _
  obtain ⟨B, hB⟩ : ∃ B, B = w1.heap.size := ⟨_, rfl⟩
  rw [← hB] at HB2 ⊢
  have HBw : Hid (w.heap.size ≤ B ∧ A < B) := ⟨by have := HK1.out.size; omega, by have := HA1.out.lt; omega⟩
  clear hw2 hB HA1 HK1
  refine uT 153 ⟨B, 0, none⟩ (.agg (vcell (vAt ps 0))) _ (store_V HB2.out rfl) ?_
  try simp only [pS]
  refine WL.nil ?_
  try simp only [pS]
  obtain ⟨w3, hw3⟩ : ∃ w3, w3 = w2.setRow B (vcell (vAt ps 0)) := ⟨_, rfl⟩
  rw [← hw3]
  have HB3 : Hid (Box w3 B 153 (vcell (vAt ps (bi (ltV ps) 0)))) := by rw [hw3]; exact HB2.out.setRow _
  have HA3 : Hid (Box w3 A 153 (vcell vZ)) := by rw [hw3]; exact HA2.out.rowNe (by have := HBw.out; omega) _
  have HK3 : Hid (Kept No w w3) := by rw [hw3]; exact HK2.out.newRow HBw.out.1 _
  clear hw3 HB2 HA2 HK2
  go_wp2
  go_loopw [20] (fun vi wr => ∃ k : Nat, vi = .int .i64 k ∧ k ≤ n ∧ Hid (Box wr A 153 (vcell vZ)) ∧ Hid (Box wr B 153 (vcell (vAt ps (bi (ltV ps) k)))) ∧ Hid (Kept No w wr)) (fun i _ => n - (intOf i).toNat)
  case atStart => exact ⟨0, by go_num, by omega, HA3, HB3, HK3⟩
  case round =>
    obtain ⟨k, rfl, hk, HA, HB, HK⟩ := hrel
    clear HA3 HB3 HK3
    by_cases hlt : k < n
    · have hlt' : (k : Int) < (n : Int) := by omega
      have HQ := HV.out wr HK.out (k + 1) (by omega)
      rw [show off + (k + 1) * 11 = off + 11 + k * 11 by omega] at HQ
      have HQ : Hid (VAt wr b (off + 11 + k * 11) (vAt ps (k + 1))) := HQ
      have HY : Hid _ := @bestV_step ps k
      generalize vAt ps (bi (ltV ps) k) = x at HB HY
      generalize vAt ps (k + 1) = y at HQ HY
      go_upto_region 7 with fail
      refine WL.start <| uW (pV b (off + 11 + k * 11)) (exec_ixA 174 11 Try.und174 Try.size174 _ _ rfl b (off + 11) n (cap - 1) k (by kernel_rfl) (by kernel_rfl) hlt) <| uL 153 ⟨b, off + 11 + k * 11, none⟩ (.agg (vcell y)) (load_VAt HQ.out) <| ?_
      try simp only [pS]
      refine wp_allocW 153 rfl (vcell vZ) zero153 wr.heap.size rfl (by kernel_rfl) ?_
      try simp only [pS]
      obtain ⟨w5, hw5⟩ : ∃ w5, w5 = wr.alloc (.cells (vcell vZ) 153) := ⟨_, rfl⟩
      rw [← hw5]
      have HD5 : Hid (Box w5 wr.heap.size 153 (vcell vZ)) := by rw [hw5]; exact Box.new _ _ _
      have HA5 : Hid (Box w5 A 153 (vcell vZ)) := by rw [hw5]; exact HA.out.alloc _
      have HB5 : Hid (Box w5 B 153 (vcell x)) := by rw [hw5]; exact HB.out.alloc _
      have HK5 : Hid (Kept No w w5) := by rw [hw5]; exact HK.out.alloc _
      obtain ⟨D, hD⟩ : ∃ D, D = wr.heap.size := ⟨_, rfl⟩
      rw [← hD] at HD5 ⊢
      have HDw : Hid (w.heap.size ≤ D ∧ A < D ∧ B < D) := ⟨by have := HK.out.size; omega, by have := HA.out.lt; omega, by have := HB.out.lt; omega⟩
      clear hw5 hD HA HB HK HQ
      refine uT 153 ⟨D, 0, none⟩ (.agg (vcell y)) _ (store_V HD5.out rfl) ?_
      try simp only [pS]
      refine WL.nil ?_
      try simp only [pS]
      obtain ⟨w6, hw6⟩ : ∃ w6, w6 = w5.setRow D (vcell y) := ⟨_, rfl⟩
      rw [← hw6]
      have HD6 : Hid (Box w6 D 153 (vcell y)) := by rw [hw6]; exact HD5.out.setRow _
      have HA6 : Hid (Box w6 A 153 (vcell vZ)) := by rw [hw6]; exact HA5.out.rowNe (by have := HDw.out; omega) _
      have HB6 : Hid (Box w6 B 153 (vcell x)) := by rw [hw6]; exact HB5.out.rowNe (by have := HDw.out; omega) _
      have HK6 : Hid (Kept No w w6) := by rw [hw6]; exact HK5.out.newRow HDw.out.1 _
      clear hw6 HD5 HA5 HB5 HK5
      go_upto_region 8 with fail
      refine WL.start <| uK (.func (.func 93) #[] #[]) <| uL 153 ⟨B, 0, none⟩ (.agg (vcell x)) (load_V HB6.out) <| uL 153 ⟨D, 0, none⟩ (.agg (vcell y)) (load_V HD6.out) <| ?_
      try simp only [pS]
      refine uC 93 #[.agg (vcell x), .agg (vcell y)] (vless_any x y w6) ?_
      rintro e w7 ⟨rfl, hk7⟩
      have HK7 : Hid (Kept No w w7) := HK6.out.then hk7
      have HA7 : Hid (Box w7 A 153 (vcell vZ)) := HA6.out.kept hk7 (fun e => e)
      have HB7 : Hid (Box w7 B 153 (vcell x)) := HB6.out.kept hk7 (fun e => e)
      have HD7 : Hid (Box w7 D 153 (vcell y)) := HD6.out.kept hk7 (fun e => e)
      refine ⟨.bool (vLess x y), rfl, ?_⟩
      clear hk7 HA6 HB6 HD6 HK6
      try simp only [pS]
      refine WL.nil ?_
      try simp only [pS]
      cases hb : vLess x y with
      | true =>
        have HU : Hid (vAt ps (bi (ltV ps) (k + 1)) = y) := HY.out.1 hb
        clear HY hb
        go_upto_region 9 with fail
        refine WL.start <| uL 153 ⟨D, 0, none⟩ (.agg (vcell y)) (load_V HD7.out) <| ?_
        try simp only [pS]
        refine uT 153 ⟨B, 0, none⟩ (.agg (vcell y)) _ (store_V HB7.out rfl) ?_
        try simp only [pS]
        refine WL.nil ?_
        try simp only [pS]
        obtain ⟨w8, hw8⟩ : ∃ w8, w8 = w7.setRow B (vcell y) := ⟨_, rfl⟩
        rw [← hw8]
        have HB8 : Hid (Box w8 B 153 (vcell (vAt ps (bi (ltV ps) (k + 1))))) := by rw [HU.out, hw8]; exact HB7.out.setRow _
        have HA8 : Hid (Box w8 A 153 (vcell vZ)) := by rw [hw8]; exact HA7.out.rowNe (by have := HBw.out; omega) _
        have HK8 : Hid (Kept No w w8) := by rw [hw8]; exact HK7.out.newRow HBw.out.1 _
        clear hw8 HU HA7 HB7 HD7 HK7
        go_wp2
        go_roundw
        case rel => exact ⟨k + 1, by go_num, by omega, HA8, HB8, HK8⟩
        case measure => simp [intOf]; omega
      | false =>
        have HU : Hid (vAt ps (bi (ltV ps) (k + 1)) = x) := HY.out.2 hb
        clear HY hb
        have HB8 : Hid (Box w7 B 153 (vcell (vAt ps (bi (ltV ps) (k + 1))))) := by rw [HU.out]; exact HB7.out
        clear HU HB7 HD7
        go_wp2
        go_roundw
        case rel => exact ⟨k + 1, by go_num, by omega, HA7, HB8, HK7⟩
        case measure => simp [intOf]; omega
    · have hlt' : ¬ (k : Int) < (n : Int) := by omega
      obtain rfl : k = n := by omega
      have HE : Hid (bestV ps = vAt ps (bi (ltV ps) k)) := by show vAt ps (bi (ltV ps) (ps.length - 1)) = _; rw [HS.out, Nat.add_sub_cancel]
      rw [← HE.out] at HB
      clear HE
      go_upto_region 11 with fail
      refine WL.start <| uL 153 ⟨B, 0, none⟩ (.agg (vcell (bestV ps))) (load_V HB.out) <| ?_
      try simp only [pS]
      refine uT 153 ⟨A, 0, none⟩ (.agg (vcell (bestV ps))) _ (store_V HA.out rfl) ?_
      try simp only [pS]
      refine uK (.bool true) <| WL.nil <| ?_
      try simp only [pS]
      go_wp2
      rw [HC.out]
      refine bodyPost_ret (results_row_tmp (by rfl) _ _ A (vcell (bestV ps)) (by rfl) (load_V (Box.setRow HA.out _))) rfl ?_
      exact ⟨rfl, HK.out.newRow HAw.out _⟩

end Go.Proofs.Ytpabpeppgpeaoaa
