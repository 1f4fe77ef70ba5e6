import Derived.Test.YtgiokkcdgoloaabJd
import Derived.Test.YtgiokkcdgoloaabJe
namespace Go.Proofs.Ytgiokkcdgoloaab
open Go.RowKit
set_option linter.unusedVariables false
set_option linter.unusedSimpArgs false
theorem und23x : Try.prog.underlying 23 = some (.slice 26) := by kernel_rfl
theorem info26x : (Try.prog.info? 26).map (fun i => (i.zero, i.size, i.bytes)) = some (some .nilIface, 1, 16) := by kernel_rfl
abbrev ifm (m : Nat) : Value := .iface 90 (.pointer (some ⟨m, 0, none⟩))
theorem zzr_len (j : Nat) (bz : List Int) (h : bz.length ≤ 140737488351232) : (zzr j bz).length ≤ 140737488351232 := by
  unfold zzr
  split
  · decide
  · exact h
/-- What an append of one row leaves of another. -/
theorem hc_kept {ra ra' : Option Addr} {rc rc' : Nat} {W W' : World} (h : (ra' = ra ∧ rc' = rc ∧ Kept (At ra) W W') ∨ ((∀ k, At ra' k → W.heap.size ≤ k) ∧ Kept No W W')) : Kept (At ra) W W' := by
  rcases h with h | h
  · exact h.2.2
  · exact h.2.of_no
theorem hc_at {ra ra' : Option Addr} {rc rc' : Nat} {W W' : World} (h : (ra' = ra ∧ rc' = rc ∧ Kept (At ra) W W') ∨ ((∀ k, At ra' k → W.heap.size ≤ k) ∧ Kept No W W')) {k : Nat} (hk : k < W.heap.size) (e : At ra' k) : At ra k := by
  rcases h with h | h
  · rw [h.1] at e; exact e
  · have := h.1 k e; omega
theorem wp_appM {ops : Array Oper} {rest : List Oper} {o : Oper} {a : Act} {w : World} {Q : Exit → Act → World → Prop} (hgd : o.guard = Option.none) (s x : Operand) (ho : o.op = .call { callee := .builtin .append, args := #[s, x], argTypes := #[23, 23] })
    (base : Nat) (ra : Option Addr) (i rc : Nat) (vs : List Value) (hs : a.eval s = .slice ra i rc) (hown : Own 26 1 w base ra rc i vs) (g m : Nat) (hx : a.eval x = .slice (some ⟨g, 0, none⟩) 1 1) (hB : Box w g 26 #[ifm m]) (hi : i ≤ 3) (hbase : base ≤ w.heap.size)
    (h : ∀ a' c' w', Hid (Own 26 1 w' base a' c' (i + 1) (vs ++ [ifm m])) → Hid ((a' = ra ∧ c' = rc ∧ Kept (At ra) w w') ∨ ((∀ k, At a' k → w.heap.size ≤ k) ∧ Kept No w w')) → wpList Try.prog ops Q rest (a.put o.dst (.slice a' (i + 1) c')) w') :
    wpList Try.prog ops Q (o :: rest) a w := by
  refine Gx.wp_appN w 23 26 .nilIface 1 16 und23x info26x rfl (by decide) hgd s x ho base ra i rc vs hs hown ⟨g, 0, none⟩ 1 1 [ifm m] hx rfl (fun j u hu => ?_) (fun u hu => ?_) (by omega) (by omega) hbase h
  · match j, hu with
    | 0, hu => have := hB.cell 0; simp at hu; subst hu; exact this
    | j + 1, hu => simp at hu
  · rw [List.mem_singleton.1 hu]; rfl
/-- While the machines are made: i of them, l blocks that are wanted. -/
structure Tm (w : World) (bz : List Int) (bk : Gx.Ent) (i l : Nat) (ra : Option Addr) (rc : Nat) (wa : Option Addr) (wc : Nat) (ms : Nat → Nat) (I : Nat → Nat → Prop) (W : World) : Prop where
  mr : Own 26 1 W w.heap.size ra rc i ((List.range i).map (fun j => ifm (ms j)))
  wr : Gx.Rw W w.heap.size wa wc (List.replicate l bk)
  en : ∀ j, j < i → En (I j) (zzr j bz) (ms j) W
  bd : ∀ j, j < i → ∀ k, I j k → k < W.heap.size ∧ ¬ At ra k ∧ ¬ At wa k
  kp : Kept No w W
section
variable {w W W' : World} {bz : List Int} {bk : Gx.Ent} {i l : Nat} {ra ra' wa wa' : Option Addr} {rc rc' wc wc' : Nat} {ms : Nat → Nat} {I : Nat → Nat → Prop}
theorem Tm.no (h : Tm w bz bk i l ra rc wa wc ms I W) (hk : Kept No W W') : Tm w bz bk i l ra rc wa wc ms I W' :=
  ⟨h.mr.no hk, h.wr.no hk, fun j hj => (h.en j hj).kept hk (fun k e _ => ⟨fun f => f, e⟩), fun j hj k e => ⟨Nat.lt_of_lt_of_le (h.bd j hj k e).1 hk.size, (h.bd j hj k e).2⟩, h.kp.then hk⟩
theorem Tm.apart (h : Tm w bz bk i l ra rc wa wc ms I W) {k : Nat} (e : At ra k) : ¬ At wa k := fun f => by
  obtain ⟨c1, e1⟩ := Gx.own_type h.mr e
  obtain ⟨c2, e2⟩ := h.wr.typ f
  exact Gx.typ_ne e1 e2 (by decide)
theorem Tm.mach {m : Nat} {I' : Nat → Prop} (h : Tm w bz bk i l ra rc wa wc ms I W) (hE : En I' (zzr i bz) m W) (hI : ∀ k, I' k → k < W.heap.size ∧ ¬ At ra k ∧ ¬ At wa k) (hR : Own 26 1 W' w.heap.size ra' rc' (i + 1) ((List.range i).map (fun j => ifm (ms j)) ++ [ifm m])) (hC : (ra' = ra ∧ rc' = rc ∧ Kept (At ra) W W') ∨ ((∀ k, At ra' k → W.heap.size ≤ k) ∧ Kept No W W')) :
    Tm w bz bk (i + 1) l ra' rc' wa wc (fun j => if j = i then m else ms j) (fun j => if j = i then I' else I j) W' := by
  have hk := hc_kept hC
  refine ⟨?_, h.wr.kept hk (fun k e f => h.apart f e), fun j hj => ?_, fun j hj k e => ?_, h.kp.trans hk (fun _ e => e) (fun k l e => by have := Own.base h.mr e; omega)⟩
  · have e1 : (List.range (i + 1)).map (fun j => ifm (if j = i then m else ms j)) = (List.range i).map (fun j => ifm (ms j)) ++ [ifm m] := by
      rw [List.range_succ, List.map_append]
      congr 1
      · apply List.map_congr_left
        intro j hj
        have := List.mem_range.1 hj
        rw [if_neg (by omega)]
      · simp
    rw [e1]; exact hR
  · by_cases e : j = i
    · subst e
      simp only [if_true]
      exact hE.kept hk (fun k e _ => ⟨(hI k e).2.1, e⟩)
    · simp only [if_neg e]
      exact (h.en j (by omega)).kept hk (fun k e' _ => ⟨(h.bd j (by omega) k e').2.1, e'⟩)
  · have hb : k < W.heap.size ∧ ¬ At ra k ∧ ¬ At wa k := by
      by_cases ej : j = i
      · subst ej; simp only [if_true] at e; exact hI k e
      · simp only [if_neg ej] at e; exact h.bd j (by omega) k e
    exact ⟨Nat.lt_of_lt_of_le hb.1 hk.size, fun f => hb.2.1 (hc_at hC hb.1 f), hb.2.2⟩
theorem Tm.want (h : Tm w bz bk i l ra rc wa wc ms I W) (hR : Gx.Rw W' w.heap.size wa' wc' (List.replicate l bk ++ [bk])) (hC : (wa' = wa ∧ wc' = wc ∧ Kept (At wa) W W') ∨ ((∀ k, At wa' k → W.heap.size ≤ k) ∧ Kept No W W')) : Tm w bz bk i (l + 1) ra rc wa' wc' ms I W' := by
  have hk := hc_kept hC
  refine ⟨Own.kept h.mr hk (fun k e f => h.apart e f), ?_, fun j hj => (h.en j hj).kept hk (fun k e _ => ⟨(h.bd j hj k e).2.2, e⟩), fun j hj k e => ?_, h.kp.trans hk (fun _ e => e) (fun k l e => by have := h.wr.base e; omega)⟩
  · rw [List.replicate_succ']; exact hR
  · have hb := h.bd j hj k e
    exact ⟨Nat.lt_of_lt_of_le hb.1 hk.size, hb.2.1, fun f => hb.2.2 (hc_at hC hb.1 f)⟩
end
/-- What stays, once all is made. -/
structure Sg (bz oz : List Int) (mg wg hb : Nat) (ms : Nat → Nat) (wa : Nat → Option Addr) (wk : Nat → Nat) (ha : Option Addr) (hc : Nat) (xa : Option Addr) (W : World) : Prop where
  en : ∀ j, j < 3 → ∃ I, En I (zzr j bz) (ms j) W
  mc : ∀ j, j < 3 → W.cell? ⟨mg, j, none⟩ = some (ifm (ms j))
  wc : ∀ j, j < 3 → W.cell? ⟨wg, j, none⟩ = some (.slice (wa j) (zzr j bz).length (wk j)) ∧ Bytes W (wa j) (zzr j bz)
  hb : Box W hb 31 #[.int .i64 3, .int .i64 3, .slice ha bz.length hc] ∧ Bytes W ha bz
  xb : Bytes W xa oz
theorem Sg.no {bz oz : List Int} {mg wg hb : Nat} {ms : Nat → Nat} {wa : Nat → Option Addr} {wk : Nat → Nat} {ha : Option Addr} {hc : Nat} {xa : Option Addr} {W W' : World} (h : Sg bz oz mg wg hb ms wa wk ha hc xa W) (hk : Kept No W W') : Sg bz oz mg wg hb ms wa wk ha hc xa W' :=
  ⟨fun j hj => by obtain ⟨I, hI⟩ := h.en j hj; exact ⟨I, hI.kept hk (fun k e _ => ⟨fun f => f, e⟩)⟩, fun j hj => hk.cell (h.mc j hj) (fun e => e), fun j hj => ⟨hk.cell (h.wc j hj).1 (fun e => e), (h.wc j hj).2.no hk⟩, ⟨h.hb.1.kept hk (fun e => e), h.hb.2.no hk⟩, h.xb.no hk⟩
/-- The row of all that was told. -/
structure Al (w1 : World) (ra : Option Addr) (rc : Nat) (K : List Gx.Ent) (W : World) : Prop where
  row : Gx.Rw W w1.heap.size ra rc K
  er : ∃ Z, Gx.Erow W w1.heap.size K Z
  rl : ∀ k, At ra k → k < W.heap.size
  kp : Kept No w1 W
section
variable {w1 W W' W2 : World} {ra ra' : Option Addr} {rc rc' : Nat} {K : List Gx.Ent}
theorem Al.no (h : Al w1 ra rc K W) (hk : Kept No W W') : Al w1 ra rc K W' :=
  ⟨h.row.no hk, by obtain ⟨Z, hZ⟩ := h.er; exact ⟨Z, hZ.no hk⟩, fun k e => Nat.lt_of_lt_of_le (h.rl k e) hk.size, h.kp.then hk⟩
theorem Al.tell {K' : List Gx.Ent} {Z' : Nat → List Int} (h : Al w1 ra rc K W) (hE : Gx.Erow W w1.heap.size (K ++ K') Z') (hR : Gx.Rw W2 w1.heap.size ra' rc' (K ++ K')) (hC : (ra' = ra ∧ rc' = rc ∧ Kept (At ra) W W2) ∨ ((∀ k, At ra' k → W.heap.size ≤ k) ∧ Kept No W W2)) : Al w1 ra' rc' (K ++ K') W2 := by
  have hk := hc_kept hC
  exact ⟨hR, ⟨Z', hE.kept hk (fun k e f => h.row.apart hE f e)⟩, fun k e => Own.lt0 (t := 22) (c := 1) hR e, h.kp.trans hk (fun _ e => e) (fun k l e => by have := h.row.base e; omega)⟩
/-- One list told. -/
theorem Al.one {da : Option Addr} {dc : Nat} {zs : List Int} (h : Al w1 ra rc K W) (hk : Kept No W W') (hO : OwnB W' W.heap.size da dc zs) (hz : zs.length ≤ 140737488351232) (hR : Gx.Rw W2 w1.heap.size ra' rc' (K ++ [⟨da, zs.length, dc⟩])) (hC : (ra' = ra ∧ rc' = rc ∧ Kept (At ra) W' W2) ∨ ((∀ k, At ra' k → W'.heap.size ≤ k) ∧ Kept No W' W2)) : Al w1 ra' rc' (K ++ [⟨da, zs.length, dc⟩]) W2 := by
  obtain ⟨Z, hZ⟩ := h.er
  have hE := (hZ.no hk).add (e := ⟨da, zs.length, dc⟩) (zs := zs) rfl (Own.lower hO h.kp.size) hz (fun k e f => by have := Own.base hO e; have := (hZ.lo f).2.1; omega)
  exact (h.no hk).tell hE hR hC
/-- Two lists told. -/
theorem Al.two {da db : Option Addr} {dc dd : Nat} {zs ys : List Int} {W1 : World} (h : Al w1 ra rc K W) (hk : Kept No W W1) (hO : OwnB W1 W.heap.size da dc zs) (hz : zs.length ≤ 140737488351232) (hk' : Kept No W1 W') (hO' : OwnB W' W1.heap.size db dd ys) (hy : ys.length ≤ 140737488351232) (hR : Gx.Rw W2 w1.heap.size ra' rc' (K ++ [⟨da, zs.length, dc⟩, ⟨db, ys.length, dd⟩])) (hC : (ra' = ra ∧ rc' = rc ∧ Kept (At ra) W' W2) ∨ ((∀ k, At ra' k → W'.heap.size ≤ k) ∧ Kept No W' W2)) : Al w1 ra' rc' (K ++ [⟨da, zs.length, dc⟩, ⟨db, ys.length, dd⟩]) W2 := by
  obtain ⟨Z, hZ⟩ := h.er
  have hE := (hZ.no hk).add (e := ⟨da, zs.length, dc⟩) (zs := zs) rfl (Own.lower hO h.kp.size) hz (fun k e f => by have := Own.base hO e; have := (hZ.lo f).2.1; omega)
  have hE2 := (hE.no hk').add (e := ⟨db, ys.length, dd⟩) (zs := ys) rfl (Own.lower hO' (Nat.le_trans h.kp.size hk.size)) hy (fun k e f => by have := Own.base hO' e; have := (hE.lo f).2.1; omega)
  rw [List.append_assoc] at hE2
  exact (h.no (hk.then hk')).tell hE2 hR hC
end

def waF (da0 : Option Addr) (z j : Nat) : Option Addr := if j = 2 then some ⟨z, 0, none⟩ else da0
def wkF (c0 j : Nat) : Nat := if j = 2 then 4 else c0
structure Sg0 (bz : List Int) (mg wg : Nat) (ms : Nat → Nat) (wa : Nat → Option Addr) (wk : Nat → Nat) (W : World) : Prop where
  en : ∀ j, j < 3 → ∃ I, En I (zzr j bz) (ms j) W
  mc : ∀ j, j < 3 → W.cell? ⟨mg, j, none⟩ = some (ifm (ms j))
  wc : ∀ j, j < 3 → W.cell? ⟨wg, j, none⟩ = some (.slice (wa j) (zzr j bz).length (wk j)) ∧ Bytes W (wa j) (zzr j bz)
theorem Sg0.no {bz : List Int} {mg wg : Nat} {ms : Nat → Nat} {wa : Nat → Option Addr} {wk : Nat → Nat} {W W' : World} (h : Sg0 bz mg wg ms wa wk W) (hk : Kept No W W') : Sg0 bz mg wg ms wa wk W' :=
  ⟨fun j hj => by obtain ⟨I, hI⟩ := h.en j hj; exact ⟨I, hI.kept hk (fun k e _ => ⟨fun f => f, e⟩)⟩, fun j hj => hk.cell (h.mc j hj) (fun e => e), fun j hj => ⟨hk.cell (h.wc j hj).1 (fun e => e), (h.wc j hj).2.no hk⟩⟩
theorem tm_done {w W : World} {bz : List Int} {da0 : Option Addr} {n0 c0 mg wg rc wc : Nat} {ms : Nat → Nat} {I : Nat → Nat → Prop} (h : Tm w bz ⟨da0, n0, c0⟩ 3 3 (some ⟨mg, 0, none⟩) rc (some ⟨wg, 0, none⟩) wc ms I W) (hz : bz.length = n0) (hb : Bytes w da0 bz) :
    Sg0 bz mg wg ms (waF da0 W.heap.size) (wkF c0) ((W.alloc (.cells #[.int .u8 0, .int .u8 0, .int .u8 0, .int .u8 0] 5)).setCell ⟨wg, 2, none⟩ (.slice (some ⟨W.heap.size, 0, none⟩) 4 4)) ∧ Kept No w ((W.alloc (.cells #[.int .u8 0, .int .u8 0, .int .u8 0, .int .u8 0] 5)).setCell ⟨wg, 2, none⟩ (.slice (some ⟨W.heap.size, 0, none⟩) 4 4)) := by
  have ka : Kept No W (W.alloc (.cells #[.int .u8 0, .int .u8 0, .int .u8 0, .int .u8 0] 5)) := (Kept.refl No _).alloc _
  have h1 := h.no ka
  have hBx : Box (W.alloc (.cells #[.int .u8 0, .int .u8 0, .int .u8 0, .int .u8 0] 5)) W.heap.size 5 #[.int .u8 0, .int .u8 0, .int .u8 0, .int .u8 0] := Box.new _ _ _
  have hgl : wg < W.heap.size := Own.lt0 (t := 22) (c := 1) h.wr ⟨⟨wg, 0, none⟩, rfl, rfl⟩
  generalize W.heap.size = z at hBx hgl ⊢
  generalize W.alloc (.cells #[.int .u8 0, .int .u8 0, .int .u8 0, .int .u8 0] 5) = W1 at h1 hBx ⊢
  have hS := (World.ownsRow.stored (show W1.ownsRow w.heap.size 22 1 (.slice (some ⟨wg, 0, none⟩) 3 wc) 3 _ from h1.wr) 2 (.slice (some ⟨z, 0, none⟩) 4 4)).1
  have hk : Kept (At (some ⟨wg, 0, none⟩)) W1 (W1.setCell ⟨wg, 2, none⟩ (.slice (some ⟨z, 0, none⟩) 4 4)) := (Kept.refl _ _).setCell (p := ⟨wg, 2, none⟩) (fun _ => ⟨⟨wg, 0, none⟩, rfl, rfl⟩) _
  have hkw : Kept No w (W1.setCell ⟨wg, 2, none⟩ (.slice (some ⟨z, 0, none⟩) 4 4)) := h1.kp.trans hk (fun _ e => e) (fun k l e => by have := h1.wr.base e; omega)
  generalize W1.setCell ⟨wg, 2, none⟩ (.slice (some ⟨z, 0, none⟩) 4 4) = W2 at hS hk hkw ⊢
  refine ⟨⟨fun j hj => ⟨I j, (h1.en j hj).kept hk (fun k e _ => ⟨(h1.bd j hj k e).2.2, e⟩)⟩, fun j hj => ?_, fun j hj => ?_⟩, hkw⟩
  · have hm := Own.kept h1.mr hk (fun k e f => h1.apart e f)
    have := World.ownsRow.cellAt hm j (by omega)
    rw [this]
    match j, hj with
    | 0, _ => rfl
    | 1, _ => rfl
    | 2, _ => rfl
  · have hc := World.ownsRow.cellAt hS j (by omega)
    have hZ : Box W2 z 5 ([(0 : Int), 0, 0, 0].map (Value.int .u8)).toArray := hBx.kept hk (fun e => by obtain ⟨ad, e1, e2⟩ := e; cases e1; exact absurd e2 (by show wg ≠ z; omega))
    have hZb := Box.nums hZ 4
    rw [hc]
    match j, hj with
    | 0, _ => exact ⟨by simp [waF, wkF, zzr, hz, Gx.entV], by simpa [waF, zzr] using hb.no hkw⟩
    | 1, _ => exact ⟨by simp [waF, wkF, zzr, hz, Gx.entV], by simpa [waF, zzr] using hb.no hkw⟩
    | 2, _ => exact ⟨by simp [waF, wkF, zzr, Gx.entV], by simpa [waF, zzr] using hZb⟩

theorem bytes_none {w : World} {zs : List Int} (h : Bytes w none zs) : zs = [] := by
  cases zs with
  | nil => rfl
  | cons z zs => obtain ⟨b, off, e, _⟩ := h 0 (by simp); cases e
theorem own2 (W : World) (v u : Value) (base : Nat) (hb : base ≤ W.heap.size) : Own 22 1 (W.alloc (.cells #[v, u] 22)) base (some ⟨W.heap.size, 0, none⟩) 2 2 [v, u] :=
  ⟨by simp, .inr ⟨W.heap.size, 2, #[v, u], rfl, hb, heap_alloc_new W _, Nat.le_refl _, by unfold maxLen; decide, by simp, by simp⟩⟩
theorem alR_cell0 (W : World) (sn sc : Int) (da : Option Addr) (n dc : Nat) : (alR W (resC 0 sn sc da n dc)).cell? ⟨W.heap.size, 0, none⟩ = some (.int .i64 0) := by
  have h : Box (alR W (resC 0 sn sc da n dc)) W.heap.size 39 (resC 0 sn sc da n dc) := Box.setRow (Box.new _ _ _) _
  exact h.cell 0
section
attribute [local go_sem ↓] storeR_eq allocR_eq loadR_eq
attribute [local go_sem] run_allocR
set_option maxRecDepth 100000 in
set_option maxHeartbeats 16000000 in
theorem toldWalk (da0 : Option Addr) (n0 c0 : Nat) (bz : List Int) (oa : Option Addr) (n1 c1 : Nat) (oz : List Int) (w : World) (hz : bz.length = n0) (hn0 : n0 ≤ 140737488351232) (hb : Bytes w da0 bz) (hnil0 : da0 = none → c0 = 0) (hy : oz.length = n1) (hn1 : n1 ≤ 140737488351232) (hb1 : Bytes w oa oz) (hnil : oa = none → c1 = 0) :
    Calls Try.prog 3 #[.slice da0 n0 c0, .slice oa n1 c1] w fun e w' => e = .returned (.bool true) ∧ Below w.heap.size w w' := by
  have HZ : Hid (bz.length = n0) := hz
  have HY : Hid (oz.length = n1) := hy
  have HB0 : Hid (Bytes w da0 bz) := hb
  have HB1 : Hid (Bytes w oa oz) := hb1
  have HNil0 : Hid (da0 = none → c0 = 0) := hnil0
  have HNil : Hid (oa = none → c1 = 0) := hnil
  clear hz hy hb hb1 hnil hnil0
  go_enter Try.func3, Try.ntmps3
  go_wp2_with fail
  go_loopw [5, 6, 8] (fun v5 v6 v8 wr => ∃ (i : Nat) (ra : Option Addr) (rc : Nat) (wa : Option Addr) (wc : Nat) (ms : Nat → Nat) (I : Nat → Nat → Prop), i ≤ 3 ∧ v8 = .int .i64 (i : Int) ∧ v5 = .slice ra i rc ∧ v6 = .slice wa i wc ∧ Hid (Tm w bz ⟨da0, n0, c0⟩ i i ra rc wa wc ms I wr)) (fun _ _ v _ => 3 - (intOf v).toNat)
  case atStart => exact ⟨0, none, 0, none, 0, fun _ => 0, fun _ _ => False, by omega, rfl, rfl, rfl, ⟨World.ownsRow_nil _ _ _ _, Gx.Rw.nil _ _, fun j hj => by omega, fun j hj => by omega, Kept.refl _ _⟩⟩
  case round =>
    obtain ⟨i, ra, rc, wa, wc, ms, I, hi3, rfl, rfl, rfl, HT⟩ := hrel
    by_cases hlt : i < 3
    · have i1 : (i : Int) < 3 := by omega
      go_wp2_with fail
      refine Calls.mono (readWalk i hlt da0 n0 c0 bz wr HZ.out hn0 (HB0.out.no HT.out.kp) HNil0.out) ?_
      rintro e wb ⟨m, rfl, hE, hk⟩
      have HE : Hid (En (fun k => wr.heap.size ≤ k ∧ k < wb.heap.size) (zzr i bz) m wb) := hE
      have HT1 : Hid (Tm w bz ⟨da0, n0, c0⟩ i i ra rc wa wc ms I wb) := HT.out.no hk
      have HIn : Hid (∀ k, wr.heap.size ≤ k ∧ k < wb.heap.size → k < wb.heap.size ∧ ¬ At ra k ∧ ¬ At wa k) := fun k e => ⟨e.2, fun f => by have := Own.lt0 HT.out.mr f; omega, fun f => by have := Own.lt0 (t := 22) (c := 1) HT.out.wr f; omega⟩
      have HW1 : Hid (Kept No wb (wb.alloc (.cells #[.iface 90 (.pointer (some ⟨m, 0, none⟩))] 26)) ∧ Box (wb.alloc (.cells #[.iface 90 (.pointer (some ⟨m, 0, none⟩))] 26)) wb.heap.size 26 #[.iface 90 (.pointer (some ⟨m, 0, none⟩))]) := ⟨(Kept.refl No _).alloc _, Box.new _ _ _⟩
      have hir : i ≤ 3 := hi3
      clear hE hk HT
      go_upto_region 11 with (at_builtin; go_must (refine wp_appM rfl _ _ rfl w.heap.size ra i rc ((List.range i).map (fun j => ifm (ms j))) rfl (HT1.out.no HW1.out.1).mr wb.heap.size m rfl HW1.out.2 (by omega) (HT1.out.no HW1.out.1).kp.size ?_; intro ra1 rc1 wg HR HC))
      have HT2 : Hid (Tm w bz ⟨da0, n0, c0⟩ (i + 1) i ra1 rc1 wa wc (fun j => if j = i then m else ms j) (fun j => if j = i then (fun k => wr.heap.size ≤ k ∧ k < wb.heap.size) else I j) wg) := (HT1.out.no HW1.out.1).mach (HE.out.kept HW1.out.1 (fun k e _ => ⟨fun f => f, e⟩)) (fun k e => ⟨Nat.lt_of_lt_of_le e.2 HW1.out.1.size, (HIn.out k e).2⟩) HR.out HC.out
      clear HT1 HW1 HE HR HC HIn
      generalize (fun j => if j = i then m else ms j) = ms1 at HT2
      generalize (fun j => if j = i then (fun k => wr.heap.size ≤ k ∧ k < wb.heap.size) else I j) = I1 at HT2
      have HW2 : Hid (Kept No wg (wg.alloc (.cells #[.slice da0 n0 c0] 22)) ∧ Own 22 1 (wg.alloc (.cells #[.slice da0 n0 c0] 22)) wg.heap.size (some ⟨wg.heap.size, 0, none⟩) 1 1 [.slice da0 n0 c0]) := ⟨(Kept.refl No _).alloc _, own1 wg _ _ (Nat.le_refl _)⟩
      go_wp2_with (at_builtin; go_must (refine wp_appQ rfl _ _ rfl w.heap.size wa i wc (List.replicate i ⟨da0, n0, c0⟩) rfl (by simp) (HT2.out.no HW2.out.1).wr wg.heap.size (some ⟨wg.heap.size, 0, none⟩) 1 1 [⟨da0, n0, c0⟩] rfl rfl HW2.out.2 (by omega) (.inr (by decide)) (HT2.out.no HW2.out.1).kp.size ?_; intro wa1 wc1 wh HR HC))
      have HT3 : Hid (Tm w bz ⟨da0, n0, c0⟩ (i + 1) (i + 1) ra1 rc1 wa1 wc1 ms1 I1 wh) := (HT2.out.no HW2.out.1).want HR.out HC.out
      clear HT2 HW2 HR HC
      go_roundw
      case rel => exact ⟨i + 1, ra1, rc1, wa1, wc1, ms1, I1, by omega, by go_num, rfl, rfl, HT3⟩
      case measure => simp [intOf]; omega
    · have i1 : ¬ (i : Int) < 3 := by omega
      obtain rfl : i = 3 := by omega
      obtain ⟨wg, hwg, hwc2⟩ := HT.out.wr.at (i := 2) (e := ⟨da0, n0, c0⟩) rfl
      obtain ⟨mg, hmg⟩ : ∃ g, ra = some ⟨g, 0, none⟩ := by
        rcases HT.out.mr.2 with ⟨hv, _⟩ | ⟨g, cap', cur, hv, _⟩
        · simp at hv
        · simp only [Value.slice.injEq] at hv; exact ⟨g, hv.1⟩
      subst hwg hmg
      obtain ⟨wz, hwz⟩ : ∃ wz, wz = wr.alloc (.cells #[.int .u8 0, .int .u8 0, .int .u8 0, .int .u8 0] 5) := ⟨_, rfl⟩
      have hkz : Kept No wr wz := by rw [hwz]; exact (Kept.refl No _).alloc _
      have hRz := HT.out.wr.no hkz
      have hfz := World.ownsRow.frozenAt (show wz.ownsRow w.heap.size 22 1 (.slice (some ⟨wg, 0, none⟩) 3 wc) 3 _ from hRz) 2
      have hcz := hkz.cell hwc2 (fun e => e)
      have HD : Hid (Sg0 bz mg wg ms (waF da0 wr.heap.size) (wkF c0) (wz.setCell ⟨wg, 2, none⟩ (.slice (some ⟨wr.heap.size, 0, none⟩) 4 4)) ∧ Kept No w (wz.setCell ⟨wg, 2, none⟩ (.slice (some ⟨wr.heap.size, 0, none⟩) 4 4))) := by rw [hwz]; exact tm_done HT.out HZ.out HB0.out
      have hmk : Sem.run Try.prog (Instr.makeSlice 22 (.int .i64 4) (.int .i64 4)) wr = .ok (.slice (some ⟨wr.heap.size, 0, none⟩) 4 4) wz := by rw [hwz]; kernel_rfl
      clear hkz hRz hwz hwc2 HT
      go_upto_region 13 with fail
      generalize wz.setCell ⟨wg, 2, none⟩ (.slice (some ⟨wr.heap.size, 0, none⟩) 4 4) = w6 at HD ⊢
      generalize waF da0 wr.heap.size = wa at HD
      generalize wkF c0 = wk at HD
      clear hfz hcz hmk
      have HNl : Hid ((da0 = none → n0 = 0 ∧ c0 = 0) ∧ (oa = none → n1 = 0 ∧ c1 = 0)) := ⟨fun e => ⟨by have h := HB0.out; rw [e] at h; rw [← HZ.out, List.length_eq_zero_iff]; exact bytes_none h, HNil0.out e⟩, fun e => ⟨by have h := HB1.out; rw [e] at h; rw [← HY.out, List.length_eq_zero_iff]; exact bytes_none h, HNil.out e⟩⟩
      go_upto_region 14 with (at_builtin; go_must (refine wp_app0 rfl _ _ rfl rfl da0 n0 c0 bz rfl HZ.out (by omega) (HB0.out.no HD.out.2) HNl.out.1 ?_; intro ha hcp w7 HO7 HK7))
      have HBh : Hid (Box (w7.alloc (.cells #[.int .i64 3, .int .i64 3, .slice ha n0 hcp] 31)) w7.heap.size 31 #[.int .i64 3, .int .i64 3, .slice ha n0 hcp] ∧ Kept No w7 (w7.alloc (.cells #[.int .i64 3, .int .i64 3, .slice ha n0 hcp] 31))) := ⟨Box.new _ _ _, (Kept.refl No _).alloc _⟩
      generalize w7.alloc (.cells #[.int .i64 3, .int .i64 3, .slice ha n0 hcp] 31) = w8 at HBh ⊢
      generalize w7.heap.size = hbx at HBh ⊢
      have HK8 : Hid (Kept No w w8) := HD.out.2.then (HK7.out.then HBh.out.2)
      go_upto_region 15 with (at_builtin; go_must (refine wp_app0 rfl _ _ rfl rfl oa n1 c1 oz rfl HY.out (by omega) (HB1.out.no HK8.out) HNl.out.2 ?_; intro xa xc w1 HO9 HK9))
      have HS : Hid (Sg bz oz mg wg hbx ms wa wk ha hcp xa w1) := by
        have h0 := HD.out.1.no (HK7.out.then (HBh.out.2.then HK9.out))
        refine ⟨h0.en, h0.mc, h0.wc, ⟨?_, (HO7.out.bytes.no (HBh.out.2.then HK9.out))⟩, HO9.out.bytes⟩
        rw [HZ.out]
        exact HBh.out.1.kept HK9.out (fun e => e)
      have HK1 : Hid (Kept No w w1) := HK8.out.then HK9.out
      clear HD HK7 HO7 HBh HK8 HO9 HK9 HNl HNil HNil0
      go_wp2_with fail
      go_loopw [7, 12] (fun v7 v12 wr => ∃ (t n : Nat) (ra : Option Addr) (rc : Nat) (K : List Gx.Ent), t ≤ 3 ∧ v12 = .int .i64 (t : Int) ∧ v7 = .slice ra n rc ∧ Hid (K.length = n ∧ n = 5 * t) ∧ Hid (Al w1 ra rc K wr)) (fun _ v _ => 3 - (intOf v).toNat)
      case atStart => exact ⟨0, 0, none, 0, [], by omega, rfl, rfl, ⟨rfl, rfl⟩, ⟨Gx.Rw.nil _ _, ⟨fun _ => [], Gx.Erow.nil _ _ _⟩, fun k e => absurd e At.none, Kept.refl _ _⟩⟩
      case round =>
        obtain ⟨t, n, ra, rc, K, ht3, rfl, rfl, HN, HA⟩ := hrel
        by_cases htl : t < 3
        · have i2 : (t : Int) < 3 := by omega
          go_wp2_with fail
          go_loopw [7, 13] (fun v7 v13 wr => ∃ (j n : Nat) (ra : Option Addr) (rc : Nat) (K : List Gx.Ent), j ≤ 3 ∧ v13 = .int .i64 (j : Int) ∧ v7 = .slice ra n rc ∧ Hid (K.length = n ∧ n = 5 * t + j) ∧ Hid (Al w1 ra rc K wr)) (fun _ v _ => 3 - (intOf v).toNat)
          case atStart => exact ⟨0, n, ra, rc, K, by omega, rfl, rfl, ⟨HN.out.1, HN.out.2⟩, HA⟩
          case round =>
            obtain ⟨j, n, ra, rc, K, hj3, rfl, rfl, HN, HA⟩ := hrel
            by_cases hjl : j < 3
            · have i3 : (j : Int) < 3 := by omega
              have HSr : Hid (Sg bz oz mg wg hbx ms wa wk ha hcp xa wr) := HS.out.no HA.out.kp
              obtain ⟨I, hE⟩ := HSr.out.en j hjl
              have HLz : Hid ((zzr j bz).length ≤ 140737488351232) := zzr_len j bz (by rw [HZ.out]; exact hn0)
              have HC : Hid (Calls Try.prog 62 #[.pointer (some ⟨ms j, 0, none⟩)] wr (fun e W' => ∃ sn sc ra rc, e = .returned (.tuple #[.agg (resC 0 sn sc ra (zzr j bz).length rc), .bool true]) ∧ OwnB W' wr.heap.size ra rc (zzr j bz) ∧ Kept No wr W')) := en_done hE (Nat.le_trans HLz.out (by decide))
              have HWc := HSr.out.wc j hjl
              have HWd : Hid (∀ W, Kept No wr W → W.cell? ⟨wg, j, none⟩ = some (.slice (wa j) (zzr j bz).length (wk j)) ∧ Bytes W (wa j) (zzr j bz)) := fun W hk => ⟨hk.cell HWc.1 (fun e => e), HWc.2.no hk⟩
              have hcm : wr.cell? ⟨mg, j, none⟩ = some (.iface 90 (.pointer (some ⟨ms j, 0, none⟩))) := HSr.out.mc j hjl
              have hmeth := meth_Done (some ⟨ms j, 0, none⟩)
              clear HWc hE HSr
              generalize zzr j bz = zs at HC HLz HWd
              go_wp2_with fail
              refine Calls.mono HC.out ?_
              rintro e wh ⟨sn, sc, da1, dc1, rfl, hO, hkh⟩
              have hst := alR_run wh sn sc da1 zs.length dc1
              have hc6 := alR_cell wh sn sc da1 zs.length dc1
              have hc0 := alR_cell0 wh sn sc da1 zs.length dc1
              have HO : Hid (OwnB (alR wh (resC 0 sn sc da1 zs.length dc1)) wr.heap.size da1 dc1 zs) := hO.no (alR_kept _ _)
              have HK : Hid (Kept No wr (alR wh (resC 0 sn sc da1 zs.length dc1))) := hkh.then (alR_kept _ _)
              generalize alR wh (resC 0 sn sc da1 zs.length dc1) = wl at hst hc6 hc0 HO HK
              clear HC hmeth hO hkh hcm
              go_upto_region 22 with fail
              obtain ⟨hcw, hbw⟩ := HWd.out wl HK.out
              refine q22 _ wh.heap.size wg j zs.length wc dc1 (wk j) da1 (wa j) hjl wl _ rfl rfl rfl rfl rfl hc0 hc6 hcw (fun _ _ t _ _ h => by cases t <;> exact h) (fun W hk => same_l da1 (wa j) dc1 (wk j) _ zs W rfl (Nat.le_trans HLz.out (by decide)) (HO.out.bytes.no hk) (hbw.no hk)) ?_
              intro wo hko
              have hc6o : wo.cell? ⟨wh.heap.size, 6, none⟩ = some (.slice da1 zs.length dc1) := hko.cell hc6 (fun e => e)
              have HOo : Hid (OwnB wo wr.heap.size da1 dc1 zs) := HO.out.no hko
              have HKo : Hid (Kept No wr wo) := HK.out.then hko
              generalize wh.heap.size = G at hc6o ⊢
              clear hc6 hc0 hst hcw hbw HO HK hko HWd
              simp only [Wa.pA, Wa.pB, Wa.p1, Wa.p2, Wa.p3]
              have HW1 : Hid (Own 22 1 (wo.alloc (.cells #[.slice da1 zs.length dc1] 22)) wo.heap.size (some ⟨wo.heap.size, 0, none⟩) 1 1 [.slice da1 zs.length dc1] ∧ Kept No wo (wo.alloc (.cells #[.slice da1 zs.length dc1] 22))) := ⟨own1 wo _ _ (Nat.le_refl _), (Kept.refl No _).alloc _⟩
              have HRw : Hid (Gx.Rw (wo.alloc (.cells #[.slice da1 zs.length dc1] 22)) w1.heap.size ra rc K ∧ w1.heap.size ≤ (wo.alloc (.cells #[.slice da1 zs.length dc1] 22)).heap.size) := ⟨HA.out.row.no (HKo.out.then HW1.out.2), (HA.out.kp.then (HKo.out.then HW1.out.2)).size⟩
              have hn60 : n ≤ 60 := by have := HN.out.2; omega
              go_wp2_with (at_builtin; go_must (refine wp_appQ rfl _ _ rfl w1.heap.size ra n rc K rfl HN.out.1 HRw.out.1 wo.heap.size (some ⟨wo.heap.size, 0, none⟩) 1 1 [⟨da1, zs.length, dc1⟩] rfl rfl HW1.out.1 (by omega) (.inr (by decide)) HRw.out.2 ?_; intro ra2 rc2 wg2 HR HC2))
              have HA8 : Hid (Al w1 ra2 rc2 (K ++ [⟨da1, zs.length, dc1⟩]) wg2) := HA.out.one (HKo.out.then HW1.out.2) (HOo.out.no HW1.out.2) HLz.out HR.out HC2.out
              have HN2 : Hid ((K ++ [(⟨da1, zs.length, dc1⟩ : Gx.Ent)]).length = n + 1 ∧ n + 1 = 5 * t + (j + 1)) := ⟨by rw [List.length_append, HN.out.1]; rfl, by have := HN.out.2; omega⟩
              clear HR HC2 HW1 HRw HN HA HOo HKo hc6o HLz
              go_roundw
              case rel => exact ⟨j + 1, n + 1, ra2, rc2, _, by omega, by go_num, rfl, HN2, HA8⟩
              case measure => simp [intOf]; omega
            · have i3 : ¬ (j : Int) < 3 := by omega
              obtain rfl : j = 3 := by omega
              have HSr : Hid (Sg bz oz mg wg hbx ms wa wk ha hcp xa wr) := HS.out.no HA.out.kp
              have hBh := HSr.out.hb.1
              rw [HZ.out] at hBh
              have d0 := hBh.cell 0
              have d1 := hBh.cell 1
              have d2 := hBh.cell 2
              simp only [List.getElem?_toArray, List.getElem?_cons_zero, List.getElem?_cons_succ] at d0 d1 d2
              have HC : Hid (∀ W, Kept No wr W → Calls Try.prog 7 #[.agg #[.int .i64 3, .int .i64 3, .slice ha n0 hcp], .agg #[.int .i64 3, .int .i64 4], .slice xa n1 xc] W (NewOut2 W ⟨3, 4, xa, n1, xc, oz⟩ true)) := fun W hk => newer_any ⟨3, 3, ha, n0, hcp, bz⟩ ⟨3, 4, xa, n1, xc, oz⟩ ha hcp xa xc W (HSr.out.hb.2.no hk) HZ.out hn0 (HSr.out.xb.no hk) HY.out hn1
              have HC' : Hid (∀ W, Kept No wr W → Calls Try.prog 7 #[.agg #[.int .i64 3, .int .i64 3, .slice ha n0 hcp], .agg #[.int .i64 3, .int .i64 3], .slice xa n1 xc] W (NewOut2 W ⟨3, 3, ha, n0, hcp, bz⟩ false)) := fun W hk => newer_any ⟨3, 3, ha, n0, hcp, bz⟩ ⟨3, 3, xa, n1, xc, oz⟩ ha hcp xa xc W (HSr.out.hb.2.no hk) HZ.out hn0 (HSr.out.xb.no hk) HY.out hn1
              go_wp2_with fail
              refine Calls.mono (HC.out wr (Kept.refl _ _)) ?_
              rintro e wh ⟨da1, dc1, rfl, hO, hkh⟩
              go_upto_region 26 with fail
              have HX : Hid (Box (wh.alloc (.cells #[.int .i64 3, .int .i64 4, .slice da1 n1 dc1] 31)) wh.heap.size 31 #[.int .i64 3, .int .i64 4, .slice da1 n1 dc1] ∧ Kept No wr (wh.alloc (.cells #[.int .i64 3, .int .i64 4, .slice da1 n1 dc1] 31)) ∧ OwnB (wh.alloc (.cells #[.int .i64 3, .int .i64 4, .slice da1 n1 dc1] 31)) wr.heap.size da1 dc1 oz) := ⟨Box.new _ _ _, hkh.alloc _, hO.no ((Kept.refl No _).alloc _)⟩
              generalize wh.alloc (.cells #[.int .i64 3, .int .i64 4, .slice da1 n1 dc1] 31) = wx at HX ⊢
              generalize wh.heap.size = X at HX ⊢
              clear hO hkh HC d0 d1 d2
              have d0 := (hBh.kept HX.out.2.1 (fun e => e)).cell 0
              have d1 := (hBh.kept HX.out.2.1 (fun e => e)).cell 1
              have d2 := (hBh.kept HX.out.2.1 (fun e => e)).cell 2
              simp only [List.getElem?_toArray, List.getElem?_cons_zero, List.getElem?_cons_succ] at d0 d1 d2
              go_wp2_with fail
              refine Calls.mono (HC'.out wx HX.out.2.1) ?_
              rintro e wh ⟨db, dd, rfl, hO, hkh⟩
              go_upto_region 27 with fail
              have HY' : Hid (Box (wh.alloc (.cells #[.int .i64 3, .int .i64 3, .slice db n0 dd] 31)) wh.heap.size 31 #[.int .i64 3, .int .i64 3, .slice db n0 dd] ∧ Kept No wx (wh.alloc (.cells #[.int .i64 3, .int .i64 3, .slice db n0 dd] 31)) ∧ OwnB (wh.alloc (.cells #[.int .i64 3, .int .i64 3, .slice db n0 dd] 31)) wx.heap.size db dd bz) := ⟨Box.new _ _ _, hkh.alloc _, hO.no ((Kept.refl No _).alloc _)⟩
              generalize wh.alloc (.cells #[.int .i64 3, .int .i64 3, .slice db n0 dd] 31) = wy at HY' ⊢
              generalize wh.heap.size = Y at HY' ⊢
              clear hO hkh HC' d0 d1 d2
              have x2 := (HX.out.1.kept HY'.out.2.1 (fun e => e)).cell 2
              simp only [List.getElem?_toArray, List.getElem?_cons_zero, List.getElem?_cons_succ] at x2
              go_wp2_with fail
              refine Calls.mono (same_l da1 oa dc1 c1 n1 oz wy HY.out (by omega) (HX.out.2.2.bytes.no HY'.out.2.1) ((HB1.out.no HK1.out).no (HA.out.kp.then (HX.out.2.1.then HY'.out.2.1)))) ?_
              rintro e wp ⟨rfl, hkp⟩
              have HKp : Hid (Kept No wy wp) := hkp
              clear x2 hkp
              have y2 := (HY'.out.1.kept HKp.out (fun e => e)).cell 2
              simp only [List.getElem?_toArray, List.getElem?_cons_zero, List.getElem?_cons_succ] at y2
              go_wp2_with fail
              refine Calls.mono (same_l db da0 dd c0 n0 bz wp HZ.out (by omega) (HY'.out.2.2.bytes.no HKp.out) ((HB0.out.no HK1.out).no (HA.out.kp.then (HX.out.2.1.then (HY'.out.2.1.then HKp.out))))) ?_
              rintro e wq ⟨rfl, hkq⟩
              have HKq : Hid (Kept No wy wq) := HKp.out.then hkq
              clear y2 hkq HKp
              have y0 := (HY'.out.1.kept HKq.out (fun e => e)).cell 0
              have y1 := (HY'.out.1.kept HKq.out (fun e => e)).cell 1
              have y2 := (HY'.out.1.kept HKq.out (fun e => e)).cell 2
              have x2 := (HX.out.1.kept (HY'.out.2.1.then HKq.out) (fun e => e)).cell 2
              have d0 := (hBh.kept (HX.out.2.1.then (HY'.out.2.1.then HKq.out)) (fun e => e)).cell 0
              have d1 := (hBh.kept (HX.out.2.1.then (HY'.out.2.1.then HKq.out)) (fun e => e)).cell 1
              simp only [List.getElem?_toArray, List.getElem?_cons_zero, List.getElem?_cons_succ] at d0 d1 y0 y1 y2 x2
              have HW2 : Hid (Own 22 1 (wq.alloc (.cells #[.slice da1 n1 dc1, .slice db n0 dd] 22)) wq.heap.size (some ⟨wq.heap.size, 0, none⟩) 2 2 [.slice da1 n1 dc1, .slice db n0 dd] ∧ Kept No wq (wq.alloc (.cells #[.slice da1 n1 dc1, .slice db n0 dd] 22))) := ⟨own2 wq _ _ _ (Nat.le_refl _), (Kept.refl No _).alloc _⟩
              have HKw : Hid (Kept No wx (wq.alloc (.cells #[.slice da1 n1 dc1, .slice db n0 dd] 22))) := HY'.out.2.1.then (HKq.out.then HW2.out.2)
              have HRw : Hid (Gx.Rw (wq.alloc (.cells #[.slice da1 n1 dc1, .slice db n0 dd] 22)) w1.heap.size ra rc K ∧ w1.heap.size ≤ (wq.alloc (.cells #[.slice da1 n1 dc1, .slice db n0 dd] 22)).heap.size) := ⟨HA.out.row.no (HX.out.2.1.then HKw.out), (HA.out.kp.then (HX.out.2.1.then HKw.out)).size⟩
              have hn60 : n ≤ 60 := by have := HN.out.2; omega
              go_wp2_with (at_builtin; go_must (refine wp_appQ rfl _ _ rfl w1.heap.size ra n rc K rfl HN.out.1 HRw.out.1 wq.heap.size (some ⟨wq.heap.size, 0, none⟩) 2 2 [⟨da1, n1, dc1⟩, ⟨db, n0, dd⟩] rfl rfl HW2.out.1 (by omega) (.inr (by decide)) HRw.out.2 ?_; intro ra2 rc2 wg2 HR HC2))
              have HA8 : Hid (Al w1 ra2 rc2 (K ++ [⟨da1, n1, dc1⟩, ⟨db, n0, dd⟩]) wg2) := by
                have h := HA.out.two (zs := oz) (ys := bz) (da := da1) (dc := dc1) (db := db) (dd := dd) (ra' := ra2) (rc' := rc2) (W2 := wg2) HX.out.2.1 HX.out.2.2 (by rw [HY.out]; exact hn1) HKw.out (HY'.out.2.2.no (HKq.out.then HW2.out.2)) (by rw [HZ.out]; exact hn0)
                rw [HY.out, HZ.out] at h
                exact h HR.out HC2.out
              have HN2 : Hid ((K ++ [(⟨da1, n1, dc1⟩ : Gx.Ent), ⟨db, n0, dd⟩]).length = n + 2 ∧ n + 2 = 5 * (t + 1)) := ⟨by rw [List.length_append, HN.out.1]; rfl, by have := HN.out.2; omega⟩
              clear HR HC2 HW2 HRw HKw HN HA HX HY' HKq HSr hBh d0 d1 y0 y1 y2 x2
              go_roundw
              case rel => exact ⟨t + 1, n + 2, ra2, rc2, _, by omega, by go_num, rfl, HN2, HA8⟩
              case measure => simp [intOf]; omega
        · have i2 : ¬ (t : Int) < 3 := by omega
          obtain rfl : t = 3 := by omega
          have hn15 : n ≤ 60 := by have := HN.out.2; omega
          have HKl : Hid (K.length = n) := HN.out.1
          have HKz : Hid (Kept No w1 wr) := HA.out.kp
          go_wp2_with fail
          go_loopw [20] (fun v20 wr => ∃ (j : Nat), j ≤ 3 ∧ v20 = .int .i64 (j : Int) ∧ Hid (j = 0 → Al w1 ra rc K wr) ∧ Hid (Kept No w1 wr)) (fun v _ => 3 - (intOf v).toNat)
          case atStart => exact ⟨0, by omega, rfl, fun _ => HA.out, HKz⟩
          case round =>
            obtain ⟨j, hj3, rfl, HAj, HKj⟩ := hrel
            clear HA HKz HN
            by_cases hjl : j < 3
            · have i3 : (j : Int) < 3 := by omega
              have HSr : Hid (Sg bz oz mg wg hbx ms wa wk ha hcp xa wr) := HS.out.no HKj.out
              have HLz : Hid ((zzr j bz).length ≤ 140737488351232) := zzr_len j bz (by rw [HZ.out]; exact hn0)
              have HC : Hid (∀ W, Kept No w1 W → Calls Try.prog 62 #[.pointer (some ⟨ms j, 0, none⟩)] W (fun e W' => ∃ sn sc ra rc, e = .returned (.tuple #[.agg (resC 0 sn sc ra (zzr j bz).length rc), .bool true]) ∧ OwnB W' W.heap.size ra rc (zzr j bz) ∧ Kept No W W')) := fun W hk => by
                obtain ⟨I, hE⟩ := (HS.out.no hk).en j hjl
                exact en_done hE (Nat.le_trans HLz.out (by decide))
              have HWd : Hid (∀ W, Kept No w1 W → W.cell? ⟨wg, j, none⟩ = some (.slice (wa j) (zzr j bz).length (wk j)) ∧ Bytes W (wa j) (zzr j bz)) := fun W hk => (HS.out.no hk).wc j hjl
              have HMd : Hid (∀ W, Kept No w1 W → W.cell? ⟨mg, j, none⟩ = some (.iface 90 (.pointer (some ⟨ms j, 0, none⟩)))) := fun W hk => (HS.out.no hk).mc j hjl
              have hcm := HMd.out wr HKj.out
              have hmeth := meth_Done (some ⟨ms j, 0, none⟩)
              clear HSr
              generalize zzr j bz = zs at HC HLz HWd
              go_wp2_with fail
              refine Calls.mono (HC.out wr HKj.out) ?_
              rintro e wh ⟨sn, sc, da1, dc1, rfl, hO, hkh⟩
              have hst := alR_run wh sn sc da1 zs.length dc1
              have hc6 := alR_cell wh sn sc da1 zs.length dc1
              have HO : Hid (OwnB (alR wh (resC 0 sn sc da1 zs.length dc1)) wr.heap.size da1 dc1 zs) := hO.no (alR_kept _ _)
              have HK : Hid (Kept No wr (alR wh (resC 0 sn sc da1 zs.length dc1))) := hkh.then (alR_kept _ _)
              have HGl : Hid (Box (alR wh (resC 0 sn sc da1 zs.length dc1)) wh.heap.size 39 (resC 0 sn sc da1 zs.length dc1) ∧ wr.heap.size ≤ wh.heap.size) := ⟨Box.setRow (Box.new _ _ _) _, hkh.size⟩
              generalize alR wh (resC 0 sn sc da1 zs.length dc1) = wl at hst hc6 HO HK HGl
              clear hO hkh hcm
              go_upto_region 34 with fail
              generalize wh.heap.size = G at hc6 HGl ⊢
              clear hst hc6
              go_cut [20, 138, 144, 145, 146, 156] from 150 to 156 (fun v20 v138 v144 v145 v146 v156 wv => v20 = .int .i64 (j : Int) ∧ v138 = .int .i64 (j : Int) ∧ v144 = .int .i64 (j : Int) ∧ v145 = .pointer (some ⟨mg, j, none⟩) ∧ v146 = .iface 90 (.pointer (some ⟨ms j, 0, none⟩)) ∧ v156 = .bool false ∧ Hid (Kept No w1 wv ∧ OwnB wv wr.heap.size da1 dc1 zs ∧ wv.cell? ⟨G, 6, none⟩ = some (.slice da1 zs.length dc1)))
              case first =>
                by_cases j0 : j = 0
                · subst j0
                  obtain ⟨Z, hZ⟩ := (HAj.out rfl).er
                  have HZe : Hid (Gx.Erow wr w1.heap.size K Z) := hZ
                  clear hZ
                  have HC8 : Hid (Calls Try.prog 8 #[.slice ra n rc] wl fun e w' => e = .returned (.bool true) ∧ Kept (Gx.EB K) wl w') := by
                    have h1 := (HAj.out rfl).no HK.out
                    exact Gx.grown_any ra n rc w1.heap.size w1.heap.size K Z wl h1.row (HZe.out.no HK.out) HKl.out (by omega) h1.kp.size h1.kp.size h1.rl
                  go_wp2_with fail
                  refine Calls.mono HC8.out ?_
                  rintro e we ⟨rfl, hke⟩
                  have HF : Hid (Kept No w1 we ∧ OwnB we wr.heap.size da1 dc1 zs ∧ we.cell? ⟨G, 6, none⟩ = some (.slice da1 zs.length dc1)) := by
                    refine ⟨(HKj.out.then HK.out).trans hke (fun _ e => e) (fun k l e => by have := (HZe.out.lo e).1; omega), HO.out.keptS hke (fun k e f => by have := (HZe.out.lo f).2.1; have := Own.base HO.out e; omega), ?_⟩
                    have hB : Box we G 39 (resC 0 sn sc da1 zs.length dc1) := HGl.out.1.kept hke (fun f => by have := (HZe.out.lo f).2.1; have := HGl.out.2; omega)
                    exact hB.cell 6
                  clear hke HC8
                  go_wp2
                  go_meet
                  case rel => exact ⟨by go_num, by go_num, by go_num, rfl, rfl, rfl, HF⟩
                · have i4 : ¬ (j : Int) = 0 := by omega
                  have HF : Hid (Kept No w1 wl ∧ OwnB wl wr.heap.size da1 dc1 zs ∧ wl.cell? ⟨G, 6, none⟩ = some (.slice da1 zs.length dc1)) := ⟨HKj.out.then HK.out, HO.out, HGl.out.1.cell 6⟩
                  go_wp2
                  go_meet
                  case rel => exact ⟨rfl, rfl, rfl, rfl, rfl, rfl, HF⟩
              clear HAj HK HO HGl
              obtain ⟨rfl, rfl, rfl, rfl, rfl, rfl, HF⟩ := hcut
              have HKv : Hid (Kept No w1 wc) := HF.out.1
              have hcm := HMd.out wc HKv.out
              go_wp2_with fail
              refine Calls.mono (HC.out wc HKv.out) ?_
              rintro e wh ⟨sn2, sc2, da2, dc2, rfl, hO, hkh⟩
              have hst := alR_run wh sn2 sc2 da2 zs.length dc2
              have hc6 := alR_cell wh sn2 sc2 da2 zs.length dc2
              have HO : Hid (OwnB (alR wh (resC 0 sn2 sc2 da2 zs.length dc2)) wc.heap.size da2 dc2 zs) := hO.no (alR_kept _ _)
              have HK : Hid (Kept No wc (alR wh (resC 0 sn2 sc2 da2 zs.length dc2))) := hkh.then (alR_kept _ _)
              generalize alR wh (resC 0 sn2 sc2 da2 zs.length dc2) = wl at hst hc6 HO HK
              clear hO hkh hcm hmeth
              go_upto_region 37 with fail
              generalize wh.heap.size = G2 at hc6 hst ⊢
              clear hst
              obtain ⟨hcw, hbw⟩ := HWd.out wl (HKv.out.then HK.out)
              have hcg := HK.out.cell HF.out.2.2 (fun e => e)
              have hbg := HF.out.2.1.bytes.no HK.out
              refine q37 _ G G2 wg j zs.length _ dc1 dc2 (wk j) da1 da2 (wa j) hjl wl _ rfl rfl rfl rfl rfl rfl hcg hc6 hcw (fun _ _ t _ _ h => by cases t <;> exact h) (fun W hk => same_l da1 (wa j) dc1 (wk j) _ zs W rfl (Nat.le_trans HLz.out (by decide)) (hbg.no hk) (hbw.no hk)) (fun W hk => same_l da2 (wa j) dc2 (wk j) _ zs W rfl (Nat.le_trans HLz.out (by decide)) (HO.out.bytes.no hk) (hbw.no hk)) ?_
              intro wo hko
              have HKo : Hid (Kept No w1 wo) := HKv.out.then (HK.out.then hko)
              clear hc6 hcw hbw hcg hbg HO HK hko HWd HMd HC HF HKv HLz
              simp only [Wa.pA, Wa.pB, Wa.p1, Wa.p2, Wa.p3]
              go_wp2
              go_roundw
              case rel => exact ⟨j + 1, by omega, by go_num, fun e => by omega, HKo⟩
              case measure => simp [intOf]; omega
            · have i3 : ¬ (j : Int) < 3 := by omega
              obtain rfl : j = 3 := by omega
              have HSr : Hid (Sg bz oz mg wg hbx ms wa wk ha hcp xa wr) := HS.out.no HKj.out
              have hBh := HSr.out.hb.1
              rw [HZ.out] at hBh
              have d2 := hBh.cell 2
              simp only [List.getElem?_toArray, List.getElem?_cons_zero, List.getElem?_cons_succ] at d2
              have HKw : Hid (Kept No w wr) := HK1.out.then HKj.out
              go_wp2_with fail
              refine Calls.mono (same_l ha da0 hcp c0 n0 bz wr HZ.out (by omega) HSr.out.hb.2 (HB0.out.no HKw.out)) ?_
              rintro e wp ⟨rfl, hkp⟩
              have HKp : Hid (Kept No wr wp) := hkp
              clear hkp
              go_wp2_with fail
              refine Calls.mono (same_l xa oa xc c1 n1 oz wp HY.out (by omega) (HSr.out.xb.no HKp.out) (HB1.out.no (HKw.out.then HKp.out))) ?_
              rintro e wq ⟨rfl, hkq⟩
              have HKq : Hid (Kept No wr wq) := HKp.out.then hkq
              clear hkq HKp
              go_wp2_with fail
              refine Calls.mono (head_any wq) ?_
              rintro e ws ⟨rfl, hks⟩
              have HKs : Hid (Kept No w ws) := HKw.out.then (HKq.out.then hks)
              clear hks
              go_wp2
              go_ret
              exact ⟨rfl, HKs.out.below (Nat.le_refl _) (fun _ e => e.elim)⟩
end
end Go.Proofs.Ytgiokkcdgoloaab
