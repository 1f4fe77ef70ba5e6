import Derived.RangeFuncNested
import Derived.RangeFuncBound
import Derived.RangeFuncCalls
import Derived.RangeFuncLeaves
import Derived.RangeFuncBox
import Derived.Shelf.Abstract
import Derived.Sort.QuietTacIn
import Derived.Shelf.RegionOpen
import Derived.OwnWalkIn
import Derived.TacticsInMore
import Derived.LoopNIn
import Derived.LoopIn
import Derived.Sort.CutIn
import Derived.Test.YtcgnbpaaalmkoabI
namespace Go.Proofs.Ytcgnbpaaalmkoab
open Go.RowKit Go.Shelf
set_option linter.unusedVariables false
set_option linter.unusedSimpArgs false
@[reducible] def oqJ0 : Oper := { dst := some 13, op := Op.move (Operand.tmp 4), type := 102, pos := "row.go:14", after := #[], guard := none }
@[reducible] def oqJ1 : Oper := { dst := some 14, op := Op.nilCheck (Operand.tmp 13), type := 0, pos := "row.go:14", after := #[{ on := 0, ground := Ground.data }], guard := none }
@[reducible] def oqJ2 : Oper := { dst := some 15, op := Op.fieldAddr 70 (Operand.tmp 14) 1, type := 0, pos := "row.go:14", after := #[{ on := 1, ground := Ground.data }], guard := none }
@[reducible] def oqJ3 : Oper := { dst := some 16, op := Op.fieldAddr 65 (Operand.tmp 15) 3, type := 0, pos := "row.go:14", after := #[{ on := 2, ground := Ground.data }], guard := none }
@[reducible] def oqJ4 : Oper := { dst := some 17, op := Op.load 4 (Operand.tmp 16), type := 4, pos := "row.go:14", after := #[{ on := 3, ground := Ground.data }], guard := none }
@[reducible] def oqJ5 : Oper := { dst := some 18, op := Op.move (Operand.tmp 17), type := 4, pos := "row.go:14", after := #[{ on := 4, ground := Ground.data }], guard := none }
@[reducible] def oqJ6 : Oper := { dst := some 19, op := Op.move (Operand.tmp 0), type := 101, pos := "row.go:14", after := #[{ on := 5, ground := Ground.guard }], guard := some (5, true) }
@[reducible] def oqJ7 : Oper := { dst := some 20, op := Op.move (Operand.tmp 4), type := 102, pos := "row.go:14", after := #[{ on := 5, ground := Ground.guard }], guard := some (5, true) }
@[reducible] def oqJ8 : Oper := { dst := some 21, op := Op.nilCheck (Operand.tmp 20), type := 0, pos := "row.go:14", after := #[{ on := 7, ground := Ground.data }, { on := 5, ground := Ground.guard }], guard := some (5, true) }
@[reducible] def oqJ9 : Oper := { dst := some 22, op := Op.fieldAddr 70 (Operand.tmp 21) 0, type := 0, pos := "row.go:14", after := #[{ on := 8, ground := Ground.data }, { on := 5, ground := Ground.guard }], guard := some (5, true) }
@[reducible] def oqJ10 : Oper := { dst := some 23, op := Op.load 3 (Operand.tmp 22), type := 3, pos := "row.go:14", after := #[{ on := 9, ground := Ground.data }, { on := 5, ground := Ground.guard }], guard := some (5, true) }
@[reducible] def oqJ11 : Oper := { dst := some 24, op := Op.move (Operand.tmp 4), type := 102, pos := "row.go:14", after := #[{ on := 5, ground := Ground.guard }], guard := some (5, true) }
@[reducible] def oqJ12 : Oper := { dst := some 25, op := Op.nilCheck (Operand.tmp 24), type := 0, pos := "row.go:14", after := #[{ on := 11, ground := Ground.data }, { on := 5, ground := Ground.guard }], guard := some (5, true) }
@[reducible] def oqJ13 : Oper := { dst := some 26, op := Op.fieldAddr 70 (Operand.tmp 25) 1, type := 0, pos := "row.go:14", after := #[{ on := 12, ground := Ground.data }, { on := 5, ground := Ground.guard }], guard := some (5, true) }
@[reducible] def oqJ14 : Oper := { dst := some 27, op := Op.fieldAddr 65 (Operand.tmp 26) 2, type := 0, pos := "row.go:14", after := #[{ on := 13, ground := Ground.data }, { on := 5, ground := Ground.guard }], guard := some (5, true) }
@[reducible] def oqJ15 : Oper := { dst := some 29, op := Op.call { callee := Callee.value (Operand.tmp 19), args := #[Operand.tmp 23, Operand.tmp 28], argTypes := #[3, 43] }, type := 4, pos := "row.go:14", after := #[{ on := 6, ground := Ground.data }, { on := 10, ground := Ground.data }, { on := 15, ground := Ground.data }, { on := 5, ground := Ground.chain }, { on := 5, ground := Ground.guard }], guard := some (5, true) }
@[reducible] def oqJ16 : Oper := { dst := some 30, op := Op.unOp UnOp.not 4 (Operand.tmp 29), type := 4, pos := "row.go:14", after := #[{ on := 16, ground := Ground.data }, { on := 5, ground := Ground.guard }], guard := some (5, true) }
@[reducible] def oqJ17 : Oper := { dst := some 31, op := Op.pick (Operand.tmp 18) (Operand.tmp 30) (Operand.const (Value.bool false)), type := 4, pos := "row.go:14", after := #[{ on := 5, ground := Ground.data }, { on := 17, ground := Ground.data }], guard := none }

attribute [local go_sem] Oper.semAt_some
/-- Rows of places, of commands, of changes, bytes: lists that can be read. -/
structure RdP (w : World) (s : Sl) (ps : List Pl) : Prop where
  row : RowsAt 15 w s.a (ps.map Pl.cs)
  len : ps.length = s.l
  cap : s.a = none → s.k = 0
theorem RdP.kept {S : Nat → Prop} {w w' : World} {s : Sl} {ps : List Pl} (h : RdP w s ps) (hk : Kept S w w') (hS : ∀ k, At s.a k → ¬ S k) : RdP w' s ps := ⟨RowsAt.kept h.row hk hS, h.len, h.cap⟩
theorem RdP.no {w w' : World} {s : Sl} {ps : List Pl} (h : RdP w s ps) (hk : Kept No w w') : RdP w' s ps := h.kept hk (fun _ _ e => e)
def pAt (ps : List Pl) (i : Nat) : Pl := ps[i]?.getD plZ
theorem pAt_some {ps : List Pl} {i : Nat} (h : i < ps.length) : ps[i]? = some (pAt ps i) := by simp [pAt, List.getElem?_eq_getElem h]
theorem RdP.at {w : World} {s : Sl} {ps : List Pl} (h : RdP w s ps) {i : Nat} (hi : i < s.l) : ∃ b off, s.a = some ⟨b, off, none⟩ ∧ ∀ (j : Nat) v, (pAt ps i).cs[j]? = some v → w.cell? ⟨b, off + i * 15 + j, none⟩ = some v :=
  h.row i _ (by rw [List.getElem?_map, pAt_some (by rw [h.len]; exact hi)]; rfl)
theorem RowsAt.lt {n : Nat} {w : World} {a : Option Addr} {xs : List (List Value)} (h : RowsAt n w a xs) (h0 : 0 < xs.length) (hx : ∀ x ∈ xs, 0 < x.length) {k : Nat} (hk : At a k) : k < w.heap.size := by
  obtain ⟨ad, rfl, rfl⟩ := hk
  obtain ⟨b, off, e, hc⟩ := h 0 _ (List.getElem?_eq_getElem h0)
  cases e
  have h1 := hx _ (List.getElem_mem h0)
  exact World.block_lt_of_cell? w ⟨b, off + 0 * n + 0, none⟩ (hc 0 _ (List.getElem?_eq_getElem h1))
/-- What is decided in a row. -/
def decd (ps : List Pl) : List (Int × Cm) := ps.filterMap (fun p => if p.i.d then some (p.n, p.i.c) else none)
theorem decd_take {ps : List Pl} {k : Nat} (h : k < ps.length) : decd (ps.take (k + 1)) = decd (ps.take k) ++ (if (pAt ps k).i.d then [((pAt ps k).n, (pAt ps k).i.c)] else []) := by
  unfold decd
  rw [List.take_succ_eq_append_getElem h, List.filterMap_append]
  have : pAt ps k = ps[k] := by simp [pAt, List.getElem?_eq_getElem h]
  rw [this]
  simp only [List.filterMap_cons, List.filterMap_nil]
  split <;> simp_all
theorem decd_len (ps : List Pl) : (decd ps).length ≤ ps.length := List.length_filterMap_le _ _
theorem decd_pre (ps : List Pl) (k : Nat) : decd (ps.take k) <+: decd ps := by
  unfold decd
  conv => rhs; rw [← List.take_append_drop k ps]
  rw [List.filterMap_append]
  exact List.prefix_append _ _
/-- A sequence of what is decided: the box that its function holds, the row behind it. -/
structure SeqD (W : World) (lb : Nat) (s : Sl) (ps : List Pl) : Prop where
  box : Box W lb 47 #[s.v]
  row : RdP W s ps
  lt : ∀ k, At s.a k → k < W.heap.size
def SB (lb : Nat) (a : Option Addr) : Nat → Prop := fun k => k = lb ∨ At a k
def NB (lb : Nat) (a : Option Addr) : Nat → Prop := fun k => ¬ SB lb a k
theorem SeqD.kept {S : Nat → Prop} {W W' : World} {lb : Nat} {s : Sl} {ps : List Pl} (h : SeqD W lb s ps) (hk : Kept S W W') (hS : ∀ k, SB lb s.a k → ¬ S k) : SeqD W' lb s ps :=
  ⟨h.box.kept hk (hS _ (.inl rfl)), h.row.kept hk (fun k e => hS k (.inr e)), fun k e => Nat.lt_of_lt_of_le (h.lt k e) hk.size⟩
theorem SeqD.nb {W W' : World} {lb : Nat} {s : Sl} {ps : List Pl} (h : SeqD W lb s ps) (hk : Kept (NB lb s.a) W W') : SeqD W' lb s ps := h.kept hk (fun _ e f => f e)
theorem SeqD.no {W W' : World} {lb : Nat} {s : Sl} {ps : List Pl} (h : SeqD W lb s ps) (hk : Kept No W W') : SeqD W' lb s ps := h.kept hk (fun _ _ e => e)
theorem SeqD.slt {W : World} {lb : Nat} {s : Sl} {ps : List Pl} (h : SeqD W lb s ps) {k : Nat} (hk : SB lb s.a k) : k < W.heap.size := by
  rcases hk with rfl | hk
  · exact h.box.lt
  · exact h.lt k hk
theorem gb_drew (w : World) : w.grownBy w.drew none := ⟨rfl, rfl, rfl, Nat.le_refl _, fun _ _ _ => rfl⟩
section
variable {F : Fence} {n : Nat} {ops : Array Oper} {a : Act} {w : World} {Q : Exit → Act → World → Prop} {md : Region.Mode}
theorem iT {i : Nat} {oi : Oper} {v : Value} {fuel : Nat} {listed : Array Bool} (hro : F.round = none) (h : wpAnyIn F n Try.prog md ops Q fuel (listed.setIfInBounds i true) (a.put oi.dst v) w)
    (hy : ∀ w, (execOp a.eval oi).run Try.prog w = .ok (.value v) w := by intro _; kernel_rfl) (hb : ∀ w, oi.about Try.prog w a.eval = none := by intro _; kernel_rfl)
    (hi : ops[i]? = some oi := by rfl) (hs : Region.noSelect ops = true := by kernel_rfl) (hf : Region.free md ops listed i = true := by kernel_rfl) (hr : (Region.ready md ops listed).contains i = true := by kernel_rfl)
    (hQ : ∀ c a w, Q (.panic c) (a.put oi.dst v) w → Q (.panic c) a w := by exact fun _ _ _ h => h) (hw : Region.wanted oi (yielded ops a.tmps) = true := by kernel_rfl) : wpAnyIn F n Try.prog md ops Q (fuel + 1) listed a w :=
  wpAnyIn_take hro hi hs hf hr hQ ⟨.inl ⟨hw, hy⟩, hb⟩ h
theorem iS {i : Nat} {oi : Oper} {fuel : Nat} {listed : Array Bool} (hro : F.round = none) (h : wpAnyIn F n Try.prog md ops Q fuel (listed.setIfInBounds i true) (a.put oi.dst undef) w)
    (hb : ∀ w, oi.about Try.prog w a.eval = none := by intro _; kernel_rfl)
    (hi : ops[i]? = some oi := by rfl) (hs : Region.noSelect ops = true := by kernel_rfl) (hf : Region.free md ops listed i = true := by kernel_rfl) (hr : (Region.ready md ops listed).contains i = true := by kernel_rfl)
    (hQ : ∀ c a w, Q (.panic c) (a.put oi.dst undef) w → Q (.panic c) a w := by exact fun _ _ _ h => h) (hw : Region.wanted oi (yielded ops a.tmps) = false := by kernel_rfl) : wpAnyIn F n Try.prog md ops Q (fuel + 1) listed a w :=
  wpAnyIn_take hro hi hs hf hr hQ ⟨.inr ⟨hw, rfl⟩, hb⟩ h
theorem opIn_val {o : Oper} {K : Act → World → Prop} {v : Value} {w' : World} (hro : F.round = none) (hb : o.about Try.prog w a.eval = none) (hrun : (execOp a.eval o).run Try.prog w = .ok (.value v) w') (h : K (a.put o.dst v) w') : o.wpIn F n Try.prog a w K Q := by
  refine ⟨fun f e => by rw [hb] at e; (cases e), ?_⟩
  rw [hro, Oper.semAt_none, hrun]
  exact h
theorem iR {i : Nat} {o : Oper} {v : Value} {fuel : Nat} {listed : Array Bool} (hro : F.round = none) (hrun : (execOp a.eval o).run Try.prog w = .ok (.value v) w) (h : wpAnyIn F n Try.prog md ops Q fuel (listed.setIfInBounds i true) (a.put o.dst v) w)
    (hi : ops[i]? = some o := by rfl) (hr : Region.ready md ops listed = [i] := by kernel_rfl) (hw : Region.wanted o (yielded ops a.tmps) = true := by kernel_rfl) (hb : o.about Try.prog w a.eval = none := by kernel_rfl) : wpAnyIn F n Try.prog md ops Q (fuel + 1) listed a w := by
  refine wpAnyIn_ready hr (by simp) (AllReadyIn.cons hi (fun K hK => ?_) AllReadyIn.nil)
  rw [if_pos hw]
  exact opIn_val hro hb hrun (hK _ _ h)
theorem iLL {i j : Nat} {oi oj : Oper} {vi vj : Value} {fuel : Nat} {listed : Array Bool} (hro : F.round = none)
    (r1 : (execOp a.eval oi).run Try.prog w = .ok (.value vi) w) (r2 : (execOp (a.put oi.dst vi).eval oj).run Try.prog w = .ok (.value vj) w) (r3 : (execOp a.eval oj).run Try.prog w = .ok (.value vj) w) (r4 : (execOp (a.put oj.dst vj).eval oi).run Try.prog w = .ok (.value vi) w)
    (h : wpAnyIn F n Try.prog md ops Q fuel ((listed.setIfInBounds i true).setIfInBounds j true) ((a.put oi.dst vi).put oj.dst vj) w)
    (hA2 : (a.put oj.dst vj).put oi.dst vi = (a.put oi.dst vi).put oj.dst vj := by kernel_rfl) (hL2 : (listed.setIfInBounds j true).setIfInBounds i true = (listed.setIfInBounds i true).setIfInBounds j true := by kernel_rfl)
    (hi : ops[i]? = some oi := by rfl) (hj : ops[j]? = some oj := by rfl) (hr : Region.ready md ops listed = [i, j] := by kernel_rfl) (hr1 : Region.ready md ops (listed.setIfInBounds i true) = [j] := by kernel_rfl) (hr2 : Region.ready md ops (listed.setIfInBounds j true) = [i] := by kernel_rfl)
    (w1 : Region.wanted oi (yielded ops a.tmps) = true := by kernel_rfl) (w2 : Region.wanted oj (yielded ops (a.put oi.dst vi).tmps) = true := by kernel_rfl) (w3 : Region.wanted oj (yielded ops a.tmps) = true := by kernel_rfl) (w4 : Region.wanted oi (yielded ops (a.put oj.dst vj).tmps) = true := by kernel_rfl)
    (b1 : oi.about Try.prog w a.eval = none := by kernel_rfl) (b2 : oj.about Try.prog w (a.put oi.dst vi).eval = none := by kernel_rfl) (b3 : oj.about Try.prog w a.eval = none := by kernel_rfl) (b4 : oi.about Try.prog w (a.put oj.dst vj).eval = none := by kernel_rfl) : wpAnyIn F n Try.prog md ops Q (fuel + 1 + 1) listed a w := by
  refine wpAnyIn_ready hr (by simp) (AllReadyIn.cons hi (fun K hK => ?_) (AllReadyIn.cons hj (fun K hK => ?_) AllReadyIn.nil))
  · rw [if_pos w1]
    refine opIn_val hro b1 r1 (hK _ _ ?_)
    refine iR hro r2 ?_ hj hr1 w2 b2
    exact h
  · rw [if_pos w3]
    refine opIn_val hro b3 r3 (hK _ _ ?_)
    refine iR hro r4 ?_ hi hr2 w4 b4
    rw [hA2, hL2]; exact h
theorem iY {i l : Nat} {o : Oper} {fuel : Nat} {listed : Array Bool} {fn : FuncId} {tmps : Array Value} {assign body : Code} {args : Array Value} {R : Ending → World → Prop} (hro : F.round = none) (hn : 1 ≤ n)
    (hrun : (execOp a.eval o).run Try.prog w = (Instr.yield l args).run Try.prog w) (hy : (Instr.yield l args).run Try.prog w = .ok (.round l fn tmps assign body) w) (hR : RoundIn F (n - 1) Try.prog l fn tmps assign body w R)
    (h : ∀ e w', R e w' → ∃ v, e = .returned v ∧ wpAnyIn F n Try.prog md ops Q fuel (listed.setIfInBounds i true) (a.put o.dst v) w')
    (hi : ops[i]? = some o := by rfl) (hr : Region.ready md ops listed = [i] := by kernel_rfl) (hw : Region.wanted o (yielded ops a.tmps) = true := by kernel_rfl) (hb : o.about Try.prog w a.eval = none := by kernel_rfl) : wpAnyIn F n Try.prog md ops Q (fuel + 1) listed a w := by
  refine wpAnyIn_ready hr (by simp) (AllReadyIn.cons hi (fun K hK => ?_) AllReadyIn.nil)
  rw [if_pos hw]
  refine ⟨fun f e => by rw [hb] at e; (cases e), ?_⟩
  rw [hro, Oper.semAt_none, hrun, hy]
  refine ⟨fun _ => hn, hR.mono ?_⟩
  intro e w' he
  obtain ⟨v, rfl, hh⟩ := h e w' he
  exact hK _ _ hh
end
set_option maxRecDepth 100000 in
set_option maxHeartbeats 2000000 in
theorem it_in (F : Fence) (n : Nat) (h37 : F.fn 43) (hro : F.round = none) (hn : 1 ≤ n) (l lb m : Nat) (s : Sl) (ps : List Pl) (hm : m ≤ 10000000000000) (hl : s.l = m) (J Jx : List (Int × Cm) → World → Prop) (W : World) (hJ : AbidesFrom W.heap.size J)
    (hY : ∀ pre x W1, x ∈ decd ps → J pre W1 → pre.length < m → YieldAt F (n - 1) Try.prog l #[.int .i64 x.1, .agg (Cm.cells x.2)] W1 fun e W' =>
      (e = .returned (.bool true) ∧ J (pre ++ [x]) W' ∧ Kept (NB lb s.a) W1 W') ∨ (e = .returned (.bool false) ∧ Jx (pre ++ [x]) W'))
    (hS : SeqD W lb s ps) (h0 : J [] W) :
    CallsIn F n Try.prog 43 #[.func (.yield l) #[] #[], .pointer (some ⟨lb, 0, none⟩)] W fun e W' => (∃ v, e = .returned v) ∧
      ((∃ ys, ys = decd ps ∧ J ys W') ∨ (∃ pre, pre <+: decd ps ∧ Jx pre W')) := by
  have HS : Hid (SeqD W lb s ps) := hS
  have HL : Hid (ps.length = m) := hS.row.len.trans hl
  have HJ : Hid (AbidesFrom W.heap.size J) := hJ
  have HY : Hid (∀ pre x W1, x ∈ decd ps → J pre W1 → pre.length < m → YieldAt F (n - 1) Try.prog l #[.int .i64 x.1, .agg (Cm.cells x.2)] W1 fun e W' =>
      (e = .returned (.bool true) ∧ J (pre ++ [x]) W' ∧ Kept (NB lb s.a) W1 W') ∨ (e = .returned (.bool false) ∧ Jx (pre ++ [x]) W')) := hY
  have hBs := hS.box.cell 0
  simp only [List.getElem?_toArray, List.getElem?_cons_zero, Sl.v] at hBs
  rw [hl] at hBs
  have hmix : Try.prog.follows .mixedOrders = true := by kernel_rfl
  clear hJ hY hS
  refine callsIn_of_wp Try.func43 rfl h37 ?_ hro
  simp only [Try.ntmps43, List.size_toArray, List.length_cons, List.length_nil, Nat.reduceAdd, Nat.reduceSub, Array.replicate_succ, Array.replicate_zero, List.push_toArray, List.append_toArray, List.nil_append, List.cons_append]
  gi_wp2
  gi_loopw [7] (fun i wr => ∃ k : Nat, k ≤ m ∧ i = .int .i64 k ∧ Hid (J (decd (ps.take k)) wr) ∧ Hid (Kept (NB lb s.a) W wr)) (fun i _ => m - (intOf i).toNat)
  case atStart => exact ⟨0, Nat.zero_le _, rfl, h0, Kept.refl _ _⟩
  case round =>
    obtain ⟨k, hk, rfl, HJs, HB⟩ := hrel
    by_cases hlt : k < m
    · have HS2 : Hid (SeqD wr lb s ps) := HS.out.nb HB.out
      obtain ⟨pg, po, hsa, hc⟩ := HS2.out.row.at (i := k) (by rw [hl]; exact hlt)
      have hBs2 := HS2.out.box.cell 0
      simp only [List.getElem?_toArray, List.getElem?_cons_zero, Sl.v] at hBs2
      rw [hl, hsa] at hBs2
      rw [hsa] at HB HY
      have HTk := decd_take (ps := ps) (k := k) (by rw [HL.out]; exact hlt)
      have hlen : (decd (ps.take k)).length < m := Nat.lt_of_le_of_lt (decd_len _) (by rw [List.length_take, HL.out]; omega)
      have HMm : Hid ((pAt ps k).i.d = true → ((pAt ps k).n, (pAt ps k).i.c) ∈ decd ps) := by
        intro hd
        have hk : k < ps.length := by rw [HL.out]; exact hlt
        exact List.mem_filterMap.2 ⟨pAt ps k, List.mem_of_getElem? (pAt_some hk), by simp [hd]⟩
      have c0 := hc 0 _ rfl
      have c14 := hc 14 _ rfl
      simp only [Nat.add_zero] at c0
      rw [show po + k * 15 + 14 = po + k * 15 + 1 + 13 by omega] at c14
      have cC : (loadVar 43 ⟨pg, po + k * 15 + 1 + 4, none⟩).run Try.prog wr.drew = .ok (.agg (Cm.cells (pAt ps k).i.c)) wr.drew := by
        have := load_at (w := wr.drew) (n := 1) (b := pg) (off := po + k * 15 + 1) (i := 4) (it := Cm.cs (pAt ps k).i.c) (t := 43) (fun j v hv => by
          rw [show po + k * 15 + 1 + 4 * 1 + j = po + k * 15 + (5 + j) by omega]
          exact hc _ _ ((part_of (cs := Pl.cs (pAt ps k)) (off := 5) (sub := Cm.cs (pAt ps k).i.c) (by kernel_rfl)) j v hv)) Try.und47 rfl Try.size47
        simpa [Cm.cells] using this
      generalize pAt ps k = x at HMm c0 c14 cC HTk
      clear hc
      have hlt' : (k : Int) < (m : Int) := by omega
      cases hd : x.i.d
      · rw [hd] at HTk
        simp only [Bool.false_eq_true, if_false, List.append_nil] at HTk
        have HJ3 : Hid (J (decd (ps.take (k + 1))) wr.drew) := by show J _ _; rw [HTk]; exact HJ.out _ wr _ none HJs.out (gb_drew wr) (fun r e => by cases e)
        have HB : Hid (Kept (NB lb (some ⟨pg, po, none⟩)) W wr.drew) := HB.out.drew
        have c14 : wr.drew.cell? ⟨pg, po + k * 15 + 1 + 13, none⟩ = some (.bool false) := by rw [← hd]; exact c14
        clear HMm HTk HJs
        gi_upto_region 4 with fail
        refine wpIn_region_any hmix ?_
        refine iT (i := 0) (oi := oqJ0) (v := .pointer (some ⟨pg, po + k * 15, none⟩)) hro ?_
        try simp only [pS]
        refine iT (i := 1) (oi := oqJ1) (v := .pointer (some ⟨pg, po + k * 15, none⟩)) hro ?_
        try simp only [pS]
        refine iT (i := 2) (oi := oqJ2) (v := .pointer (some ⟨pg, po + k * 15 + 1, none⟩)) hro ?_
        try simp only [pS]
        refine iT (i := 3) (oi := oqJ3) (v := .pointer (some ⟨pg, po + k * 15 + 1 + 13, none⟩)) hro ?_
        try simp only [pS]
        refine iR (i := 4) (o := oqJ4) (v := .bool false) hro (exec_load 4 _ rfl ⟨pg, po + k * 15 + 1 + 13, none⟩ (by kernel_rfl) (.bool false) (load_one c14 Try.und4 rfl)) ?_
        try simp only [pS]
        refine iT (i := 5) (oi := oqJ5) (v := .bool false) hro ?_
        try simp only [pS]
        refine iS (i := 6) (oi := oqJ6) hro ?_
        try simp only [pS]
        refine iS (i := 7) (oi := oqJ7) hro ?_
        try simp only [pS]
        refine iS (i := 8) (oi := oqJ8) hro ?_
        try simp only [pS]
        refine iS (i := 9) (oi := oqJ9) hro ?_
        try simp only [pS]
        refine iS (i := 10) (oi := oqJ10) hro ?_
        try simp only [pS]
        refine iS (i := 11) (oi := oqJ11) hro ?_
        try simp only [pS]
        refine iS (i := 12) (oi := oqJ12) hro ?_
        try simp only [pS]
        refine iS (i := 13) (oi := oqJ13) hro ?_
        try simp only [pS]
        refine iS (i := 14) (oi := oqJ14) hro ?_
        try simp only [pS]
        refine iS (i := 15) (oi := { dst := some 28, op := Op.load 43 (Operand.tmp 27), type := 43, pos := "row.go:14", after := #[{ on := 14, ground := Ground.data }, { on := 5, ground := Ground.guard }], guard := some (5, true) }) hro ?_
        try simp only [pS]
        refine iS (i := 16) (oi := oqJ15) hro ?_
        try simp only [pS]
        refine iS (i := 17) (oi := oqJ16) hro ?_
        try simp only [pS]
        refine iT (i := 18) (oi := oqJ17) (v := .bool false) hro ?_
        try simp only [pS]
        refine wpAnyIn_done (by kernel_rfl) ?_ _
        gi_wp2
        go_roundw
        case rel => exact ⟨k + 1, by omega, by go_num, HJ3, by rw [hsa]; exact HB⟩
        case measure => simp [intOf]; omega
      · rw [hd] at HTk
        simp only [if_true] at HTk
        have HTk : Hid (decd (ps.take k) ++ [(x.n, x.i.c)] = decd (ps.take (k + 1))) := HTk.symm
        have hJ5 : J (decd (ps.take k)) wr.drew := HJ.out _ wr _ none HJs.out (gb_drew wr) (fun r e => by cases e)
        have HB5 : Hid (Kept (NB lb (some ⟨pg, po, none⟩)) W wr.drew) := HB.out.drew
        have c0 : wr.drew.cell? ⟨pg, po + k * 15, none⟩ = some (.int .i64 x.n) := c0
        have c14 : wr.drew.cell? ⟨pg, po + k * 15 + 1 + 13, none⟩ = some (.bool true) := by rw [← hd]; exact c14
        obtain ⟨fn, tmps, assign, body, hy, hR⟩ := HY.out _ (x.n, x.i.c) wr.drew (HMm.out hd) hJ5 hlen
        gi_upto_region 4 with fail
        refine wpIn_region_any hmix ?_
        refine iT (i := 0) (oi := oqJ0) (v := .pointer (some ⟨pg, po + k * 15, none⟩)) hro ?_
        try simp only [pS]
        refine iT (i := 1) (oi := oqJ1) (v := .pointer (some ⟨pg, po + k * 15, none⟩)) hro ?_
        try simp only [pS]
        refine iT (i := 2) (oi := oqJ2) (v := .pointer (some ⟨pg, po + k * 15 + 1, none⟩)) hro ?_
        try simp only [pS]
        refine iT (i := 3) (oi := oqJ3) (v := .pointer (some ⟨pg, po + k * 15 + 1 + 13, none⟩)) hro ?_
        try simp only [pS]
        refine iR (i := 4) (o := oqJ4) (v := .bool true) hro (exec_load 4 _ rfl ⟨pg, po + k * 15 + 1 + 13, none⟩ (by kernel_rfl) (.bool true) (load_one c14 Try.und4 rfl)) ?_
        try simp only [pS]
        refine iT (i := 5) (oi := oqJ5) (v := .bool true) hro ?_
        try simp only [pS]
        refine iT (i := 6) (oi := oqJ6) (v := .func (.yield l) #[] #[]) hro ?_
        try simp only [pS]
        refine iT (i := 7) (oi := oqJ7) (v := .pointer (some ⟨pg, po + k * 15, none⟩)) hro ?_
        try simp only [pS]
        refine iT (i := 8) (oi := oqJ8) (v := .pointer (some ⟨pg, po + k * 15, none⟩)) hro ?_
        try simp only [pS]
        refine iT (i := 9) (oi := oqJ9) (v := .pointer (some ⟨pg, po + k * 15, none⟩)) hro ?_
        try simp only [pS]
        refine iT (i := 11) (oi := oqJ11) (v := .pointer (some ⟨pg, po + k * 15, none⟩)) hro ?_
        try simp only [pS]
        refine iT (i := 12) (oi := oqJ12) (v := .pointer (some ⟨pg, po + k * 15, none⟩)) hro ?_
        try simp only [pS]
        refine iT (i := 13) (oi := oqJ13) (v := .pointer (some ⟨pg, po + k * 15 + 1, none⟩)) hro ?_
        try simp only [pS]
        refine iT (i := 14) (oi := oqJ14) (v := .pointer (some ⟨pg, po + k * 15 + 1 + 4, none⟩)) hro ?_
        try simp only [pS]
        refine iLL (i := 10) (j := 15) (oi := oqJ10) (oj := { dst := some 28, op := Op.load 43 (Operand.tmp 27), type := 43, pos := "row.go:14", after := #[{ on := 14, ground := Ground.data }, { on := 5, ground := Ground.guard }], guard := some (5, true) }) (vi := .int .i64 x.n) (vj := .agg (Cm.cells x.i.c)) hro (exec_load 3 _ rfl ⟨pg, po + k * 15, none⟩ (by kernel_rfl) (.int .i64 x.n) (load_one c0 Try.und3 rfl)) (exec_load 43 _ rfl ⟨pg, po + k * 15 + 1 + 4, none⟩ (by kernel_rfl) (.agg (Cm.cells x.i.c)) cC) (exec_load 43 _ rfl ⟨pg, po + k * 15 + 1 + 4, none⟩ (by kernel_rfl) (.agg (Cm.cells x.i.c)) cC) (exec_load 3 _ rfl ⟨pg, po + k * 15, none⟩ (by kernel_rfl) (.int .i64 x.n) (load_one c0 Try.und3 rfl)) ?_
        try simp only [pS]
        refine iY (i := 16) (o := oqJ15) hro hn (by kernel_rfl) hy hR ?_
        rintro e W3 (⟨rfl, hJ3, hk3⟩ | ⟨rfl, hJx3⟩)
        ·skip
         refine ⟨_, rfl, ?_⟩
         try simp only [pS]
         refine iT (i := 17) (oi := oqJ16) (v := .bool false) hro ?_
         try simp only [pS]
         refine iT (i := 18) (oi := oqJ17) (v := .bool false) hro ?_
         try simp only [pS]
         refine wpAnyIn_done (by kernel_rfl) ?_ _
         rw [HTk.out] at hJ3
         have HJ3 : Hid (J (decd (ps.take (k + 1))) W3) := hJ3
         have HB3 : Hid (Kept (NB lb (some ⟨pg, po, none⟩)) W W3) := HB5.out.then hk3
         clear hJ3 hk3 hy hR HJs HB c0 c14 cC
         gi_wp2
         go_roundw
         case rel => exact ⟨k + 1, by omega, by go_num, HJ3, by rw [hsa]; exact HB3⟩
         case measure => simp [intOf]; omega
        ·skip
         refine ⟨_, rfl, ?_⟩
         try simp only [pS]
         refine iT (i := 17) (oi := oqJ16) (v := .bool true) hro ?_
         try simp only [pS]
         refine iT (i := 18) (oi := oqJ17) (v := .bool true) hro ?_
         try simp only [pS]
         refine wpAnyIn_done (by kernel_rfl) ?_ _
         rw [HTk.out] at hJx3
         have HJ3 : Hid (Jx (decd (ps.take (k + 1))) W3) := hJx3
         clear hJx3 hy hR HJs HB c0 c14 cC
         gi_wp2
         refine bodyPost_ret (results_none rfl _ _ _) rfl ?_
         exact ⟨⟨_, rfl⟩, .inr ⟨_, decd_pre _ _, HJ3.out⟩⟩
    · obtain rfl : k = m := by omega
      have hlt' : ¬ (k : Int) < (k : Int) := by omega
      gi_wp2
      go_end0
      have hJe := HJs.out
      rw [List.take_of_length_le (by rw [HL.out]; omega)] at hJe
      exact ⟨⟨_, rfl⟩, .inl hJe⟩

end Go.Proofs.Ytcgnbpaaalmkoab
