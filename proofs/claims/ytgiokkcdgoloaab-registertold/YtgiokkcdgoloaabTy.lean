import Derived.RangeFuncNested
import Derived.RangeFuncBound
import Derived.RangeFuncCalls
import Derived.RangeFuncLeaves
import Derived.RangeFuncBox
import Derived.Shelf.Abstract
import Derived.Sort.QuietTacIn
import Derived.Shelf.RegionOpen
import Derived.OwnWalkIn
import Derived.TacticsInMore
import Derived.LoopNIn
import Derived.LoopIn
import Derived.Test.YtgiokkcdgoloaabTx
namespace Go.Proofs.Ytgiokkcdgoloaab
open Go.RowKit Go.Shelf
set_option linter.unusedVariables false
set_option linter.unusedSimpArgs false

attribute [local go_sem] Oper.semAt_some

theorem take_next {ps : List (Int × Bk)} {k : Nat} (h : k < ps.length) : ps.take k ++ [ps[k]?.getD default] = ps.take (k + 1) := by
  rw [List.take_succ_eq_append_getElem h, List.getElem?_eq_getElem h]; rfl

/-- A sequence of answers in memory: the box that its function holds, the row behind it. -/
structure SeqAt (W : World) (lb : Nat) (a : Option Addr) (cap : Nat) (ps : List (Int × Bk)) : Prop where
  box : Box W lb 173 #[.slice a ps.length cap]
  row : Own 175 4 W 0 a cap ps.length (prs ps)
def SB (lb : Nat) (a : Option Addr) : Nat → Prop := fun k => k = lb ∨ At a k
def NB (lb : Nat) (a : Option Addr) : Nat → Prop := fun k => ¬ SB lb a k
theorem SeqAt.kept {S : Nat → Prop} {W W' : World} {lb cap : Nat} {a : Option Addr} {ps : List (Int × Bk)} (h : SeqAt W lb a cap ps) (hk : Kept S W W') (hS : ∀ k, SB lb a k → ¬ S k) : SeqAt W' lb a cap ps :=
  ⟨h.box.kept hk (hS _ (.inl rfl)), h.row.kept hk (fun k e => hS k (.inr e))⟩
theorem SeqAt.nb {W W' : World} {lb cap : Nat} {a : Option Addr} {ps : List (Int × Bk)} (h : SeqAt W lb a cap ps) (hk : Kept (NB lb a) W W') : SeqAt W' lb a cap ps := h.kept hk (fun _ e f => f e)
theorem SeqAt.lt {W : World} {lb cap : Nat} {a : Option Addr} {ps : List (Int × Bk)} (h : SeqAt W lb a cap ps) {k : Nat} (hk : SB lb a k) : k < W.heap.size := by
  rcases hk with rfl | hk
  · exact h.box.lt
  · rcases h.row.cases (prs_len _) with ⟨rfl, _⟩ | ⟨g, rfl, _, hlt, _⟩
    · exact absurd hk At.none
    · obtain ⟨ad, e, rfl⟩ := hk
      cases e; exact hlt
theorem SeqAt.at {W : World} {lb cap : Nat} {a : Option Addr} {ps : List (Int × Bk)} (h : SeqAt W lb a cap ps) {i : Nat} (hi : i < ps.length) :
    ∃ pg, a = some ⟨pg, 0, none⟩ ∧ W.cell? ⟨pg, i * 4, none⟩ = some (.int .i64 (ps[i]?.getD default).1) ∧ W.cell? ⟨pg, i * 4 + 1, none⟩ = some (.int .i64 (ps[i]?.getD default).2.n) ∧ W.cell? ⟨pg, i * 4 + 2, none⟩ = some (.int .i64 (ps[i]?.getD default).2.c) ∧ W.cell? ⟨pg, i * 4 + 3, none⟩ = some (.slice (ps[i]?.getD default).2.a (ps[i]?.getD default).2.l (ps[i]?.getD default).2.k) := by
  rcases h.row.cases (prs_len _) with ⟨rfl, _, h0⟩ | ⟨g, rfl, _, hlt, sp, hg, _⟩
  · omega
  · have hb : Box W g 175 (prs ps ++ sp).toArray := hg
    have hp : ps[i]? = some (ps[i]?.getD default) := by rw [List.getElem?_eq_getElem hi]; rfl
    obtain ⟨p1, p2, p3, p4⟩ := prs_at ps i _ hp
    have hl := prs_len ps
    refine ⟨g, rfl, ?_, ?_, ?_, ?_⟩
    · rw [hb.cell, List.getElem?_toArray, List.getElem?_append_left (by omega), p1]
    · rw [hb.cell, List.getElem?_toArray, List.getElem?_append_left (by omega), p2]
    · rw [hb.cell, List.getElem?_toArray, List.getElem?_append_left (by omega), p3]
    · rw [hb.cell, List.getElem?_toArray, List.getElem?_append_left (by omega), p4]

set_option maxRecDepth 100000 in
set_option maxHeartbeats 2000000 in
/-- What Got tells, gone over. -/
theorem it_in (F : Fence) (n : Nat) (h37 : F.fn 94) (hro : F.round = none) (hn : 1 ≤ n) (l lb cap m : Nat) (a : Option Addr) (ps : List (Int × Bk)) (hm : m ≤ 2000000000000) (hl : ps.length = m) (J Jx : List (Int × Bk) → World → Prop) (W : World) (hJ : AbidesFrom W.heap.size J)
    (hY : ∀ pre x W1, J pre W1 → pre.length < m → YieldAt F (n - 1) Try.prog l #[.int .i64 x.1, .agg #[.int .i64 x.2.n, .int .i64 x.2.c, .slice x.2.a x.2.l x.2.k]] W1 fun e W' =>
      (e = .returned (.bool true) ∧ J (pre ++ [x]) W' ∧ Kept (NB lb a) W1 W') ∨ (e = .returned (.bool false) ∧ Jx (pre ++ [x]) W'))
    (hS : SeqAt W lb a cap ps) (h0 : J [] W) :
    CallsIn F n Try.prog 94 #[.func (.yield l) #[] #[], .pointer (some ⟨lb, 0, none⟩)] W fun e W' => (∃ v, e = .returned v) ∧
      ((∃ ys, ys = ps ∧ J ys W') ∨ (∃ pre, pre <+: ps ∧ Jx pre W')) := by
  have HS : Hid (SeqAt W lb a cap ps) := hS
  have HL : Hid (ps.length = m) := hl
  have HJ : Hid (AbidesFrom W.heap.size J) := hJ
  have HY : Hid (∀ pre x W1, J pre W1 → pre.length < m → YieldAt F (n - 1) Try.prog l #[.int .i64 x.1, .agg #[.int .i64 x.2.n, .int .i64 x.2.c, .slice x.2.a x.2.l x.2.k]] W1 fun e W' =>
      (e = .returned (.bool true) ∧ J (pre ++ [x]) W' ∧ Kept (NB lb a) W1 W') ∨ (e = .returned (.bool false) ∧ Jx (pre ++ [x]) W')) := hY
  have hBs := hS.box.cell 0
  simp only [List.getElem?_toArray, List.getElem?_cons_zero] at hBs
  rw [hl] at hBs
  clear hl hJ hY hS
  refine callsIn_of_wp Try.func94 rfl h37 ?_ hro
  simp only [Try.ntmps94, List.size_toArray, List.length_cons, List.length_nil, Nat.reduceAdd, Nat.reduceSub, Array.replicate_succ, Array.replicate_zero, List.push_toArray, List.append_toArray, List.nil_append, List.cons_append]
  gi_wp2
  gi_loopw [7] (fun i wr => ∃ k : Nat, k ≤ m ∧ i = .int .i64 k ∧ Hid (J (ps.take k) wr) ∧ Hid (Kept (NB lb a) W wr)) (fun i _ => m - (intOf i).toNat)
  case atStart => exact ⟨0, Nat.zero_le _, rfl, h0, Kept.refl _ _⟩
  case round =>
    obtain ⟨k, hk, rfl, HJs, HB⟩ := hrel
    clear hBs
    by_cases hlt : k < m
    · obtain ⟨pg, rfl, c0, c1, c2, c3⟩ := (HS.out.nb HB.out).at (i := k) (by rw [HL.out]; exact hlt)
      have HTk : Hid (ps.take k ++ [ps[k]?.getD default] = ps.take (k + 1)) := take_next (by rw [HL.out]; exact hlt)
      have hlen : (ps.take k).length < m := by rw [List.length_take, HL.out]; omega
      generalize ps[k]?.getD default = x at c0 c1 c2 c3 HTk
      obtain ⟨x1, x2, x3, x4, x5, x6⟩ := x
      simp only at c0 c1 c2 c3
      obtain ⟨w5, hw5⟩ : ∃ w5, w5 = wr.alloc (.cells #[.int .i64 x1, .int .i64 x2, .int .i64 x3, .slice x4 x5 x6] 175) := ⟨_, rfl⟩
      have hJ5 : J (ps.take k) w5 := by rw [hw5]; exact HJ.out _ wr _ none HJs.out (World.grownBy_alloc wr _ none) (fun r e => by cases e)
      have HB5 : Hid (Kept (NB lb (some ⟨pg, 0, none⟩)) W w5) := by rw [hw5]; exact HB.out.alloc _
      obtain ⟨fn, tmps, assign, body, hy, hR⟩ := HY.out _ (x1, ⟨x2, x3, x4, x5, x6⟩) w5 hJ5 hlen
      dsimp only at hy
      have hlt' : (k : Int) < (m : Int) := by omega
      clear hlen hJ5
      rw [hw5] at hy hR
      gi_wp2
      refine hR.mono ?_
      rw [← hw5]
      rintro e W3 (⟨rfl, hJ3, hk3⟩ | ⟨rfl, hJx3⟩)
      · rw [HTk.out] at hJ3
        have HJ3 : Hid (J (ps.take (k + 1)) W3) := hJ3
        have HB3 : Hid (Kept (NB lb (some ⟨pg, 0, none⟩)) W W3) := HB5.out.then hk3
        clear hJ3 hk3 hy hR HJs HB c0 c1 c2 c3
        gi_wp2
        go_roundw
        case rel => exact ⟨k + 1, by omega, by go_num, HJ3, HB3⟩
        case measure => simp [intOf]; omega
      · rw [HTk.out] at hJx3
        have HJ3 : Hid (Jx (ps.take (k + 1)) W3) := hJx3
        clear hJx3 hy hR HJs HB c0 c1 c2 c3
        gi_wp2
        refine bodyPost_ret (results_none rfl _ _ _) rfl ?_
        exact ⟨⟨_, rfl⟩, .inr ⟨_, List.take_prefix _ _, HJ3.out⟩⟩
    · obtain rfl : k = m := by omega
      have hlt' : ¬ (k : Int) < (k : Int) := by omega
      gi_wp2
      go_end0
      have hJe := HJs.out
      rw [List.take_of_length_le (by rw [HL.out]; omega)] at hJe
      exact ⟨⟨_, rfl⟩, .inl hJe⟩

theorem seq_stops (F : Fence) (n : Nat) (h37 : F.fn 94) (hro : F.round = none) (hn : 1 ≤ n) (lb cap m : Nat) (a : Option Addr) (ps : List (Int × Bk)) (hm : m ≤ 2000000000000) (hl : ps.length = m) (w : World) (hS : SeqAt w lb a cap ps) :
    SeqStopsK F n Try.prog 94 #[.pointer (some ⟨lb, 0, none⟩)] (fun x : Int × Bk => #[Value.int .i64 x.1, Value.agg #[.int .i64 x.2.n, .int .i64 x.2.c, .slice x.2.a x.2.l x.2.k]]) (Kept (NB lb a)) (fun ys => ys = ps) (fun pre => pre <+: ps) m w := fun l J Jx W hW hJ _ hY h0 =>
  it_in F n h37 hro hn l lb cap m a ps hm hl J Jx W hJ hY (hS.kept (below_kept hW) (fun k hk e => by have := hS.lt hk; omega)) h0

theorem nb_t {lb : Nat} {a : Option Addr} {A B C : World} (h : Kept (NB lb a) A B) (k : Kept (NB lb a) B C) : Kept (NB lb a) A C := h.then k
theorem nb_b {lb cap : Nat} {a : Option Addr} {w w0 : World} {ps : List (Int × Bk)} (hS : SeqAt w0 lb a cap ps) (hs : w0.heap.size ≤ w.heap.size) (W : World) (l : Nat) (o o' : Obj) (hl : w.heap.size ≤ l) (h : W.heap[l]? = some o) (_ : o.isCells = false) (_ : o.isWalk = false) : Kept (NB lb a) W (W.putObj l o') :=
  (Kept.refl _ W).grown (grownBy_putObj' W l o') (fun k e hk hb => by cases e; have := hS.lt hb; omega)

end Go.Proofs.Ytgiokkcdgoloaab
