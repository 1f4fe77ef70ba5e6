import Derived.RangeFuncNested
import Derived.RangeFuncBound
import Derived.RangeFuncCalls
import Derived.RangeFuncLeaves
import Derived.RangeFuncBox
import Derived.Shelf.Abstract
import Derived.Sort.QuietTacIn
import Derived.Shelf.RegionOpen
import Derived.OwnWalkIn
import Derived.TacticsInMore
import Derived.LoopNIn
import Derived.LoopIn
import Derived.Test.YthnecaejhnojfaaTx
import Derived.Maps.AppendAt
namespace Go.Proofs.Ythnecaejhnojfaa
open Go.RowKit Go.Shelf
set_option linter.unusedVariables false
set_option linter.unusedSimpArgs false

attribute [local go_sem] Oper.semAt_some

theorem take_next {ps : List (Int × Bk)} {k : Nat} (h : k < ps.length) : ps.take k ++ [ps[k]?.getD default] = ps.take (k + 1) := by
  rw [List.take_succ_eq_append_getElem h, List.getElem?_eq_getElem h]; rfl

/-- A sequence of answers in memory: the box that its function holds, the row behind it. -/
structure SeqAt (W : World) (lb : Nat) (a : Option Addr) (cap : Nat) (ps : List (Int × Bk)) : Prop where
  box : Box W lb 170 #[.slice a ps.length cap]
  row : Own 172 4 W 0 a cap ps.length (prs ps)
def SB (lb : Nat) (a : Option Addr) : Nat → Prop := fun k => k = lb ∨ At a k
def NB (lb : Nat) (a : Option Addr) : Nat → Prop := fun k => ¬ SB lb a k
theorem SeqAt.kept {S : Nat → Prop} {W W' : World} {lb cap : Nat} {a : Option Addr} {ps : List (Int × Bk)} (h : SeqAt W lb a cap ps) (hk : Kept S W W') (hS : ∀ k, SB lb a k → ¬ S k) : SeqAt W' lb a cap ps :=
  ⟨h.box.kept hk (hS _ (.inl rfl)), h.row.kept hk (fun k e => hS k (.inr e))⟩
theorem SeqAt.nb {W W' : World} {lb cap : Nat} {a : Option Addr} {ps : List (Int × Bk)} (h : SeqAt W lb a cap ps) (hk : Kept (NB lb a) W W') : SeqAt W' lb a cap ps := h.kept hk (fun _ e f => f e)
theorem SeqAt.lt {W : World} {lb cap : Nat} {a : Option Addr} {ps : List (Int × Bk)} (h : SeqAt W lb a cap ps) {k : Nat} (hk : SB lb a k) : k < W.heap.size := by
  rcases hk with rfl | hk
  · exact h.box.lt
  · rcases h.row.cases (prs_len _) with ⟨rfl, _⟩ | ⟨g, rfl, _, hlt, _⟩
    · exact absurd hk At.none
    · obtain ⟨ad, e, rfl⟩ := hk
      cases e; exact hlt
theorem SeqAt.at {W : World} {lb cap : Nat} {a : Option Addr} {ps : List (Int × Bk)} (h : SeqAt W lb a cap ps) {i : Nat} (hi : i < ps.length) :
    ∃ pg, a = some ⟨pg, 0, none⟩ ∧ W.cell? ⟨pg, i * 4, none⟩ = some (.int .i64 (ps[i]?.getD default).1) ∧ W.cell? ⟨pg, i * 4 + 1, none⟩ = some (.int .i64 (ps[i]?.getD default).2.n) ∧ W.cell? ⟨pg, i * 4 + 2, none⟩ = some (.int .i64 (ps[i]?.getD default).2.c) ∧ W.cell? ⟨pg, i * 4 + 3, none⟩ = some (.slice (ps[i]?.getD default).2.a (ps[i]?.getD default).2.l (ps[i]?.getD default).2.k) := by
  rcases h.row.cases (prs_len _) with ⟨rfl, _, h0⟩ | ⟨g, rfl, _, hlt, sp, hg, _⟩
  · omega
  · have hb : Box W g 172 (prs ps ++ sp).toArray := hg
    have hp : ps[i]? = some (ps[i]?.getD default) := by rw [List.getElem?_eq_getElem hi]; rfl
    obtain ⟨p1, p2, p3, p4⟩ := prs_at ps i _ hp
    have hl := prs_len ps
    refine ⟨g, rfl, ?_, ?_, ?_, ?_⟩
    · rw [hb.cell, List.getElem?_toArray, List.getElem?_append_left (by omega), p1]
    · rw [hb.cell, List.getElem?_toArray, List.getElem?_append_left (by omega), p2]
    · rw [hb.cell, List.getElem?_toArray, List.getElem?_append_left (by omega), p3]
    · rw [hb.cell, List.getElem?_toArray, List.getElem?_append_left (by omega), p4]

set_option maxRecDepth 100000 in
set_option maxHeartbeats 2000000 in
/-- What Got tells, gone over. -/
theorem it_in (F : Fence) (n : Nat) (h37 : F.fn 92) (hro : F.round = none) (hn : 1 ≤ n) (l lb cap m : Nat) (a : Option Addr) (ps : List (Int × Bk)) (hm : m ≤ 2000000000000) (hl : ps.length = m) (J Jx : List (Int × Bk) → World → Prop) (W : World) (hJ : AbidesFrom W.heap.size J)
    (hY : ∀ pre x W1, J pre W1 → pre.length < m → YieldAt F (n - 1) Try.prog l #[.int .i64 x.1, .agg #[.int .i64 x.2.n, .int .i64 x.2.c, .slice x.2.a x.2.l x.2.k]] W1 fun e W' =>
      (e = .returned (.bool true) ∧ J (pre ++ [x]) W' ∧ Kept (NB lb a) W1 W') ∨ (e = .returned (.bool false) ∧ Jx (pre ++ [x]) W'))
    (hS : SeqAt W lb a cap ps) (h0 : J [] W) :
    CallsIn F n Try.prog 92 #[.func (.yield l) #[] #[], .pointer (some ⟨lb, 0, none⟩)] W fun e W' => (∃ v, e = .returned v) ∧
      ((∃ ys, ys = ps ∧ J ys W') ∨ (∃ pre, pre <+: ps ∧ Jx pre W')) := by
  have HS : Hid (SeqAt W lb a cap ps) := hS
  have HL : Hid (ps.length = m) := hl
  have HJ : Hid (AbidesFrom W.heap.size J) := hJ
  have HY : Hid (∀ pre x W1, J pre W1 → pre.length < m → YieldAt F (n - 1) Try.prog l #[.int .i64 x.1, .agg #[.int .i64 x.2.n, .int .i64 x.2.c, .slice x.2.a x.2.l x.2.k]] W1 fun e W' =>
      (e = .returned (.bool true) ∧ J (pre ++ [x]) W' ∧ Kept (NB lb a) W1 W') ∨ (e = .returned (.bool false) ∧ Jx (pre ++ [x]) W')) := hY
  have hBs := hS.box.cell 0
  simp only [List.getElem?_toArray, List.getElem?_cons_zero] at hBs
  rw [hl] at hBs
  clear hl hJ hY hS
  refine callsIn_of_wp Try.func92 rfl h37 ?_ hro
  simp only [Try.ntmps92, List.size_toArray, List.length_cons, List.length_nil, Nat.reduceAdd, Nat.reduceSub, Array.replicate_succ, Array.replicate_zero, List.push_toArray, List.append_toArray, List.nil_append, List.cons_append]
  gi_wp2
  gi_loopw [7] (fun i wr => ∃ k : Nat, k ≤ m ∧ i = .int .i64 k ∧ Hid (J (ps.take k) wr) ∧ Hid (Kept (NB lb a) W wr)) (fun i _ => m - (intOf i).toNat)
  case atStart => exact ⟨0, Nat.zero_le _, rfl, h0, Kept.refl _ _⟩
  case round =>
    obtain ⟨k, hk, rfl, HJs, HB⟩ := hrel
    clear hBs
    by_cases hlt : k < m
    · obtain ⟨pg, rfl, c0, c1, c2, c3⟩ := (HS.out.nb HB.out).at (i := k) (by rw [HL.out]; exact hlt)
      have HTk : Hid (ps.take k ++ [ps[k]?.getD default] = ps.take (k + 1)) := take_next (by rw [HL.out]; exact hlt)
      have hlen : (ps.take k).length < m := by rw [List.length_take, HL.out]; omega
      generalize ps[k]?.getD default = x at c0 c1 c2 c3 HTk
      obtain ⟨x1, x2, x3, x4, x5, x6⟩ := x
      simp only at c0 c1 c2 c3
      obtain ⟨w5, hw5⟩ : ∃ w5, w5 = wr.alloc (.cells #[.int .i64 x1, .int .i64 x2, .int .i64 x3, .slice x4 x5 x6] 172) := ⟨_, rfl⟩
      have hJ5 : J (ps.take k) w5 := by rw [hw5]; exact HJ.out _ wr _ none HJs.out (World.grownBy_alloc wr _ none) (fun r e => by cases e)
      have HB5 : Hid (Kept (NB lb (some ⟨pg, 0, none⟩)) W w5) := by rw [hw5]; exact HB.out.alloc _
      obtain ⟨fn, tmps, assign, body, hy, hR⟩ := HY.out _ (x1, ⟨x2, x3, x4, x5, x6⟩) w5 hJ5 hlen
      dsimp only at hy
      have hlt' : (k : Int) < (m : Int) := by omega
      clear hlen hJ5
      rw [hw5] at hy hR
      gi_wp2
      refine hR.mono ?_
      rw [← hw5]
      rintro e W3 (⟨rfl, hJ3, hk3⟩ | ⟨rfl, hJx3⟩)
      · rw [HTk.out] at hJ3
        have HJ3 : Hid (J (ps.take (k + 1)) W3) := hJ3
        have HB3 : Hid (Kept (NB lb (some ⟨pg, 0, none⟩)) W W3) := HB5.out.then hk3
        clear hJ3 hk3 hy hR HJs HB c0 c1 c2 c3
        gi_wp2
        go_roundw
        case rel => exact ⟨k + 1, by omega, by go_num, HJ3, HB3⟩
        case measure => simp [intOf]; omega
      · rw [HTk.out] at hJx3
        have HJ3 : Hid (Jx (ps.take (k + 1)) W3) := hJx3
        clear hJx3 hy hR HJs HB c0 c1 c2 c3
        gi_wp2
        refine bodyPost_ret (results_none rfl _ _ _) rfl ?_
        exact ⟨⟨_, rfl⟩, .inr ⟨_, List.take_prefix _ _, HJ3.out⟩⟩
    · obtain rfl : k = m := by omega
      have hlt' : ¬ (k : Int) < (k : Int) := by omega
      gi_wp2
      go_end0
      have hJe := HJs.out
      rw [List.take_of_length_le (by rw [HL.out]; omega)] at hJe
      exact ⟨⟨_, rfl⟩, .inl hJe⟩

theorem seq_stops (F : Fence) (n : Nat) (h37 : F.fn 92) (hro : F.round = none) (hn : 1 ≤ n) (lb cap m : Nat) (a : Option Addr) (ps : List (Int × Bk)) (hm : m ≤ 2000000000000) (hl : ps.length = m) (w : World) (hS : SeqAt w lb a cap ps) :
    SeqStopsK F n Try.prog 92 #[.pointer (some ⟨lb, 0, none⟩)] (fun x : Int × Bk => #[Value.int .i64 x.1, Value.agg #[.int .i64 x.2.n, .int .i64 x.2.c, .slice x.2.a x.2.l x.2.k]]) (Kept (NB lb a)) (fun ys => ys = ps) (fun pre => pre <+: ps) m w := fun l J Jx W hW hJ _ hY h0 =>
  it_in F n h37 hro hn l lb cap m a ps hm hl J Jx W hJ hY (hS.kept (below_kept hW) (fun k hk e => by have := hS.lt hk; omega)) h0

theorem nb_t {lb : Nat} {a : Option Addr} {A B C : World} (h : Kept (NB lb a) A B) (k : Kept (NB lb a) B C) : Kept (NB lb a) A C := h.then k
theorem nb_b {lb cap : Nat} {a : Option Addr} {w w0 : World} {ps : List (Int × Bk)} (hS : SeqAt w0 lb a cap ps) (hs : w0.heap.size ≤ w.heap.size) (W : World) (l : Nat) (o o' : Obj) (hl : w.heap.size ≤ l) (h : W.heap[l]? = some o) (_ : o.isCells = false) (_ : o.isWalk = false) : Kept (NB lb a) W (W.putObj l o') :=
  (Kept.refl _ W).grown (grownBy_putObj' W l o') (fun k e hk hb => by cases e; have := hS.lt hb; omega)

end Go.Proofs.Ythnecaejhnojfaa
namespace Go.Proofs.Ythnecaejhnojfaa
open Go.RowKit
set_option linter.unusedVariables false
set_option linter.unusedSimpArgs false

/-- The place of the best of the first k + 1, gone through from the left. -/
def bi (lt : Nat → Nat → Bool) : Nat → Nat
  | 0 => 0
  | k + 1 => if lt (bi lt k) (k + 1) then k + 1 else bi lt k
theorem bi_le (lt : Nat → Nat → Bool) : ∀ k, bi lt k ≤ k
  | 0 => Nat.le_refl _
  | k + 1 => by
    have := bi_le lt k
    unfold bi
    split <;> omega
theorem bi_yes {lt : Nat → Nat → Bool} {k : Nat} (h : lt (bi lt k) (k + 1) = true) : bi lt (k + 1) = k + 1 := if_pos h
theorem bi_no {lt : Nat → Nat → Bool} {k : Nat} (h : lt (bi lt k) (k + 1) = false) : bi lt (k + 1) = bi lt k := by
  show (if lt (bi lt k) (k + 1) then k + 1 else bi lt k) = _
  rw [h]; rfl


def bkV (p : Bk) : Value := .agg #[.int .i64 p.n, .int .i64 p.c, .slice p.a p.l p.k]
def pAt (ps : List Bk) (i : Nat) : Bk := ps[i]?.getD default
def lessK (p q : Bk) : Bool := lessB p.n p.c q.n q.c
/-- A row of blocks. -/
def Sts (w : World) (a : Option Addr) (ps : List Bk) : Prop :=
  ∀ i, i < ps.length → ∃ b off, a = some ⟨b, off, none⟩ ∧ w.cell? ⟨b, off + i * 3, none⟩ = some (.int .i64 (pAt ps i).n) ∧ w.cell? ⟨b, off + i * 3 + 1, none⟩ = some (.int .i64 (pAt ps i).c) ∧ w.cell? ⟨b, off + i * 3 + 2, none⟩ = some (.slice (pAt ps i).a (pAt ps i).l (pAt ps i).k)
theorem Sts.no {w w' : World} {a : Option Addr} {ps : List Bk} (h : Sts w a ps) (hk : Kept No w w') : Sts w' a ps := by
  intro i hi
  obtain ⟨b, off, e, c0, c1, c2⟩ := h i hi
  exact ⟨b, off, e, hk.cell c0 (fun e => e), hk.cell c1 (fun e => e), hk.cell c2 (fun e => e)⟩

set_option maxRecDepth 100000 in
set_option maxHeartbeats 2000000 in
theorem below_any (p q : Bk) (w : World) : Calls Try.prog 87 #[bkV p, bkV q] w fun e w' => e = .returned (.bool (lessK p q)) ∧ Kept No w w' := by
  obtain ⟨p1, p2, p3, p4, p5⟩ := p
  obtain ⟨q1, q2, q3, q4, q5⟩ := q
  unfold bkV lessK
  simp only
  obtain ⟨w1, hw1⟩ : ∃ w1, w1 = (w.alloc (.cells #[.int .i64 p1, .int .i64 p2, .slice p3 p4 p5] 144)).alloc (.cells #[.int .i64 q1, .int .i64 q2, .slice q3 q4 q5] 144) := ⟨_, rfl⟩
  have HK1 : Hid (Kept No w w1) := by rw [hw1]; exact ((Kept.refl No w).alloc _).alloc _
  go_enter Try.func87, Try.ntmps87
  go_wp2_with (first
    | (go_at_call 88
       rw [← hw1]
       refine Calls.mono (less_any p1 p2 q1 q2 w1) ?_
       rintro e w2 ⟨rfl, hk2⟩
       have HK2 : Hid (Kept No w w2) := HK1.out.then hk2
       clear hk2 hw1))
  go_ret
  exact ⟨rfl, HK2.out⟩

def ltP (ps : List Bk) (i j : Nat) : Bool := lessK (pAt ps i) (pAt ps j)
def bestP (ps : List Bk) : Bk := pAt ps (bi (ltP ps) (ps.length - 1))
def BestOutP (w : World) (ps : List Bk) (e : Ending) (w' : World) : Prop :=
  e = .returned (.tuple #[bkV (bestP ps), .bool true]) ∧ Kept No w w'

theorem best_step {ps : List Bk} {k : Nat} : (lessK (pAt ps (bi (ltP ps) k)) (pAt ps (k + 1)) = true → pAt ps (bi (ltP ps) (k + 1)) = pAt ps (k + 1)) ∧ (lessK (pAt ps (bi (ltP ps) k)) (pAt ps (k + 1)) = false → pAt ps (bi (ltP ps) (k + 1)) = pAt ps (bi (ltP ps) k)) :=
  ⟨fun h => by rw [bi_yes (lt := ltP ps) h], fun h => by rw [bi_no (lt := ltP ps) h]⟩

set_option maxRecDepth 100000 in
set_option maxHeartbeats 4000000 in
theorem bestP_any (a : Option Addr) (n cap : Nat) (ps : List Bk) (w : World) (hs : ps.length = n + 1) (hn : n + 1 ≤ 8796093021952) (hcap : n + 1 ≤ cap) (hc1 : ¬ cap = 1) (hm : cap ≤ 9223372036854775807) (h : Sts w a ps) :
    Calls Try.prog 89 #[.func (.func 87) #[] #[], .slice a (n + 1) cap] w (BestOutP w ps) := by
  have HS : Hid (ps.length = n + 1) := hs
  have H1 : Hid (Sts w a ps) := h
  obtain ⟨b, off, rfl, _⟩ := h 0 (by omega)
  clear hs h
  have HC : Hid (∀ wr, Kept No w wr → ∀ i, i < n + 1 → wr.cell? ⟨b, off + i * 3, none⟩ = some (.int .i64 (pAt ps i).n) ∧ wr.cell? ⟨b, off + i * 3 + 1, none⟩ = some (.int .i64 (pAt ps i).c) ∧ wr.cell? ⟨b, off + i * 3 + 2, none⟩ = some (.slice (pAt ps i).a (pAt ps i).l (pAt ps i).k)) := fun wr hk i hi => by
    obtain ⟨b', o', e, hc⟩ := (H1.out.no hk) i (by rw [HS.out]; exact hi)
    cases e; exact hc
  have HLs : Hid (∀ (p q : Bk) w, Calls Try.prog 87 #[bkV p, bkV q] w fun e w' => e = .returned (.bool (lessK p q)) ∧ Kept No w w') := below_any
  have hb0 : ((n : Int) + 1 == 0) = false := by simp; omega
  obtain ⟨w0, hw0⟩ : ∃ w0, w0 = w.alloc (.cells #[.int .i64 0, .int .i64 0, .slice none 0 0] 144) := ⟨_, rfl⟩
  have HK0 : Hid (Kept No w w0) := by rw [hw0]; exact (Kept.refl No w).alloc _
  obtain ⟨c0, c1, c2⟩ := HC.out w0 HK0.out 0 (by omega)
  rw [Nat.zero_mul, Nat.add_zero] at c0 c1 c2
  rw [hw0] at c0 c1 c2
  have hz : Hid (pAt ps 0 = pAt ps (bi (ltP ps) 0)) := rfl
  generalize pAt ps 0 = xx at c0 c1 c2 hz
  obtain ⟨x0, x1, x2, x3, x4⟩ := xx
  simp only at c0 c1 c2
  go_enter Try.func89, Try.ntmps89
  go_wp2
  obtain ⟨w1, hw1⟩ : ∃ w1, w1 = (w.alloc (.cells #[.int .i64 0, .int .i64 0, .slice none 0 0] 144)).alloc (.cells #[.int .i64 x0, .int .i64 x1, .slice x2 x3 x4] 144) := ⟨_, rfl⟩
  rw [← hw1]
  have HK1 : Hid (Kept No w w1) := by rw [hw1]; exact ((Kept.refl No w).alloc _).alloc _
  have HB1 : Hid (Box w1 w.heap.size 144 #[.int .i64 0, .int .i64 0, .slice none 0 0]) := by rw [hw1]; exact (Box.new _ _ _).alloc _
  have HB2 : Hid (Box w1 (w.heap.size + 1) 144 #[.int .i64 x0, .int .i64 x1, .slice x2 x3 x4]) := by
    have h1 : (w.alloc (.cells #[.int .i64 0, .int .i64 0, .slice none 0 0] 144)).heap.size = w.heap.size + 1 := by simp
    rw [hw1, ← h1]; exact Box.new _ _ _
  clear hw1 hw0 c0 c1 c2
  go_loopw [20] (fun vi wr => ∃ k : Nat, vi = .int .i64 k ∧ k ≤ n ∧ Hid (Box wr w.heap.size 144 #[.int .i64 0, .int .i64 0, .slice none 0 0]) ∧ Hid (Box wr (w.heap.size + 1) 144 #[.int .i64 (pAt ps (bi (ltP ps) k)).n, .int .i64 (pAt ps (bi (ltP ps) k)).c, .slice (pAt ps (bi (ltP ps) k)).a (pAt ps (bi (ltP ps) k)).l (pAt ps (bi (ltP ps) k)).k]) ∧ Hid (Kept No w wr)) (fun i _ => n - (intOf i).toNat)
  case atStart => exact ⟨0, by go_num, by omega, HB1, by rw [← hz.out]; exact HB2, HK1⟩
  case round =>
    obtain ⟨k, rfl, hk, HA, HB, HK⟩ := hrel
    clear HB1 HB2 HK1 HK0
    by_cases hlt : k < n
    · have hlt' : (k : Int) < (n : Int) := by omega
      obtain ⟨e1, e2, e3⟩ := HC.out wr HK.out (k + 1) (by omega)
      rw [show off + (k + 1) * 3 = off + 3 + k * 3 by omega] at e1 e2 e3
      have HY : Hid _ := @best_step ps k
      generalize pAt ps (bi (ltP ps) k) = p at HB HY
      generalize pAt ps (k + 1) = q at e1 e2 e3 HY
      obtain ⟨p1, p2, p3, p4, p5⟩ := p
      obtain ⟨q1, q2, q3, q4, q5⟩ := q
      simp only at e1 e2 e3 HB
      obtain ⟨w5, hw5⟩ : ∃ w5, w5 = wr.alloc (.cells #[.int .i64 q1, .int .i64 q2, .slice q3 q4 q5] 144) := ⟨_, rfl⟩
      have HK5 : Hid (Kept No w w5) := by rw [hw5]; exact HK.out.alloc _
      have HA5 : Hid (Box w5 w.heap.size 144 #[.int .i64 0, .int .i64 0, .slice none 0 0]) := by rw [hw5]; exact HA.out.alloc _
      have HB5 : Hid (Box w5 (w.heap.size + 1) 144 #[.int .i64 p1, .int .i64 p2, .slice p3 p4 p5]) := by rw [hw5]; exact HB.out.alloc _
      have HQ5 : Hid (Box w5 wr.heap.size 144 #[.int .i64 q1, .int .i64 q2, .slice q3 q4 q5]) := by rw [hw5]; exact Box.new _ _ _
      have d0 := HB5.out.cell 0
      have d1 := HB5.out.cell 1
      have d2 := HB5.out.cell 2
      simp only [List.getElem?_toArray, List.getElem?_cons_zero, List.getElem?_cons_succ] at d0 d1 d2
      rw [hw5] at d0 d1 d2
      cases hb : lessK ⟨p1, p2, p3, p4, p5⟩ ⟨q1, q2, q3, q4, q5⟩ with
      | true =>
        have HU : Hid (pAt ps (bi (ltP ps) (k + 1)) = ⟨q1, q2, q3, q4, q5⟩) := HY.out.1 hb
        clear HY
        go_wp2_with (go_at_call 87
                     rw [← hw5]
                     refine Calls.mono (HLs.out ⟨p1, p2, p3, p4, p5⟩ ⟨q1, q2, q3, q4, q5⟩ w5) ?_
                     rintro e w6 ⟨rfl, hk6⟩
                     rw [hb]
                     have HK6 : Hid (Kept No w w6) := HK5.out.then hk6
                     have HA6 : Hid (Box w6 w.heap.size 144 #[.int .i64 0, .int .i64 0, .slice none 0 0]) := HA5.out.kept hk6 (fun e => e)
                     have HB6 : Hid (Box w6 (w.heap.size + 1) 144 #[.int .i64 p1, .int .i64 p2, .slice p3 p4 p5]) := HB5.out.kept hk6 (fun e => e)
                     have HQ6 : Hid (Box w6 wr.heap.size 144 #[.int .i64 q1, .int .i64 q2, .slice q3 q4 q5]) := HQ5.out.kept hk6 (fun e => e)
                     have g0 := HQ6.out.cell 0
                     have g1 := HQ6.out.cell 1
                     have g2 := HQ6.out.cell 2
                     simp only [List.getElem?_toArray, List.getElem?_cons_zero, List.getElem?_cons_succ] at g0 g1 g2
                     have d0' := HB6.out.cell 0
                     have d1' := HB6.out.cell 1
                     have d2' := HB6.out.cell 2
                     simp only [List.getElem?_toArray, List.getElem?_cons_zero, List.getElem?_cons_succ] at d0' d1' d2'
                     have f0 := HB6.out.frozen 0
                     have f1 := HB6.out.frozen 1
                     have f2 := HB6.out.frozen 2
                     clear hk6 d0 d1 d2 hw5)
        go_roundw
        case rel =>
          refine ⟨k + 1, by go_num, by omega, ?_, ?_, ?_⟩
          · exact (((HA6.out.other (by simp) _).other (by simp) _).other (by simp) _)
          · rw [HU.out]
            exact (((HB6.out.set 0 (.int .i64 q1)).set 1 (.int .i64 q2)).set 2 (.slice q3 q4 q5))
          · exact (((HK6.out.setCell (p := ⟨w.heap.size + 1, 0, none⟩) (fun h => by have : w.heap.size + 1 < w.heap.size := h; omega) _).setCell (p := ⟨w.heap.size + 1, 1, none⟩) (fun h => by have : w.heap.size + 1 < w.heap.size := h; omega) _).setCell (p := ⟨w.heap.size + 1, 2, none⟩) (fun h => by have : w.heap.size + 1 < w.heap.size := h; omega) _)
        case measure => simp [intOf]; omega
      | false =>
        have HU : Hid (pAt ps (bi (ltP ps) (k + 1)) = ⟨p1, p2, p3, p4, p5⟩) := HY.out.2 hb
        clear HY
        go_wp2_with (go_at_call 87
                     rw [← hw5]
                     refine Calls.mono (HLs.out ⟨p1, p2, p3, p4, p5⟩ ⟨q1, q2, q3, q4, q5⟩ w5) ?_
                     rintro e w6 ⟨rfl, hk6⟩
                     rw [hb]
                     have HK6 : Hid (Kept No w w6) := HK5.out.then hk6
                     have HA6 : Hid (Box w6 w.heap.size 144 #[.int .i64 0, .int .i64 0, .slice none 0 0]) := HA5.out.kept hk6 (fun e => e)
                     have HB6 : Hid (Box w6 (w.heap.size + 1) 144 #[.int .i64 p1, .int .i64 p2, .slice p3 p4 p5]) := HB5.out.kept hk6 (fun e => e)
                     clear hk6 d0 d1 d2 hw5)
        go_roundw
        case rel => exact ⟨k + 1, by go_num, by omega, HA6, by rw [HU.out]; exact HB6, HK6⟩
        case measure => simp [intOf]; omega
    · have hlt' : ¬ (k : Int) < (n : Int) := by omega
      obtain rfl : k = n := by omega
      have HE : Hid (bestP ps = pAt ps (bi (ltP ps) k)) := by show pAt ps (bi (ltP ps) (ps.length - 1)) = _; rw [HS.out, Nat.add_sub_cancel]
      generalize pAt ps (bi (ltP ps) k) = p at HB HE
      obtain ⟨p1, p2, p3, p4, p5⟩ := p
      simp only at HB
      have d0 := HB.out.cell 0
      have d1 := HB.out.cell 1
      have d2 := HB.out.cell 2
      have a0 := HA.out.cell 0
      have a1 := HA.out.cell 1
      have a2 := HA.out.cell 2
      simp only [List.getElem?_toArray, List.getElem?_cons_zero, List.getElem?_cons_succ] at d0 d1 d2 a0 a1 a2
      have f0 := HA.out.frozen 0
      have f1 := HA.out.frozen 1
      have f2 := HA.out.frozen 2
      go_wp2
      obtain ⟨hF, hKs⟩ := set3 HA.out (.int .i64 p1) (.int .i64 p2) (.slice p3 p4 p5)
      refine bodyPost_ret (results_row_tmp (by rfl) _ _ w.heap.size #[.int .i64 p1, .int .i64 p2, .slice p3 p4 p5] (by rfl) (load57_run hF rfl)) rfl ⟨by rw [HE.out]; rfl, ?_⟩
      exact HK.out.trans hKs (fun _ e => e) (fun i hi e => by have : i = w.heap.size := e; omega)

end Go.Proofs.Ythnecaejhnojfaa
namespace Go.Proofs.Ythnecaejhnojfaa
open Go.RowKit
set_option linter.unusedVariables false
set_option linter.unusedSimpArgs false

/-- Has it another stamp? -/
def otherB (g p : Bk) : Bool := !(p.n == g.n && p.c == g.c)
set_option maxRecDepth 100000 in
set_option maxHeartbeats 2000000 in
theorem other_any (gb : Nat) (g p : Bk) (w : World) (hb : Box w gb 144 #[.int .i64 g.n, .int .i64 g.c, .slice g.a g.l g.k]) :
    Calls Try.prog 90 #[bkV p, .pointer (some ⟨gb, 0, none⟩)] w fun e w' => e = .returned (.bool (otherB g p)) ∧ Kept No w w' := by
  obtain ⟨p1, p2, p3, p4, p5⟩ := p
  obtain ⟨g1, g2, g3, g4, g5⟩ := g
  unfold bkV otherB
  simp only at hb ⊢
  have hb1 := hb.alloc (.cells #[.int .i64 p1, .int .i64 p2, .slice p3 p4 p5] 144)
  have c0 := hb1.cell 0
  have c1 := hb1.cell 1
  simp only [List.getElem?_toArray, List.getElem?_cons_zero, List.getElem?_cons_succ] at c0 c1
  have q := neqStamp
  clear hb hb1
  go_enter Try.func90, Try.ntmps90
  go_wp2
  go_ret
  exact ⟨ret_bool (by simp), (Kept.refl No w).alloc _⟩

theorem any_snoc {α : Type} (f : α → Bool) (l : List α) (x : α) : (l ++ [x]).any f = (l.any f || f x) := by simp
theorem pAt_take {ps : List Bk} {k : Nat} (h : k < ps.length) : ps.take (k + 1) = ps.take k ++ [pAt ps k] := by
  rw [List.take_succ_eq_append_getElem h, pAt, List.getElem?_eq_getElem h]; rfl

set_option maxRecDepth 100000 in
set_option maxHeartbeats 4000000 in
theorem index_any (a : Option Addr) (n cap gb : Nat) (ps : List Bk) (g : Bk) (w : World) (hl : ps.length = n) (hn : n ≤ 2000000000000) (h : Sts w a ps) (hb : Box w gb 144 #[.int .i64 g.n, .int .i64 g.c, .slice g.a g.l g.k]) :
    Calls Try.prog 93 #[.slice a n cap, .func (.func 90) #[] #[.pointer (some ⟨gb, 0, none⟩)]] w fun e w' => (∃ r : Int, e = .returned (.int .i64 r) ∧ decide (0 ≤ r) = ps.any (otherB g)) ∧ Kept No w w' := by
  have HS : Hid (Sts w a ps) := h
  have HL : Hid (ps.length = n) := hl
  have HO : Hid (∀ (p : Bk) wr, Kept No w wr → Calls Try.prog 90 #[bkV p, .pointer (some ⟨gb, 0, none⟩)] wr fun e w' => e = .returned (.bool (otherB g p)) ∧ Kept No wr w') := fun p wr hk => other_any gb g p wr (hb.kept hk (fun e => e))
  clear h hl hb
  go_enter Try.func93, Try.ntmps93
  go_wp2
  go_loopw [8] (fun vi wr => ∃ k : Nat, vi = .int .i64 k ∧ k ≤ n ∧ Hid ((ps.take k).any (otherB g) = false) ∧ Hid (Kept No w wr)) (fun i _ => n - (intOf i).toNat)
  case atStart => exact ⟨0, by go_num, by omega, (by show _ = _; simp), Kept.refl _ _⟩
  case round =>
    obtain ⟨k, rfl, hk, HA, HK⟩ := hrel
    by_cases hlt : k < n
    · have hlt' : (k : Int) < (n : Int) := by omega
      obtain ⟨b, off, rfl, c0, c1, c2⟩ := (HS.out.no HK.out) k (by rw [HL.out]; exact hlt)
      have HTk : Hid (ps.take (k + 1) = ps.take k ++ [pAt ps k]) := pAt_take (by rw [HL.out]; exact hlt)
      have HMem : Hid (pAt ps k ∈ ps) := by
        have hk' : k < ps.length := by rw [HL.out]; exact hlt
        show pAt ps k ∈ ps
        unfold pAt
        rw [List.getElem?_eq_getElem hk']
        exact List.getElem_mem hk'
      generalize pAt ps k = p at c0 c1 c2 HTk HMem
      cases hp : otherB g p with
      | true =>
        have HP : Hid (otherB g p = true) := hp
        go_wp2_with (go_at_call 90
                     refine Calls.mono (HO.out p wr HK.out) ?_
                     rintro e w2 ⟨rfl, hk2⟩
                     rw [HP.out]
                     have HK2 : Hid (Kept No w w2) := HK.out.then hk2
                     clear hk2)
        go_ret
        refine ⟨⟨_, rfl, ?_⟩, HK2.out⟩
        have : ps.any (otherB g) = true := List.any_eq_true.2 ⟨p, HMem.out, HP.out⟩
        rw [this]
        simp
      | false =>
        have HP : Hid (otherB g p = false) := hp
        go_wp2_with (go_at_call 90
                     refine Calls.mono (HO.out p wr HK.out) ?_
                     rintro e w2 ⟨rfl, hk2⟩
                     rw [HP.out]
                     have HK2 : Hid (Kept No w w2) := HK.out.then hk2
                     clear hk2)
        go_roundw
        case rel => exact ⟨k + 1, by go_num, by omega, (by show _ = _; rw [HTk.out, any_snoc, HA.out, HP.out]; rfl), HK2⟩
        case measure => simp [intOf]; omega
    · have hlt' : ¬ (k : Int) < (n : Int) := by omega
      obtain rfl : k = n := by omega
      go_wp2
      go_ret
      refine ⟨⟨_, rfl, ?_⟩, HK.out⟩
      have h := HA.out
      rw [List.take_of_length_le (by rw [HL.out]; omega)] at h
      rw [h]
      rfl

set_option maxRecDepth 100000 in
set_option maxHeartbeats 4000000 in
theorem contains_any (a : Option Addr) (n cap gb : Nat) (ps : List Bk) (g : Bk) (w : World) (hl : ps.length = n) (hn : n ≤ 2000000000000) (h : Sts w a ps) (hb : Box w gb 144 #[.int .i64 g.n, .int .i64 g.c, .slice g.a g.l g.k]) :
    Calls Try.prog 91 #[.slice a n cap, .func (.func 90) #[] #[.pointer (some ⟨gb, 0, none⟩)]] w fun e w' => e = .returned (.bool (ps.any (otherB g))) ∧ Kept No w w' := by
  have HI : Hid _ := index_any a n cap gb ps g w hl hn h hb
  clear h hl hb
  go_enter Try.func91, Try.ntmps91
  go_wp2_with (go_at_call 93
               refine Calls.mono HI.out ?_
               rintro e w2 ⟨⟨r, rfl, hr⟩, hk2⟩
               have HR : Hid (decide (0 ≤ r) = ps.any (otherB g)) := hr
               have HK2 : Hid (Kept No w w2) := hk2
               clear hr hk2)
  all_goals go_ret
  all_goals refine ⟨ret_bool ?_, HK2.out⟩
  all_goals rw [← HR.out]
  all_goals simp_all

end Go.Proofs.Ythnecaejhnojfaa
namespace Go.Proofs.Ythnecaejhnojfaa
open Go.RowKit Go.Shelf
set_option linter.unusedVariables false
set_option linter.unusedSimpArgs false

attribute [local go_sem] Oper.semAt_some

theorem wpIn_appV {F : Fence} {nf : Nat} {ops : Array Oper} {rest : List Oper} {o : Oper} {a : Act} {w : World} {Q : Exit → Act → World → Prop} (hg : o.guard = none) (s x : Operand) (T E : TypeId) (c by' : Nat) (z : Value) (ht : Try.prog.underlying T = some (.slice E))
    (hinf : (Try.prog.info? E).map (fun i => (i.zero, i.size, i.bytes)) = some (some z, c, by')) (hzc : z.cells.size = c) (hc0 : 0 < c) (ho : o.op = .call { callee := Callee.builtin Builtin.append, args := #[s, x], argTypes := #[T, T] })
    (base n cap : Nat) (sa : Option Addr) (vs : List Value) (hs : a.eval s = .slice sa n cap) (hown : Own E c w base sa cap n vs) (ad : Addr) (m cc : Nat) (news : List Value) (hx : a.eval x = .slice (some ad) m cc) (hl : news.length = m * c) (hnews : ∀ j u, news[j]? = some u → w.cell? (ad.add j) = some u) (h1 : ∀ u ∈ news, u.oneCell' = true) (hbd : (n + m) * by' ≤ 140737488355328) (hb63 : n + m ≤ 9223372036854775807) (hm : 0 < m) (hbase : base ≤ w.heap.size) (k : Nat) (hk : n + m = k)
    (h : ∀ g' cap' w', Hid (Own E c w' base (some ⟨g', 0, none⟩) cap' k (vs ++ news)) → Hid (Kept (At sa) w w') → Hid (KeepsOthers w w') → Hid (At sa g' ∨ g' = w.heap.size) → wpListIn F nf Try.prog ops Q rest (a.put o.dst (.slice (some ⟨g', 0, none⟩) k cap')) w') : wpListIn F nf Try.prog ops Q (o :: rest) a w := by
  subst hk
  obtain ⟨i0, hi, hz0, hz1, hz2⟩ := info_parts hinf
  obtain ⟨v', w', hrun, r1, r2, _, r4⟩ := run_append_own_at (P := Try.prog) (w := w) base T o.type E i0 z c by' ht hi hz0 hz1 hz2 hzc hc0 (.slice sa n cap) n vs hown ad m cc news hl hnews h1 (by unfold maxLen; omega) hbd hbase
  have hk : Kept (At sa) w w' := (Kept.refl (At sa) w).grown r2 (fun k e hk => by
    cases sa with
    | none => cases e
    | some ad' => simp only [Value.ownBlock, Option.some.injEq] at e; exact ⟨ad', rfl, e⟩)
  have hko : KeepsOthers w w' := KeepsOthers.of_grownBy r2 fun j o ej hj => by
    rcases hown.2 with ⟨e, _⟩ | ⟨g, cap, cur, e, _, hgb, _⟩
    · rw [e] at ej; simp [Value.ownBlock] at ej
    · rw [e] at ej
      obtain rfl : g = j := by simpa [Value.ownBlock] using ej
      rw [hgb] at hj; cases hj; rfl
  rcases r1.2 with ⟨e, h0⟩ | ⟨g, cap', cur, e, _⟩
  · omega
  · subst e
    have h4 : At sa g ∨ g = w.heap.size := by
      rcases r4 with e | e
      · left
        cases sa with
        | none => simp [Value.ownBlock] at e
        | some ad' => simp only [Value.ownBlock, Option.some.injEq] at e; exact ⟨ad', rfl, e.symm⟩
      · right; simpa [Value.ownBlock] using e
    refine wpListIn_plain hg fun K hK' => ?_
    unfold Oper.wpIn
    refine ⟨?_, ?_⟩
    · simp [Oper.about, ho, resolve, Target.leads, Sem.run_pure]
    · rw [Oper.semAt_plain F _ _ (by rw [ho]; intro c hc'; cases hc')]
      simp [execOp, ho, resolve, invoke, builtin, hs, hx, hrun, Result.andThen]
      exact hK' _ _ (h g cap' w' r1 hk hko h4)

theorem box_row {W : World} {b t e c n₀ n cap : Nat} {cs : Array Value} {a : Option Addr} {vs : List Value} (hb : Box W b t cs) (hte : t ≠ e) (ho : Own e c W n₀ a cap n vs) {k : Nat} (hk : At a k) : k ≠ b := by
  rintro rfl
  obtain ⟨ad, rfl, rfl⟩ := hk
  rcases ho.2 with ⟨e', _⟩ | ⟨g, cap', cur, e', _, hgb, _⟩
  · cases e'
  · cases e'
    unfold Box at hb
    rw [hb] at hgb
    simp at hgb
    exact hte hgb.2

theorem own_cells {W W' : World} {row : Option Nat} {e c n₀ n cap : Nat} {a : Option Addr} {vs : List Value} (ho : Own e c W n₀ a cap n vs) (hg : W.grownBy W' row) (hr : ∀ r, row = some r → ∃ o : Obj, W.heap[r]? = some o ∧ o.isCells = false) : Own e c W' n₀ a cap n vs := by
  refine ho.kept (S := fun k => row = some k) ⟨hg.os, hg.tape, hg.output, hg.size, fun k hk hS => hg.block k hk (fun e => hS e.symm)⟩ (fun k hk e => ?_)
  obtain ⟨o, ho', hc⟩ := hr k e
  obtain ⟨ad, rfl, rfl⟩ := hk
  rcases ho.2 with ⟨e', _⟩ | ⟨g, cap', cur, e', _, hgb, _⟩
  · cases e'
  · cases e'
    rw [hgb] at ho'; cases ho'; cases hc
theorem box_cells {W W' : World} {row : Option Nat} {b t : Nat} {cs : Array Value} (hb : Box W b t cs) (hg : W.grownBy W' row) (hr : ∀ r, row = some r → ∃ o : Obj, W.heap[r]? = some o ∧ o.isCells = false) : Box W' b t cs :=
  (hg.block b hb.lt (fun e => by
    obtain ⟨o, ho', hc⟩ := hr b e.symm
    unfold Box at hb
    rw [hb] at ho'; cases ho'; cases hc)).trans hb


theorem Try.und58' : Try.prog.underlying 162 = some (.slice 144) := by kernel_rfl
theorem Try.info57 : (Try.prog.info? 144).map (fun i => (i.zero, i.size, i.bytes)) = some (some (.agg #[.int .i64 0, .int .i64 0, .slice none 0 0]), 3, 40) := by kernel_rfl
def bkL (bs : List Bk) : List Value := bs.flatMap (fun p => [.int .i64 p.n, .int .i64 p.c, .slice p.a p.l p.k])
theorem bkL_len (bs : List Bk) : (bkL bs).length = bs.length * 3 := by
  unfold bkL
  induction bs with
  | nil => rfl
  | cons p l ih => rw [List.flatMap_cons, List.length_append, ih]; simp; omega
theorem bkL_snoc (bs : List Bk) (p : Bk) : bkL (bs ++ [p]) = bkL bs ++ [.int .i64 p.n, .int .i64 p.c, .slice p.a p.l p.k] := by
  unfold bkL; rw [List.flatMap_append]; simp
theorem bkL_at : ∀ (bs : List Bk) (i : Nat), i < bs.length → (bkL bs)[i * 3]? = some (.int .i64 (pAt bs i).n) ∧ (bkL bs)[i * 3 + 1]? = some (.int .i64 (pAt bs i).c) ∧ (bkL bs)[i * 3 + 2]? = some (.slice (pAt bs i).a (pAt bs i).l (pAt bs i).k)
  | p :: l, 0, _ => ⟨rfl, rfl, rfl⟩
  | p :: l, i + 1, h => by
    have := bkL_at l i (by simpa using h)
    have e : (i + 1) * 3 = i * 3 + 1 + 1 + 1 := by omega
    rw [e]
    simpa [bkL, pAt] using this
theorem bkL_sts {W : World} {n₀ cap : Nat} {a : Option Addr} {bs : List Bk} (h : Own 144 3 W n₀ a cap bs.length (bkL bs)) : Sts W a bs := by
  intro i hi
  obtain ⟨g, rfl, hc⟩ := row_cell h (bkL_len _) (by omega)
  have hl := bkL_len bs
  obtain ⟨p1, p2, p3⟩ := bkL_at bs i hi
  refine ⟨g, 0, rfl, ?_, ?_, ?_⟩
  · rw [Nat.zero_add, hc _ (by omega), p1]
  · rw [Nat.zero_add, hc _ (by omega), p2]
  · rw [Nat.zero_add, hc _ (by omega), p3]

/-- A box that holds a row of blocks of its own. -/
def One (n₀ ba : Nat) (bs : List Bk) (W : World) : Prop :=
  ∃ a c, Box W ba 162 #[.slice a bs.length c] ∧ Own 144 3 W n₀ a c bs.length (bkL bs)
theorem own_cap {t : TypeId} {c : Nat} {w : World} {base : Nat} {a : Option Addr} {cap n : Nat} {vs : List Value} (h : Own t c w base a cap n vs) : n ≤ cap ∧ cap ≤ 9223372036854775807 := by
  rcases h.2 with ⟨hv, h0⟩ | ⟨g, cap', cur, hv, hb, hg, hle, hm, rest⟩
  · simp only [Value.slice.injEq] at hv; obtain ⟨_, _, rfl⟩ := hv; exact ⟨by omega, by omega⟩
  · simp only [Value.slice.injEq] at hv; obtain ⟨_, _, rfl⟩ := hv; exact ⟨hle, by unfold maxLen at hm; omega⟩

def GreatOut (w : World) (bs : List Bk) (e : Ending) (w' : World) : Prop :=
  e = .returned (.tuple #[bkV (bestP bs), .bool (!bs.any (otherB (bestP bs)))]) ∧ Kept No w w'

end Go.Proofs.Ythnecaejhnojfaa
namespace Go.Proofs.Ythnecaejhnojfaa
open Go.RowKit
set_option linter.unusedVariables false
set_option linter.unusedSimpArgs false

/-- A machine's phase at its end. -/
def endV (err sn sc : Int) (da : Option Addr) (dl dc : Nat) : Value := .agg (resC err sn sc da dl dc)
/-- The second phase. -/
def layV (n c : Int) (a : Option Addr) (l k : Nat) (err sn sc : Int) (da : Option Addr) (dl dc : Nat) (ub : Nat) : Value :=
  .agg #[.int .i64 n, .int .i64 c, .slice a l k, .int .i64 err, .string ⟨#[]⟩, .int .i64 0, .int .i64 0, .int .i64 0, .slice none 0 0, .slice da dl dc, .int .i64 0, .int .i64 sn, .int .i64 sc, .int .i64 0, .pointer (some ⟨ub, 0, none⟩)]

set_option maxRecDepth 100000 in
set_option maxHeartbeats 2000000 in
theorem tick0_any (m : Value) (w : World) : Calls Try.prog 70 #[.agg #[], m] w (fun e w' => e = .returned (.slice none 0 0) ∧ Kept No w w') := by
  go_enter Try.func70, Try.ntmps70
  go_wp2
  go_ret
  exact ⟨rfl, (Kept.refl No w).alloc _⟩

theorem meth_tickE (err sn sc : Int) (da : Option Addr) (dl dc : Nat) (w : World) : (method 277 139 (endV err sn sc da dl dc) "cairn/register.tick").run Try.prog w = .ok (70, .agg #[]) w := by kernel_rfl
theorem meth_tickL (n c : Int) (a : Option Addr) (l k : Nat) (err sn sc : Int) (da : Option Addr) (dl dc : Nat) (ub : Nat) (w : World) : (method 277 160 (layV n c a l k err sn sc da dl dc ub) "cairn/register.tick").run Try.prog w = .ok (95, layV n c a l k err sn sc da dl dc ub) w := by kernel_rfl
theorem meth_doneE (err sn sc : Int) (da : Option Addr) (dl dc : Nat) (w : World) : (method 277 139 (endV err sn sc da dl dc) "cairn/register.done").run Try.prog w = .ok (77, endV err sn sc da dl dc) w := by kernel_rfl
theorem meth_doneL (n c : Int) (a : Option Addr) (l k : Nat) (err sn sc : Int) (da : Option Addr) (dl dc : Nat) (ub : Nat) (w : World) : (method 277 160 (layV n c a l k err sn sc da dl dc ub) "cairn/register.done").run Try.prog w = .ok (68, .agg #[]) w := by kernel_rfl

set_option maxRecDepth 100000 in
set_option maxHeartbeats 2000000 in
theorem enterE_any (m : Nat) (a : Option Addr) (cap : Nat) (x : MS) (t : TypeId) (v : Value) (err sn sc : Int) (da : Option Addr) (dl dc : Nat) (w : World) (hM : Mach w m a cap x t v) :
    Calls Try.prog 72 #[.pointer (some ⟨m, 0, none⟩), .iface 139 (endV err sn sc da dl dc)] w (fun e w' => e = .returned (.slice none 0 0) ∧ Mach w' m a cap x 139 (endV err sn sc da dl dc) ∧ Kept (Only m) w w') := by
  have c9 := hM.box.cell 9
  have f9 := hM.box.frozen 9
  simp only [mC, List.getElem?_toArray, List.getElem?_cons_zero, List.getElem?_cons_succ] at c9
  have hm := meth_tickE err sn sc da dl dc
  generalize endV err sn sc da dl dc = EV at hm ⊢
  obtain ⟨w1, hw1⟩ : ∃ w1, w1 = w.setCell ⟨m, 9, none⟩ (.iface 139 EV) := ⟨_, rfl⟩
  have HM1 : Hid (Mach w1 m a cap x 139 EV) := by rw [hw1]; exact hM.setPhase _ _
  have HK1 : Hid (Kept (Only m) w w1) := by rw [hw1]; exact (Kept.refl (Only m) w).setCell (p := ⟨m, 9, none⟩) (fun _ => rfl) _
  clear hM
  go_enter Try.func72, Try.ntmps72
  go_wp2_with (go_at_call 70
               rw [← hw1]
               refine Calls.mono (tick0_any _ w1) ?_
               rintro e w3 ⟨rfl, hk3⟩
               have HM3 : Hid (Mach w3 m a cap x 139 EV) := HM1.out.no hk3
               have HK3 : Hid (Kept (Only m) w w3) := HK1.out.then hk3.of_no
               clear hk3 hw1)
  go_ret
  exact ⟨rfl, HM3.out, HK3.out⟩

end Go.Proofs.Ythnecaejhnojfaa
