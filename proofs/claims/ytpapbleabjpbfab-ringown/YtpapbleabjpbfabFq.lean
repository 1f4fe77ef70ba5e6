import Derived.RangeFuncNested
import Derived.RangeFuncBound
import Derived.RangeFuncCalls
import Derived.RangeFuncLeaves
import Derived.Shelf.Abstract
import Derived.Sort.QuietTacIn
import Derived.Shelf.RegionOpen
import Derived.OwnWalkIn
import Derived.TacticsInMore
import Derived.LoopNIn
import Derived.LoopIn
import Derived.Test.YtpapbleabjpbfabFi
namespace Go.Proofs.Ytpapbleabjpbfab
open Go.RowKit Go.Shelf
set_option linter.unusedVariables false

attribute [local go_sem] Oper.semAt_some

theorem take_next {ps : List (Int × Int)} {k : Nat} (h : k < ps.length) : ps.take k ++ [ps[k]?.getD (0, 0)] = ps.take (k + 1) := by
  rw [List.take_succ_eq_append_getElem h, List.getElem?_eq_getElem h]; rfl

set_option maxRecDepth 100000 in
set_option maxHeartbeats 2000000 in
/-- What Points tells, gone over: every body that keeps what lay below n₀. -/
theorem pts1_in (F : Fence) (n : Nat) (h29 : F.fn 29) (hro : F.round = none) (hn : 1 ≤ n) (l Bs n₀ pg pc m : Nat) (ps : List (Int × Int)) (hm : m ≤ 4096) (hl : ps.length = m) (hb : pg < n₀) (J Jx : List (Int × Int) → World → Prop) (W : World) (hJ : AbidesFrom W.heap.size J) (hn0 : n₀ ≤ W.heap.size)
    (hY : ∀ pre x W1, J pre W1 → pre.length < m → YieldAt F (n - 1) Try.prog l #[.int .i64 x.1, .int .i64 x.2] W1 fun e W' =>
      (e = .returned (.bool true) ∧ J (pre ++ [x]) W' ∧ Below n₀ W1 W') ∨ (e = .returned (.bool false) ∧ Jx (pre ++ [x]) W'))
    (hBs : W.cell? ⟨Bs, 0, none⟩ = some (.slice (some ⟨pg, 0, none⟩) m pc))
    (hc : ∀ i, i < m → W.cell? ⟨pg, i * 2, none⟩ = some (.int .i64 (ps[i]?.getD (0, 0)).1) ∧ W.cell? ⟨pg, i * 2 + 1, none⟩ = some (.int .i64 (ps[i]?.getD (0, 0)).2)) (h0 : J [] W) :
    CallsIn F n Try.prog 29 #[.func (.yield l) #[] #[], .pointer (some ⟨Bs, 0, none⟩)] W fun e W' => (∃ v, e = .returned v) ∧
      ((∃ ys, ys = ps ∧ J ys W') ∨ (∃ pre, pre <+: ps ∧ Jx pre W')) := by
  have HC : Hid (∀ i, i < m → W.cell? ⟨pg, i * 2, none⟩ = some (.int .i64 (ps[i]?.getD (0, 0)).1) ∧ W.cell? ⟨pg, i * 2 + 1, none⟩ = some (.int .i64 (ps[i]?.getD (0, 0)).2)) := hc
  have HL : Hid (ps.length = m) := hl
  have HJ : Hid (AbidesFrom W.heap.size J) := hJ
  have HY : Hid (∀ pre x W1, J pre W1 → pre.length < m → YieldAt F (n - 1) Try.prog l #[.int .i64 x.1, .int .i64 x.2] W1 fun e W' =>
      (e = .returned (.bool true) ∧ J (pre ++ [x]) W' ∧ Below n₀ W1 W') ∨ (e = .returned (.bool false) ∧ Jx (pre ++ [x]) W')) := hY
  clear hc hl hJ hY
  refine callsIn_of_wp Try.func29 rfl h29 ?_ hro
  simp only [Try.ntmps29, List.size_toArray, List.length_cons, List.length_nil, Nat.reduceAdd, Nat.reduceSub, Array.replicate_succ, Array.replicate_zero, List.push_toArray, List.append_toArray, List.nil_append, List.cons_append]
  gi_wp2
  gi_loopw [7] (fun i wr => ∃ k : Nat, k ≤ m ∧ i = .int .i64 k ∧ Hid (J (ps.take k) wr) ∧ Hid (Below n₀ W wr)) (fun i _ => m - (intOf i).toNat)
  case atStart => exact ⟨0, Nat.zero_le _, rfl, h0, Below.refl _ _⟩
  case round =>
    obtain ⟨k, hk, rfl, HJs, HB⟩ := hrel
    by_cases hlt : k < m
    · have c0 : wr.cell? ⟨pg, k * 2, none⟩ = some (.int .i64 (ps[k]?.getD (0, 0)).1) := (HB.out.cell (p := ⟨pg, k * 2, none⟩) hb).trans (HC.out k hlt).1
      have c1 : wr.cell? ⟨pg, k * 2 + 1, none⟩ = some (.int .i64 (ps[k]?.getD (0, 0)).2) := (HB.out.cell (p := ⟨pg, k * 2 + 1, none⟩) hb).trans (HC.out k hlt).2
      have HTk : Hid (ps.take k ++ [ps[k]?.getD (0, 0)] = ps.take (k + 1)) := take_next (by rw [HL.out]; exact hlt)
      have hlen : (ps.take k).length < m := by rw [List.length_take, HL.out]; omega
      generalize ps[k]?.getD (0, 0) = x at c0 c1 HTk
      obtain ⟨x1, x2⟩ := x
      simp only at c0 c1
      obtain ⟨w5, hw5⟩ : ∃ w5, w5 = wr.alloc (.cells #[.int .i64 x1, .int .i64 x2] 68) := ⟨_, rfl⟩
      have hJ5 : J (ps.take k) w5 := by rw [hw5]; exact HJ.out _ wr _ none HJs.out (World.grownBy_alloc wr _ none) (fun r e => by cases e)
      have HB5 : Hid (Below n₀ W w5) := by rw [hw5]; exact HB.out.trans ((Below.refl n₀ wr).alloc (Nat.le_trans hn0 HB.out.size) _)
      obtain ⟨fn, tmps, assign, body, hy, hR⟩ := HY.out _ (x1, x2) w5 hJ5 hlen
      dsimp only at hy
      have hlt' : (k : Int) < (m : Int) := by omega
      clear hlen hJ5
      rw [hw5] at hy hR
      gi_wp2
      refine hR.mono ?_
      rw [← hw5]
      rintro e W3 (⟨rfl, hJ3, hk3⟩ | ⟨rfl, hJx3⟩)
      · rw [HTk.out] at hJ3
        have HJ3 : Hid (J (ps.take (k + 1)) W3) := hJ3
        have HB3 : Hid (Below n₀ W W3) := HB5.out.trans hk3
        clear hJ3 hk3 hy hR HJs HB c0 c1
        gi_wp2
        go_roundw
        case rel => exact ⟨k + 1, by omega, by go_num, HJ3, HB3⟩
        case measure => simp [intOf]; omega
      · rw [HTk.out] at hJx3
        have HJ3 : Hid (Jx (ps.take (k + 1)) W3) := hJx3
        clear hJx3 hy hR HJs HB c0 c1
        gi_wp2
        refine bodyPost_ret (results_none rfl _ _ _) rfl ?_
        exact ⟨⟨_, rfl⟩, .inr ⟨_, List.take_prefix _ _, HJ3.out⟩⟩
    · obtain rfl : k = m := by omega
      have hlt' : ¬ (k : Int) < (k : Int) := by omega
      gi_wp2
      go_end0
      have hJe := HJs.out
      rw [List.take_of_length_le (by rw [HL.out]; omega)] at hJe
      exact ⟨⟨_, rfl⟩, .inl hJe⟩

theorem pts_stops (F : Fence) (n : Nat) (h29 : F.fn 29) (hro : F.round = none) (hn : 1 ≤ n) (Bs n₀ pg pc m : Nat) (ps : List (Int × Int)) (hm : m ≤ 4096) (hl : ps.length = m) (w : World) (hb : pg < n₀) (hBs : Bs < w.heap.size) (hn₀ : n₀ ≤ w.heap.size)
    (hc : w.cell? ⟨Bs, 0, none⟩ = some (.slice (some ⟨pg, 0, none⟩) m pc))
    (hI : ∀ i, i < m → w.cell? ⟨pg, i * 2, none⟩ = some (.int .i64 (ps[i]?.getD (0, 0)).1) ∧ w.cell? ⟨pg, i * 2 + 1, none⟩ = some (.int .i64 (ps[i]?.getD (0, 0)).2)) :
    SeqStopsK F n Try.prog 29 #[.pointer (some ⟨Bs, 0, none⟩)] (fun x : Int × Int => #[Value.int .i64 x.1, Value.int .i64 x.2]) (Below n₀) (fun ys => ys = ps) (fun pre => pre <+: ps) m w := fun l J Jx W hW hJ _ hY h0 => by
  have hs := hW.size
  exact pts1_in F n h29 hro hn l Bs n₀ pg pc m ps hm hl hb J Jx W hJ (by omega) hY ((hW.cell (p := ⟨Bs, 0, none⟩) hBs).trans hc)
    (fun i hi => ⟨(hW.cell (p := ⟨pg, i * 2, none⟩) (show pg < w.heap.size by omega)).trans (hI i hi).1, (hW.cell (p := ⟨pg, i * 2 + 1, none⟩) (show pg < w.heap.size by omega)).trans (hI i hi).2⟩) h0


theorem keepsN (W : World) (n : Nat) : KeepsOthers W (W.drewN n) := ⟨Nat.le_refl _, fun _ _ h _ => h⟩
theorem belowN (B : Nat) (W : World) (n : Nat) : Below B W (W.drewN n) := ⟨rfl, rfl, rfl, Nat.le_refl _, fun _ _ => rfl⟩


end Go.Proofs.Ytpapbleabjpbfab
