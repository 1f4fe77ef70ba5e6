import Derived.RangeFuncNested
import Derived.RangeFuncBound
import Derived.RangeFuncCalls
import Derived.RangeFuncLeaves
import Derived.Shelf.Abstract
import Derived.Sort.QuietTacIn
import Derived.Shelf.RegionOpen
import Derived.OwnWalkIn
import Derived.TacticsInMore
import Derived.LoopNIn
import Derived.LoopIn
import Derived.Test.YtpapbleabjpbfaaCn
namespace Go.Proofs.Ytpapbleabjpbfaa
open Go.RowKit Go.Shelf
set_option linter.unusedVariables false

attribute [local go_sem] Oper.semAt_some

theorem take_next {ps : List (Int × Int)} {k : Nat} (h : k < ps.length) : ps.take k ++ [ps[k]?.getD (0, 0)] = ps.take (k + 1) := by
  rw [List.take_succ_eq_append_getElem h, List.getElem?_eq_getElem h]; rfl

set_option maxRecDepth 100000 in
set_option maxHeartbeats 2000000 in
/-- What Points tells, gone over: every body that keeps what lay below n₀. -/
theorem pts1_in (F : Fence) (n : Nat) (h54 : F.fn 54) (hro : F.round = none) (hn : 1 ≤ n) (l Bs n₀ pg pc m : Nat) (ps : List (Int × Int)) (hm : m ≤ 4096) (hl : ps.length = m) (hb : pg < n₀) (J Jx : List (Int × Int) → World → Prop) (W : World) (hJ : AbidesFrom W.heap.size J) (hn0 : n₀ ≤ W.heap.size)
    (hY : ∀ pre x W1, J pre W1 → pre.length < m → YieldAt F (n - 1) Try.prog l #[.int .i64 x.1, .int .i64 x.2] W1 fun e W' =>
      (e = .returned (.bool true) ∧ J (pre ++ [x]) W' ∧ Below n₀ W1 W') ∨ (e = .returned (.bool false) ∧ Jx (pre ++ [x]) W'))
    (hBs : W.cell? ⟨Bs, 0, none⟩ = some (.slice (some ⟨pg, 0, none⟩) m pc))
    (hc : ∀ i, i < m → W.cell? ⟨pg, i * 2, none⟩ = some (.int .i64 (ps[i]?.getD (0, 0)).1) ∧ W.cell? ⟨pg, i * 2 + 1, none⟩ = some (.int .i64 (ps[i]?.getD (0, 0)).2)) (h0 : J [] W) :
    CallsIn F n Try.prog 54 #[.func (.yield l) #[] #[], .pointer (some ⟨Bs, 0, none⟩)] W fun e W' => (∃ v, e = .returned v) ∧
      ((∃ ys, ys = ps ∧ J ys W') ∨ (∃ pre, pre <+: ps ∧ Jx pre W')) := by
  have HC : Hid (∀ i, i < m → W.cell? ⟨pg, i * 2, none⟩ = some (.int .i64 (ps[i]?.getD (0, 0)).1) ∧ W.cell? ⟨pg, i * 2 + 1, none⟩ = some (.int .i64 (ps[i]?.getD (0, 0)).2)) := hc
  have HL : Hid (ps.length = m) := hl
  have HJ : Hid (AbidesFrom W.heap.size J) := hJ
  have HY : Hid (∀ pre x W1, J pre W1 → pre.length < m → YieldAt F (n - 1) Try.prog l #[.int .i64 x.1, .int .i64 x.2] W1 fun e W' =>
      (e = .returned (.bool true) ∧ J (pre ++ [x]) W' ∧ Below n₀ W1 W') ∨ (e = .returned (.bool false) ∧ Jx (pre ++ [x]) W')) := hY
  clear hc hl hJ hY
  refine callsIn_of_wp Try.func54 rfl h54 ?_ hro
  simp only [Try.ntmps54, List.size_toArray, List.length_cons, List.length_nil, Nat.reduceAdd, Nat.reduceSub, Array.replicate_succ, Array.replicate_zero, List.push_toArray, List.append_toArray, List.nil_append, List.cons_append]
  gi_wp2
  gi_loopw [7] (fun i wr => ∃ k : Nat, k ≤ m ∧ i = .int .i64 k ∧ Hid (J (ps.take k) wr) ∧ Hid (Below n₀ W wr)) (fun i _ => m - (intOf i).toNat)
  case atStart => exact ⟨0, Nat.zero_le _, rfl, h0, Below.refl _ _⟩
  case round =>
    obtain ⟨k, hk, rfl, HJs, HB⟩ := hrel
    by_cases hlt : k < m
    · have c0 : wr.cell? ⟨pg, k * 2, none⟩ = some (.int .i64 (ps[k]?.getD (0, 0)).1) := (HB.out.cell (p := ⟨pg, k * 2, none⟩) hb).trans (HC.out k hlt).1
      have c1 : wr.cell? ⟨pg, k * 2 + 1, none⟩ = some (.int .i64 (ps[k]?.getD (0, 0)).2) := (HB.out.cell (p := ⟨pg, k * 2 + 1, none⟩) hb).trans (HC.out k hlt).2
      have HTk : Hid (ps.take k ++ [ps[k]?.getD (0, 0)] = ps.take (k + 1)) := take_next (by rw [HL.out]; exact hlt)
      have hlen : (ps.take k).length < m := by rw [List.length_take, HL.out]; omega
      generalize ps[k]?.getD (0, 0) = x at c0 c1 HTk
      obtain ⟨x1, x2⟩ := x
      simp only at c0 c1
      obtain ⟨w5, hw5⟩ : ∃ w5, w5 = wr.alloc (.cells #[.int .i64 x1, .int .i64 x2] 85) := ⟨_, rfl⟩
      have hJ5 : J (ps.take k) w5 := by rw [hw5]; exact HJ.out _ wr _ none HJs.out (World.grownBy_alloc wr _ none) (fun r e => by cases e)
      have HB5 : Hid (Below n₀ W w5) := by rw [hw5]; exact HB.out.trans ((Below.refl n₀ wr).alloc (Nat.le_trans hn0 HB.out.size) _)
      obtain ⟨fn, tmps, assign, body, hy, hR⟩ := HY.out _ (x1, x2) w5 hJ5 hlen
      dsimp only at hy
      have hlt' : (k : Int) < (m : Int) := by omega
      clear hlen hJ5
      rw [hw5] at hy hR
      gi_wp2
      refine hR.mono ?_
      rw [← hw5]
      rintro e W3 (⟨rfl, hJ3, hk3⟩ | ⟨rfl, hJx3⟩)
      · rw [HTk.out] at hJ3
        have HJ3 : Hid (J (ps.take (k + 1)) W3) := hJ3
        have HB3 : Hid (Below n₀ W W3) := HB5.out.trans hk3
        clear hJ3 hk3 hy hR HJs HB c0 c1
        gi_wp2
        go_roundw
        case rel => exact ⟨k + 1, by omega, by go_num, HJ3, HB3⟩
        case measure => simp [intOf]; omega
      · rw [HTk.out] at hJx3
        have HJ3 : Hid (Jx (ps.take (k + 1)) W3) := hJx3
        clear hJx3 hy hR HJs HB c0 c1
        gi_wp2
        refine bodyPost_ret (results_none rfl _ _ _) rfl ?_
        exact ⟨⟨_, rfl⟩, .inr ⟨_, List.take_prefix _ _, HJ3.out⟩⟩
    · obtain rfl : k = m := by omega
      have hlt' : ¬ (k : Int) < (k : Int) := by omega
      gi_wp2
      go_end0
      have hJe := HJs.out
      rw [List.take_of_length_le (by rw [HL.out]; omega)] at hJe
      exact ⟨⟨_, rfl⟩, .inl hJe⟩

theorem pts_stops (F : Fence) (n : Nat) (h54 : F.fn 54) (hro : F.round = none) (hn : 1 ≤ n) (Bs n₀ pg pc m : Nat) (ps : List (Int × Int)) (hm : m ≤ 4096) (hl : ps.length = m) (w : World) (hb : pg < n₀) (hBs : Bs < w.heap.size) (hn₀ : n₀ ≤ w.heap.size)
    (hc : w.cell? ⟨Bs, 0, none⟩ = some (.slice (some ⟨pg, 0, none⟩) m pc))
    (hI : ∀ i, i < m → w.cell? ⟨pg, i * 2, none⟩ = some (.int .i64 (ps[i]?.getD (0, 0)).1) ∧ w.cell? ⟨pg, i * 2 + 1, none⟩ = some (.int .i64 (ps[i]?.getD (0, 0)).2)) :
    SeqStopsK F n Try.prog 54 #[.pointer (some ⟨Bs, 0, none⟩)] (fun x : Int × Int => #[Value.int .i64 x.1, Value.int .i64 x.2]) (Below n₀) (fun ys => ys = ps) (fun pre => pre <+: ps) m w := fun l J Jx W hW hJ _ hY h0 => by
  have hs := hW.size
  exact pts1_in F n h54 hro hn l Bs n₀ pg pc m ps hm hl hb J Jx W hJ (by omega) hY ((hW.cell (p := ⟨Bs, 0, none⟩) hBs).trans hc)
    (fun i hi => ⟨(hW.cell (p := ⟨pg, i * 2, none⟩) (show pg < w.heap.size by omega)).trans (hI i hi).1, (hW.cell (p := ⟨pg, i * 2 + 1, none⟩) (show pg < w.heap.size by omega)).trans (hI i hi).2⟩) h0

/-- No operation of a list defers. -/
def noDefer (l : List Oper) : Bool := l.all fun o => match o.op with | .defer _ => false | _ => true
theorem noDefer_at {l : List Oper} (h : noDefer l = true) {i : Nat} {o : Oper} (ho : l.toArray[i]? = some o) (c : Call) : o.op ≠ .defer c := by
  intro e
  have hm : o ∈ l := List.mem_of_getElem? (by simpa using ho)
  have := List.all_eq_true.1 h o hm
  rw [e] at this
  cases this

/-- An operation that does not defer is run in a round as elsewhere. -/
theorem oper_round {F : Fence} {n : Nat} {P : Program} {l : Nat} {o : Oper} {a : Act} {w : World} {K K' : Act → World → Prop} {Q : Exit → Act → World → Prop} (hro : F.round = none) (hd : ∀ c, o.op ≠ .defer c)
    (h : ∀ a w, K a w → K' a w) (hh : o.wpIn F n P a w K Q) : o.wpIn (F.inRound l) n P a w K' Q := by
  have hh := Oper.wpIn_mono h hh
  unfold Oper.wpIn at *
  refine ⟨hh.1, ?_⟩
  have hh := hh.2
  rw [hro, Oper.semAt_none] at hh
  rw [Fence.inRound_round, Oper.semAt_some _ _ _ hd]
  generalize (execOp a.eval o).run P w = r at *
  cases r with
  | ok x w' => cases x <;> simp only [Oper.uponIn] at hh ⊢ <;> exact hh
  | halt x w' => cases x <;> simp only [Oper.uponIn] at hh ⊢ <;> exact hh

theorem any_round {F : Fence} {n : Nat} {P : Program} {l : Nat} {md : Region.Mode} {ol : List Oper} {Q : Exit → Act → World → Prop} (hro : F.round = none) (hnd : noDefer ol = true) : ∀ (fuel : Nat) (listed : Array Bool) (a : Act) (w : World),
    wpAnyIn F n P md ol.toArray Q fuel listed a w → wpAnyIn (F.inRound l) n P md ol.toArray Q fuel listed a w
  | 0, _, _, _, h => h
  | fuel + 1, listed, a, w, h => by
    refine ⟨h.1, fun i hi => ?_⟩
    have h2 := h.2 i hi
    unfold wpOpIn at h2 ⊢
    split
    · rename_i ho; simp only [ho] at h2; exact any_round hro hnd fuel _ _ _ h2
    · rename_i o ho
      simp only [ho] at h2
      split
      · rename_i hw; simp only [hw, if_true] at h2; exact oper_round hro (noDefer_at hnd ho) (fun a w => any_round hro hnd fuel _ a w) h2
      · rename_i hw; simp only [hw] at h2; exact ⟨h2.1, any_round hro hnd fuel _ _ _ h2.2⟩

/-- A region that draws its order and only reads, in a round. -/
theorem region_round {F : Fence} {n : Nat} {P : Program} {id l : Nat} {Q : Exit → Act → World → Prop} {a : Act} {w : World} {ol : List Oper} (hro : F.round = none) (hm : P.follows .mixedOrders = true) (hB : Region.lexB .any ol.toArray = true) (hnd : noDefer ol = true)
    (h : wpQuietIn F n P ol.toArray (fun w' => ∃ n, w' = w.drewN n) (fun a' => ∀ w', (∃ n, w' = w.drewN n) → Q .normal a' w') ol a) : (Code.region id ol.toArray true).wpIn (F.inRound l) n P Q a w := by
  simp only [Region.lexB, Bool.and_eq_true] at hB
  refine wpIn_region_any hm (any_round hro hnd _ _ _ _ (wpAnyIn_of_quiet (C := fun w' => ∃ n, w' = w.drewN n) (Q := fun a' => ∀ w', (∃ n, w' = w.drewN n) → Q .normal a' w') hro (fun _ w' hw' h => h w' hw') _ _ _ _ ⟨1, rfl⟩ ?_))
  have := wpAnyQIn_lex (F := F) (n := n) (C := fun w' => ∃ n, w' = w.drewN n) (md := .any) hB.1 ol.toArray.toList 0 (Array.replicate ol.toArray.size false) a (by simp) (by simpa using hB.2) (by simpa using h)
  simpa using this

theorem keepsN (W : World) (n : Nat) : KeepsOthers W (W.drewN n) := ⟨Nat.le_refl _, fun _ _ h _ => h⟩
theorem belowD (B : Nat) (W : World) : Below B W W.drew := ⟨rfl, rfl, rfl, Nat.le_refl _, fun _ _ => rfl⟩
theorem belowN (B : Nat) (W : World) (n : Nat) : Below B W (W.drewN n) := ⟨rfl, rfl, rfl, Nat.le_refl _, fun _ _ => rfl⟩

theorem prefix_next {ps pre : List (Int × Int)} {x : Int × Int} (h : pre <+: ps) (hl : pre.length < ps.length) (hx : ps[pre.length]?.getD (0, 0) = x) : pre ++ [x] <+: ps := by
  obtain ⟨t, rfl⟩ := h
  cases t with
  | nil => simp at hl
  | cons y t =>
    simp at hx
    subst hx
    exact ⟨t, by simp⟩
theorem prefix_no {ps pre : List (Int × Int)} {x : Int × Int} (hx : pre.length < ps.length → ps[pre.length]?.getD (0, 0) ≠ x) : ¬ (pre ++ [x] <+: ps) := by
  rintro ⟨t, rfl⟩
  exact hx (by simp) (by simp)

set_option maxRecDepth 100000 in
set_option maxHeartbeats 4000000 in
theorem pointsSame_any (r : Nat) (sa : Option Addr) (sn sc : Nat) (f p bu bl ro : Int) (pg pc m : Nat) (ps : List (Int × Int)) (q : Nat) (sv : Value) (f' p' bu' bl' ro' : Int) (qg qc : Nat) (w : World) (hR : RingV w r sa sn sc f p bu bl ro pg pc m ps) (hQ : RefV w q sv f' p' bu' bl' ro' qg qc m ps) (hm : m ≤ 4096) (hm1 : 1 ≤ m) :
    Calls Try.prog 13 #[.pointer (some ⟨r, 0, none⟩), .pointer (some ⟨q, 0, none⟩)] w fun e w' => e = .returned (.bool true) ∧ Below w.heap.size w w' := by
  have HR : Hid (RingV w r sa sn sc f p bu bl ro pg pc m ps) := hR
  have HL : Hid (ps.length = m) := hR.len
  have hq0 : q < w.heap.size := hQ.box.lt
  have hqg : qg < w.heap.size := World.block_lt_of_cell? w ⟨qg, 0 * 3, none⟩ (hQ.cell 0 hm1).1
  have hpg : pg < w.heap.size := World.block_lt_of_cell? w ⟨pg, 0 * 2, none⟩ (hR.cell 0 hm1).1
  have HQb : Hid (∀ W, Below w.heap.size w W → W.cell? ⟨q, 6, none⟩ = some (.slice (some ⟨qg, 0, none⟩) m qc)) := fun W hb => (hb.cell (p := ⟨q, 6, none⟩) hq0).trans ((hQ.box.cell 6).trans rfl)
  have HQc : Hid (∀ W i, Below w.heap.size w W → i < m → W.cell? ⟨qg, i * 3, none⟩ = some (.int .i64 (ps[i]?.getD (0, 0)).1) ∧ W.cell? ⟨qg, i * 3 + 1, none⟩ = some (.int .i64 (ps[i]?.getD (0, 0)).2)) := fun W i hb hi =>
    ⟨(hb.cell (p := ⟨qg, i * 3, none⟩) hqg).trans (hQ.cell i hi).1, (hb.cell (p := ⟨qg, i * 3 + 1, none⟩) hqg).trans (hQ.cell i hi).2.1⟩
  have HRc : Hid (∀ W, Kept No w W → ∀ i, i < m → W.cell? ⟨pg, i * 2, none⟩ = some (.int .i64 (ps[i]?.getD (0, 0)).1) ∧ W.cell? ⟨pg, i * 2 + 1, none⟩ = some (.int .i64 (ps[i]?.getD (0, 0)).2)) := fun W hk i hi => (hR.no hk).cell i hi
  clear hR hQ
  have hfn := fn_nil
  have hmix : Try.prog.follows .mixedOrders = true := by kernel_rfl
  refine (callsIn_wide (n := 3)).1 ?_
  refine callsIn_of_wp_marks Try.func13 rfl trivial ?_ rfl
  simp only [Try.ntmps13, List.size_toArray, List.length_cons, List.length_nil, Nat.reduceAdd, Nat.reduceSub, Array.replicate_succ, Array.replicate_zero, List.push_toArray, List.append_toArray, List.nil_append, List.cons_append]
  gi_wp2_with (refine ⟨trivial, ?_⟩
               gi_at_call 34
               refine (callsIn_wide.2 (points_any r sa sn sc f p bu bl ro pg pc m ps _ (HR.out.no (((Kept.refl No w).alloc _).alloc _)))).mono ?_
               rintro e w2 ⟨rfl, hb2, hk2⟩
               have HB2 : Hid _ := hb2
               have HK2 : Hid _ := hk2
               clear hb2 hk2)
  obtain ⟨w1, hw1⟩ : ∃ w1, w1 = (w.alloc (.cells #[.pointer (some ⟨q, 0, none⟩)] 24)).alloc (.cells #[.bool false] 4) := ⟨_, rfl⟩
  have hs1 : w1.heap.size = w.heap.size + 1 + 1 := by rw [hw1]; simp
  rw [← hw1] at HB2 HK2
  have HB2' : Hid (Box w2 (w.heap.size + 1 + 1) 66 #[.slice (some ⟨pg, 0, none⟩) m pc]) := by rw [← hs1]; exact HB2.out
  have HQ1 : Hid (Box w1 w.heap.size 24 #[.pointer (some ⟨q, 0, none⟩)]) := by rw [hw1]; exact (Box.new _ _ _).alloc _
  have HR1 : Hid (Box w1 (w.heap.size + 1) 4 #[.bool false]) := by
    rw [hw1]
    show Box _ _ _ _
    have := Box.new (w.alloc (.cells #[.pointer (some ⟨q, 0, none⟩)] 24)) 4 #[.bool false]
    simpa [Box] using this
  have HK1 : Hid (Kept No w w1) := by rw [hw1]; exact ((Kept.refl No w).alloc _).alloc _
  obtain ⟨w3, hw3⟩ : ∃ w3, w3 = w2.alloc (.cells #[.int .i64 0] 3) := ⟨_, rfl⟩
  rw [← hw3]
  have HK13 : Hid (Kept No w1 w3) := by rw [hw3]; exact HK2.out.alloc _
  have HQ3 : Hid (Box w3 w.heap.size 24 #[.pointer (some ⟨q, 0, none⟩)]) := HQ1.out.kept HK13.out (fun e => e)
  have HR3 : Hid (Box w3 (w.heap.size + 1) 4 #[.bool false]) := HR1.out.kept HK13.out (fun e => e)
  have HN3 : Hid (Box w3 w2.heap.size 3 #[.int .i64 0]) := by rw [hw3]; exact Box.new _ _ _
  have HS3 : Hid (Box w3 (w.heap.size + 1 + 1) 66 #[.slice (some ⟨pg, 0, none⟩) m pc]) := by rw [hw3]; exact HB2'.out.alloc _
  have HK3 : Hid (Kept No w w3) := HK1.out.then HK13.out
  have h2s : w.heap.size + 1 + 1 ≤ w2.heap.size := by have := HK2.out.size; omega
  have h3s : w2.heap.size < w3.heap.size := HN3.out.lt
  obtain ⟨nb, hnb⟩ : ∃ nb, nb = w2.heap.size := ⟨_, rfl⟩
  rw [← hnb] at HN3 h2s h3s ⊢
  have hB3 : Below w.heap.size w w3 := HK3.out.below (Nat.le_refl _) (fun _ e => e.elim)
  clear hw1 hw3 hnb HB2 HB2' HK2 HQ1 HR1 HK1 HK13 hs1
  refine wpIn_rangeFunc_ownG (F := Fence.wide) rfl (by omega) (gf := 54) (lb := #[.pointer (some ⟨w.heap.size + 1 + 1, 0, none⟩)]) rfl trivial (enters_of Try.func54 (by kernel_rfl) rfl)
    (pts_stops Fence.wide (3 - 1) trivial rfl (by omega) (w.heap.size + 1 + 1) w.heap.size pg pc m ps hm HL.out w3 hpg (by omega) (by omega) ((HS3.out.cell 0).trans rfl) (HRc.out w3 HK3.out)) belowK_t (belowK_b (by omega)) (Below.refl _ _) (fun _ => rfl)
    (fun pre W => (pre <+: ps ∧ W.cell? ⟨nb, 0, none⟩ = some (.int .i64 (pre.length : Int)) ∧ W.frozen? ⟨nb, 0, none⟩ = false ∧ W.cell? ⟨w.heap.size, 0, none⟩ = some (.pointer (some ⟨q, 0, none⟩)) ∧ W.cell? ⟨w.heap.size + 1, 0, none⟩ = some (.bool false) ∧ W.frozen? ⟨w.heap.size + 1, 0, none⟩ = false) ∧ Below w.heap.size w W)
    (fun _ pre _ => ¬ pre <+: ps)
    (OwnFrom.and (Own.from (fun s A B row hs hg hr => ⟨hs.1, cell_kept hs.2.1 hg hr, (frozen_kept hs.2.1 hg hr).trans hs.2.2.1, cell_kept hs.2.2.2.1 hg hr, cell_kept hs.2.2.2.2.1 hg hr, (frozen_kept hs.2.2.2.2.1 hg hr).trans hs.2.2.2.2.2⟩) _) (ownFrom_below (Nat.le_refl _) (by omega)))
    (fun _ _ _ _ _ hs _ _ => hs)
    ⟨⟨List.nil_prefix, (HN3.out.cell 0).trans rfl, HN3.out.frozen 0, (HQ3.out.cell 0).trans rfl, (HR3.out.cell 0).trans rfl, HR3.out.frozen 0⟩, hB3⟩
    (fun x => { tmps := #[.pointer (some ⟨r, 0, none⟩), .pointer (some ⟨q, 0, none⟩), undef, .pointer (some ⟨w.heap.size, 0, none⟩), .pointer (some ⟨w.heap.size + 1, 0, none⟩), .func (.func 54) #[] #[.pointer (some ⟨w.heap.size + 1 + 1, 0, none⟩)], .pointer (some ⟨nb, 0, none⟩), .int .i64 x.1, .int .i64 x.2, .pointer (some ⟨r, 0, none⟩), .func (.func 54) #[] #[.pointer (some ⟨w.heap.size + 1 + 1, 0, none⟩)], .func (.func 54) #[] #[.pointer (some ⟨w.heap.size + 1 + 1, 0, none⟩)], .bool false, .func (.func 54) #[] #[.pointer (some ⟨w.heap.size + 1 + 1, 0, none⟩)], .int .i64 x.1, .int .i64 x.2, undef, undef, undef, undef, undef, undef, undef, undef, undef, undef, undef, undef, undef, undef, undef, undef, undef, undef, undef, undef, undef, undef, undef, undef, undef, undef, undef, undef, undef, undef, undef, undef, undef, undef, undef, undef, undef, undef, undef, undef], defers := [] }) ?assign ?body ?done ?stop
  case assign =>
    intro l x W K hK
    gi_wp2
    exact hK
  case body =>
    rintro l pre x W ⟨⟨hp, hn, hnf, hqc, hrc, hrf⟩, hB⟩ hlen
    have HP : Hid (pre <+: ps) := hp
    have HB : Hid (Below w.heap.size w W) := hB
    have HLp : Hid (pre.length ≤ m) := by have := hp.length_le; rw [HL.out] at this; exact this
    have q6 := HQb.out W hB
    obtain ⟨x1, x2⟩ := x
    obtain ⟨k, hk⟩ : ∃ k, k = pre.length := ⟨_, rfl⟩
    have HKp : Hid (pre.length = k) := hk.symm
    rw [← hk] at hn HLp
    clear hp hB hk hlen
    simp only
    by_cases hlt : k < m
    · obtain ⟨c0, c1⟩ := HQc.out W k HB.out hlt
      have HX : Hid (∀ x : Int × Int, ps[k]?.getD (0, 0) = x → pre ++ [x] <+: ps) := fun x e => prefix_next HP.out (by rw [HL.out, HKp.out]; exact hlt) (by rw [HKp.out]; exact e)
      have HNo : Hid (∀ x : Int × Int, ps[k]?.getD (0, 0) ≠ x → ¬ pre ++ [x] <+: ps) := fun x e => prefix_no (fun _ => by rw [HKp.out]; exact e)
      generalize ps[k]?.getD (0, 0) = y at c0 c1 HX HNo
      obtain ⟨y1, y2⟩ := y
      simp only at c0 c1
      have g1 : (k : Int) < (m : Int) := by omega
      have g2 : ¬ (m : Int) ≤ (k : Int) := by omega
      have g3 : (0 : Int) ≤ (k : Int) := by omega
      have hlt2 : ¬ m ≤ k := by omega
      have hd : decide (m ≤ k) = false := decide_eq_false hlt2
      by_cases e1 : y1 = x1
      · by_cases e2 : y2 = x2
        · subst e1 e2
          have HT : Hid (pre ++ [(y1, y2)] <+: ps) := HX.out _ rfl
          clear HX HNo
          gi_wp2
          refine region_round (F := Fence.wide) rfl hmix (by kernel_rfl) (by kernel_rfl) ?_
          repeat (quiet_step_in (fail))
          refine wpQuietIn_nil ?_
          intro _ hw'
          obtain ⟨nq, hw''⟩ := hw'
          subst hw''
          gi_wp2
          refine ⟨((keepsN W nq).trans (KeepsOthers.setCell _ _ _)).from _, (belowN w.heap.size W nq).setCell (p := ⟨nb, 0, none⟩) (show w.heap.size ≤ nb by omega) _, ⟨HT.out, ?_, ?_, ?_, ?_, ?_⟩, (HB.out.trans (belowN w.heap.size W nq)).setCell (p := ⟨nb, 0, none⟩) (show w.heap.size ≤ nb by omega) _⟩
          · rw [List.length_append, HKp.out]; exact World.cell?_setCell_same' _ _ _ (by show (W.cell? _).isSome = true; rw [hn]; rfl)
          · rw [World.frozen?_setCell]; exact hnf
          · exact ((Kept.refl (Only nb) (W.drewN nq)).setCell (p := ⟨nb, 0, none⟩) (fun _ => rfl) _).cell hqc (fun e => by have : w.heap.size = nb := e; omega)
          · exact ((Kept.refl (Only nb) (W.drewN nq)).setCell (p := ⟨nb, 0, none⟩) (fun _ => rfl) _).cell hrc (fun e => by have : w.heap.size + 1 = nb := e; omega)
          · rw [World.frozen?_setCell]; exact hrf
        · have HT : Hid (¬ pre ++ [(x1, x2)] <+: ps) := HNo.out _ (fun e => e2 (congrArg Prod.snd e))
          subst e1
          have he : (y2 == x2) = false := by simpa using e2
          clear HX HNo
          gi_wp2
          refine region_round (F := Fence.wide) rfl hmix (by kernel_rfl) (by kernel_rfl) ?_
          repeat (quiet_step_in (fail))
          refine wpQuietIn_nil ?_
          intro _ hw'
          obtain ⟨nq, hw''⟩ := hw'
          subst hw''
          gi_wp2
          exact ⟨((keepsN W nq).trans (KeepsOthers.setCell _ _ _)).from _, HT.out⟩
      · have HT : Hid (¬ pre ++ [(x1, x2)] <+: ps) := HNo.out _ (fun e => e1 (congrArg Prod.fst e))
        have he : (y1 == x1) = false := by simpa using e1
        clear HX HNo
        gi_wp2
        refine region_round (F := Fence.wide) rfl hmix (by kernel_rfl) (by kernel_rfl) ?_
        repeat (quiet_step_in (fail))
        refine wpQuietIn_nil ?_
        intro _ hw'
        obtain ⟨nq, hw''⟩ := hw'
        subst hw''
        gi_wp2
        exact ⟨((keepsN W nq).trans (KeepsOthers.setCell _ _ _)).from _, HT.out⟩
    · have HT : Hid (¬ pre ++ [(x1, x2)] <+: ps) := prefix_no (fun e => absurd e (by rw [HL.out, HKp.out]; exact hlt))
      have hlt2 : m ≤ k := by omega
      have hd : decide (m ≤ k) = true := decide_eq_true hlt2
      gi_wp2
      refine region_round (F := Fence.wide) rfl hmix (by kernel_rfl) (by kernel_rfl) ?_
      repeat (quiet_step_in (fail))
      refine wpQuietIn_nil ?_
      intro _ hw'
      obtain ⟨nq, hw''⟩ := hw'
      subst hw''
      gi_wp2
      exact ⟨((keepsN W nq).trans (KeepsOthers.setCell _ _ _)).from _, HT.out⟩
  case done =>
    rintro D ys W hD rfl ⟨⟨hp, hn, hnf, hqc, hrc, hrf⟩, hB⟩ hK
    rw [HL.out] at hn
    have q6 := HQb.out W hB
    gi_wp2
    first | gi_big_region_o | gi_region
    all_goals gi_wp2
    have hK' := ((KeepsOthers.setCell W ⟨w.heap.size + 1, 0, none⟩ (.bool true)).trans (KeepsOthers.drew _)).same D _ hK rfl
    have hcc : (W.setCell ⟨w.heap.size + 1, 0, none⟩ (.bool true)).drew.cell? ⟨w.heap.size + 1, 0, none⟩ = some (.bool true) := World.cell?_setCell_same' W ⟨w.heap.size + 1, 0, none⟩ (.bool true) (by rw [hrc]; rfl)
    refine ⟨by simp, .inl ⟨_, _, rfl, run_takeDeferred hK', ?_⟩⟩
    have hc5 := cell_kept hcc (grownBy_putObj' _ D (.deferred none)) (fun r e => by cases e; exact ⟨_, hK', rfl⟩)
    have hBd : Below w.heap.size w (W.setCell ⟨w.heap.size + 1, 0, none⟩ (.bool true)).drew := (hB.setCell (p := ⟨w.heap.size + 1, 0, none⟩) (show w.heap.size ≤ w.heap.size + 1 by omega) _).trans (belowD _ _)
    refine ⟨.bool true, ?_, rfl, hBd.trans (belowK_b (w := w) (Nat.le_refl _) _ D _ _ (by omega) hK' rfl rfl)⟩
    simp [results, Try.results13, go_sem, hc5]
  case stop =>
    rintro D c pre W hD hpre h _
    exact absurd hpre h

end Go.Proofs.Ytpapbleabjpbfaa
