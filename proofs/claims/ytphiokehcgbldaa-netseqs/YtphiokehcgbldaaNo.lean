import Derived.Test.YtphiokehcgbldaaNn
import Derived.Deep.CutRange
import Derived.StillTailTactics
import Derived.RangeFuncNested
import Derived.RangeFuncBound
import Derived.RangeFuncCalls
import Derived.RangeFuncLeaves
import Derived.RangeFuncBox
import Derived.Shelf.Abstract
import Derived.Sort.QuietTacIn
import Derived.Shelf.RegionOpen
import Derived.OwnWalkIn
import Derived.TacticsInMore
import Derived.LoopNIn
import Derived.LoopIn
namespace Go.Proofs.Ytphiokehcgbldaa
open Go.RowKit Go.Shelf
set_option linter.unusedVariables false
set_option linter.unusedSimpArgs false

attribute [local go_sem] Oper.semAt_some

/-- A packet that is told: its bytes lie where no other's lie. -/
structure Tp where
  q : Pq
  a : Option Addr
  c : Nat
def tdV (x : Tp) : Value := .agg #[.bool x.q.nm.1.1, .int .i64 x.q.nm.1.2, .int .i64 x.q.nm.2, .bool x.q.to'.1, .int .i64 x.q.to'.2, .slice x.a x.q.zs.length x.c]
/-- The blocks that a sequence reads. -/
def SqB (lb : Nat) (a : Option Addr) (ps : List Pq) : Nat → Prop := fun k => k = lb ∨ At a k ∨ ∃ q ∈ ps, At q.da k
/-- A sequence in memory. -/
structure SeqN (W : World) (lb : Nat) (a : Option Addr) (cap : Nat) (L : List Pq) (P : Nm → Nat × Nat × Nat) (ps : List Pq) : Prop where
  box : Box W lb 85 #[.slice a ps.length cap]
  row : Own 89 8 W 0 a cap ps.length (ps.flatMap (stC L P))
  dat : ∀ q ∈ ps, OwnB W 0 q.da q.dc q.zs
section
variable {W W' : World} {lb cap : Nat} {a : Option Addr} {L ps : List Pq} {P : Nm → Nat × Nat × Nat} {S : Nat → Prop}
theorem SeqN.kept (h : SeqN W lb a cap L P ps) (hk : Kept S W W') (hS : ∀ k, SqB lb a ps k → ¬ S k) : SeqN W' lb a cap L P ps :=
  ⟨h.box.kept hk (hS _ (.inl rfl)), h.row.kept hk (fun k e => hS k (.inr (.inl e))), fun q hq => (h.dat q hq).kept hk (fun k e => hS k (.inr (.inr ⟨q, hq, e⟩)))⟩
theorem SeqN.no (h : SeqN W lb a cap L P ps) (hk : Kept No W W') : SeqN W' lb a cap L P ps := h.kept hk (fun _ _ e => e)
theorem SeqN.lt (h : SeqN W lb a cap L P ps) {k : Nat} (hk : SqB lb a ps k) : k < W.heap.size := by
  rcases hk with rfl | hk | ⟨q, hq, hk⟩
  · exact h.box.lt
  · exact Own.ltA h.row hk
  · exact Own.ltA (h.dat q hq) hk
theorem SeqN.at (h : SeqN W lb a cap L P ps) {i : Nat} {q : Pq} (hi : ps[i]? = some q) : ∃ pg, a = some ⟨pg, 0, none⟩ ∧ ∀ j u, (stC L P q)[j]? = some u → W.cell? ⟨pg, i * 8 + j, none⟩ = some u := by
  have hlt := (List.getElem?_eq_some_iff.1 hi).1
  rcases h.row.2 with ⟨hv, h0⟩ | ⟨g, cap', cur, hv, hb, hg, h1, h2, h3, h4⟩
  · omega
  · simp only [Value.slice.injEq] at hv
    obtain ⟨rfl, _, rfl⟩ := hv
    refine ⟨g, rfl, fun j u hu => ?_⟩
    have hj : j < 8 := by have := (List.getElem?_eq_some_iff.1 hu).1; rw [stC_len] at this; exact this
    have e : (ps.flatMap (stC L P))[i * 8 + j]? = some u := by
      rw [fm_get (stC L P) 8 (stC_len L P) (by omega), show (i * 8 + j) / 8 = i by omega, show (i * 8 + j) % 8 = j by omega, hi]
      exact hu
    rw [← h4, List.getElem?_take] at e
    split at e
    · simp [World.cell?, hg, e, ← Array.getElem?_toList]
    · cases e
end
set_option maxRecDepth 100000 in
set_option maxHeartbeats 4000000 in
theorem it_net (n : Nat) (hn : 1 ≤ n) (l lb cap : Nat) (a : Option Addr) (L ps : List Pq) (P : Nm → Nat × Nat × Nat) (hm : ps.length ≤ 10000000000000) (hz : ∀ q ∈ ps, q.zs.length ≤ 140737488355328) (J Jx : List Tp → World → Prop) (W : World)
    (hY : ∀ pre (x : Tp) W0 W1, J pre W0 → Kept No W0 W1 → OwnB W1 W0.heap.size x.a x.c x.q.zs → ps[pre.length]? = some x.q → YieldAt Fence.wide (n - 1) Try.prog l #[tdV x] W1 fun e W' =>
      (e = .returned (.bool true) ∧ J (pre ++ [x]) W' ∧ Kept (fun k => ¬ SqB lb a ps k) W1 W') ∨ (e = .returned (.bool false) ∧ Jx (pre ++ [x]) W'))
    (hS : SeqN W lb a cap L P ps) (h0 : J [] W) :
    CallsIn Fence.wide n Try.prog 39 #[.func (.yield l) #[] #[], .pointer (some ⟨lb, 0, none⟩)] W fun e W' => (∃ v, e = .returned v) ∧
      ((∃ xs : List Tp, xs.map (·.q) = ps ∧ J xs W') ∨ (∃ pre, Jx pre W')) := by
  have HS : Hid (SeqN W lb a cap L P ps) := hS
  have HZ : Hid (∀ q ∈ ps, q.zs.length ≤ 140737488355328) := hz
  have HY : Hid (∀ pre (x : Tp) W0 W1, J pre W0 → Kept No W0 W1 → OwnB W1 W0.heap.size x.a x.c x.q.zs → ps[pre.length]? = some x.q → YieldAt Fence.wide (n - 1) Try.prog l #[tdV x] W1 fun e W' =>
      (e = .returned (.bool true) ∧ J (pre ++ [x]) W' ∧ Kept (fun k => ¬ SqB lb a ps k) W1 W') ∨ (e = .returned (.bool false) ∧ Jx (pre ++ [x]) W')) := hY
  have hBs := hS.box.cell 0
  simp only [List.getElem?_toArray, List.getElem?_cons_zero] at hBs
  obtain ⟨m, hme⟩ : ∃ m, m = ps.length := ⟨_, rfl⟩
  have HM : Hid (ps.length = m) := hme.symm
  rw [← hme] at hBs hm
  clear hz hY hS hme
  refine callsIn_of_wp Try.func39 rfl trivial ?_ rfl
  simp only [Try.ntmps39, List.size_toArray, List.length_cons, List.length_nil, Nat.reduceAdd, Nat.reduceSub, Array.replicate_succ, Array.replicate_zero, List.push_toArray, List.append_toArray, List.nil_append, List.cons_append]
  gi_wp2
  gi_loopw [7] (fun i wr => ∃ k : Nat, k ≤ m ∧ i = .int .i64 k ∧ Hid (∃ xs : List Tp, xs.map (·.q) = ps.take k ∧ J xs wr) ∧ Hid (Kept (fun k => ¬ SqB lb a ps k) W wr)) (fun i _ => m - (intOf i).toNat)
  case atStart => exact ⟨0, Nat.zero_le _, rfl, ⟨[], rfl, h0⟩, Kept.refl _ _⟩
  case round =>
    obtain ⟨k, hk, rfl, HJs, HB⟩ := hrel
    clear hBs
    by_cases hlt : k < m
    · obtain ⟨q, hq⟩ : ∃ q, ps[k]? = some q := ⟨_, List.getElem?_eq_getElem (by rw [HM.out]; exact hlt)⟩
      have HSr : Hid (SeqN wr lb a cap L P ps) := HS.out.kept HB.out (fun k e f => f e)
      obtain ⟨pg, rfl, hc⟩ := HSr.out.at hq
      have HQ : Hid (ps[k]? = some q ∧ q ∈ ps) := ⟨hq, List.mem_of_getElem? hq⟩
      clear hq
      have hlt' : (k : Int) < (m : Int) := by omega
      have c0 := hc 0 _ rfl
      have c1 := hc 1 _ rfl
      have c2 := hc 2 _ rfl
      have c3 := hc 3 _ rfl
      have c4 := hc 4 _ rfl
      have c5 := hc 5 _ rfl
      have c6 := hc 6 _ rfl
      have c7 := hc 7 _ rfl
      simp only [Nat.add_zero, plV] at c0 c1 c2 c3 c4 c5 c6 c7
      clear hc
      gi_wp2_with (refine ⟨trivial, ?_⟩; gi_at_call 37; refine (callsIn_wide.2 (told_any q.nm q.to' q.da q.zs.length q.dc _ q.zs _ rfl (HZ.out q HQ.out.2) (OwnB.bytes (Own.no (HSr.out.dat q HQ.out.2) ((Kept.refl No _).alloc _))) rfl)).mono ?_; rintro e W1 ⟨xa, xc, rfl, hO, hk1⟩; obtain ⟨xs, hxs, hJ⟩ := HJs.out; obtain ⟨fn, tmps, assign, body, hy, hR⟩ := HY.out xs ⟨q, xa, xc⟩ wr W1 hJ (((Kept.refl No wr).alloc _).then hk1) (Own.lower hO (by simp)) (by have h := congrArg List.length hxs; rw [List.length_map, List.length_take, HM.out, Nat.min_eq_left (by omega)] at h; rw [h]; exact HQ.out.1); simp only [tdV] at hy; have HXs : Hid (xs.map (·.q) = ps.take k ∧ Kept No wr W1) := ⟨hxs, ((Kept.refl No wr).alloc _).then hk1⟩; clear hxs hJ hO hk1 c0 c1 c2 c3 c4 c5 c6 c7)
      refine hR.mono ?_
      have HTk : Hid (ps.take k ++ [q] = ps.take (k + 1)) := by
        show _ = _
        rw [List.take_add_one, HQ.out.1]; rfl
      rintro e W3 (⟨rfl, hJ3, hk3⟩ | ⟨rfl, hJx3⟩)
      · have HJ3 : Hid (∃ xs : List Tp, xs.map (·.q) = ps.take (k + 1) ∧ J xs W3) := ⟨xs ++ [⟨q, xa, xc⟩], by rw [List.map_append, HXs.out.1, ← HTk.out]; rfl, hJ3⟩
        have HB3 : Hid (Kept (fun k => ¬ SqB lb (some ⟨pg, 0, none⟩) ps k) W W3) := (HB.out.then HXs.out.2.of_no).then hk3
        clear hJ3 hk3 hy hR HJs HB HXs HTk
        gi_wp2
        go_roundw
        case rel => exact ⟨k + 1, by omega, by go_num, HJ3, HB3⟩
        case measure => simp [intOf]; omega
      · have HJ3 : Hid (Jx (xs ++ [⟨q, xa, xc⟩]) W3) := hJx3
        clear hJx3 hy hR HJs HB HXs HTk
        gi_wp2
        refine bodyPost_ret (results_none rfl _ _ _) rfl ?_
        exact ⟨⟨_, rfl⟩, .inr ⟨_, HJ3.out⟩⟩
    · obtain rfl : k = m := by omega
      have hlt' : ¬ (k : Int) < (k : Int) := by omega
      gi_wp2
      go_end0
      obtain ⟨xs, hxs, hJ⟩ := HJs.out
      rw [List.take_of_length_le (by rw [HM.out]; omega)] at hxs
      exact ⟨⟨_, rfl⟩, .inl ⟨xs, hxs, hJ⟩⟩
end Go.Proofs.Ytphiokehcgbldaa
