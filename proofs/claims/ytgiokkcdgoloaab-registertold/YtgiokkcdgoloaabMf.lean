import Derived.Test.YtgiokkcdgoloaabMe
namespace Go.Proofs.Ytgiokkcdgoloaab
open Go.RowKit
set_option linter.unusedVariables false
set_option linter.unusedSimpArgs false

theorem cell_newL (w : World) (cs : List Value) (t : TypeId) (j : Nat) (u : Value) (h : cs[j]? = some u) : (w.alloc (.cells cs.toArray t)).cell? ((⟨w.heap.size, 0, none⟩ : Addr).add j) = some u := by
  rw [addr_add, Nat.zero_add, (Box.new w t cs.toArray).cell]
  simpa using h

set_option maxRecDepth 100000 in
set_option maxHeartbeats 4000000 in
theorem ask_any (m : Nat) (a : Option Addr) (cap : Nat) (x : MS) (t : TypeId) (v : Value) (kind bn bc : Int) (ba : Option Addr) (bl bk : Nat) (zs : List Int) (sa : Option Addr) (sn scap : Nat) (ss : List Int) (w : World) (hM : Mach w m a cap x t v)
    (hz : zs.length = bl) (hbl : bl ≤ 140737488355328) (hb : Bytes w ba zs) (hs : ss.length = sn) (hsn : sn ≤ 400000000000) (hsb : Nums .i64 w sa ss) :
    Calls Try.prog 88 #[.pointer (some ⟨m, 0, none⟩), .int .i64 kind, .agg #[.int .i64 bn, .int .i64 bc, .slice ba bl bk], .slice sa sn scap] w (AskOut w x ⟨kind, bn, bc, bl⟩ zs ss) := by
  have HMc : Hid (∀ wr, Kept No w wr → wr.cell? ⟨m, 0, none⟩ = some (.bool true) ∧ wr.cell? ⟨m, 1, none⟩ = some (.int .i64 x.cl) ∧ wr.cell? ⟨m, 2, none⟩ = some (.int .i64 x.op) ∧ wr.cell? ⟨m, 3, none⟩ = some (.int .i64 x.k0) ∧ wr.cell? ⟨m, 4, none⟩ = some (.int .i64 x.k1) ∧ wr.cell? ⟨m, 5, none⟩ = some (.int .i64 x.k2) ∧ wr.cell? ⟨m, 6, none⟩ = some (.int .i64 x.k3) ∧ wr.cell? ⟨m, 8, none⟩ = some (.int .i64 x.rd)) := fun wr hk => by
    have hB := hM.box.kept hk (fun e => e)
    exact ⟨hB.cell 0, hB.cell 1, hB.cell 2, hB.cell 3, hB.cell 4, hB.cell 5, hB.cell 6, hB.cell 8⟩
  have HB : Hid (Bytes w ba zs) := hb
  have HZ : Hid (zs.length = bl) := hz
  have HS : Hid (ss.length = sn) := hs
  have HSB : Hid (Nums .i64 w sa ss) := hsb
  clear hM hb hz hs hsb
  obtain ⟨w1, hw1⟩ : ∃ w1, w1 = w.alloc (.cells #[.int .i64 bn, .int .i64 bc, .slice ba bl bk] 31) := ⟨_, rfl⟩
  have HK1 : Hid (Kept No w w1) := by rw [hw1]; exact (Kept.refl No w).alloc _
  obtain ⟨N, hN⟩ : ∃ N, N = w.heap.size := ⟨_, rfl⟩
  have HX1 : Hid (∀ wr, Kept No w1 wr → wr.cell? ⟨N, 0, none⟩ = some (.int .i64 bn) ∧ wr.cell? ⟨N, 1, none⟩ = some (.int .i64 bc) ∧ wr.cell? ⟨N, 2, none⟩ = some (.slice ba bl bk)) := fun wr hk => by
    have hX : Box w1 w.heap.size 31 #[.int .i64 bn, .int .i64 bc, .slice ba bl bk] := by rw [hw1]; exact Box.new _ _ _
    have hX := hX.kept hk (fun e => e)
    rw [hN]
    exact ⟨hX.cell 0, hX.cell 1, hX.cell 2⟩
  have HN : Hid (N = w.heap.size) := hN
  go_enter Try.func88, Try.ntmps88
  go_wp2
  rw [← hw1, ← hN]
  clear hw1 hN
  go_loopw [9, 14] (fun vl vi wr => ∃ (k : Nat) (a' : Option Addr) (cap' : Nat), vi = .int .i64 k ∧ k ≤ sn ∧ vl = .slice a' k cap' ∧ Hid (∃ qs, qs.length = k ∧ qs.map Qm.sv = ss.take k ∧ Msgs wr w1.heap.size a' cap' x ⟨kind, bn, bc, bl⟩ zs qs) ∧ Hid (Kept No w1 wr)) (fun _ i _ => sn - (intOf i).toNat)
  case atStart => exact ⟨0, none, 0, by go_num, by omega, rfl, ⟨[], rfl, by simp, ⟨by simpa [msgsC] using Own.nil _ _ _ _, by simp, by simp, HZ.out⟩⟩, Kept.refl _ _⟩
  case round =>
    obtain ⟨k, a', cap', rfl, hk, rfl, HI, HK⟩ := hrel
    by_cases hlt : k < sn
    · have hlt' : (k : Int) < (sn : Int) := by omega
      obtain ⟨bb, off, rfl, hcell⟩ := (HSB.out.no (HK1.out.then HK.out)) k (by rw [HS.out]; exact hlt)
      have HTk : Hid (ss.take (k + 1) = ss.take k ++ [ss[k]?.getD 0]) := take_snoc (by rw [HS.out]; exact hlt)
      generalize ss[k]?.getD 0 = z at hcell HTk
      obtain ⟨m0, m1, m2, m3, m4, m5, m6, m8⟩ := HMc.out wr (HK1.out.then HK.out)
      obtain ⟨x0, x1, x2⟩ := HX1.out wr HK.out
      go_upto_region 5 with fail
      have HKr : Hid (Kept No w1 wr.drew) := HK.out.drew
      go_region_held3 (fun w' => w'.cell? ⟨m, 0, none⟩ = some (.bool true) ∧ w'.cell? ⟨m, 1, none⟩ = some (.int .i64 x.cl) ∧ w'.cell? ⟨m, 2, none⟩ = some (.int .i64 x.op) ∧ w'.cell? ⟨m, 3, none⟩ = some (.int .i64 x.k0) ∧ w'.cell? ⟨m, 4, none⟩ = some (.int .i64 x.k1) ∧ w'.cell? ⟨m, 5, none⟩ = some (.int .i64 x.k2) ∧ w'.cell? ⟨m, 6, none⟩ = some (.int .i64 x.k3) ∧ w'.cell? ⟨m, 8, none⟩ = some (.int .i64 x.rd) ∧ w'.cell? ⟨N, 0, none⟩ = some (.int .i64 bn) ∧ w'.cell? ⟨N, 1, none⟩ = some (.int .i64 bc) ∧ w'.cell? ⟨N, 2, none⟩ = some (.slice ba bl bk)) (go_keep) (first
        | (go_at_call 21
           refine Calls.mono (clone_any ba bl bk zs wr.drew HZ.out hbl (HB.out.no (HK1.out.then HKr.out))) ?_
           rintro e w2 ⟨da, dc, rfl, hO2, hk2, _, _⟩
           have HO2 : Hid (OwnB w2 wr.heap.size da dc zs) := hO2
           have HK2 : Hid (Kept No wr w2) := (Kept.refl No wr).drew.then hk2
           rw [HZ.out]
           have HKw2 : Hid (Kept No w1 w2) := HK.out.then HK2.out
           obtain ⟨n0, n1, n2, n3, n4, n5, n6, n8⟩ := HMc.out w2 (HK1.out.then HKw2.out)
           obtain ⟨y0, y1, y2⟩ := HX1.out w2 HKw2.out
           clear hO2 hk2)
        | (obtain ⟨qs, hq1, hq2, hq3⟩ := HI.out
           refine step_appV rfl _ _ 58 73 30 312 _ Try.und58 Try.info73 rfl (by omega) rfl w1.heap.size k cap' a' (msgsC x ⟨kind, bn, bc, bl⟩ qs) (by simp [Act.eval]) (by rw [← hq1]; exact hq3.row.no (HK2.out.alloc _)) ⟨w2.heap.size, 0, none⟩ 1 1 (msgC x ⟨kind, bn, bc, bl⟩ ⟨z, da, dc⟩) (by simp [Act.eval]) rfl (cell_newL _ _ _) (msgC_one _ _ _) (by omega) (by omega) (by omega) (by have := HKw2.out.size; simp; omega) (k + 1) rfl ?_
           intro g' cap'' w4 HO4 HK4
           have HQ4 : Hid (∃ qs, qs.length = k + 1 ∧ qs.map Qm.sv = ss.take (k + 1) ∧ Msgs w4 w1.heap.size (some ⟨g', 0, none⟩) cap'' x ⟨kind, bn, bc, bl⟩ zs qs) := by
             have hap : ∀ q : Qm, OwnB wr w1.heap.size q.ba q.bc zs → ∀ j, At q.ba j → ¬ At a' j := fun q hq j hj => own_apart hq (by simp) hq3.row (msgsC_len _ _ _) (by decide) hj
             refine ⟨qs ++ [⟨z, da, dc⟩], by simp [hq1], by rw [HTk.out, List.map_append, hq2]; rfl, ⟨?_, ?_, ?_, hq3.len⟩⟩
             · rw [msgsC_snoc]
               simpa [hq1] using HO4.out
             · intro q hq
               rw [List.mem_append] at hq
               rcases hq with hq | hq
               · exact ((hq3.own q hq).no (HK2.out.alloc _)).kept HK4.out (hap q (hq3.own q hq))
               · rw [List.mem_singleton] at hq
                 subst hq
                 have := (Own.lower HO2.out HK.out.size).no ((Kept.refl No w2).alloc (.cells (msgC x ⟨kind, bn, bc, bl⟩ ⟨z, da, dc⟩).toArray 73))
                 exact Own.kept this HK4.out (fun j hj => own_apart this (by simp) (hq3.row.no (HK2.out.alloc _)) (msgsC_len _ _ _) (by decide) hj)
             · rw [List.pairwise_append]
               refine ⟨hq3.ord, by simp, fun p hp q hq => ?_⟩
               rw [List.mem_singleton] at hq
               subst hq
               intro i hi j hj
               exact Nat.lt_of_lt_of_le (OwnB.lt (hq3.own p hp) hi) (HO2.out.base hj)
           have HKw4 : Hid (Kept No w1 w4) := (HKw2.out.alloc _).trans HK4.out (fun _ e => e) (fun i hi e => by have := hq3.row.base e; omega)
           obtain ⟨p0, p1, p2, p3, p4, p5, p6, p8⟩ := HMc.out w4 (HK1.out.then HKw4.out)
           obtain ⟨z0, z1, z2⟩ := HX1.out w4 HKw4.out
           clear HO4 HK4 hq1 hq2 hq3))
      go_wp2
      go_roundw
      case rel => exact ⟨k + 1, some ⟨g', 0, none⟩, cap'', by go_num, by omega, rfl, HQ4, HKw4⟩
      case measure => simp [intOf]; omega
    · have hlt' : ¬ (k : Int) < (sn : Int) := by omega
      obtain rfl : k = sn := by omega
      go_wp2
      go_ret
      obtain ⟨qs, hq1, hq2, hq3⟩ := HI.out
      exact ⟨a', cap', qs, congrArg (fun n => Ending.returned (.slice a' n cap')) hq1.symm, by rw [hq2, List.take_of_length_le (by rw [HS.out]; omega)], hq3.lower HK1.out.size, HK1.out.then HK.out⟩

end Go.Proofs.Ytgiokkcdgoloaab
