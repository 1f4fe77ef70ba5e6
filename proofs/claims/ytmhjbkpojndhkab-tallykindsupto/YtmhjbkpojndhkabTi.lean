import Derived.Test.YtmhjbkpojndhkabTh
namespace Go.Proofs.Ytmhjbkpojndhkab
open Go.RowKit
set_option linter.unusedVariables false
set_option linter.unusedSimpArgs false

def kx0 : TS := tNew [3, 1, 2] 2
def kx1 : TS := takeS kx0 1 5
def kx2 : TS := takeS kx1 1 6
def kx3 : TS := takeS kx2 9 7
def kx4 : TS := takeS kx3 3 8
def kx5 : TS := takeS kx4 2 9
theorem kE0 : enB kx0 = false := by decide +kernel
theorem kT0 : takeB kx0 1 = false := by decide +kernel
theorem kT1 : takeB kx1 1 = false := by decide +kernel
theorem kT2 : takeB kx2 9 = false := by decide +kernel
theorem kT3 : takeB kx3 3 = true := by decide +kernel
theorem kT4 : takeB kx4 2 = false := by decide +kernel
theorem kE5 : enB kx5 = true := by decide +kernel
theorem kG5 : gotL kx5 = [(3, 8), (1, 5)] := by decide +kernel
theorem kM5 : missL kx5 = [2] := by decide +kernel
theorem kC5 : cnt kx5 = 2 := by decide +kernel

theorem nums_new (w : World) (zs : List Int) : Nums .i64 (w.alloc (.cells (zs.map (Value.int .i64)).toArray 3)) (some ⟨w.heap.size, 0, none⟩) zs := by
  have := (Box.new w 3 (zs.map (Value.int .i64)).toArray).nums zs.length
  rwa [List.take_length] at this

attribute [local irreducible] kx0 kx1 kx2 kx3 kx4 kx5 in
set_option maxRecDepth 100000 in
set_option maxHeartbeats 4000000 in
theorem known_any (w : World) : Calls Try.prog 6 #[] w fun e w' => e = .returned (.bool true) ∧ Kept No w w' := by
  have HNw : Hid (Calls Try.prog 17 #[.slice (some ⟨w.heap.size, 0, none⟩) 3 3, .int .i64 2] (w.alloc (.cells #[.int .i64 3, .int .i64 1, .int .i64 2] 3)) (NewOut (w.alloc (.cells #[.int .i64 3, .int .i64 1, .int .i64 2] 3)) [3, 1, 2] 2)) := new_any _ 3 3 [3, 1, 2] 2 _ rfl (by omega) (nums_new w [3, 1, 2])
  have T0 : True := trivial
  have T1 : True := trivial
  have T2 : True := trivial
  have T3 : True := trivial
  have T4 : True := trivial
  have T5 : True := trivial
  have T6 : True := trivial
  have T7 : True := trivial
  have T8 : True := trivial
  have T9 : True := trivial
  have T10 : True := trivial
  have T11 : True := trivial
  go_enter Try.func6, Try.ntmps6
  go_wp2_with (first
    | (go_at_call 17
       have htok := T0
       refine Calls.mono HNw.out ?_
       rintro e w1 ⟨a, cap, rfl, hT1, hF1, hK1⟩
       have hs : (w.alloc (.cells #[.int .i64 3, .int .i64 1, .int .i64 2] 3)).heap.size = w.heap.size + 1 := by simp
       rw [hs] at hT1 hF1 ⊢
       have HT1 : Hid (Tal w1 (w.heap.size + 1 + 1) (w.heap.size + 1) a cap kx0) := by unfold kx0; exact hT1
       have HK1 : Hid (Kept No w w1) := ((Kept.refl No w).alloc _).then hK1
       clear hT1 hF1 hK1 hs htok T0 HNw)
    | (go_at_call 23
       have htok := T1
       refine Calls.mono (enough_any _ _ cap a kx0 _ HT1.out) ?_
       rintro e w2 ⟨rfl, hq⟩
       have HK2 : Hid (Kept No w w2) := by obtain ⟨q, rfl⟩ := hq; exact HK1.out.drewN q
       have HT2 : Hid (Tal w2 (w.heap.size + 1 + 1) (w.heap.size + 1) a cap kx0) := by obtain ⟨q, rfl⟩ := hq; exact HT1.out.no (Kept.no_drewN _ _)
       rw [kE0]
       clear htok T1 hq)
    | (go_at_call 18
       have htok := T2
       refine Calls.mono (take_any _ _ cap a kx0 1 5 _ HT2.out) ?_
       rintro e w3 ⟨rfl, hT, hK⟩
       have HT3 : Hid (Tal w3 (w.heap.size + 1 + 1) (w.heap.size + 1) a cap kx1) := by unfold kx1; exact hT
       have HK3 : Hid (Kept No w w3) := HK2.out.trans hK (fun _ e => e) (fun k hk e => by rcases e with e | e <;> omega)
       rw [kT0]
       clear hT hK htok T2)
    | (go_at_call 18
       have htok := T3
       refine Calls.mono (take_any _ _ cap a kx1 1 6 _ HT3.out) ?_
       rintro e w4 ⟨rfl, hT, hK⟩
       have HT4 : Hid (Tal w4 (w.heap.size + 1 + 1) (w.heap.size + 1) a cap kx2) := by unfold kx2; exact hT
       have HK4 : Hid (Kept No w w4) := HK3.out.trans hK (fun _ e => e) (fun k hk e => by rcases e with e | e <;> omega)
       rw [kT1]
       clear hT hK htok T3)
    | (go_at_call 18
       have htok := T4
       refine Calls.mono (take_any _ _ cap a kx2 9 7 _ HT4.out) ?_
       rintro e w5 ⟨rfl, hT, hK⟩
       have HT5 : Hid (Tal w5 (w.heap.size + 1 + 1) (w.heap.size + 1) a cap kx3) := by unfold kx3; exact hT
       have HK5 : Hid (Kept No w w5) := HK4.out.trans hK (fun _ e => e) (fun k hk e => by rcases e with e | e <;> omega)
       rw [kT2]
       clear hT hK htok T4)
    | (go_at_call 18
       have htok := T5
       refine Calls.mono (take_any _ _ cap a kx3 3 8 _ HT5.out) ?_
       rintro e w6 ⟨rfl, hT, hK⟩
       have HT6 : Hid (Tal w6 (w.heap.size + 1 + 1) (w.heap.size + 1) a cap kx4) := by unfold kx4; exact hT
       have HK6 : Hid (Kept No w w6) := HK5.out.trans hK (fun _ e => e) (fun k hk e => by rcases e with e | e <;> omega)
       rw [kT3]
       clear hT hK htok T5)
    | (go_at_call 18
       have htok := T6
       refine Calls.mono (take_any _ _ cap a kx4 2 9 _ HT6.out) ?_
       rintro e w7 ⟨rfl, hT, hK⟩
       have HT7 : Hid (Tal w7 (w.heap.size + 1 + 1) (w.heap.size + 1) a cap kx5) := by unfold kx5; exact hT
       have HK7 : Hid (Kept No w w7) := HK6.out.trans hK (fun _ e => e) (fun k hk e => by rcases e with e | e <;> omega)
       rw [kT4]
       clear hT hK htok T6)
    | (go_at_call 23
       have htok := T7
       refine Calls.mono (enough_any _ _ cap a kx5 _ HT7.out) ?_
       rintro e w8 ⟨rfl, hq⟩
       have HK8 : Hid (Kept No w w8) := by obtain ⟨q, rfl⟩ := hq; exact HK7.out.drewN q
       have HT8 : Hid (Tal w8 (w.heap.size + 1 + 1) (w.heap.size + 1) a cap kx5) := by obtain ⟨q, rfl⟩ := hq; exact HT7.out.no (Kept.no_drewN _ _)
       rw [kE5]
       clear htok T7 hq)
    | (go_at_call 24
       have htok := T8
       refine Calls.mono (got_any _ _ cap a kx5 _ HT8.out (by rw [kC5]; omega)) ?_
       rw [kG5]
       rintro e w9 ⟨a1, c1, a2, c2, rfl, hO1, hO2, hK, hD⟩
       have HK9 : Hid (Kept No w w9) := HK8.out.then hK
       have HT9 : Hid (Tal w9 (w.heap.size + 1 + 1) (w.heap.size + 1) a cap kx5) := HT8.out.no hK
       have HN1 : Hid (Nums .i64 w9 a1 [3, 1]) := hO1.nums rfl
       have HN2 : Hid (Nums .i64 w9 a2 [8, 5]) := hO2.nums rfl
       clear hO1 hO2 hK hD htok T8)
    | (go_at_call 20
       have htok := T9
       refine Calls.mono (same_any a1 _ 2 2 c1 2 [3, 1] [3, 1] _ rfl rfl (by omega) (by omega) (HN1.out.no ((Kept.refl No w9).alloc _)) (nums_new w9 [3, 1])) ?_
       rintro e w10 ⟨rfl, hK⟩
       have HK10 : Hid (Kept No w9 w10) := ((Kept.refl No w9).alloc _).then hK
       rw [show decide ([3, 1] = ([3, 1] : List Int)) = true by decide]
       clear hK htok T9)
    | (go_at_call 20
       have htok := T10
       refine Calls.mono (same_any a2 _ 2 2 c2 2 [8, 5] [8, 5] _ rfl rfl (by omega) (by omega) (HN2.out.no (HK10.out.alloc _)) (nums_new w10 [8, 5])) ?_
       rintro e w11 ⟨rfl, hK⟩
       have HK11 : Hid (Kept No w9 w11) := (HK10.out.alloc _).then hK
       have HT11 : Hid (Tal w11 (w.heap.size + 1 + 1) (w.heap.size + 1) a cap kx5) := HT9.out.no HK11.out
       rw [show decide ([8, 5] = ([8, 5] : List Int)) = true by decide]
       clear hK htok T10)
    | (go_at_call 19
       refine Calls.mono (missing_any _ _ cap a kx5 _ HT11.out) ?_
       rw [kM5]
       rintro e w12 ⟨a3, c3, rfl, hO, hK⟩
       have HK12 : Hid (Kept No w9 w12) := HK11.out.then hK
       have HN3 : Hid (Nums .i64 w12 a3 [2]) := hO.nums rfl
       clear hK hO)
    | (go_at_call 20
       have htok := T11
       refine Calls.mono (same_any a3 _ 1 1 c3 1 [2] [2] _ rfl rfl (by omega) (by omega) (HN3.out.no ((Kept.refl No w12).alloc _)) (nums_new w12 [2])) ?_
       rintro e w13 ⟨rfl, hK⟩
       have HK13 : Hid (Kept No w w13) := HK9.out.then ((HK12.out.alloc _).then hK)
       rw [show decide ([2] = ([2] : List Int)) = true by decide]
       clear hK htok T11)
    | fail)
  go_ret
  exact ⟨rfl, HK13.out⟩

end Go.Proofs.Ytmhjbkpojndhkab
