import Derived.Test.YtmhjbkpojndhkabBb
import Derived.Deep.RegionHeld3
import Derived.Deep.Cut
namespace Go.Proofs.Ytmhjbkpojndhkab
open Go.RowKit
set_option linter.unusedVariables false
set_option linter.unusedSimpArgs false

theorem sts_new3 (w : World) (a b c d e f : Int) : Sts (w.alloc (.cells #[.int .i64 a, .int .i64 b, .int .i64 c, .int .i64 d, .int .i64 e, .int .i64 f] 57)) (some ⟨w.heap.size, 0, none⟩) [(a, b), (c, d), (e, f)] := fun i hi => by
  have hb := Box.new w 57 #[.int .i64 a, .int .i64 b, .int .i64 c, .int .i64 d, .int .i64 e, .int .i64 f]
  refine ⟨w.heap.size, 0, rfl, ?_, ?_⟩
  · rw [hb.cell]
    match i, hi with
    | 0, _ => rfl
    | 1, _ => rfl
    | 2, _ => rfl
  · rw [hb.cell]
    match i, hi with
    | 0, _ => rfl
    | 1, _ => rfl
    | 2, _ => rfl

theorem nmL1 : lessP (2, 1) (2, 3) = true := by decide +kernel
theorem nmL2 : lessP (2, 3) (2, 1) = false := by decide +kernel
theorem nmL3 : lessP (2, 1) (2, 1) = false := by decide +kernel
theorem nmL4 : lessP (1, 9) (2, 1) = true := by decide +kernel
theorem nmMax : maxP [(2, 1), (2, 3), (2, 1)] = (2, 3) := by decide +kernel

set_option maxRecDepth 100000 in
set_option maxHeartbeats 4000000 in
theorem namesWalk (w : World) : Calls Try.prog 5 #[] w fun e w' => e = .returned (.bool true) ∧ Below w.heap.size w w' := by
  have HLs : Hid (∀ a b c d w, Calls Try.prog 21 #[stV a b, stV c d] w fun e w' => e = .returned (.bool (lessP (a, b) (c, d))) ∧ Kept No w w') := less_any
  go_enter Try.func5, Try.ntmps5
  go_upto_region 3 with fail
  obtain ⟨w1, hw1⟩ : ∃ w1, w1 = (w.alloc (.cells #[.int .i64 2, .int .i64 1] 57)).alloc (.cells #[.int .i64 2, .int .i64 3] 57) := ⟨_, rfl⟩
  rw [← hw1]
  have HK1 : Hid (Kept No w w1.drew) := by rw [hw1]; exact (((Kept.refl No w).alloc _).alloc _).drew
  have HA : Hid (Box w1.drew w.heap.size 57 #[.int .i64 2, .int .i64 1]) := by rw [hw1]; exact ((Box.new _ _ _).alloc _).kept ((Kept.refl No _).drew) (fun e => e)
  have HB : Hid (Box w1.drew (w.heap.size + 1) 57 #[.int .i64 2, .int .i64 3]) := by
    have h1 : (w.alloc (.cells #[.int .i64 2, .int .i64 1] 57)).heap.size = w.heap.size + 1 := by simp
    rw [hw1, ← h1]
    exact (Box.new _ _ _).kept ((Kept.refl No _).drew) (fun e => e)
  clear hw1
  have HC : Hid (∀ W, Kept No w1.drew W → (W.cell? ⟨w.heap.size, 0, none⟩ = some (.int .i64 2) ∧ W.cell? ⟨w.heap.size, 1, none⟩ = some (.int .i64 1) ∧ W.cell? ⟨w.heap.size + 1, 0, none⟩ = some (.int .i64 2) ∧ W.cell? ⟨w.heap.size + 1, 1, none⟩ = some (.int .i64 3))) := fun W hk =>
    ⟨(HA.out.kept hk (fun e => e)).cell 0, (HA.out.kept hk (fun e => e)).cell 1, (HB.out.kept hk (fun e => e)).cell 0, (HB.out.kept hk (fun e => e)).cell 1⟩
  have HC0 := HC.out w1.drew (Kept.refl _ _)
  obtain ⟨s0, s1, s2, s3⟩ := HC0
  have HKc : Hid (Kept No w1.drew w1.drew) := Kept.refl _ _
  generalize hb : w.heap.size = b at HA HB HC s0 s1 s2 s3 ⊢
  have HBs : Hid (w.heap.size = b) := hb
  clear hb
  go_region_held3 (fun w' => w'.cell? ⟨b, 0, none⟩ = some (.int .i64 2) ∧ w'.cell? ⟨b, 1, none⟩ = some (.int .i64 1) ∧ w'.cell? ⟨b + 1, 0, none⟩ = some (.int .i64 2) ∧ w'.cell? ⟨b + 1, 1, none⟩ = some (.int .i64 3)) (go_keep) (first
    | (go_at_call 21
       refine Calls.mono (HLs.out _ _ _ _ _) ?_
       rintro e wn ⟨rfl, hk⟩
       have HKn : Hid (Kept No w1.drew wn) := HKc.out.then hk
       obtain ⟨t0, t1, t2, t3⟩ := HC.out wn HKn.out
       have HKc : Hid (Kept No w1.drew wn) := HKn
       first | rw [nmL1] | rw [nmL2] | rw [nmL3] | rw [nmL4]
       clear hk HKn)
    | (go_at_call 22
       refine Calls.mono (max_any _ 3 3 [(2, 1), (2, 3), (2, 1)] _ rfl (by omega) (by omega) (by omega) (by omega) (sts_new3 _ 2 1 2 3 2 1)) ?_
       rintro e wn ⟨rfl, hk⟩
       have HKn : Hid (Kept No w1.drew wn) := (HKc.out.alloc _).then hk
       obtain ⟨t0, t1, t2, t3⟩ := HC.out wn HKn.out
       have HKc : Hid (Kept No w1.drew wn) := HKn
       rw [nmMax]
       clear hk HKn))
  go_wp2
  all_goals go_ret
  all_goals exact ⟨rfl, (HK1.out.then HKc.out).below (Nat.le_refl _) (fun _ e => e.elim)⟩

end Go.Proofs.Ytmhjbkpojndhkab
