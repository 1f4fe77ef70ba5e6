import Derived.Test.YtpapbleabjpbfabKp
namespace Go.Proofs.Ytpapbleabjpbfab
open Go.RowKit
set_option linter.unusedVariables false

theorem known_ps : sortP (ptsOf (sortI [30, 10, 20]) 2) = knownP := by
  rw [known_srv, known_made]
  have h := ins_sorts #[(1962684303, 10), (396021870, 10), (3719509009, 20), (2152846576, 20), (3913697947, 30), (2347035514, 30)]
  rw [Sort.insertionSort] at h
  have e : Sort.insOuter ltP 0 6 1 #[(1962684303, 10), (396021870, 10), (3719509009, 20), (2152846576, 20), (3913697947, 30), (2347035514, 30)] = knownP.toArray := by
    rw [insOuter_step (by decide), insOuter_step (by decide), insOuter_step (by decide), insOuter_step (by decide), insOuter_step (by decide), insOuter_end]
    decide
  exact h.symm.trans (congrArg Array.toList e)

theorem known_rising : Rising knownP := by
  intro a b hab hb
  have h : ∀ b : Fin 6, ∀ a : Fin 6, a ≤ b → (knownP[a.val]?.getD (0, 0)).1 ≤ (knownP[b.val]?.getD (0, 0)).1 := by decide
  exact h ⟨b, hb⟩ ⟨a, Nat.lt_of_le_of_lt hab hb⟩ hab

theorem known_get (i : Nat) : knownP[i]?.getD (0, 0) = (0, 0) ∨ ∃ j : Fin 6, knownP[i]?.getD (0, 0) = knownP[j.val]?.getD (0, 0) := by
  by_cases h : i < 6
  · exact .inr ⟨⟨i, h⟩, rfl⟩
  · left
    rw [List.getElem?_eq_none (by show 6 ≤ i; omega)]; rfl

theorem known_srvI : SrvI knownP := by
  intro i
  rcases known_get i with h | ⟨j, h⟩
  · rw [h]; simp [I64]
  · rw [h]
    have : ∀ j : Fin 6, 0 ≤ (knownP[j.val]?.getD (0, 0)).2 ∧ (knownP[j.val]?.getD (0, 0)).2 ≤ 255 := by decide
    have := this j
    unfold I64
    omega

theorem known_hashI : HashI knownP := by
  intro i
  rcases known_get i with h | ⟨j, h⟩
  · rw [h]; simp
  · rw [h]
    have : ∀ j : Fin 6, 0 ≤ (knownP[j.val]?.getD (0, 0)).1 ∧ (knownP[j.val]?.getD (0, 0)).1 ≤ 4294967295 := by decide
    exact this j

theorem known_grp : (grp knownP (homeH 2 3 0 0) 3).length = 3 := by kernel_rfl
theorem known_hash : hashK 2 3 0 0 = 2379895076 := by kernel_rfl
theorem known_share : shareF (cntN knownP 10 6) = some 4603090846634475520 := by kernel_rfl
theorem known_bucket : fnv (strB { data := #[112, 108, 117, 109] }) % 4 = 3 := by kernel_rfl
theorem known_key : keyB 2 3 0 0 4 = true := by decide
theorem known_cfg : cfgB [30, 10, 20] 1 2 4 8 2 = true := by
  rw [← cfgB_yes]
  · decide
  · refine ⟨⟨by decide, by decide, by decide, by decide⟩, ?_⟩
    intro i hi
    have h : ∀ i : Fin 3, (1 ≤ ([30, 10, 20] : List Int)[i.val]?.getD 0 ∧ ([30, 10, 20] : List Int)[i.val]?.getD 0 ≤ 255) ∧ ∀ k : Fin 3, k < i → ([30, 10, 20] : List Int)[k.val]?.getD 0 ≠ ([30, 10, 20] : List Int)[i.val]?.getD 0 := by decide
    have h3 : i < 3 := hi
    exact ⟨(h ⟨i, h3⟩).1, fun k hk => (h ⟨i, h3⟩).2 ⟨k, by omega⟩ hk⟩

theorem fn_nil (b : Array Value) (w : World) : Sem.run Try.prog (binOp .eql 31 (.func (.func 29) #[] b) .nilFunc) w = .ok (.bool false) w := by kernel_rfl
theorem known_gt (w : World) : Sem.run Try.prog (binOp .gtr 42 (.float .f64 4603090846634475520) (.float .f64 0)) w = .ok (.bool true) w := by kernel_rfl

set_option maxRecDepth 100000 in
set_option maxHeartbeats 2000000 in
theorem known_any (w : World) : Calls Try.prog 7 #[] w fun e w' => e = .returned (.bool true) ∧ Kept No w w' := by
  have HN : Hid (Calls Try.prog 24 #[cfgV (.slice (some ⟨w.heap.size, 0, none⟩) 3 3) 1 2 4 8 2] (w.alloc (.cells #[.int .i64 30, .int .i64 10, .int .i64 20] 3)) fun e w' => ∃ r, e = .returned (.tuple #[.pointer (some ⟨r, 0, none⟩), .int .i64 0]) ∧ RingAt w' (w.alloc (.cells #[.int .i64 30, .int .i64 10, .int .i64 20] 3)).heap.size r (sortI [30, 10, 20]) 1 2 4 8 2 (sortP (ptsOf (sortI [30, 10, 20]) 2)) ∧ Kept No (w.alloc (.cells #[.int .i64 30, .int .i64 10, .int .i64 20] 3)) w') :=
    newYes_any (some ⟨w.heap.size, 0, none⟩) 3 3 [30, 10, 20] 1 2 4 8 2 _ rfl (built_nums w 3 [30, 10, 20]) (by
      intro i
      have h : ([30, 10, 20] : List Int)[i]?.getD 0 = 0 ∨ ∃ j : Fin 3, ([30, 10, 20] : List Int)[i]?.getD 0 = ([30, 10, 20] : List Int)[j.val]?.getD 0 := by
        by_cases hi : i < 3
        · exact .inr ⟨⟨i, hi⟩, rfl⟩
        · left; rw [List.getElem?_eq_none (by show 3 ≤ i; omega)]; rfl
      rcases h with h | ⟨j, h⟩
      · rw [h]; simp [I64]
      · rw [h]
        have : ∀ j : Fin 3, 0 ≤ ([30, 10, 20] : List Int)[j.val]?.getD 0 ∧ ([30, 10, 20] : List Int)[j.val]?.getD 0 ≤ 255 := by decide
        have := this j
        unfold I64
        omega) known_cfg (sorts_small _ (by rw [known_srv, known_made]; decide) (by rw [known_srv, known_made]; decide))
  rw [known_ps] at HN
  go_enter Try.func7, Try.ntmps7
  go_wp2_with fail
  refine Calls.mono HN.out ?_
  rintro e w1 ⟨r, rfl, hr1, hk1⟩
  obtain ⟨sa, sn, sc, pg, pc, m, hv⟩ := hr1.v
  have HV : Hid _ := hv
  have hm : m = 6 := hv.len.symm
  subst hm
  have HK1 : Hid (Kept No w w1) := ((Kept.refl No w).alloc _).then hk1
  clear hr1 hk1 hv HN
  have hfn := fn_nil
  have hgt := known_gt
  go_wp2_with (first
    | (go_at_call 10
       refine Calls.mono (points_any r sa sn sc 1 2 4 8 2 pg pc 6 knownP w1 HV.out) ?_
       rintro e w2 ⟨rfl, hb2, hk2⟩
       have HK12 : Hid (Kept No w1 w2) := hk2
       clear hb2 hk2)
    | (go_at_call 12
       refine Calls.mono (groupYes_any r sa sn sc 1 2 4 8 2 pg pc 6 3 knownP 2 3 0 0 w2 (HV.out.no HK12.out) (by omega) (by omega) known_key (by omega) (by omega) known_rising known_srvI (by omega) (by omega) (by omega)) ?_
       rintro e w3 ⟨g, hg, rfl, ho3, hk3⟩
       rw [known_grp]
       have HK13 : Hid (Kept No w1 w3) := HK12.out.then hk3
       clear ho3 hk3 hg HK12)
    | (go_at_call 27
       refine Calls.mono (hash_any 2 3 0 0 w3) ?_
       rintro e w4 ⟨rfl, hk4⟩
       rw [known_hash]
       have HK14 : Hid (Kept No w1 w4) := HK13.out.then hk4
       clear hk4 HK13)
    | (go_at_call 21
       refine Calls.mono (bucket_any r sa sn sc 1 2 4 8 2 pg pc 6 knownP _ w4 (HV.out.no HK14.out) (by omega) (by omega) (by decide)) ?_
       rintro e w5 ⟨rfl, hk5⟩
       rw [known_bucket]
       have HK15 : Hid (Kept No w1 w5) := HK14.out.then hk5
       clear hk5 HK14)
    | (go_at_call 16
       refine Calls.mono (share_any r sa sn sc 1 2 4 8 2 pg pc 6 knownP 10 w5 (HV.out.no HK15.out) (by omega) known_hashI 4603090846634475520 known_share) ?_
       rintro e w6 ⟨rfl, hk6⟩
       have HK16 : Hid (Kept No w1 w6) := HK15.out.then hk6
       clear hk6 HK15)
    | fail)
  go_ret
  exact ⟨rfl, HK1.out.then HK16.out⟩

end Go.Proofs.Ytpapbleabjpbfab
