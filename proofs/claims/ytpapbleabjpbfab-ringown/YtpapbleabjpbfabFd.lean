import Derived.Test.YtpapbleabjpbfabFc
namespace Go.Proofs.Ytpapbleabjpbfab
open Go.RowKit
set_option linter.unusedVariables false


theorem choose_big {d : Array (Int × Int)} {a l : Nat} (h8 : 50 ≤ l) : Sort.choosePivot ltP d a (a + l) = (let i := Sort.medianAdjacent ltP d (a + l / 4) 0; let j := Sort.medianAdjacent ltP d (a + l / 4 * 2) i.2; let k := Sort.medianAdjacent ltP d (a + l / 4 * 3) j.2; let r := Sort.median ltP d i.1 j.1 k.1 k.2; (r.1, if r.2 = 0 then .increasing else if r.2 = 12 then .decreasing else .unknown)) := by
  unfold Sort.choosePivot
  simp only [Nat.add_sub_cancel_left, Nat.mul_one]
  rw [if_pos (by omega), if_pos h8]
theorem choose_small {d : Array (Int × Int)} {a l : Nat} (h8 : 8 ≤ l) (h50 : ¬ 50 ≤ l) : Sort.choosePivot ltP d a (a + l) = (let r := Sort.median ltP d (a + l / 4) (a + l / 4 * 2) (a + l / 4 * 3) 0; (r.1, if r.2 = 0 then .increasing else if r.2 = 12 then .decreasing else .unknown)) := by
  unfold Sort.choosePivot
  simp only [Nat.add_sub_cancel_left, Nat.mul_one]
  rw [if_pos (by omega), if_neg h50]

open Go.Sort in
set_option maxRecDepth 100000 in
set_option maxHeartbeats 4000000 in
theorem choosePivot_any (g cap a l n : Nat) (d : Array (Int × Int)) (sp : List Value) (w : World) (hn : d.size = n) (hl : 13 ≤ l) (hb : a + l ≤ n) (hm : n ≤ 4096) (hp : Pts w g d sp) :
    Calls Try.prog 72 #[.slice (some ⟨g, 0, none⟩) n cap, .int .i64 a, .int .i64 (a + l : Nat), cmpV] w fun e w' => e = .returned (.tuple #[.int .i64 ((choosePivot ltP d a (a + l)).1 : Nat), .int .i64 (hintN (choosePivot ltP d a (a + l)).2 : Nat)]) ∧ Pts w' g d sp ∧ Kept No w w' := by
  have HP : Hid (Pts w g d sp) := hp
  have hgl : w.heap.size ≠ g := by have := Box.lt hp; omega
  clear hp
  have E0 : Hid (((a : Int) + (l : Int) - (a : Int)) = (l : Int)) := by show _ = _; omega
  have E1 : Hid ((a : Int) + (l : Int) / 4 = ((a + l / 4 : Nat) : Int)) := by show _ = _; omega
  have E2 : Hid ((a : Int) + (l : Int) / 4 * 2 = ((a + l / 4 * 2 : Nat) : Int)) := by show _ = _; omega
  have E3 : Hid ((a : Int) + (l : Int) / 4 * 3 = ((a + l / 4 * 3 : Nat) : Int)) := by show _ = _; omega
  by_cases h50 : 50 ≤ l
  · have HM : Hid _ := choose_big (d := d) (a := a) h50
    have q1 := median_rng d (a + l / 4 - 1) (a + l / 4) (a + l / 4 + 1) 0 n (by omega) (by omega) (by omega)
    have H1 : Hid (∀ w', Cnt w w' g w.heap.size 0 d sp → _) := fun w' (h : Cnt w w' g w.heap.size 0 d sp) => medianAdj_any g cap (a + l / 4) n w.heap.size 0 d sp w' hn (by omega) (by omega) hm (by omega) hgl h.pts h.cnt
    change (medianAdjacent ltP d (a + l / 4) 0).1 < n ∧ (medianAdjacent ltP d (a + l / 4) 0).2 ≤ 0 + 3 at q1
    obtain ⟨r1, hr1⟩ : ∃ r, medianAdjacent ltP d (a + l / 4) 0 = r := ⟨_, rfl⟩
    rw [hr1] at q1 H1 HM
    have q2 := median_rng d (a + l / 4 * 2 - 1) (a + l / 4 * 2) (a + l / 4 * 2 + 1) r1.2 n (by omega) (by omega) (by omega)
    have H2 : Hid (∀ w', Cnt w w' g w.heap.size r1.2 d sp → _) := fun w' (h : Cnt w w' g w.heap.size r1.2 d sp) => medianAdj_any g cap (a + l / 4 * 2) n w.heap.size r1.2 d sp w' hn (by omega) (by omega) hm (by omega) hgl h.pts h.cnt
    change (medianAdjacent ltP d (a + l / 4 * 2) r1.2).1 < n ∧ (medianAdjacent ltP d (a + l / 4 * 2) r1.2).2 ≤ r1.2 + 3 at q2
    simp only at HM
    obtain ⟨r2, hr2⟩ : ∃ r, medianAdjacent ltP d (a + l / 4 * 2) r1.2 = r := ⟨_, rfl⟩
    rw [hr2] at q2 H2 HM
    have q3 := median_rng d (a + l / 4 * 3 - 1) (a + l / 4 * 3) (a + l / 4 * 3 + 1) r2.2 n (by omega) (by omega) (by omega)
    have H3 : Hid (∀ w', Cnt w w' g w.heap.size r2.2 d sp → _) := fun w' (h : Cnt w w' g w.heap.size r2.2 d sp) => medianAdj_any g cap (a + l / 4 * 3) n w.heap.size r2.2 d sp w' hn (by omega) (by omega) hm (by omega) hgl h.pts h.cnt
    change (medianAdjacent ltP d (a + l / 4 * 3) r2.2).1 < n ∧ (medianAdjacent ltP d (a + l / 4 * 3) r2.2).2 ≤ r2.2 + 3 at q3
    obtain ⟨r3, hr3⟩ : ∃ r, medianAdjacent ltP d (a + l / 4 * 3) r2.2 = r := ⟨_, rfl⟩
    rw [hr3] at q3 H3 HM
    have H4 : Hid (∀ w', Cnt w w' g w.heap.size r3.2 d sp → _) := fun w' (h : Cnt w w' g w.heap.size r3.2 d sp) => median_any g cap r1.1 r2.1 r3.1 n w.heap.size r3.2 d sp w' hn q1.1 q2.1 q3.1 hm (by omega) hgl h.pts h.cnt
    obtain ⟨r4, hr4⟩ : ∃ r, median ltP d r1.1 r2.1 r3.1 r3.2 = r := ⟨_, rfl⟩
    rw [hr4] at H4 HM
    obtain ⟨r1a, s1⟩ := r1
    obtain ⟨r2a, s2⟩ := r2
    obtain ⟨r3a, s3⟩ := r3
    obtain ⟨r4a, sz⟩ := r4
    clear hr1 hr2 hr3 hr4 q1 q2 q3 hn
    simp only at H1 H2 H3 H4 HM
    go_enter Try.func72, Try.ntmps72
    go_wp2_with fail
    rw [E0.out, E1.out, E2.out, E3.out]
    obtain ⟨w0, hw0⟩ : ∃ w0, w0 = w.alloc (.cells #[.int .i64 0] 3) := ⟨_, rfl⟩
    rw [← hw0]
    have HC0 : Hid (Cnt w w0 g w.heap.size 0 d sp) := by
      rw [hw0]; exact ⟨Box.alloc HP.out _, Box.new _ _ _, (Kept.refl _ _).alloc _⟩
    clear hw0

    refine Calls.mono (H1.out w0 HC0.out) ?_
    rintro e w1 ⟨rfl, hc1⟩
    have HC1 : Hid (Cnt w w1 g w.heap.size s1 d sp) := ⟨hc1.pts, hc1.cnt, HC0.out.kept.then hc1.kept⟩
    clear hc1 H1 HC0
    go_wp2_with fail
    refine Calls.mono (H2.out w1 HC1.out) ?_
    rintro e w2 ⟨rfl, hc2⟩
    have HC2 : Hid (Cnt w w2 g w.heap.size s2 d sp) := ⟨hc2.pts, hc2.cnt, HC1.out.kept.then hc2.kept⟩
    clear hc2 H2 HC1
    go_wp2_with fail
    refine Calls.mono (H3.out w2 HC2.out) ?_
    rintro e w3 ⟨rfl, hc3⟩
    have HC3 : Hid (Cnt w w3 g w.heap.size s3 d sp) := ⟨hc3.pts, hc3.cnt, HC2.out.kept.then hc3.kept⟩
    clear hc3 H3 HC2
    go_wp2_with fail
    refine Calls.mono (H4.out w3 HC3.out) ?_
    rintro e wz ⟨rfl, hc4⟩
    have HC : Hid (Cnt w wz g w.heap.size sz d sp) := ⟨hc4.pts, hc4.cnt, HC3.out.kept.then hc4.kept⟩
    clear hc4 H4 HC3
    have c0 := box1 HC.out.cnt
    have HKn : Hid (Kept No w wz) := HC.out.kept.mono (fun i hi e => by have : i = w.heap.size := e; omega)
    by_cases hz : sz = 0
    · subst hz
      rw [if_pos rfl] at HM
      go_wp2
      go_ret2
      rw [HM.out]
      exact ⟨rfl, HC.out.pts, HKn.out⟩
    · rw [if_neg hz] at HM
      have hz1 : ((sz : Int) == 0) = false := by simp; omega
      by_cases hy : sz = 12
      · subst hy
        rw [if_pos rfl] at HM
        go_wp2
        go_ret2
        rw [HM.out]
        exact ⟨rfl, HC.out.pts, HKn.out⟩
      · rw [if_neg hy] at HM
        have hy1 : ((sz : Int) == 12) = false := by simp; omega
        go_wp2
        go_ret2
        rw [HM.out]
        exact ⟨rfl, HC.out.pts, HKn.out⟩

  · have HM : Hid _ := choose_small (d := d) (a := a) (l := l) (by omega) h50
    have H4 : Hid (∀ w', Cnt w w' g w.heap.size 0 d sp → _) := fun w' (h : Cnt w w' g w.heap.size 0 d sp) => median_any g cap (a + l / 4) (a + l / 4 * 2) (a + l / 4 * 3) n w.heap.size 0 d sp w' hn (by omega) (by omega) (by omega) hm (by omega) hgl h.pts h.cnt
    obtain ⟨r4, hr4⟩ : ∃ r, median ltP d (a + l / 4) (a + l / 4 * 2) (a + l / 4 * 3) 0 = r := ⟨_, rfl⟩
    simp only at HM
    rw [hr4] at H4 HM
    obtain ⟨r4a, sz⟩ := r4
    clear hr4 hn
    simp only at H4 HM
    go_enter Try.func72, Try.ntmps72
    go_wp2_with fail
    rw [E0.out, E1.out, E2.out, E3.out]
    obtain ⟨w0, hw0⟩ : ∃ w0, w0 = w.alloc (.cells #[.int .i64 0] 3) := ⟨_, rfl⟩
    rw [← hw0]
    have HC0 : Hid (Cnt w w0 g w.heap.size 0 d sp) := by
      rw [hw0]; exact ⟨Box.alloc HP.out _, Box.new _ _ _, (Kept.refl _ _).alloc _⟩
    clear hw0

    refine Calls.mono (H4.out w0 HC0.out) ?_
    rintro e wz ⟨rfl, hc4⟩
    have HC : Hid (Cnt w wz g w.heap.size sz d sp) := ⟨hc4.pts, hc4.cnt, HC0.out.kept.then hc4.kept⟩
    clear hc4 H4 HC0
    have c0 := box1 HC.out.cnt
    have HKn : Hid (Kept No w wz) := HC.out.kept.mono (fun i hi e => by have : i = w.heap.size := e; omega)
    by_cases hz : sz = 0
    · subst hz
      rw [if_pos rfl] at HM
      go_wp2
      go_ret2
      rw [HM.out]
      exact ⟨rfl, HC.out.pts, HKn.out⟩
    · rw [if_neg hz] at HM
      have hz1 : ((sz : Int) == 0) = false := by simp; omega
      by_cases hy : sz = 12
      · subst hy
        rw [if_pos rfl] at HM
        go_wp2
        go_ret2
        rw [HM.out]
        exact ⟨rfl, HC.out.pts, HKn.out⟩
      · rw [if_neg hy] at HM
        have hy1 : ((sz : Int) == 12) = false := by simp; omega
        go_wp2
        go_ret2
        rw [HM.out]
        exact ⟨rfl, HC.out.pts, HKn.out⟩

end Go.Proofs.Ytpapbleabjpbfab
