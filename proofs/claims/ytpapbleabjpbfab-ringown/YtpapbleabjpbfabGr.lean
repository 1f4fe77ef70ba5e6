import Derived.Test.YtpapbleabjpbfabSf
namespace Go.Proofs.Ytpapbleabjpbfab
open Go.RowKit
set_option linter.unusedVariables false

/-- The hash that a key's group begins at. -/
def homeH (kd a b c : Int) : Int := if kd = 3 then hashK 2 a 0 0 else hashK kd a b c

theorem home2 (kd a b c : Int) (w : World) : Calls Try.prog 32 #[keyV kd a b c] w fun e w' => ∃ k1 a1 b1 c1, e = .returned (keyV k1 a1 b1 c1) ∧ hashK k1 a1 b1 c1 = homeH kd a b c ∧ Kept No w w' :=
  (home_any kd a b c w).mono (by
    rintro e w' ⟨rfl, hk⟩
    unfold homeH
    by_cases h : kd = 3
    · rw [if_pos h, if_pos h]; exact ⟨2, a, 0, 0, rfl, rfl, hk⟩
    · rw [if_neg h, if_neg h]; exact ⟨kd, a, b, c, rfl, rfl, hk⟩)

set_option maxRecDepth 100000 in
set_option maxHeartbeats 4000000 in
theorem groupNo_any (r : Nat) (sa : Option Addr) (sn sc : Nat) (f p bu bl ro : Int) (pg pc m : Nat) (ps : List (Int × Int)) (kd a b c : Int) (w : World) (hr : RingV w r sa sn sc f p bu bl ro pg pc m ps) (hb0 : 0 ≤ bu) (hb1 : bu ≤ 256) (hk : keyB kd a b c bu = false) :
    Calls Try.prog 12 #[.pointer (some ⟨r, 0, none⟩), keyV kd a b c] w fun e w' => e = .returned (.tuple #[.slice none 0 0, .int .i64 21]) ∧ Kept No w w' := by
  have HR : Hid (RingV w r sa sn sc f p bu bl ro pg pc m ps) := hr
  clear hr
  have HRt := fun w => right_any kd a b c sa sn sc f p bu bl ro w hb0 (by omega)
  rw [hk] at HRt
  have HRt' : Hid _ := HRt
  clear HRt hk
  go_enter Try.func12, Try.ntmps12
  go_wp2
  obtain ⟨w0, hw0⟩ : ∃ w0, w0 = w.alloc (.cells #[.int .i64 kd, .int .i64 a, .int .i64 b, .int .i64 c] 35) := ⟨_, rfl⟩
  rw [← hw0]
  refine wp_region_still_tail 5 (by kernel_rfl) (by kernel_rfl) ?_
  simp only [List.take_succ_cons, List.take_zero, List.drop_succ_cons, List.drop_zero]
  obtain ⟨w1, hw1⟩ : ∃ w1 : World, w1 = { w0 with drawn := w0.drawn + 1 } := ⟨_, rfl⟩
  rw [← hw1]
  have HX : Hid (Box w1 w.heap.size 35 #[.int .i64 kd, .int .i64 a, .int .i64 b, .int .i64 c]) := by
    rw [hw1, hw0]; exact Box.new w 35 _
  have HK : Hid (Kept No w w1) := by rw [hw1, hw0]; exact ((Kept.refl No w).alloc _).drew
  have HR1 : Hid (RingV w1 r sa sn sc f p bu bl ro pg pc m ps) := HR.out.no HK.out
  clear hw1 hw0
  have x0 := HX.out.cell 0
  have x1 := HX.out.cell 1
  have x2 := HX.out.cell 2
  have x3 := HX.out.cell 3
  have r0 := HR1.out.box.cell 0
  have r1 := HR1.out.box.cell 1
  have r2 := HR1.out.box.cell 2
  have r3 := HR1.out.box.cell 3
  have r4 := HR1.out.box.cell 4
  have r5 := HR1.out.box.cell 5
  simp only [List.getElem?_toArray, List.getElem?_cons_zero, List.getElem?_cons_succ] at x0 x1 x2 x3 r0 r1 r2 r3 r4 r5
  still_step
  still_step
  still_step
  still_step
  still_step
  refine wpStill_nil ?_
  go_wp2_with (go_at_call 30
               refine Calls.mono (HRt'.out _) ?_
               rintro e w2 ⟨rfl, hk2⟩)
  go_ret2
  exact ⟨rfl, HK.out.then hk2⟩

set_option maxRecDepth 100000 in
set_option maxHeartbeats 4000000 in
theorem groupYes_any (r : Nat) (sa : Option Addr) (sn sc : Nat) (f p bu bl ro : Int) (pg pc m wn : Nat) (ps : List (Int × Int)) (kd a b c : Int) (w : World) (hr : RingV w r sa sn sc f p bu bl ro pg pc m ps) (hb0 : 0 ≤ bu) (hb1 : bu ≤ 256) (hk : keyB kd a b c bu = true)
    (hm1 : 1 ≤ m) (hm : m ≤ 4096) (hRi : Rising ps) (hI : SrvI ps) (hf0 : 0 ≤ f) (hf : f ≤ 3) (hwn : (wn : Int) = 2 * f + 1) :
    Calls Try.prog 12 #[.pointer (some ⟨r, 0, none⟩), keyV kd a b c] w fun e w' => ∃ g, w.heap.size ≤ g ∧ e = .returned (.tuple #[.slice (some ⟨g, 0, none⟩) (grp ps (homeH kd a b c) wn).length wn, .int .i64 0]) ∧ Own 3 1 w' w.heap.size (some ⟨g, 0, none⟩) wn (grp ps (homeH kd a b c) wn).length ((grp ps (homeH kd a b c) wn).map (Value.int .i64)) ∧ Kept No w w' := by
  have HR : Hid (RingV w r sa sn sc f p bu bl ro pg pc m ps) := hr
  clear hr
  have HRt := fun w => right_any kd a b c sa sn sc f p bu bl ro w hb0 (by omega)
  rw [hk] at HRt
  have HRt' : Hid _ := HRt
  have HSf : Hid (∀ hash w', Kept No w w' → Calls Try.prog 31 #[.pointer (some ⟨r, 0, none⟩), .int .i64 hash] w' fun e w'' => ∃ g, w'.heap.size ≤ g ∧ e = .returned (.slice (some ⟨g, 0, none⟩) (grp ps hash wn).length wn) ∧ Own 3 1 w'' w'.heap.size (some ⟨g, 0, none⟩) wn (grp ps hash wn).length ((grp ps hash wn).map (Value.int .i64)) ∧ Kept No w' w'') :=
    fun hash w' hk => serversFrom_any r sa sn sc f p bu bl ro pg pc m wn ps hash w' (HR.out.no hk) hm1 hm hRi hI hf0 hf hwn
  clear HRt hk hRi hI
  go_enter Try.func12, Try.ntmps12
  go_wp2
  obtain ⟨w0, hw0⟩ : ∃ w0, w0 = w.alloc (.cells #[.int .i64 kd, .int .i64 a, .int .i64 b, .int .i64 c] 35) := ⟨_, rfl⟩
  rw [← hw0]
  refine wp_region_still_tail 5 (by kernel_rfl) (by kernel_rfl) ?_
  simp only [List.take_succ_cons, List.take_zero, List.drop_succ_cons, List.drop_zero]
  obtain ⟨w1, hw1⟩ : ∃ w1 : World, w1 = { w0 with drawn := w0.drawn + 1 } := ⟨_, rfl⟩
  rw [← hw1]
  have HX : Hid (Box w1 w.heap.size 35 #[.int .i64 kd, .int .i64 a, .int .i64 b, .int .i64 c]) := by
    rw [hw1, hw0]; exact Box.new w 35 _
  have HK : Hid (Kept No w w1) := by rw [hw1, hw0]; exact ((Kept.refl No w).alloc _).drew
  have HR1 : Hid (RingV w1 r sa sn sc f p bu bl ro pg pc m ps) := HR.out.no HK.out
  clear hw1 hw0
  have x0 := HX.out.cell 0
  have x1 := HX.out.cell 1
  have x2 := HX.out.cell 2
  have x3 := HX.out.cell 3
  have r0 := HR1.out.box.cell 0
  have r1 := HR1.out.box.cell 1
  have r2 := HR1.out.box.cell 2
  have r3 := HR1.out.box.cell 3
  have r4 := HR1.out.box.cell 4
  have r5 := HR1.out.box.cell 5
  simp only [List.getElem?_toArray, List.getElem?_cons_zero, List.getElem?_cons_succ] at x0 x1 x2 x3 r0 r1 r2 r3 r4 r5
  still_step
  still_step
  still_step
  still_step
  still_step
  refine wpStill_nil ?_
  clear r0 r1 r2 r3 r4 r5 x0 x1 x2 x3
  go_wp2_with (first
    | (go_at_call 30
       refine Calls.mono (HRt'.out _) ?_
       rintro e w2 ⟨rfl, hk2⟩
       have HK2 : Hid (Kept No w w2) := HK.out.then hk2
       have HX2 : Hid (Box w2 w.heap.size 35 _) := HX.out.kept hk2 (fun e => e)
       have x0 := HX2.out.cell 0
       have x1 := HX2.out.cell 1
       have x2 := HX2.out.cell 2
       have x3 := HX2.out.cell 3
       simp only [List.getElem?_toArray, List.getElem?_cons_zero, List.getElem?_cons_succ] at x0 x1 x2 x3
       clear hk2)
    | (go_at_call 32
       refine Calls.mono (home2 kd a b c _) ?_
       rintro e w3 ⟨k1, a1, b1, c1, rfl, hh, hk3⟩
       have HK3 : Hid (Kept No w w3) := HK2.out.then hk3
       have HH : Hid _ := hh
       clear hk3 hh)
    | (go_at_call 27
       refine Calls.mono (hash_any k1 a1 b1 c1 _) ?_
       rintro e w4 ⟨rfl, hk4⟩
       have HK4 : Hid (Kept No w w4) := HK3.out.then hk4
       rw [HH.out]
       clear hk4)
    | (go_at_call 31
       refine Calls.mono (HSf.out (homeH kd a b c) w4 HK4.out) ?_
       rintro e w5 ⟨g, hg, rfl, ho5, hk5⟩
       have HO5 : Hid _ := ho5
       have HK5 : Hid (Kept No w w5) := HK4.out.then hk5
       have HG5 : Hid (w4.heap.size ≤ g) := hg
       clear ho5 hk5 hg)
    | fail)
  go_ret2
  have h4 := HK4.out.size
  have h5 := HG5.out
  exact ⟨g, by omega, rfl, Own.lower HO5.out h4, HK5.out⟩

end Go.Proofs.Ytpapbleabjpbfab
