import Derived.Test.YtpapbleabjpbfabL
import Derived.Test.YtpapbleabjpbfabFa
namespace Go.Proofs.Ytpapbleabjpbfab
open Go.RowKit
set_option linter.unusedVariables false


/-- The points and the count of exchanges stay, but for that count. -/
structure Cnt (w w' : World) (g sb s' : Nat) (d : Array (Int × Int)) (sp : List Value) : Prop where
  pts : Pts w' g d sp
  cnt : Box w' sb 3 #[.int .i64 (s' : Int)]
  kept : Kept (Only sb) w w'

theorem order2_lt {d : Array (Int × Int)} {a b s : Nat} (h : ltP d[b]! d[a]! = true) : Sort.order2 ltP d a b s = (b, a, s + 1) := by
  unfold Sort.order2; rw [if_pos h]
theorem order2_ge {d : Array (Int × Int)} {a b s : Nat} (h : ltP d[b]! d[a]! = false) : Sort.order2 ltP d a b s = (a, b, s) := by
  unfold Sort.order2; rw [if_neg (by rw [h]; decide)]

open Go.Sort in
set_option maxRecDepth 100000 in
set_option maxHeartbeats 2000000 in
theorem order2_any (g cap a b n sb s : Nat) (d : Array (Int × Int)) (sp : List Value) (w : World) (hn : d.size = n) (ha : a < n) (hb : b < n) (hm : n ≤ 4096) (hs : s ≤ 1000) (hne : sb ≠ g) (hp : Pts w g d sp) (hsb : Box w sb 3 #[.int .i64 (s : Int)]) :
    Calls Try.prog 80 #[.slice (some ⟨g, 0, none⟩) n cap, .int .i64 a, .int .i64 b, .pointer (some ⟨sb, 0, none⟩), cmpV] w fun e w' => e = .returned (.tuple #[.int .i64 ((order2 ltP d a b s).1 : Nat), .int .i64 ((order2 ltP d a b s).2.1 : Nat)]) ∧ Cnt w w' g sb (order2 ltP d a b s).2.2 d sp := by
  have HP : Hid (Pts w g d sp) := hp
  have HN : Hid (d.size = n) := hn
  have HS : Hid (Box w sb 3 #[.int .i64 (s : Int)]) := hsb
  have HKr : Hid (Kept (Only g) w w) := Kept.refl _ _
  clear hp hn hsb
  have hmix : Try.prog.follows .mixedOrders = true := by kernel_rfl
  go_enter Try.func80, Try.ntmps80
  have ca := HP.out.cell (b) (by have := HN.out; omega)
  have cb := HP.out.cell (a) (by have := HN.out; omega)
  obtain ⟨x, hx⟩ : ∃ x, d[b]! = x := ⟨_, rfl⟩
  obtain ⟨y, hy⟩ : ∃ y, d[a]! = y := ⟨_, rfl⟩
  rw [hx] at ca
  rw [hy] at cb
  have a0 := fun dd os => cell_regrown ca.1 dd os
  have a1 := fun dd os => cell_regrown ca.2 dd os
  have b0 := fun dd os => cell_regrown cb.1 dd os
  have b1 := fun dd os => cell_regrown cb.2 dd os
  have ha1 : (a : Int) < (n : Int) := by omega
  have hb1 : (b : Int) < (n : Int) := by omega
  have ha0 : (0 : Int) ≤ (a : Int) := by omega
  have hb0 : (0 : Int) ≤ (b : Int) := by omega
  have HXx : Hid (d[b]! = x) := hx
  have HXy : Hid (d[a]! = y) := hy
  have hmeth := meth112
  clear hx hy ca cb
  go_wp2
  refine wp_region_quiet_below hmix (by kernel_rfl) ?_
  repeat (quiet_step (exact Calls.regrown_of (compareB x y _)))
  refine wpQuiet_nil ?_
  intro _ hw'
  obtain ⟨⟨nq, osq⟩, hw''⟩ := hw'
  rw [hw'']
  simp only []
  have HP1 : Hid (Pts (Sort.grow (redrawn w nq) osq) g d sp) := HP.out.kept (kept_regrown _ _ _) (fun e => e)
  have HKw : Hid (Kept (Only g) w (Sort.grow (redrawn w nq) osq)) := HKr.out.then (kept_regrown _ _ _).of_no
  have HS1 : Hid (Box (Sort.grow (redrawn w nq) osq) sb 3 #[.int .i64 (s : Int)]) := HS.out.kept (kept_regrown _ _ _) (fun e => e)
  have HK1 : Hid (Kept No w (Sort.grow (redrawn w nq) osq)) := kept_regrown _ _ _
  clear hw'' a0 a1 b0 b1 hmeth
  generalize Sort.grow (redrawn w nq) osq = w1 at HP1 HKw HS1 HK1

  by_cases hc : cmpP x y < 0
  · have hcd : decide (cmpP x y < 0) = true := decide_eq_true hc
    have HO : Hid (order2 ltP d a b s = (b, a, s + 1)) := order2_lt (by rw [HXx.out, HXy.out]; exact hcd)
    rw [hcd]
    have c0 := box1 HS1.out
    have f0 := HS1.out.frozen 0
    clear hcd hc
    go_wp2
    go_ret2
    rw [HO.out]
    refine ⟨rfl, ⟨?_, ?_, ?_⟩⟩
    · exact Box.other HP1.out (by simpa using Ne.symm hne) _
    · have := HS1.out.set 0 (.int .i64 ((s : Int) + 1))
      simpa using this
    · exact Kept.setCell (S := Only sb) HK1.out.of_no (p := ⟨sb, 0, none⟩) (fun _ => (rfl : sb = sb)) _
  · have hcd : decide (cmpP x y < 0) = false := decide_eq_false hc
    have HO : Hid (order2 ltP d a b s = (a, b, s)) := order2_ge (by rw [HXx.out, HXy.out]; exact hcd)
    rw [hcd]
    clear hcd hc
    go_wp2
    go_ret2
    rw [HO.out]
    exact ⟨rfl, HP1.out, HS1.out, HK1.out.of_no⟩

theorem order2_rng (d : Array (Int × Int)) (a b s n : Nat) (ha : a < n) (hb : b < n) : (Sort.order2 ltP d a b s).1 < n ∧ (Sort.order2 ltP d a b s).2.1 < n ∧ (Sort.order2 ltP d a b s).2.2 ≤ s + 1 := by
  unfold Sort.order2
  split <;> simp <;> omega

open Go.Sort in
set_option maxRecDepth 100000 in
set_option maxHeartbeats 2000000 in
theorem median_any (g cap a b c n sb s : Nat) (d : Array (Int × Int)) (sp : List Value) (w : World) (hn : d.size = n) (ha : a < n) (hb : b < n) (hc : c < n) (hm : n ≤ 4096) (hs : s ≤ 900) (hne : sb ≠ g) (hp : Pts w g d sp) (hsb : Box w sb 3 #[.int .i64 (s : Int)]) :
    Calls Try.prog 79 #[.slice (some ⟨g, 0, none⟩) n cap, .int .i64 a, .int .i64 b, .int .i64 c, .pointer (some ⟨sb, 0, none⟩), cmpV] w fun e w' => e = .returned (.int .i64 ((median ltP d a b c s).1 : Nat)) ∧ Cnt w w' g sb (median ltP d a b c s).2 d sp := by
  have r1 := order2_rng d a b s n ha hb
  have H1 : Hid _ := order2_any g cap a b n sb s d sp w hn ha hb hm (by omega) hne hp hsb
  obtain ⟨q1, hq1⟩ : ∃ q, order2 ltP d a b s = q := ⟨_, rfl⟩
  have HM : Hid (median ltP d a b c s = (let r1 := order2 ltP d a b s; let r2 := order2 ltP d r1.2.1 c r1.2.2; let r3 := order2 ltP d r1.1 r2.1 r2.2.2; (r3.2.1, r3.2.2))) := rfl
  rw [hq1] at H1 r1 HM
  simp only at HM
  have r2 := order2_rng d q1.2.1 c q1.2.2 n r1.2.1 hc
  have H2 : Hid (∀ w', Cnt w w' g sb q1.2.2 d sp → _) := fun w' (h : Cnt w w' g sb q1.2.2 d sp) => order2_any g cap q1.2.1 c n sb q1.2.2 d sp w' hn r1.2.1 hc hm (by omega) hne h.pts h.cnt
  obtain ⟨q2, hq2⟩ : ∃ q, order2 ltP d q1.2.1 c q1.2.2 = q := ⟨_, rfl⟩
  rw [hq2] at H2 r2 HM
  have r3 := order2_rng d q1.1 q2.1 q2.2.2 n r1.1 r2.1
  have H3 : Hid (∀ w', Cnt w w' g sb q2.2.2 d sp → _) := fun w' (h : Cnt w w' g sb q2.2.2 d sp) => order2_any g cap q1.1 q2.1 n sb q2.2.2 d sp w' hn r1.1 r2.1 hm (by omega) hne h.pts h.cnt
  obtain ⟨q3, hq3⟩ : ∃ q, order2 ltP d q1.1 q2.1 q2.2.2 = q := ⟨_, rfl⟩
  rw [hq3] at H3 HM
  clear hp hsb hq1 hq2 hq3 r1 r2 r3 hn
  go_enter Try.func79, Try.ntmps79
  go_wp2_with fail
  refine Calls.mono H1.out ?_
  rintro e w1 ⟨rfl, hc1⟩
  have HC1 : Hid _ := hc1
  clear hc1 H1
  go_wp2_with fail
  refine Calls.mono (H2.out w1 HC1.out) ?_
  rintro e w2 ⟨rfl, hc2⟩
  have HC2 : Hid (Cnt w w2 g sb q2.2.2 d sp) := ⟨hc2.pts, hc2.cnt, HC1.out.kept.then hc2.kept⟩
  clear hc2 H2 HC1
  go_wp2_with fail
  refine Calls.mono (H3.out w2 HC2.out) ?_
  rintro e w3 ⟨rfl, hc3⟩
  have HC3 : Hid (Cnt w w3 g sb q3.2.2 d sp) := ⟨hc3.pts, hc3.cnt, HC2.out.kept.then hc3.kept⟩
  clear hc3 H3 HC2
  go_wp2
  go_ret
  rw [HM.out]
  exact ⟨rfl, HC3.out⟩

end Go.Proofs.Ytpapbleabjpbfab
