import Derived.Test.YtgiokkcdgoloaabHe
namespace Go.Proofs.Ytgiokkcdgoloaab
open Go.RowKit
set_option linter.unusedVariables false
set_option linter.unusedSimpArgs false

theorem meth_takeA (a1 a2 : Value) (w : World) : (method 280 150 (.agg #[a1, a2]) "cairn/register.take").run Try.prog w = .ok (84, .agg #[a1, a2]) w := by kernel_rfl
theorem meth_takeL (n c : Int) (a : Option Addr) (l k : Nat) (err sn sc : Int) (da : Option Addr) (dl dc : Nat) (ub : Nat) (w : World) : (method 280 163 (layV n c a l k err sn sc da dl dc ub) "cairn/register.take").run Try.prog w = .ok (96, layV n c a l k err sn sc da dl dc ub) w := by kernel_rfl
theorem meth_takeE (err sn sc : Int) (da : Option Addr) (dl dc : Nat) (w : World) : (method 280 145 (endV err sn sc da dl dc) "cairn/register.take").run Try.prog w = .ok (72, .agg #[]) w := by kernel_rfl

set_option maxRecDepth 100000 in
set_option maxHeartbeats 2000000 in
theorem take0_any (m : Value) (d : MD) (w : World) : Calls Try.prog 72 #[.agg #[], m, .agg d.cells] w (fun e w' => e = .returned (.slice none 0 0) ∧ Kept No w w') := by
  obtain ⟨w1, hw1⟩ : ∃ w1, w1 = (w.alloc (.cells #[] 107)).alloc (.cells d.cells 73) := ⟨_, rfl⟩
  have HK1 : Hid (Kept No w w1) := by rw [hw1]; exact ((Kept.refl No w).alloc _).alloc _
  go_enter Try.func72, Try.ntmps72
  go_upto_region 1 with (refine wp_boxV rfl 73 _ rfl d.cells rfl (w.heap.size + 1) (by simp) ?_)
  rw [← hw1]
  clear hw1
  go_wp2
  go_ret
  exact ⟨rfl, HK1.out⟩

section
attribute [local go_sem ↓] loadS_eq

set_option maxRecDepth 100000 in
set_option maxHeartbeats 4000000 in
theorem machTakeA_any (m : Nat) (a : Option Addr) (cap : Nat) (x : MS) (v rv : Value) (d : MD) (w : World) (Q : Ending → World → Prop) (hM : Mach w m a cap x 150 v) (hok : MdOk d) (hm : ∀ w, (method 280 150 v "cairn/register.take").run Try.prog w = .ok (84, rv) w)
    (hF : ∀ wr, Kept No w wr → Calls Try.prog 84 #[rv, .pointer (some ⟨m, 0, none⟩), .agg d.cells] wr (fun e w' => (∃ a l c, e = .returned (.slice a l c)) ∧ Q e w')) :
    Calls Try.prog 64 #[.pointer (some ⟨m, 0, none⟩), .agg d.cells] w Q := by
  have HC : Hid (∀ wr, Kept No w wr → Calls Try.prog 84 #[rv, .pointer (some ⟨m, 0, none⟩), .agg d.cells] wr (fun e w' => (∃ a l c, e = .returned (.slice a l c)) ∧ Q e w')) := hF
  have HM : Hid (Mach w m a cap x 150 v) := hM
  clear hF hM
  obtain ⟨w1, hw1⟩ : ∃ w1, w1 = w.alloc (.cells d.cells 73) := ⟨_, rfl⟩
  obtain ⟨N, hN⟩ : ∃ N, N = w.heap.size := ⟨_, rfl⟩
  have HK1 : Hid (Kept No w w1) := by rw [hw1]; exact (Kept.refl No w).alloc _
  have x3 : Box w1 N 73 d.cells := by rw [hw1, hN]; exact Box.new _ _ _
  have c9 := (HM.out.no HK1.out).box.cell 9
  simp only [mC, List.getElem?_toArray, List.getElem?_cons_zero, List.getElem?_cons_succ] at c9
  go_enter Try.func64, Try.ntmps64
  go_upto_region 1 with (refine wp_boxV rfl 73 _ rfl d.cells rfl w.heap.size rfl ?_)
  rw [← hw1, ← hN]
  clear hw1 hN
  have x4 : Box w1.drew N 73 d.cells := x3
  have HKr : Hid (Kept No w1 w1.drew) := (Kept.refl No w1).drew
  have hld : ∀ w', Box w' N 73 d.cells → Sem.run Try.prog (loadS ⟨N, 0, none⟩) w' = .ok (.agg d.cells) w' := fun w' hb => run_loadS _ d w' hb hok
  go_region_with (first
    | (go_at_call 84
       refine Calls.mono (HC.out w1.drew (HK1.out.then HKr.out)) ?_
       rintro e w2 ⟨⟨ra, rl, rc, rfl⟩, hq⟩
       have HQ : Hid (Q (.returned (.slice ra rl rc)) w2) := hq
       clear hq c9 x3 x4))
  all_goals (
    go_wp2
    go_ret
    exact HQ.out)

set_option maxRecDepth 100000 in
set_option maxHeartbeats 4000000 in
theorem machTakeL_any (m : Nat) (a : Option Addr) (cap : Nat) (x : MS) (v rv : Value) (d : MD) (w : World) (Q : Ending → World → Prop) (hM : Mach w m a cap x 163 v) (hok : MdOk d) (hm : ∀ w, (method 280 163 v "cairn/register.take").run Try.prog w = .ok (96, rv) w)
    (hF : ∀ wr, Kept No w wr → Calls Try.prog 96 #[rv, .pointer (some ⟨m, 0, none⟩), .agg d.cells] wr (fun e w' => (∃ a l c, e = .returned (.slice a l c)) ∧ Q e w')) :
    Calls Try.prog 64 #[.pointer (some ⟨m, 0, none⟩), .agg d.cells] w Q := by
  have HC : Hid (∀ wr, Kept No w wr → Calls Try.prog 96 #[rv, .pointer (some ⟨m, 0, none⟩), .agg d.cells] wr (fun e w' => (∃ a l c, e = .returned (.slice a l c)) ∧ Q e w')) := hF
  have HM : Hid (Mach w m a cap x 163 v) := hM
  clear hF hM
  obtain ⟨w1, hw1⟩ : ∃ w1, w1 = w.alloc (.cells d.cells 73) := ⟨_, rfl⟩
  obtain ⟨N, hN⟩ : ∃ N, N = w.heap.size := ⟨_, rfl⟩
  have HK1 : Hid (Kept No w w1) := by rw [hw1]; exact (Kept.refl No w).alloc _
  have x3 : Box w1 N 73 d.cells := by rw [hw1, hN]; exact Box.new _ _ _
  have c9 := (HM.out.no HK1.out).box.cell 9
  simp only [mC, List.getElem?_toArray, List.getElem?_cons_zero, List.getElem?_cons_succ] at c9
  go_enter Try.func64, Try.ntmps64
  go_upto_region 1 with (refine wp_boxV rfl 73 _ rfl d.cells rfl w.heap.size rfl ?_)
  rw [← hw1, ← hN]
  clear hw1 hN
  have x4 : Box w1.drew N 73 d.cells := x3
  have HKr : Hid (Kept No w1 w1.drew) := (Kept.refl No w1).drew
  have hld : ∀ w', Box w' N 73 d.cells → Sem.run Try.prog (loadS ⟨N, 0, none⟩) w' = .ok (.agg d.cells) w' := fun w' hb => run_loadS _ d w' hb hok
  go_region_with (first
    | (go_at_call 96
       refine Calls.mono (HC.out w1.drew (HK1.out.then HKr.out)) ?_
       rintro e w2 ⟨⟨ra, rl, rc, rfl⟩, hq⟩
       have HQ : Hid (Q (.returned (.slice ra rl rc)) w2) := hq
       clear hq c9 x3 x4))
  all_goals (
    go_wp2
    go_ret
    exact HQ.out)

set_option maxRecDepth 100000 in
set_option maxHeartbeats 4000000 in
theorem machTakeE_any (m : Nat) (a : Option Addr) (cap : Nat) (x : MS) (v rv : Value) (d : MD) (w : World) (Q : Ending → World → Prop) (hM : Mach w m a cap x 145 v) (hok : MdOk d) (hm : ∀ w, (method 280 145 v "cairn/register.take").run Try.prog w = .ok (72, rv) w)
    (hF : ∀ wr, Kept No w wr → Calls Try.prog 72 #[rv, .pointer (some ⟨m, 0, none⟩), .agg d.cells] wr (fun e w' => (∃ a l c, e = .returned (.slice a l c)) ∧ Q e w')) :
    Calls Try.prog 64 #[.pointer (some ⟨m, 0, none⟩), .agg d.cells] w Q := by
  have HC : Hid (∀ wr, Kept No w wr → Calls Try.prog 72 #[rv, .pointer (some ⟨m, 0, none⟩), .agg d.cells] wr (fun e w' => (∃ a l c, e = .returned (.slice a l c)) ∧ Q e w')) := hF
  have HM : Hid (Mach w m a cap x 145 v) := hM
  clear hF hM
  obtain ⟨w1, hw1⟩ : ∃ w1, w1 = w.alloc (.cells d.cells 73) := ⟨_, rfl⟩
  obtain ⟨N, hN⟩ : ∃ N, N = w.heap.size := ⟨_, rfl⟩
  have HK1 : Hid (Kept No w w1) := by rw [hw1]; exact (Kept.refl No w).alloc _
  have x3 : Box w1 N 73 d.cells := by rw [hw1, hN]; exact Box.new _ _ _
  have c9 := (HM.out.no HK1.out).box.cell 9
  simp only [mC, List.getElem?_toArray, List.getElem?_cons_zero, List.getElem?_cons_succ] at c9
  go_enter Try.func64, Try.ntmps64
  go_upto_region 1 with (refine wp_boxV rfl 73 _ rfl d.cells rfl w.heap.size rfl ?_)
  rw [← hw1, ← hN]
  clear hw1 hN
  have x4 : Box w1.drew N 73 d.cells := x3
  have HKr : Hid (Kept No w1 w1.drew) := (Kept.refl No w1).drew
  have hld : ∀ w', Box w' N 73 d.cells → Sem.run Try.prog (loadS ⟨N, 0, none⟩) w' = .ok (.agg d.cells) w' := fun w' hb => run_loadS _ d w' hb hok
  go_region_with (first
    | (go_at_call 72
       refine Calls.mono (HC.out w1.drew (HK1.out.then HKr.out)) ?_
       rintro e w2 ⟨⟨ra, rl, rc, rfl⟩, hq⟩
       have HQ : Hid (Q (.returned (.slice ra rl rc)) w2) := hq
       clear hq c9 x3 x4))
  all_goals (
    go_wp2
    go_ret
    exact HQ.out)
end

end Go.Proofs.Ytgiokkcdgoloaab
