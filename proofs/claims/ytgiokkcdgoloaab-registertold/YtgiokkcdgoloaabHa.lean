import Derived.Test.YtgiokkcdgoloaabGr
namespace Go.Proofs.Ytgiokkcdgoloaab
open Go.RowKit
set_option linter.unusedVariables false
set_option linter.unusedSimpArgs false

/-- A machine's phase at its end. -/
def endV (err sn sc : Int) (da : Option Addr) (dl dc : Nat) : Value := .agg (resC err sn sc da dl dc)
/-- The second phase. -/
def layV (n c : Int) (a : Option Addr) (l k : Nat) (err sn sc : Int) (da : Option Addr) (dl dc : Nat) (ub : Nat) : Value :=
  .agg #[.int .i64 n, .int .i64 c, .slice a l k, .int .i64 err, .string ⟨#[]⟩, .int .i64 0, .int .i64 0, .int .i64 0, .slice none 0 0, .slice da dl dc, .int .i64 0, .int .i64 sn, .int .i64 sc, .int .i64 0, .pointer (some ⟨ub, 0, none⟩)]

set_option maxRecDepth 100000 in
set_option maxHeartbeats 2000000 in
theorem tick0_any (m : Value) (w : World) : Calls Try.prog 73 #[.agg #[], m] w (fun e w' => e = .returned (.slice none 0 0) ∧ Kept No w w') := by
  go_enter Try.func73, Try.ntmps73
  go_wp2
  go_ret
  exact ⟨rfl, (Kept.refl No w).alloc _⟩

theorem meth_tickE (err sn sc : Int) (da : Option Addr) (dl dc : Nat) (w : World) : (method 280 145 (endV err sn sc da dl dc) "cairn/register.tick").run Try.prog w = .ok (73, .agg #[]) w := by kernel_rfl
theorem meth_tickL (n c : Int) (a : Option Addr) (l k : Nat) (err sn sc : Int) (da : Option Addr) (dl dc : Nat) (ub : Nat) (w : World) : (method 280 163 (layV n c a l k err sn sc da dl dc ub) "cairn/register.tick").run Try.prog w = .ok (97, layV n c a l k err sn sc da dl dc ub) w := by kernel_rfl
theorem meth_doneE (err sn sc : Int) (da : Option Addr) (dl dc : Nat) (w : World) : (method 280 145 (endV err sn sc da dl dc) "cairn/register.done").run Try.prog w = .ok (80, endV err sn sc da dl dc) w := by kernel_rfl
theorem meth_doneL (n c : Int) (a : Option Addr) (l k : Nat) (err sn sc : Int) (da : Option Addr) (dl dc : Nat) (ub : Nat) (w : World) : (method 280 163 (layV n c a l k err sn sc da dl dc ub) "cairn/register.done").run Try.prog w = .ok (71, .agg #[]) w := by kernel_rfl

set_option maxRecDepth 100000 in
set_option maxHeartbeats 2000000 in
theorem enterE_any (m : Nat) (a : Option Addr) (cap : Nat) (x : MS) (t : TypeId) (v : Value) (err sn sc : Int) (da : Option Addr) (dl dc : Nat) (w : World) (hM : Mach w m a cap x t v) :
    Calls Try.prog 75 #[.pointer (some ⟨m, 0, none⟩), .iface 145 (endV err sn sc da dl dc)] w (fun e w' => e = .returned (.slice none 0 0) ∧ Mach w' m a cap x 145 (endV err sn sc da dl dc) ∧ Kept (Only m) w w') := by
  have c9 := hM.box.cell 9
  have f9 := hM.box.frozen 9
  simp only [mC, List.getElem?_toArray, List.getElem?_cons_zero, List.getElem?_cons_succ] at c9
  have hm := meth_tickE err sn sc da dl dc
  generalize endV err sn sc da dl dc = EV at hm ⊢
  obtain ⟨w1, hw1⟩ : ∃ w1, w1 = w.setCell ⟨m, 9, none⟩ (.iface 145 EV) := ⟨_, rfl⟩
  have HM1 : Hid (Mach w1 m a cap x 145 EV) := by rw [hw1]; exact hM.setPhase _ _
  have HK1 : Hid (Kept (Only m) w w1) := by rw [hw1]; exact (Kept.refl (Only m) w).setCell (p := ⟨m, 9, none⟩) (fun _ => rfl) _
  clear hM
  go_enter Try.func75, Try.ntmps75
  go_wp2_with (go_at_call 73
               rw [← hw1]
               refine Calls.mono (tick0_any _ w1) ?_
               rintro e w3 ⟨rfl, hk3⟩
               have HM3 : Hid (Mach w3 m a cap x 145 EV) := HM1.out.no hk3
               have HK3 : Hid (Kept (Only m) w w3) := HK1.out.then hk3.of_no
               clear hk3 hw1)
  go_ret
  exact ⟨rfl, HM3.out, HK3.out⟩

end Go.Proofs.Ytgiokkcdgoloaab
