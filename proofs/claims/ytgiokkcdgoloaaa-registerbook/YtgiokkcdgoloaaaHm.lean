import Derived.Test.YtgiokkcdgoloaaaHl
namespace Go.Proofs.Ytgiokkcdgoloaaa
open Go.RowKit
set_option linter.unusedVariables false
set_option linter.unusedSimpArgs false

section
attribute [local go_sem ↓] loadS_eq

set_option maxRecDepth 100000 in
set_option maxHeartbeats 4000000 in
theorem takeA_passW (m : Nat) (a : Option Addr) (cap : Nat) (x : MS) (av : Value) (tb bb ct : Nat) (at' : Option Addr) (X : TS Bk) (d : MD) (w : World) (hM : Mach w m a cap x 182 (.agg #[.iface 118 av, .pointer (some ⟨tb, 0, none⟩)])) (hT : Tal 185 ansB w tb bb at' ct X) (hok : MdOk d) (hhit : hitB x 11 d = false) :
    Calls Try.prog 105 #[.agg #[.iface 118 av, .pointer (some ⟨tb, 0, none⟩)], .pointer (some ⟨m, 0, none⟩), .agg d.cells] w (fun e w' => e = .returned (.slice none 0 0) ∧ Kept No w w') := by
  have HM : Hid (Mach w m a cap x 182 (.agg #[.iface 118 av, .pointer (some ⟨tb, 0, none⟩)])) := hM
  have HT : Hid (Tal 185 ansB w tb bb at' ct X) := hT
  have HOk : Hid (MdOk d) := hok
  have HH : Hid (hitB x 11 d = false) := hhit
  clear hM hT hhit
  obtain ⟨w1, hw1⟩ : ∃ w1, w1 = (w.alloc (.cells #[.iface 118 av, .pointer (some ⟨tb, 0, none⟩)] 182)).alloc (.cells d.cells 52) := ⟨_, rfl⟩
  obtain ⟨N, hN⟩ : ∃ N, N = w.heap.size := ⟨_, rfl⟩
  have HNN : Hid (N = w.heap.size) := hN
  have HK1 : Hid (Kept No w w1) := by rw [hw1]; exact ((Kept.refl No w).alloc _).alloc _
  have HX0 : Hid (Box w1 N 182 #[.iface 118 av, .pointer (some ⟨tb, 0, none⟩)]) := by rw [hw1, hN]; exact (Box.new _ _ _).alloc _
  have HX1 : Hid (Box w1 (N + 1) 52 d.cells) := by
    have h := Box.new (w.alloc (.cells #[.iface 118 av, .pointer (some ⟨tb, 0, none⟩)] 182)) 52 d.cells
    have e : (w.alloc (.cells #[.iface 118 av, .pointer (some ⟨tb, 0, none⟩)] 182)).heap.size = w.heap.size + 1 := by simp
    rw [e] at h
    rw [hw1, hN]
    exact h
  have HXc : Hid (∀ wr, Kept (Tb2 tb bb) w1 wr → (wr.cell? ⟨N, 0, none⟩ = some (.iface 118 av) ∧ wr.cell? ⟨N, 1, none⟩ = some (.pointer (some ⟨tb, 0, none⟩)) ∧ wr.cell? ⟨N + 1, 2, none⟩ = some (.int .i64 d.fi)) ∧ Box wr (N + 1) 52 d.cells) := fun wr hk => by
    have hlt1 := HT.out.box.lt
    have hlt2 := HT.out.map.lt
    have hn := HNN.out
    have h0 := HX0.out.kept hk (fun e => by rcases e with e | e <;> omega)
    have h1 := HX1.out.kept hk (fun e => by rcases e with e | e <;> omega)
    exact ⟨⟨h0.cell 0, h0.cell 1, md_at h1 2 (by omega)⟩, h1⟩
  go_enter Try.func105, Try.ntmps105
  go_upto_region 1 with (refine wp_boxV rfl 52 _ rfl d.cells rfl (w.heap.size + 1) (by simp) ?_)
  rw [← hw1, ← hN]
  clear hw1 hN
  obtain ⟨⟨x0, x1, x2⟩, x3⟩ := HXc.out w1 (Kept.refl _ _)
  have x4 : Box w1.drew (N + 1) 52 d.cells := x3
  have HKr : Hid (Kept No w1 w1.drew) := (Kept.refl No w1).drew
  have hld : ∀ w', Box w' (N + 1) 52 d.cells → Sem.run Try.prog (loadS ⟨N + 1, 0, none⟩) w' = .ok (.agg d.cells) w' := fun w' hb => run_loadS _ d w' hb hok
  refine wp_region_held_drew (S := fun w' => Box w' (N + 1) 52 d.cells) rfl x4 (fun hHeld => ?_)
  refine wpAnyH_take (i := 0) (oi := { dst := some 10, op := Op.move (Operand.tmp 1), type := 115, pos := "phase.go:52", after := #[], guard := none }) (v := _) rfl (by kernel_rfl) (by kernel_rfl) (by kernel_rfl) (fun _ _ _ h => h) (Or.inl ⟨by rfl, by intro w hSw; exact rfl⟩) (by assumption) ?_
  try simp only [Act.put, List.setIfInBounds_toArray, List.set_cons_zero, List.set_cons_succ]
  refine wpAnyH_take (i := 1) (oi := { dst := some 11, op := Op.load 52 (Operand.tmp 5), type := 52, pos := "phase.go:52", after := #[], guard := none }) (v := .agg d.cells) rfl (by kernel_rfl) (by kernel_rfl) (by kernel_rfl) (fun _ _ _ h => h) (Or.inl ⟨by rfl, by intro w hSw; go_simp⟩) (by assumption) ?_
  try simp only [Act.put, List.setIfInBounds_toArray, List.set_cons_zero, List.set_cons_succ]
  refine wpAnyH_ready (rs := [2]) (by kernel_rfl) (by simp) ?_
  refine AllReadyH.cons rfl (fun K hK => ?_) AllReadyH.nil
  go_simp
  go_at_call 107
  refine Calls.mono (answered_any m a cap x _ _ d 11 w1.drew (HM.out.no (HK1.out.then HKr.out))) ?_
  rintro e w2 ⟨rfl, hk2⟩
  rw [HH.out]
  have HK2 : Hid (Kept No w1 w2) := HKr.out.then hk2
  have y3 := (HXc.out w2 HK2.out.of_no).2
  clear hk2 hHeld
  go_wp2_with fail
  refine hK.out _ _ y3 (fun hHeld => ?_)
  refine wpAnyH_take (i := 3) (oi := { dst := some 13, op := Op.unOp UnOp.not 4 (Operand.tmp 12), type := 4, pos := "phase.go:52", after := #[{ on := 2, ground := Ground.data }], guard := none }) (v := .bool true) rfl (by kernel_rfl) (by kernel_rfl) (by kernel_rfl) (fun _ _ _ h => h) (Or.inl ⟨by rfl, by intro w hSw; go_simp⟩) (by assumption) ?_
  try simp only [Act.put, List.setIfInBounds_toArray, List.set_cons_zero, List.set_cons_succ]
  refine wpAnyH_take (i := 4) (oi := { dst := some 14, op := Op.move (Operand.tmp 13), type := 4, pos := "phase.go:52", after := #[{ on := 3, ground := Ground.data }, { on := 2, ground := Ground.chain }], guard := none }) (v := .bool true) rfl (by kernel_rfl) (by kernel_rfl) (by kernel_rfl) (fun _ _ _ h => h) (Or.inl ⟨by rfl, by intro w hSw; go_simp⟩) (by assumption) ?_
  try simp only [Act.put, List.setIfInBounds_toArray, List.set_cons_zero, List.set_cons_succ]
  refine wpAnyH_take (i := 5) (oi := { dst := some 15, op := Op.fieldAddr 182 (Operand.tmp 3) 2, type := 0, pos := "phase.go:52", after := #[{ on := 4, ground := Ground.guard }], guard := some (4, false) }) (v := undef) rfl (by kernel_rfl) (by kernel_rfl) (by kernel_rfl) (fun _ _ _ h => h) (Or.inr ⟨by rfl, rfl⟩) (by assumption) ?_
  try simp only [Act.put, List.setIfInBounds_toArray, List.set_cons_zero, List.set_cons_succ]
  refine wpAnyH_take (i := 6) (oi := { dst := some 16, op := Op.load 179 (Operand.tmp 15), type := 179, pos := "phase.go:52", after := #[{ on := 5, ground := Ground.data }, { on := 4, ground := Ground.guard }], guard := some (4, false) }) (v := undef) rfl (by kernel_rfl) (by kernel_rfl) (by kernel_rfl) (fun _ _ _ h => h) (Or.inr ⟨by rfl, rfl⟩) (by assumption) ?_
  try simp only [Act.put, List.setIfInBounds_toArray, List.set_cons_zero, List.set_cons_succ]
  refine wpAnyH_take (i := 7) (oi := { dst := some 17, op := Op.fieldAddr 52 (Operand.tmp 5) 1, type := 0, pos := "phase.go:52", after := #[{ on := 4, ground := Ground.guard }], guard := some (4, false) }) (v := undef) rfl (by kernel_rfl) (by kernel_rfl) (by kernel_rfl) (fun _ _ _ h => h) (Or.inr ⟨by rfl, rfl⟩) (by assumption) ?_
  try simp only [Act.put, List.setIfInBounds_toArray, List.set_cons_zero, List.set_cons_succ]
  refine wpAnyH_take (i := 8) (oi := { dst := some 18, op := Op.fieldAddr 39 (Operand.tmp 17) 1, type := 0, pos := "phase.go:52", after := #[{ on := 7, ground := Ground.data }, { on := 4, ground := Ground.guard }], guard := some (4, false) }) (v := undef) rfl (by kernel_rfl) (by kernel_rfl) (by kernel_rfl) (fun _ _ _ h => h) (Or.inr ⟨by rfl, rfl⟩) (by assumption) ?_
  try simp only [Act.put, List.setIfInBounds_toArray, List.set_cons_zero, List.set_cons_succ]
  refine wpAnyH_take (i := 9) (oi := { dst := some 19, op := Op.load 3 (Operand.tmp 18), type := 3, pos := "phase.go:52", after := #[{ on := 8, ground := Ground.data }, { on := 4, ground := Ground.guard }], guard := some (4, false) }) (v := undef) rfl (by kernel_rfl) (by kernel_rfl) (by kernel_rfl) (fun _ _ _ h => h) (Or.inr ⟨by rfl, rfl⟩) (by assumption) ?_
  try simp only [Act.put, List.setIfInBounds_toArray, List.set_cons_zero, List.set_cons_succ]
  refine wpAnyH_take (i := 10) (oi := { dst := some 20, op := Op.fieldAddr 182 (Operand.tmp 3) 1, type := 0, pos := "phase.go:52", after := #[{ on := 4, ground := Ground.guard }], guard := some (4, false) }) (v := undef) rfl (by kernel_rfl) (by kernel_rfl) (by kernel_rfl) (fun _ _ _ h => h) (Or.inr ⟨by rfl, rfl⟩) (by assumption) ?_
  try simp only [Act.put, List.setIfInBounds_toArray, List.set_cons_zero, List.set_cons_succ]
  refine wpAnyH_take (i := 11) (oi := { dst := some 21, op := Op.load 131 (Operand.tmp 20), type := 131, pos := "phase.go:52", after := #[{ on := 10, ground := Ground.data }, { on := 4, ground := Ground.guard }], guard := some (4, false) }) (v := undef) rfl (by kernel_rfl) (by kernel_rfl) (by kernel_rfl) (fun _ _ _ h => h) (Or.inr ⟨by rfl, rfl⟩) (by assumption) ?_
  try simp only [Act.put, List.setIfInBounds_toArray, List.set_cons_zero, List.set_cons_succ]
  refine wpAnyH_take (i := 12) (oi := { dst := some 22, op := Op.load 52 (Operand.tmp 5), type := 52, pos := "phase.go:52", after := #[{ on := 4, ground := Ground.guard }], guard := some (4, false) }) (v := undef) rfl (by kernel_rfl) (by kernel_rfl) (by kernel_rfl) (fun _ _ _ h => h) (Or.inr ⟨by rfl, rfl⟩) (by assumption) ?_
  try simp only [Act.put, List.setIfInBounds_toArray, List.set_cons_zero, List.set_cons_succ]
  refine wpAnyH_take (i := 13) (oi := { dst := some 23, op := Op.call { callee := Callee.invoke (Operand.tmp 21) "cairn/register.keep", args := #[Operand.tmp 22], argTypes := #[52] }, type := 57, pos := "phase.go:52", after := #[{ on := 11, ground := Ground.data }, { on := 12, ground := Ground.data }, { on := 4, ground := Ground.chain }, { on := 4, ground := Ground.guard }], guard := some (4, false) }) (v := undef) rfl (by kernel_rfl) (by kernel_rfl) (by kernel_rfl) (fun _ _ _ h => h) (Or.inr ⟨by rfl, rfl⟩) (by assumption) ?_
  try simp only [Act.put, List.setIfInBounds_toArray, List.set_cons_zero, List.set_cons_succ]
  refine wpAnyH_take (i := 14) (oi := { dst := some 24, op := Op.call { callee := Callee.value (Operand.func 104), args := #[Operand.tmp 16, Operand.tmp 19, Operand.tmp 23], argTypes := #[179, 3, 57] }, type := 4, pos := "phase.go:52", after := #[{ on := 6, ground := Ground.data }, { on := 9, ground := Ground.data }, { on := 13, ground := Ground.data }, { on := 13, ground := Ground.chain }, { on := 4, ground := Ground.guard }], guard := some (4, false) }) (v := undef) rfl (by kernel_rfl) (by kernel_rfl) (by kernel_rfl) (fun _ _ _ h => h) (Or.inr ⟨by rfl, rfl⟩) (by assumption) ?_
  try simp only [Act.put, List.setIfInBounds_toArray, List.set_cons_zero, List.set_cons_succ]
  refine wpAnyH_take (i := 15) (oi := { dst := some 25, op := Op.unOp UnOp.not 4 (Operand.tmp 24), type := 4, pos := "phase.go:52", after := #[{ on := 14, ground := Ground.data }, { on := 4, ground := Ground.guard }], guard := some (4, false) }) (v := undef) rfl (by kernel_rfl) (by kernel_rfl) (by kernel_rfl) (fun _ _ _ h => h) (Or.inr ⟨by rfl, rfl⟩) (by assumption) ?_
  try simp only [Act.put, List.setIfInBounds_toArray, List.set_cons_zero, List.set_cons_succ]
  refine wpAnyH_take (i := 16) (oi := { dst := some 26, op := Op.pick (Operand.tmp 14) (Operand.const (Value.bool true)) (Operand.tmp 25), type := 4, pos := "phase.go:52", after := #[{ on := 4, ground := Ground.data }, { on := 15, ground := Ground.data }], guard := none }) (v := .bool true) rfl (by kernel_rfl) (by kernel_rfl) (by kernel_rfl) (fun _ _ _ h => h) (Or.inl ⟨by rfl, by intro w hSw; go_simp⟩) (by assumption) ?_
  try simp only [Act.put, List.setIfInBounds_toArray, List.set_cons_zero, List.set_cons_succ]
  refine wpAnyH_done (by kernel_rfl) ?_ _
  go_wp2
  go_ret
  exact ⟨rfl, HK1.out.then HK2.out⟩

set_option maxRecDepth 100000 in
set_option maxHeartbeats 4000000 in
theorem takeA_passR (m : Nat) (a : Option Addr) (cap : Nat) (x : MS) (av : Value) (tb bb ct : Nat) (at' : Option Addr) (X : TS Bk) (d : MD) (w : World) (hM : Mach w m a cap x 182 (.agg #[.iface 120 av, .pointer (some ⟨tb, 0, none⟩)])) (hT : Tal 185 ansB w tb bb at' ct X) (hok : MdOk d) (hhit : hitB x 11 d = false) :
    Calls Try.prog 105 #[.agg #[.iface 120 av, .pointer (some ⟨tb, 0, none⟩)], .pointer (some ⟨m, 0, none⟩), .agg d.cells] w (fun e w' => e = .returned (.slice none 0 0) ∧ Kept No w w') := by
  have HM : Hid (Mach w m a cap x 182 (.agg #[.iface 120 av, .pointer (some ⟨tb, 0, none⟩)])) := hM
  have HT : Hid (Tal 185 ansB w tb bb at' ct X) := hT
  have HOk : Hid (MdOk d) := hok
  have HH : Hid (hitB x 11 d = false) := hhit
  clear hM hT hhit
  obtain ⟨w1, hw1⟩ : ∃ w1, w1 = (w.alloc (.cells #[.iface 120 av, .pointer (some ⟨tb, 0, none⟩)] 182)).alloc (.cells d.cells 52) := ⟨_, rfl⟩
  obtain ⟨N, hN⟩ : ∃ N, N = w.heap.size := ⟨_, rfl⟩
  have HNN : Hid (N = w.heap.size) := hN
  have HK1 : Hid (Kept No w w1) := by rw [hw1]; exact ((Kept.refl No w).alloc _).alloc _
  have HX0 : Hid (Box w1 N 182 #[.iface 120 av, .pointer (some ⟨tb, 0, none⟩)]) := by rw [hw1, hN]; exact (Box.new _ _ _).alloc _
  have HX1 : Hid (Box w1 (N + 1) 52 d.cells) := by
    have h := Box.new (w.alloc (.cells #[.iface 120 av, .pointer (some ⟨tb, 0, none⟩)] 182)) 52 d.cells
    have e : (w.alloc (.cells #[.iface 120 av, .pointer (some ⟨tb, 0, none⟩)] 182)).heap.size = w.heap.size + 1 := by simp
    rw [e] at h
    rw [hw1, hN]
    exact h
  have HXc : Hid (∀ wr, Kept (Tb2 tb bb) w1 wr → (wr.cell? ⟨N, 0, none⟩ = some (.iface 120 av) ∧ wr.cell? ⟨N, 1, none⟩ = some (.pointer (some ⟨tb, 0, none⟩)) ∧ wr.cell? ⟨N + 1, 2, none⟩ = some (.int .i64 d.fi)) ∧ Box wr (N + 1) 52 d.cells) := fun wr hk => by
    have hlt1 := HT.out.box.lt
    have hlt2 := HT.out.map.lt
    have hn := HNN.out
    have h0 := HX0.out.kept hk (fun e => by rcases e with e | e <;> omega)
    have h1 := HX1.out.kept hk (fun e => by rcases e with e | e <;> omega)
    exact ⟨⟨h0.cell 0, h0.cell 1, md_at h1 2 (by omega)⟩, h1⟩
  go_enter Try.func105, Try.ntmps105
  go_upto_region 1 with (refine wp_boxV rfl 52 _ rfl d.cells rfl (w.heap.size + 1) (by simp) ?_)
  rw [← hw1, ← hN]
  clear hw1 hN
  obtain ⟨⟨x0, x1, x2⟩, x3⟩ := HXc.out w1 (Kept.refl _ _)
  have x4 : Box w1.drew (N + 1) 52 d.cells := x3
  have HKr : Hid (Kept No w1 w1.drew) := (Kept.refl No w1).drew
  have hld : ∀ w', Box w' (N + 1) 52 d.cells → Sem.run Try.prog (loadS ⟨N + 1, 0, none⟩) w' = .ok (.agg d.cells) w' := fun w' hb => run_loadS _ d w' hb hok
  refine wp_region_held_drew (S := fun w' => Box w' (N + 1) 52 d.cells) rfl x4 (fun hHeld => ?_)
  refine wpAnyH_take (i := 0) (oi := { dst := some 10, op := Op.move (Operand.tmp 1), type := 115, pos := "phase.go:52", after := #[], guard := none }) (v := _) rfl (by kernel_rfl) (by kernel_rfl) (by kernel_rfl) (fun _ _ _ h => h) (Or.inl ⟨by rfl, by intro w hSw; exact rfl⟩) (by assumption) ?_
  try simp only [Act.put, List.setIfInBounds_toArray, List.set_cons_zero, List.set_cons_succ]
  refine wpAnyH_take (i := 1) (oi := { dst := some 11, op := Op.load 52 (Operand.tmp 5), type := 52, pos := "phase.go:52", after := #[], guard := none }) (v := .agg d.cells) rfl (by kernel_rfl) (by kernel_rfl) (by kernel_rfl) (fun _ _ _ h => h) (Or.inl ⟨by rfl, by intro w hSw; go_simp⟩) (by assumption) ?_
  try simp only [Act.put, List.setIfInBounds_toArray, List.set_cons_zero, List.set_cons_succ]
  refine wpAnyH_ready (rs := [2]) (by kernel_rfl) (by simp) ?_
  refine AllReadyH.cons rfl (fun K hK => ?_) AllReadyH.nil
  go_simp
  go_at_call 107
  refine Calls.mono (answered_any m a cap x _ _ d 11 w1.drew (HM.out.no (HK1.out.then HKr.out))) ?_
  rintro e w2 ⟨rfl, hk2⟩
  rw [HH.out]
  have HK2 : Hid (Kept No w1 w2) := HKr.out.then hk2
  have y3 := (HXc.out w2 HK2.out.of_no).2
  clear hk2 hHeld
  go_wp2_with fail
  refine hK.out _ _ y3 (fun hHeld => ?_)
  refine wpAnyH_take (i := 3) (oi := { dst := some 13, op := Op.unOp UnOp.not 4 (Operand.tmp 12), type := 4, pos := "phase.go:52", after := #[{ on := 2, ground := Ground.data }], guard := none }) (v := .bool true) rfl (by kernel_rfl) (by kernel_rfl) (by kernel_rfl) (fun _ _ _ h => h) (Or.inl ⟨by rfl, by intro w hSw; go_simp⟩) (by assumption) ?_
  try simp only [Act.put, List.setIfInBounds_toArray, List.set_cons_zero, List.set_cons_succ]
  refine wpAnyH_take (i := 4) (oi := { dst := some 14, op := Op.move (Operand.tmp 13), type := 4, pos := "phase.go:52", after := #[{ on := 3, ground := Ground.data }, { on := 2, ground := Ground.chain }], guard := none }) (v := .bool true) rfl (by kernel_rfl) (by kernel_rfl) (by kernel_rfl) (fun _ _ _ h => h) (Or.inl ⟨by rfl, by intro w hSw; go_simp⟩) (by assumption) ?_
  try simp only [Act.put, List.setIfInBounds_toArray, List.set_cons_zero, List.set_cons_succ]
  refine wpAnyH_take (i := 5) (oi := { dst := some 15, op := Op.fieldAddr 182 (Operand.tmp 3) 2, type := 0, pos := "phase.go:52", after := #[{ on := 4, ground := Ground.guard }], guard := some (4, false) }) (v := undef) rfl (by kernel_rfl) (by kernel_rfl) (by kernel_rfl) (fun _ _ _ h => h) (Or.inr ⟨by rfl, rfl⟩) (by assumption) ?_
  try simp only [Act.put, List.setIfInBounds_toArray, List.set_cons_zero, List.set_cons_succ]
  refine wpAnyH_take (i := 6) (oi := { dst := some 16, op := Op.load 179 (Operand.tmp 15), type := 179, pos := "phase.go:52", after := #[{ on := 5, ground := Ground.data }, { on := 4, ground := Ground.guard }], guard := some (4, false) }) (v := undef) rfl (by kernel_rfl) (by kernel_rfl) (by kernel_rfl) (fun _ _ _ h => h) (Or.inr ⟨by rfl, rfl⟩) (by assumption) ?_
  try simp only [Act.put, List.setIfInBounds_toArray, List.set_cons_zero, List.set_cons_succ]
  refine wpAnyH_take (i := 7) (oi := { dst := some 17, op := Op.fieldAddr 52 (Operand.tmp 5) 1, type := 0, pos := "phase.go:52", after := #[{ on := 4, ground := Ground.guard }], guard := some (4, false) }) (v := undef) rfl (by kernel_rfl) (by kernel_rfl) (by kernel_rfl) (fun _ _ _ h => h) (Or.inr ⟨by rfl, rfl⟩) (by assumption) ?_
  try simp only [Act.put, List.setIfInBounds_toArray, List.set_cons_zero, List.set_cons_succ]
  refine wpAnyH_take (i := 8) (oi := { dst := some 18, op := Op.fieldAddr 39 (Operand.tmp 17) 1, type := 0, pos := "phase.go:52", after := #[{ on := 7, ground := Ground.data }, { on := 4, ground := Ground.guard }], guard := some (4, false) }) (v := undef) rfl (by kernel_rfl) (by kernel_rfl) (by kernel_rfl) (fun _ _ _ h => h) (Or.inr ⟨by rfl, rfl⟩) (by assumption) ?_
  try simp only [Act.put, List.setIfInBounds_toArray, List.set_cons_zero, List.set_cons_succ]
  refine wpAnyH_take (i := 9) (oi := { dst := some 19, op := Op.load 3 (Operand.tmp 18), type := 3, pos := "phase.go:52", after := #[{ on := 8, ground := Ground.data }, { on := 4, ground := Ground.guard }], guard := some (4, false) }) (v := undef) rfl (by kernel_rfl) (by kernel_rfl) (by kernel_rfl) (fun _ _ _ h => h) (Or.inr ⟨by rfl, rfl⟩) (by assumption) ?_
  try simp only [Act.put, List.setIfInBounds_toArray, List.set_cons_zero, List.set_cons_succ]
  refine wpAnyH_take (i := 10) (oi := { dst := some 20, op := Op.fieldAddr 182 (Operand.tmp 3) 1, type := 0, pos := "phase.go:52", after := #[{ on := 4, ground := Ground.guard }], guard := some (4, false) }) (v := undef) rfl (by kernel_rfl) (by kernel_rfl) (by kernel_rfl) (fun _ _ _ h => h) (Or.inr ⟨by rfl, rfl⟩) (by assumption) ?_
  try simp only [Act.put, List.setIfInBounds_toArray, List.set_cons_zero, List.set_cons_succ]
  refine wpAnyH_take (i := 11) (oi := { dst := some 21, op := Op.load 131 (Operand.tmp 20), type := 131, pos := "phase.go:52", after := #[{ on := 10, ground := Ground.data }, { on := 4, ground := Ground.guard }], guard := some (4, false) }) (v := undef) rfl (by kernel_rfl) (by kernel_rfl) (by kernel_rfl) (fun _ _ _ h => h) (Or.inr ⟨by rfl, rfl⟩) (by assumption) ?_
  try simp only [Act.put, List.setIfInBounds_toArray, List.set_cons_zero, List.set_cons_succ]
  refine wpAnyH_take (i := 12) (oi := { dst := some 22, op := Op.load 52 (Operand.tmp 5), type := 52, pos := "phase.go:52", after := #[{ on := 4, ground := Ground.guard }], guard := some (4, false) }) (v := undef) rfl (by kernel_rfl) (by kernel_rfl) (by kernel_rfl) (fun _ _ _ h => h) (Or.inr ⟨by rfl, rfl⟩) (by assumption) ?_
  try simp only [Act.put, List.setIfInBounds_toArray, List.set_cons_zero, List.set_cons_succ]
  refine wpAnyH_take (i := 13) (oi := { dst := some 23, op := Op.call { callee := Callee.invoke (Operand.tmp 21) "cairn/register.keep", args := #[Operand.tmp 22], argTypes := #[52] }, type := 57, pos := "phase.go:52", after := #[{ on := 11, ground := Ground.data }, { on := 12, ground := Ground.data }, { on := 4, ground := Ground.chain }, { on := 4, ground := Ground.guard }], guard := some (4, false) }) (v := undef) rfl (by kernel_rfl) (by kernel_rfl) (by kernel_rfl) (fun _ _ _ h => h) (Or.inr ⟨by rfl, rfl⟩) (by assumption) ?_
  try simp only [Act.put, List.setIfInBounds_toArray, List.set_cons_zero, List.set_cons_succ]
  refine wpAnyH_take (i := 14) (oi := { dst := some 24, op := Op.call { callee := Callee.value (Operand.func 104), args := #[Operand.tmp 16, Operand.tmp 19, Operand.tmp 23], argTypes := #[179, 3, 57] }, type := 4, pos := "phase.go:52", after := #[{ on := 6, ground := Ground.data }, { on := 9, ground := Ground.data }, { on := 13, ground := Ground.data }, { on := 13, ground := Ground.chain }, { on := 4, ground := Ground.guard }], guard := some (4, false) }) (v := undef) rfl (by kernel_rfl) (by kernel_rfl) (by kernel_rfl) (fun _ _ _ h => h) (Or.inr ⟨by rfl, rfl⟩) (by assumption) ?_
  try simp only [Act.put, List.setIfInBounds_toArray, List.set_cons_zero, List.set_cons_succ]
  refine wpAnyH_take (i := 15) (oi := { dst := some 25, op := Op.unOp UnOp.not 4 (Operand.tmp 24), type := 4, pos := "phase.go:52", after := #[{ on := 14, ground := Ground.data }, { on := 4, ground := Ground.guard }], guard := some (4, false) }) (v := undef) rfl (by kernel_rfl) (by kernel_rfl) (by kernel_rfl) (fun _ _ _ h => h) (Or.inr ⟨by rfl, rfl⟩) (by assumption) ?_
  try simp only [Act.put, List.setIfInBounds_toArray, List.set_cons_zero, List.set_cons_succ]
  refine wpAnyH_take (i := 16) (oi := { dst := some 26, op := Op.pick (Operand.tmp 14) (Operand.const (Value.bool true)) (Operand.tmp 25), type := 4, pos := "phase.go:52", after := #[{ on := 4, ground := Ground.data }, { on := 15, ground := Ground.data }], guard := none }) (v := .bool true) rfl (by kernel_rfl) (by kernel_rfl) (by kernel_rfl) (fun _ _ _ h => h) (Or.inl ⟨by rfl, by intro w hSw; go_simp⟩) (by assumption) ?_
  try simp only [Act.put, List.setIfInBounds_toArray, List.set_cons_zero, List.set_cons_succ]
  refine wpAnyH_done (by kernel_rfl) ?_ _
  go_wp2
  go_ret
  exact ⟨rfl, HK1.out.then HK2.out⟩

end

end Go.Proofs.Ytgiokkcdgoloaaa
