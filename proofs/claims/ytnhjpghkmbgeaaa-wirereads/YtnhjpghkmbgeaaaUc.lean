import Derived.Test.YtnhjpghkmbgeaaaUb
namespace Go.Proofs.Ytnhjpghkmbgeaaa
open Go.RowKit
set_option linter.unusedVariables false

def Both (g r : Nat) : Nat → Prop := fun i => i = g ∨ i = r

theorem Tw.no {w w' : World} {g lb r : Nat} {ba : Option Addr} {bc : Nat} {bs : List Int} {st : RS} (h : Tw w g lb r ba bc bs st) (hk : Kept No w w') : Tw w' g lb r ba bc bs st :=
  ⟨h.rs.no hk, h.rf.no hk, h.ne, h.nl, Nat.lt_of_lt_of_le h.ll hk.size, h.na⟩

theorem Rf.c2 {w : World} {g : Nat} {ba : Option Addr} {bc : Nat} {bs : List Int} {st : RS} (h : Rf w g ba bc bs st) : w.cell? ⟨g, 2, none⟩ = some (.int .i64 (errS st).2) := by
  cases st with
  | ok zs at_ => rw [cell_of_row w g 2 _ 62 (0, 0) h.1.cell]; rfl
  | bad p c => obtain ⟨_, a, hr⟩ := h; rw [cell_of_row w g 2 _ 62 (0, 0) hr.cell]; rfl
theorem Rf.c3 {w : World} {g : Nat} {ba : Option Addr} {bc : Nat} {bs : List Int} {st : RS} (h : Rf w g ba bc bs st) : w.cell? ⟨g, 3, none⟩ = some (.int .i64 (errS st).1) := by
  cases st with
  | ok zs at_ => rw [cell_of_row w g 3 _ 62 (0, 0) h.1.cell]; rfl
  | bad p c => obtain ⟨_, a, hr⟩ := h; rw [cell_of_row w g 3 _ 62 (0, 0) hr.cell]; rfl

theorem Rf.ne {w : World} {g : Nat} {ba : Option Addr} {bc : Nat} {bs : List Int} {st : RS} (h : Rf w g ba bc bs st) (h0 : 0 < bs.length) {k : Nat} (hk : At ba k) : k ≠ g := by
  cases st with
  | ok zs at_ => exact h.1.ne h0 hk
  | bad p c => obtain ⟨_, a, hr⟩ := h; exact hr.ne h0 hk

/-- The program's reader has gone on: the reference's is as it was. -/
theorem Tw.left {w w1 : World} {g lb r : Nat} {ba : Option Addr} {bc : Nat} {bs : List Int} {st : RS} (h : Tw w g lb r ba bc bs st) (hk : Kept (Only g) w w1) : Rf w1 r ba bc bs st :=
  h.rf.kept hk (fun e => h.ne (Eq.symm e)) (fun h0 k hk e => h.na h0 k hk e)

/-- Both have gone on. -/
theorem Tw.both {w w1 w2 : World} {g lb r : Nat} {ba : Option Addr} {bc : Nat} {bs : List Int} {st st' : RS} (h : Tw w g lb r ba bc bs st) (hk : Kept (Only g) w w1) (hr : Rs w1 g lb st') (hk2 : Kept (Only r) w1 w2) (hf : Rf w2 r ba bc bs st') :
    Tw w2 g lb r ba bc bs st' ∧ Kept (Both g r) w w2 :=
  ⟨⟨hr.kept hk2 (fun e => h.ne e) (fun e => h.nl e), hf, h.ne, h.nl, Nat.lt_of_lt_of_le h.ll (Nat.le_trans hk.size hk2.size), h.na⟩,
    hk.trans hk2 (fun i e => .inl e) (fun i _ e => .inr e)⟩

/-- What one call of both leaves. -/
def CallPost (w : World) (g lb r : Nat) (ba : Option Addr) (bc : Nat) (bs : List Int) (e : Ending) (w' : World) : Prop :=
  e = .returned (.bool true) ∧ ∃ st, Tw w' g lb r ba bc bs st ∧ Kept (Both g r) w w'

set_option maxRecDepth 100000 in
set_option maxHeartbeats 4000000 in
theorem call_1 (g lb r : Nat) (ba : Option Addr) (bc : Nat) (bs : List Int) (st : RS) (w : World) (h : Tw w g lb r ba bc bs st) :
    Calls Try.prog 12 #[.agg #[.pointer (some ⟨g, 0, none⟩), .pointer (some ⟨r, 0, none⟩)], .int .i64 1] w (CallPost w g lb r ba bc bs) := by
  have HTw : Hid (Tw w g lb r ba bc bs st) := h
  clear h
  go_enter Try.func12, Try.ntmps12
  go_wp2_with fail
  obtain ⟨w0, hw0⟩ : ∃ w0, w0 = w.alloc (Obj.cells #[.pointer (some ⟨g, 0, none⟩), .pointer (some ⟨r, 0, none⟩)] 36) := ⟨_, rfl⟩
  rw [← hw0]
  have HK0 : Hid (Kept No w w0) := by rw [hw0]; exact (Kept.refl _ _).alloc _
  have HT0 : Hid (w0.heap[w.heap.size]? = some (.cells #[.pointer (some ⟨g, 0, none⟩), .pointer (some ⟨r, 0, none⟩)] 36 (0, 0))) := by rw [hw0]; exact heap_new _ _
  have HLt : Hid (g < w.heap.size ∧ r < w.heap.size ∧ w.heap.size < w0.heap.size) := ⟨HTw.out.rs.lt, HTw.out.rf.lt, by rw [hw0, World.heap_size_alloc1]; omega⟩
  have HT : Hid (Tw w0 g lb r ba bc bs st) := HTw.out.no HK0.out
  have p0 : w0.cell? ⟨w.heap.size, 0, none⟩ = some (.pointer (some ⟨g, 0, none⟩)) := by rw [cell_of_row _ _ 0 _ 36 (0, 0) HT0.out]; rfl
  have p1 : w0.cell? ⟨w.heap.size, 1, none⟩ = some (.pointer (some ⟨r, 0, none⟩)) := by rw [cell_of_row _ _ 1 _ 36 (0, 0) HT0.out]; rfl
  clear hw0 HTw
  refine (Num_all g lb st w0 HT.out.rs).mono ?_
  rintro e w1 ⟨rfl, hr1, hk1⟩
  have HR1 : Hid (Rs w1 g lb (numS st).1) := hr1
  have HK1 : Hid (Kept (Only g) w0 w1) := hk1
  have HT1 : Hid (w1.heap[w.heap.size]? = some (.cells #[.pointer (some ⟨g, 0, none⟩), .pointer (some ⟨r, 0, none⟩)] 36 (0, 0))) := (hk1.block _ HLt.out.2.2 (fun e => by have e' : w.heap.size = g := e; have := HLt.out; omega)).trans HT0.out
  clear hr1 hk1 p0 p1
  have p0 : w1.cell? ⟨w.heap.size, 0, none⟩ = some (.pointer (some ⟨g, 0, none⟩)) := by rw [cell_of_row _ _ 0 _ 36 (0, 0) HT1.out]; rfl
  have p1 : w1.cell? ⟨w.heap.size, 1, none⟩ = some (.pointer (some ⟨r, 0, none⟩)) := by rw [cell_of_row _ _ 1 _ 36 (0, 0) HT1.out]; rfl
  go_wp2_with fail
  refine (ref_all r ba bc bs st 1 w1 (HT.out.left HK1.out) (by omega)).mono ?_
  rintro e w2 ⟨a2, m2, c2, rfl, hs2, hf2, hk2⟩
  have e0 : readS st 1 = ((numS st).1, (numS st).2, []) := by simp [readS]
  rw [e0] at hf2 hs2 ⊢
  simp only at hf2 hs2 ⊢
  obtain ⟨ht, hkb⟩ := HT.out.both HK1.out HR1.out hk2 hf2
  have HT2 : Hid (w2.heap[w.heap.size]? = some (.cells #[.pointer (some ⟨g, 0, none⟩), .pointer (some ⟨r, 0, none⟩)] 36 (0, 0))) := (hk2.block _ (Nat.lt_of_lt_of_le HLt.out.2.2 HK1.out.size) (fun e => by have e' : w.heap.size = r := e; have := HLt.out; omega)).trans HT1.out
  clear p0 p1
  have p0 : w2.cell? ⟨w.heap.size, 0, none⟩ = some (.pointer (some ⟨g, 0, none⟩)) := by rw [cell_of_row _ _ 0 _ 36 (0, 0) HT2.out]; rfl
  have p1 : w2.cell? ⟨w.heap.size, 1, none⟩ = some (.pointer (some ⟨r, 0, none⟩)) := by rw [cell_of_row _ _ 1 _ 36 (0, 0) HT2.out]; rfl
  have hz2 : w.heap.size < w2.heap.size := Nat.lt_of_lt_of_le HLt.out.2.2 (Nat.le_trans HK1.out.size hk2.size)
  generalize (numS st).1 = st' at ht hkb
  generalize (numS st).2 = V
  have HTn : Hid (Tw (w2.alloc (Obj.cells #[.int .i64 1, .int .i64 V, .slice a2 m2 c2] 27)) g lb r ba bc bs st') := ht.no ((Kept.refl _ _).alloc _)
  have HRn : Hid (Rs (w2.alloc (Obj.cells #[.int .i64 1, .int .i64 V, .slice a2 m2 c2] 27)) g lb st') := HTn.out.rs
  have HFn : Hid (Rf (w2.alloc (Obj.cells #[.int .i64 1, .int .i64 V, .slice a2 m2 c2] 27)) r ba bc bs st') := HTn.out.rf
  have HKn : Hid (Kept (Both g r) w (w2.alloc (Obj.cells #[.int .i64 1, .int .i64 V, .slice a2 m2 c2] 27))) := ((HK0.out.of_no.then hkb).alloc _)
  have HTT : Hid ((w2.alloc (Obj.cells #[.int .i64 1, .int .i64 V, .slice a2 m2 c2] 27)).heap[w.heap.size]? = some (.cells #[.pointer (some ⟨g, 0, none⟩), .pointer (some ⟨r, 0, none⟩)] 36 (0, 0))) := (((Kept.refl No w2).alloc _).block _ hz2 (fun e => e)).trans HT2.out
  clear hs2 hf2 hk2 e0 ht hkb HR1 HK1 HT
  go_wp2_with fail
  refine (Err_all g lb st' _ HRn.out).mono ?_
  rintro e w8 ⟨rfl, n8, hw8⟩
  have h8 : Rf w8 r ba bc bs st' := by rw [hw8]; exact HFn.out.no (Kept.no_drewN _ _)
  have c2 := h8.c2
  have c3 := h8.c3
  have HT8 : Hid (w8.heap[w.heap.size]? = some (.cells #[.pointer (some ⟨g, 0, none⟩), .pointer (some ⟨r, 0, none⟩)] 36 (0, 0))) := by rw [hw8]; exact HTT.out
  clear p0 p1
  have p0 : w8.cell? ⟨w.heap.size, 0, none⟩ = some (.pointer (some ⟨g, 0, none⟩)) := by rw [cell_of_row _ _ 0 _ 36 (0, 0) HT8.out]; rfl
  have p1 : w8.cell? ⟨w.heap.size, 1, none⟩ = some (.pointer (some ⟨r, 0, none⟩)) := by rw [cell_of_row _ _ 1 _ 36 (0, 0) HT8.out]; rfl
  have HP : Hid (Tw w8 g lb r ba bc bs st' ∧ Kept (Both g r) w w8) := by
    rw [hw8]
    exact ⟨HTn.out.no (Kept.no_drewN _ _), HKn.out.drewN _⟩
  clear hw8 h8 HRn HFn HTn HKn
  generalize errS st' = E at c2 c3
  obtain ⟨E1, E2⟩ := E
  simp only at c2 c3 ⊢
  go_wp2
  go_ret
  exact ⟨rfl, _, HP.out.1, HP.out.2⟩

set_option maxRecDepth 100000 in
set_option maxHeartbeats 4000000 in
theorem call_2 (g lb r : Nat) (ba : Option Addr) (bc : Nat) (bs : List Int) (st : RS) (w : World) (h : Tw w g lb r ba bc bs st) :
    Calls Try.prog 12 #[.agg #[.pointer (some ⟨g, 0, none⟩), .pointer (some ⟨r, 0, none⟩)], .int .i64 2] w (CallPost w g lb r ba bc bs) := by
  have HTw : Hid (Tw w g lb r ba bc bs st) := h
  clear h
  go_enter Try.func12, Try.ntmps12
  go_wp2_with fail
  obtain ⟨w0, hw0⟩ : ∃ w0, w0 = w.alloc (Obj.cells #[.pointer (some ⟨g, 0, none⟩), .pointer (some ⟨r, 0, none⟩)] 36) := ⟨_, rfl⟩
  rw [← hw0]
  have HK0 : Hid (Kept No w w0) := by rw [hw0]; exact (Kept.refl _ _).alloc _
  have HT0 : Hid (w0.heap[w.heap.size]? = some (.cells #[.pointer (some ⟨g, 0, none⟩), .pointer (some ⟨r, 0, none⟩)] 36 (0, 0))) := by rw [hw0]; exact heap_new _ _
  have HLt : Hid (g < w.heap.size ∧ r < w.heap.size ∧ w.heap.size < w0.heap.size) := ⟨HTw.out.rs.lt, HTw.out.rf.lt, by rw [hw0, World.heap_size_alloc1]; omega⟩
  have HT : Hid (Tw w0 g lb r ba bc bs st) := HTw.out.no HK0.out
  have p0 : w0.cell? ⟨w.heap.size, 0, none⟩ = some (.pointer (some ⟨g, 0, none⟩)) := by rw [cell_of_row _ _ 0 _ 36 (0, 0) HT0.out]; rfl
  have p1 : w0.cell? ⟨w.heap.size, 1, none⟩ = some (.pointer (some ⟨r, 0, none⟩)) := by rw [cell_of_row _ _ 1 _ 36 (0, 0) HT0.out]; rfl
  clear hw0 HTw
  refine (Int_all g lb st w0 HT.out.rs).mono ?_
  rintro e w1 ⟨rfl, hr1, hk1⟩
  have HR1 : Hid (Rs w1 g lb (intS st).1) := hr1
  have HK1 : Hid (Kept (Only g) w0 w1) := hk1
  have HT1 : Hid (w1.heap[w.heap.size]? = some (.cells #[.pointer (some ⟨g, 0, none⟩), .pointer (some ⟨r, 0, none⟩)] 36 (0, 0))) := (hk1.block _ HLt.out.2.2 (fun e => by have e' : w.heap.size = g := e; have := HLt.out; omega)).trans HT0.out
  clear hr1 hk1 p0 p1
  have p0 : w1.cell? ⟨w.heap.size, 0, none⟩ = some (.pointer (some ⟨g, 0, none⟩)) := by rw [cell_of_row _ _ 0 _ 36 (0, 0) HT1.out]; rfl
  have p1 : w1.cell? ⟨w.heap.size, 1, none⟩ = some (.pointer (some ⟨r, 0, none⟩)) := by rw [cell_of_row _ _ 1 _ 36 (0, 0) HT1.out]; rfl
  go_wp2_with fail
  refine (ref_all r ba bc bs st 2 w1 (HT.out.left HK1.out) (by omega)).mono ?_
  rintro e w2 ⟨a2, m2, c2, rfl, hs2, hf2, hk2⟩
  have e0 : readS st 2 = ((intS st).1, (intS st).2, []) := by simp [readS]
  rw [e0] at hf2 hs2 ⊢
  simp only at hf2 hs2 ⊢
  obtain ⟨ht, hkb⟩ := HT.out.both HK1.out HR1.out hk2 hf2
  have HT2 : Hid (w2.heap[w.heap.size]? = some (.cells #[.pointer (some ⟨g, 0, none⟩), .pointer (some ⟨r, 0, none⟩)] 36 (0, 0))) := (hk2.block _ (Nat.lt_of_lt_of_le HLt.out.2.2 HK1.out.size) (fun e => by have e' : w.heap.size = r := e; have := HLt.out; omega)).trans HT1.out
  clear p0 p1
  have p0 : w2.cell? ⟨w.heap.size, 0, none⟩ = some (.pointer (some ⟨g, 0, none⟩)) := by rw [cell_of_row _ _ 0 _ 36 (0, 0) HT2.out]; rfl
  have p1 : w2.cell? ⟨w.heap.size, 1, none⟩ = some (.pointer (some ⟨r, 0, none⟩)) := by rw [cell_of_row _ _ 1 _ 36 (0, 0) HT2.out]; rfl
  have hz2 : w.heap.size < w2.heap.size := Nat.lt_of_lt_of_le HLt.out.2.2 (Nat.le_trans HK1.out.size hk2.size)
  generalize (intS st).1 = st' at ht hkb
  generalize (intS st).2 = V
  have HTn : Hid (Tw (w2.alloc (Obj.cells #[.int .i64 2, .int .i64 V, .slice a2 m2 c2] 27)) g lb r ba bc bs st') := ht.no ((Kept.refl _ _).alloc _)
  have HRn : Hid (Rs (w2.alloc (Obj.cells #[.int .i64 2, .int .i64 V, .slice a2 m2 c2] 27)) g lb st') := HTn.out.rs
  have HFn : Hid (Rf (w2.alloc (Obj.cells #[.int .i64 2, .int .i64 V, .slice a2 m2 c2] 27)) r ba bc bs st') := HTn.out.rf
  have HKn : Hid (Kept (Both g r) w (w2.alloc (Obj.cells #[.int .i64 2, .int .i64 V, .slice a2 m2 c2] 27))) := ((HK0.out.of_no.then hkb).alloc _)
  have HTT : Hid ((w2.alloc (Obj.cells #[.int .i64 2, .int .i64 V, .slice a2 m2 c2] 27)).heap[w.heap.size]? = some (.cells #[.pointer (some ⟨g, 0, none⟩), .pointer (some ⟨r, 0, none⟩)] 36 (0, 0))) := (((Kept.refl No w2).alloc _).block _ hz2 (fun e => e)).trans HT2.out
  clear hs2 hf2 hk2 e0 ht hkb HR1 HK1 HT
  go_wp2_with fail
  refine (Err_all g lb st' _ HRn.out).mono ?_
  rintro e w8 ⟨rfl, n8, hw8⟩
  have h8 : Rf w8 r ba bc bs st' := by rw [hw8]; exact HFn.out.no (Kept.no_drewN _ _)
  have c2 := h8.c2
  have c3 := h8.c3
  have HT8 : Hid (w8.heap[w.heap.size]? = some (.cells #[.pointer (some ⟨g, 0, none⟩), .pointer (some ⟨r, 0, none⟩)] 36 (0, 0))) := by rw [hw8]; exact HTT.out
  clear p0 p1
  have p0 : w8.cell? ⟨w.heap.size, 0, none⟩ = some (.pointer (some ⟨g, 0, none⟩)) := by rw [cell_of_row _ _ 0 _ 36 (0, 0) HT8.out]; rfl
  have p1 : w8.cell? ⟨w.heap.size, 1, none⟩ = some (.pointer (some ⟨r, 0, none⟩)) := by rw [cell_of_row _ _ 1 _ 36 (0, 0) HT8.out]; rfl
  have HP : Hid (Tw w8 g lb r ba bc bs st' ∧ Kept (Both g r) w w8) := by
    rw [hw8]
    exact ⟨HTn.out.no (Kept.no_drewN _ _), HKn.out.drewN _⟩
  clear hw8 h8 HRn HFn HTn HKn
  generalize errS st' = E at c2 c3
  obtain ⟨E1, E2⟩ := E
  simp only at c2 c3 ⊢
  go_wp2
  go_ret
  exact ⟨rfl, _, HP.out.1, HP.out.2⟩

set_option maxRecDepth 100000 in
set_option maxHeartbeats 4000000 in
theorem call_6 (g lb r : Nat) (ba : Option Addr) (bc : Nat) (bs : List Int) (st : RS) (w : World) (h : Tw w g lb r ba bc bs st) :
    Calls Try.prog 12 #[.agg #[.pointer (some ⟨g, 0, none⟩), .pointer (some ⟨r, 0, none⟩)], .int .i64 6] w (CallPost w g lb r ba bc bs) := by
  have HTw : Hid (Tw w g lb r ba bc bs st) := h
  clear h
  go_enter Try.func12, Try.ntmps12
  go_wp2_with fail
  obtain ⟨w0, hw0⟩ : ∃ w0, w0 = w.alloc (Obj.cells #[.pointer (some ⟨g, 0, none⟩), .pointer (some ⟨r, 0, none⟩)] 36) := ⟨_, rfl⟩
  rw [← hw0]
  have HK0 : Hid (Kept No w w0) := by rw [hw0]; exact (Kept.refl _ _).alloc _
  have HT0 : Hid (w0.heap[w.heap.size]? = some (.cells #[.pointer (some ⟨g, 0, none⟩), .pointer (some ⟨r, 0, none⟩)] 36 (0, 0))) := by rw [hw0]; exact heap_new _ _
  have HLt : Hid (g < w.heap.size ∧ r < w.heap.size ∧ w.heap.size < w0.heap.size) := ⟨HTw.out.rs.lt, HTw.out.rf.lt, by rw [hw0, World.heap_size_alloc1]; omega⟩
  have HT : Hid (Tw w0 g lb r ba bc bs st) := HTw.out.no HK0.out
  have p0 : w0.cell? ⟨w.heap.size, 0, none⟩ = some (.pointer (some ⟨g, 0, none⟩)) := by rw [cell_of_row _ _ 0 _ 36 (0, 0) HT0.out]; rfl
  have p1 : w0.cell? ⟨w.heap.size, 1, none⟩ = some (.pointer (some ⟨r, 0, none⟩)) := by rw [cell_of_row _ _ 1 _ 36 (0, 0) HT0.out]; rfl
  clear hw0 HTw
  refine (End_all g lb st w0 HT.out.rs).mono ?_
  rintro e w1 ⟨rfl, hr1, hk1⟩
  have HR1 : Hid (Rs w1 g lb (endS st)) := hr1
  have HK1 : Hid (Kept (Only g) w0 w1) := hk1
  have HT1 : Hid (w1.heap[w.heap.size]? = some (.cells #[.pointer (some ⟨g, 0, none⟩), .pointer (some ⟨r, 0, none⟩)] 36 (0, 0))) := (hk1.block _ HLt.out.2.2 (fun e => by have e' : w.heap.size = g := e; have := HLt.out; omega)).trans HT0.out
  clear hr1 hk1 p0 p1
  have p0 : w1.cell? ⟨w.heap.size, 0, none⟩ = some (.pointer (some ⟨g, 0, none⟩)) := by rw [cell_of_row _ _ 0 _ 36 (0, 0) HT1.out]; rfl
  have p1 : w1.cell? ⟨w.heap.size, 1, none⟩ = some (.pointer (some ⟨r, 0, none⟩)) := by rw [cell_of_row _ _ 1 _ 36 (0, 0) HT1.out]; rfl
  go_wp2_with fail
  refine (rend_all r ba bc bs st w1 (HT.out.left HK1.out)).mono ?_
  rintro e w2 ⟨rfl, hf2, hk2⟩
  obtain ⟨ht, hkb⟩ := HT.out.both HK1.out HR1.out hk2 hf2
  have HT2 : Hid (w2.heap[w.heap.size]? = some (.cells #[.pointer (some ⟨g, 0, none⟩), .pointer (some ⟨r, 0, none⟩)] 36 (0, 0))) := (hk2.block _ (Nat.lt_of_lt_of_le HLt.out.2.2 HK1.out.size) (fun e => by have e' : w.heap.size = r := e; have := HLt.out; omega)).trans HT1.out
  clear p0 p1
  have p0 : w2.cell? ⟨w.heap.size, 0, none⟩ = some (.pointer (some ⟨g, 0, none⟩)) := by rw [cell_of_row _ _ 0 _ 36 (0, 0) HT2.out]; rfl
  have p1 : w2.cell? ⟨w.heap.size, 1, none⟩ = some (.pointer (some ⟨r, 0, none⟩)) := by rw [cell_of_row _ _ 1 _ 36 (0, 0) HT2.out]; rfl
  have HTn : Hid (Tw w2 g lb r ba bc bs (endS st)) := ht
  have HRn : Hid (Rs w2 g lb (endS st)) := ht.rs
  have HFn : Hid (Rf w2 r ba bc bs (endS st)) := ht.rf
  have HKn : Hid (Kept (Both g r) w w2) := HK0.out.of_no.then hkb
  have HTT := HT2
  clear hf2 hk2 ht hkb HR1 HK1 HT
  generalize endS st = st' at HTn HRn HFn HKn
  go_wp2_with fail
  refine (Err_all g lb st' _ HRn.out).mono ?_
  rintro e w8 ⟨rfl, n8, hw8⟩
  have h8 : Rf w8 r ba bc bs st' := by rw [hw8]; exact HFn.out.no (Kept.no_drewN _ _)
  have c2 := h8.c2
  have c3 := h8.c3
  have HT8 : Hid (w8.heap[w.heap.size]? = some (.cells #[.pointer (some ⟨g, 0, none⟩), .pointer (some ⟨r, 0, none⟩)] 36 (0, 0))) := by rw [hw8]; exact HTT.out
  clear p0 p1
  have p0 : w8.cell? ⟨w.heap.size, 0, none⟩ = some (.pointer (some ⟨g, 0, none⟩)) := by rw [cell_of_row _ _ 0 _ 36 (0, 0) HT8.out]; rfl
  have p1 : w8.cell? ⟨w.heap.size, 1, none⟩ = some (.pointer (some ⟨r, 0, none⟩)) := by rw [cell_of_row _ _ 1 _ 36 (0, 0) HT8.out]; rfl
  have HP : Hid (Tw w8 g lb r ba bc bs st' ∧ Kept (Both g r) w w8) := by
    rw [hw8]
    exact ⟨HTn.out.no (Kept.no_drewN _ _), HKn.out.drewN _⟩
  clear hw8 h8 HRn HFn HTn HKn
  generalize errS st' = E at c2 c3
  obtain ⟨E1, E2⟩ := E
  simp only at c2 c3 ⊢
  go_wp2
  go_ret
  exact ⟨rfl, _, HP.out.1, HP.out.2⟩

set_option maxRecDepth 100000 in
set_option maxHeartbeats 4000000 in
theorem call_0 (g lb r : Nat) (ba : Option Addr) (bc : Nat) (bs : List Int) (st : RS) (k : Int) (k1 : (k == 1) = false) (k2 : (k == 2) = false) (k3 : (k == 3) = false) (k4 : (k == 4) = false) (k5 : (k == 5) = false) (k6 : (k == 6) = false) (w : World) (h : Tw w g lb r ba bc bs st) :
    Calls Try.prog 12 #[.agg #[.pointer (some ⟨g, 0, none⟩), .pointer (some ⟨r, 0, none⟩)], .int .i64 k] w (CallPost w g lb r ba bc bs) := by
  have HTw : Hid (Tw w g lb r ba bc bs st) := h
  clear h
  go_enter Try.func12, Try.ntmps12
  go_wp2_with fail
  obtain ⟨w0, hw0⟩ : ∃ w0, w0 = w.alloc (Obj.cells #[.pointer (some ⟨g, 0, none⟩), .pointer (some ⟨r, 0, none⟩)] 36) := ⟨_, rfl⟩
  rw [← hw0]
  have HK0 : Hid (Kept No w w0) := by rw [hw0]; exact (Kept.refl _ _).alloc _
  have HT0 : Hid (w0.heap[w.heap.size]? = some (.cells #[.pointer (some ⟨g, 0, none⟩), .pointer (some ⟨r, 0, none⟩)] 36 (0, 0))) := by rw [hw0]; exact heap_new _ _
  have HLt : Hid (g < w.heap.size ∧ r < w.heap.size ∧ w.heap.size < w0.heap.size) := ⟨HTw.out.rs.lt, HTw.out.rf.lt, by rw [hw0, World.heap_size_alloc1]; omega⟩
  have HT : Hid (Tw w0 g lb r ba bc bs st) := HTw.out.no HK0.out
  have p0 : w0.cell? ⟨w.heap.size, 0, none⟩ = some (.pointer (some ⟨g, 0, none⟩)) := by rw [cell_of_row _ _ 0 _ 36 (0, 0) HT0.out]; rfl
  have p1 : w0.cell? ⟨w.heap.size, 1, none⟩ = some (.pointer (some ⟨r, 0, none⟩)) := by rw [cell_of_row _ _ 1 _ 36 (0, 0) HT0.out]; rfl
  clear hw0 HTw
  have HTn : Hid (Tw w0 g lb r ba bc bs st) := HT
  have HRn : Hid (Rs w0 g lb st) := HT.out.rs
  have HFn : Hid (Rf w0 r ba bc bs st) := HT.out.rf
  have HKn : Hid (Kept (Both g r) w w0) := HK0.out.of_no
  have HTT := HT0
  clear HT
  skip
  refine (Err_all g lb st _ HRn.out).mono ?_
  rintro e w8 ⟨rfl, n8, hw8⟩
  have h8 : Rf w8 r ba bc bs st := by rw [hw8]; exact HFn.out.no (Kept.no_drewN _ _)
  have c2 := h8.c2
  have c3 := h8.c3
  have HT8 : Hid (w8.heap[w.heap.size]? = some (.cells #[.pointer (some ⟨g, 0, none⟩), .pointer (some ⟨r, 0, none⟩)] 36 (0, 0))) := by rw [hw8]; exact HTT.out
  clear p0 p1
  have p0 : w8.cell? ⟨w.heap.size, 0, none⟩ = some (.pointer (some ⟨g, 0, none⟩)) := by rw [cell_of_row _ _ 0 _ 36 (0, 0) HT8.out]; rfl
  have p1 : w8.cell? ⟨w.heap.size, 1, none⟩ = some (.pointer (some ⟨r, 0, none⟩)) := by rw [cell_of_row _ _ 1 _ 36 (0, 0) HT8.out]; rfl
  have HP : Hid (Tw w8 g lb r ba bc bs st ∧ Kept (Both g r) w w8) := by
    rw [hw8]
    exact ⟨HTn.out.no (Kept.no_drewN _ _), HKn.out.drewN _⟩
  clear hw8 h8 HRn HFn HTn HKn
  generalize errS st = E at c2 c3
  obtain ⟨E1, E2⟩ := E
  simp only at c2 c3 ⊢
  go_wp2
  go_ret
  exact ⟨rfl, _, HP.out.1, HP.out.2⟩

end Go.Proofs.Ytnhjpghkmbgeaaa
