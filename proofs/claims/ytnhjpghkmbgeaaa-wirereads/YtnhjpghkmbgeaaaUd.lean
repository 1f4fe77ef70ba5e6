import Derived.Test.YtnhjpghkmbgeaaaUc
namespace Go.Proofs.Ytnhjpghkmbgeaaa
open Go.RowKit
set_option linter.unusedVariables false

set_option maxRecDepth 100000 in
set_option maxHeartbeats 4000000 in
theorem call_3 (g lb r : Nat) (ba : Option Addr) (bc : Nat) (bs : List Int) (st : RS) (w : World) (h : Tw w g lb r ba bc bs st) :
    Calls Try.prog 12 #[.agg #[.pointer (some ⟨g, 0, none⟩), .pointer (some ⟨r, 0, none⟩)], .int .i64 3] w (CallPost w g lb r ba bc bs) := by
  have HTw : Hid (Tw w g lb r ba bc bs st) := h
  clear h
  go_enter Try.func12, Try.ntmps12
  go_wp2_with fail
  obtain ⟨w0, hw0⟩ : ∃ w0, w0 = w.alloc (Obj.cells #[.pointer (some ⟨g, 0, none⟩), .pointer (some ⟨r, 0, none⟩)] 36) := ⟨_, rfl⟩
  rw [← hw0]
  have HK0 : Hid (Kept No w w0) := by rw [hw0]; exact (Kept.refl _ _).alloc _
  have HT0 : Hid (w0.heap[w.heap.size]? = some (.cells #[.pointer (some ⟨g, 0, none⟩), .pointer (some ⟨r, 0, none⟩)] 36 (0, 0))) := by rw [hw0]; exact heap_new _ _
  have HLt : Hid (g < w.heap.size ∧ r < w.heap.size ∧ w.heap.size < w0.heap.size) := ⟨HTw.out.rs.lt, HTw.out.rf.lt, by rw [hw0, World.heap_size_alloc1]; omega⟩
  have HT : Hid (Tw w0 g lb r ba bc bs st) := HTw.out.no HK0.out
  have p0 : w0.cell? ⟨w.heap.size, 0, none⟩ = some (.pointer (some ⟨g, 0, none⟩)) := by rw [cell_of_row _ _ 0 _ 36 (0, 0) HT0.out]; rfl
  have p1 : w0.cell? ⟨w.heap.size, 1, none⟩ = some (.pointer (some ⟨r, 0, none⟩)) := by rw [cell_of_row _ _ 1 _ 36 (0, 0) HT0.out]; rfl
  clear hw0 HTw
  refine (Bytes_all g lb st w0 HT.out.rs).mono ?_
  rintro e w1 ⟨a1, n1, c1, rfl, hn1, hO1, hr1, hk1⟩
  have HR1 : Hid (Rs w1 g lb (bytesS st).1) := hr1
  have HK1 : Hid (Kept (Only g) w0 w1) := hk1
  have HO1 : Hid (OwnS w1 w0.heap.size a1 c1 (bytesS st).2) := hO1
  have HU : Hid (U8 (bytesS st).2 ∧ (bytesS st).2.length ≤ 140737488351232) := bytesS_ok HT.out.rs
  have HN1 : Hid (n1 = (bytesS st).2.length) := hn1
  clear hO1 hn1
  have HT1 : Hid (w1.heap[w.heap.size]? = some (.cells #[.pointer (some ⟨g, 0, none⟩), .pointer (some ⟨r, 0, none⟩)] 36 (0, 0))) := (hk1.block _ HLt.out.2.2 (fun e => by have e' : w.heap.size = g := e; have := HLt.out; omega)).trans HT0.out
  clear hr1 hk1 p0 p1
  have p0 : w1.cell? ⟨w.heap.size, 0, none⟩ = some (.pointer (some ⟨g, 0, none⟩)) := by rw [cell_of_row _ _ 0 _ 36 (0, 0) HT1.out]; rfl
  have p1 : w1.cell? ⟨w.heap.size, 1, none⟩ = some (.pointer (some ⟨r, 0, none⟩)) := by rw [cell_of_row _ _ 1 _ 36 (0, 0) HT1.out]; rfl
  go_wp2_with fail
  refine (ref_all r ba bc bs st 3 w1 (HT.out.left HK1.out) (by omega)).mono ?_
  rintro e w2 ⟨a2, m2, c2, rfl, hs2, hf2, hk2⟩
  have e0 : readS st 3 = ((bytesS st).1, 0, (bytesS st).2) := by simp [readS]
  rw [e0] at hf2 hs2 ⊢
  simp only at hf2 hs2 ⊢
  obtain ⟨ht, hkb⟩ := HT.out.both HK1.out HR1.out hk2 hf2
  have HT2 : Hid (w2.heap[w.heap.size]? = some (.cells #[.pointer (some ⟨g, 0, none⟩), .pointer (some ⟨r, 0, none⟩)] 36 (0, 0))) := (hk2.block _ (Nat.lt_of_lt_of_le HLt.out.2.2 HK1.out.size) (fun e => by have e' : w.heap.size = r := e; have := HLt.out; omega)).trans HT1.out
  clear p0 p1
  have hz2 : w.heap.size < w2.heap.size := Nat.lt_of_lt_of_le HLt.out.2.2 (Nat.le_trans HK1.out.size hk2.size)
  obtain ⟨w3, hw3⟩ : ∃ w3, w3 = (w2.alloc (Obj.cells #[.int .i64 3, .int .i64 0, .slice a2 m2 c2] 27)) := ⟨_, rfl⟩
  have HK23 : Hid (Kept No w2 w3) := by rw [hw3]; exact (Kept.refl _ _).alloc _
  have HT3 : Hid (w3.heap[w.heap.size]? = some (.cells #[.pointer (some ⟨g, 0, none⟩), .pointer (some ⟨r, 0, none⟩)] 36 (0, 0))) := (HK23.out.block _ hz2 (fun e => e)).trans HT2.out
  have HS3 : Hid (Sl w3 a2 m2 c2 (bytesS st).2) := hs2.no HK23.out
  have HTw3 : Hid (Tw w3 g lb r ba bc bs (bytesS st).1 ∧ Kept (Both g r) w w3) := ⟨ht.no HK23.out, (HK0.out.of_no.then hkb).then HK23.out.of_no⟩
  have HB3 : Hid (Sl w3 a1 n1 c1 (bytesS st).2) := (((HO1.out.sl HN1.out.symm HU.out.1 (by rw [HN1.out]; exact HU.out.2)).kept2 hk2 (fun _ i hi e => by have e' : i = r := e; have h1 := HO1.out.base hi; have h2 := HLt.out; omega))).no HK23.out
  clear hs2 hf2 hk2 e0 ht hkb HR1 HK1 HT HO1 HT1 HT2 HU HN1 HK23
  go_wp2_with fail
  rw [← hw3]
  clear hw3
  have hsm := sameN_any a1 a2 n1 m2 c1 c2 (bytesS st).2 (bytesS st).2 w3 HB3.out.len HS3.out.len (by have := HB3.out.bd; omega) (by have := HS3.out.bd; omega) HB3.out.bytes HS3.out.bytes
  rw [eqB_refl] at hsm
  refine hsm.mono ?_
  rintro e w4 ⟨rfl, n4, hw4⟩
  clear hsm
  have HTn : Hid (Tw w4 g lb r ba bc bs (bytesS st).1) := by rw [hw4]; exact HTw3.out.1.no (Kept.no_drewN _ _)
  have HRn : Hid (Rs w4 g lb (bytesS st).1) := HTn.out.rs
  have HFn : Hid (Rf w4 r ba bc bs (bytesS st).1) := HTn.out.rf
  have HKn : Hid (Kept (Both g r) w w4) := by rw [hw4]; exact HTw3.out.2.drewN _
  have HTT : Hid (w4.heap[w.heap.size]? = some (.cells #[.pointer (some ⟨g, 0, none⟩), .pointer (some ⟨r, 0, none⟩)] 36 (0, 0))) := by rw [hw4]; exact HT3.out
  have p0 : w4.cell? ⟨w.heap.size, 0, none⟩ = some (.pointer (some ⟨g, 0, none⟩)) := by rw [cell_of_row _ _ 0 _ 36 (0, 0) HTT.out]; rfl
  have p1 : w4.cell? ⟨w.heap.size, 1, none⟩ = some (.pointer (some ⟨r, 0, none⟩)) := by rw [cell_of_row _ _ 1 _ 36 (0, 0) HTT.out]; rfl
  clear hw4 HTw3 HT3 HB3 HS3
  generalize (bytesS st).1 = st' at HTn HRn HFn HKn
  go_wp2_with fail
  refine (Err_all g lb st' _ HRn.out).mono ?_
  rintro e w8 ⟨rfl, n8, hw8⟩
  have h8 : Rf w8 r ba bc bs st' := by rw [hw8]; exact HFn.out.no (Kept.no_drewN _ _)
  have c2 := h8.c2
  have c3 := h8.c3
  have HT8 : Hid (w8.heap[w.heap.size]? = some (.cells #[.pointer (some ⟨g, 0, none⟩), .pointer (some ⟨r, 0, none⟩)] 36 (0, 0))) := by rw [hw8]; exact HTT.out
  clear p0 p1
  have p0 : w8.cell? ⟨w.heap.size, 0, none⟩ = some (.pointer (some ⟨g, 0, none⟩)) := by rw [cell_of_row _ _ 0 _ 36 (0, 0) HT8.out]; rfl
  have p1 : w8.cell? ⟨w.heap.size, 1, none⟩ = some (.pointer (some ⟨r, 0, none⟩)) := by rw [cell_of_row _ _ 1 _ 36 (0, 0) HT8.out]; rfl
  have HP : Hid (Tw w8 g lb r ba bc bs st' ∧ Kept (Both g r) w w8) := by
    rw [hw8]
    exact ⟨HTn.out.no (Kept.no_drewN _ _), HKn.out.drewN _⟩
  clear hw8 h8 HRn HFn HTn HKn
  generalize errS st' = E at c2 c3
  obtain ⟨E1, E2⟩ := E
  simp only at c2 c3 ⊢
  go_wp2
  go_ret
  exact ⟨rfl, _, HP.out.1, HP.out.2⟩

set_option maxRecDepth 100000 in
set_option maxHeartbeats 4000000 in
theorem call_4 (g lb r : Nat) (ba : Option Addr) (bc : Nat) (bs : List Int) (st : RS) (w : World) (h : Tw w g lb r ba bc bs st) :
    Calls Try.prog 12 #[.agg #[.pointer (some ⟨g, 0, none⟩), .pointer (some ⟨r, 0, none⟩)], .int .i64 4] w (CallPost w g lb r ba bc bs) := by
  have HTw : Hid (Tw w g lb r ba bc bs st) := h
  clear h
  go_enter Try.func12, Try.ntmps12
  go_wp2_with fail
  obtain ⟨w0, hw0⟩ : ∃ w0, w0 = w.alloc (Obj.cells #[.pointer (some ⟨g, 0, none⟩), .pointer (some ⟨r, 0, none⟩)] 36) := ⟨_, rfl⟩
  rw [← hw0]
  have HK0 : Hid (Kept No w w0) := by rw [hw0]; exact (Kept.refl _ _).alloc _
  have HT0 : Hid (w0.heap[w.heap.size]? = some (.cells #[.pointer (some ⟨g, 0, none⟩), .pointer (some ⟨r, 0, none⟩)] 36 (0, 0))) := by rw [hw0]; exact heap_new _ _
  have HLt : Hid (g < w.heap.size ∧ r < w.heap.size ∧ w.heap.size < w0.heap.size) := ⟨HTw.out.rs.lt, HTw.out.rf.lt, by rw [hw0, World.heap_size_alloc1]; omega⟩
  have HT : Hid (Tw w0 g lb r ba bc bs st) := HTw.out.no HK0.out
  have p0 : w0.cell? ⟨w.heap.size, 0, none⟩ = some (.pointer (some ⟨g, 0, none⟩)) := by rw [cell_of_row _ _ 0 _ 36 (0, 0) HT0.out]; rfl
  have p1 : w0.cell? ⟨w.heap.size, 1, none⟩ = some (.pointer (some ⟨r, 0, none⟩)) := by rw [cell_of_row _ _ 1 _ 36 (0, 0) HT0.out]; rfl
  clear hw0 HTw
  refine (Text_all g lb st w0 HT.out.rs).mono ?_
  rintro e w1 ⟨rfl, hr1, hk1⟩
  have HR1 : Hid (Rs w1 g lb (bytesS st).1) := hr1
  have HK1 : Hid (Kept (Only g) w0 w1) := hk1
  have HT1 : Hid (w1.heap[w.heap.size]? = some (.cells #[.pointer (some ⟨g, 0, none⟩), .pointer (some ⟨r, 0, none⟩)] 36 (0, 0))) := (hk1.block _ HLt.out.2.2 (fun e => by have e' : w.heap.size = g := e; have := HLt.out; omega)).trans HT0.out
  clear hr1 hk1 p0 p1
  have p0 : w1.cell? ⟨w.heap.size, 0, none⟩ = some (.pointer (some ⟨g, 0, none⟩)) := by rw [cell_of_row _ _ 0 _ 36 (0, 0) HT1.out]; rfl
  have p1 : w1.cell? ⟨w.heap.size, 1, none⟩ = some (.pointer (some ⟨r, 0, none⟩)) := by rw [cell_of_row _ _ 1 _ 36 (0, 0) HT1.out]; rfl
  go_wp2_with fail
  refine (ref_all r ba bc bs st 4 w1 (HT.out.left HK1.out) (by omega)).mono ?_
  rintro e w2 ⟨a2, m2, c2, rfl, hs2, hf2, hk2⟩
  have e0 : readS st 4 = ((bytesS st).1, 0, (bytesS st).2) := by simp [readS]
  rw [e0] at hf2 hs2 ⊢
  simp only at hf2 hs2 ⊢
  obtain ⟨ht, hkb⟩ := HT.out.both HK1.out HR1.out hk2 hf2
  have HT2 : Hid (w2.heap[w.heap.size]? = some (.cells #[.pointer (some ⟨g, 0, none⟩), .pointer (some ⟨r, 0, none⟩)] 36 (0, 0))) := (hk2.block _ (Nat.lt_of_lt_of_le HLt.out.2.2 HK1.out.size) (fun e => by have e' : w.heap.size = r := e; have := HLt.out; omega)).trans HT1.out
  clear p0 p1
  have hz2 : w.heap.size < w2.heap.size := Nat.lt_of_lt_of_le HLt.out.2.2 (Nat.le_trans HK1.out.size hk2.size)
  obtain ⟨w3, hw3⟩ : ∃ w3, w3 = (w2.alloc (Obj.cells #[.int .i64 4, .int .i64 0, .slice a2 m2 c2] 27)) := ⟨_, rfl⟩
  have HK23 : Hid (Kept No w2 w3) := by rw [hw3]; exact (Kept.refl _ _).alloc _
  have HT3 : Hid (w3.heap[w.heap.size]? = some (.cells #[.pointer (some ⟨g, 0, none⟩), .pointer (some ⟨r, 0, none⟩)] 36 (0, 0))) := (HK23.out.block _ hz2 (fun e => e)).trans HT2.out
  have HS3 : Hid (Sl w3 a2 m2 c2 (bytesS st).2) := hs2.no HK23.out
  have HTw3 : Hid (Tw w3 g lb r ba bc bs (bytesS st).1 ∧ Kept (Both g r) w w3) := ⟨ht.no HK23.out, (HK0.out.of_no.then hkb).then HK23.out.of_no⟩
  have hcv := run_str (xc := c2) HS3.out.bytes HS3.out.u8 HS3.out.len
  rw [hw3] at hcv
  have HTn : Hid (Tw (w2.alloc (Obj.cells #[.int .i64 4, .int .i64 0, .slice a2 m2 c2] 27)) g lb r ba bc bs (bytesS st).1) := by rw [← hw3]; exact HTw3.out.1
  have HRn : Hid (Rs (w2.alloc (Obj.cells #[.int .i64 4, .int .i64 0, .slice a2 m2 c2] 27)) g lb (bytesS st).1) := HTn.out.rs
  have HFn : Hid (Rf (w2.alloc (Obj.cells #[.int .i64 4, .int .i64 0, .slice a2 m2 c2] 27)) r ba bc bs (bytesS st).1) := HTn.out.rf
  have HKn : Hid (Kept (Both g r) w (w2.alloc (Obj.cells #[.int .i64 4, .int .i64 0, .slice a2 m2 c2] 27))) := by rw [← hw3]; exact HTw3.out.2
  have HTT : Hid ((w2.alloc (Obj.cells #[.int .i64 4, .int .i64 0, .slice a2 m2 c2] 27)).heap[w.heap.size]? = some (.cells #[.pointer (some ⟨g, 0, none⟩), .pointer (some ⟨r, 0, none⟩)] 36 (0, 0))) := by rw [← hw3]; exact HT3.out
  have p0 : (w2.alloc (Obj.cells #[.int .i64 4, .int .i64 0, .slice a2 m2 c2] 27)).cell? ⟨w.heap.size, 0, none⟩ = some (.pointer (some ⟨g, 0, none⟩)) := by rw [cell_of_row _ _ 0 _ 36 (0, 0) HTT.out]; rfl
  have p1 : (w2.alloc (Obj.cells #[.int .i64 4, .int .i64 0, .slice a2 m2 c2] 27)).cell? ⟨w.heap.size, 1, none⟩ = some (.pointer (some ⟨r, 0, none⟩)) := by rw [cell_of_row _ _ 1 _ 36 (0, 0) HTT.out]; rfl
  clear hs2 hf2 hk2 e0 ht hkb HR1 HK1 HT HT1 HT2 HK23 hw3 HTw3 HT3 HS3
  generalize strOf (bytesS st).2 = S at hcv
  generalize (bytesS st).1 = st' at HTn HRn HFn HKn
  go_wp2_with fail
  refine (Err_all g lb st' _ HRn.out).mono ?_
  rintro e w8 ⟨rfl, n8, hw8⟩
  have h8 : Rf w8 r ba bc bs st' := by rw [hw8]; exact HFn.out.no (Kept.no_drewN _ _)
  have c2 := h8.c2
  have c3 := h8.c3
  have HT8 : Hid (w8.heap[w.heap.size]? = some (.cells #[.pointer (some ⟨g, 0, none⟩), .pointer (some ⟨r, 0, none⟩)] 36 (0, 0))) := by rw [hw8]; exact HTT.out
  clear p0 p1
  have p0 : w8.cell? ⟨w.heap.size, 0, none⟩ = some (.pointer (some ⟨g, 0, none⟩)) := by rw [cell_of_row _ _ 0 _ 36 (0, 0) HT8.out]; rfl
  have p1 : w8.cell? ⟨w.heap.size, 1, none⟩ = some (.pointer (some ⟨r, 0, none⟩)) := by rw [cell_of_row _ _ 1 _ 36 (0, 0) HT8.out]; rfl
  have HP : Hid (Tw w8 g lb r ba bc bs st' ∧ Kept (Both g r) w w8) := by
    rw [hw8]
    exact ⟨HTn.out.no (Kept.no_drewN _ _), HKn.out.drewN _⟩
  clear hw8 h8 HRn HFn HTn HKn
  generalize errS st' = E at c2 c3
  obtain ⟨E1, E2⟩ := E
  simp only at c2 c3 ⊢
  go_wp2
  go_ret
  exact ⟨rfl, _, HP.out.1, HP.out.2⟩

set_option maxRecDepth 100000 in
set_option maxHeartbeats 4000000 in
theorem call_5 (g lb r : Nat) (ba : Option Addr) (bc : Nat) (bs : List Int) (st : RS) (w : World) (h : Tw w g lb r ba bc bs st) :
    Calls Try.prog 12 #[.agg #[.pointer (some ⟨g, 0, none⟩), .pointer (some ⟨r, 0, none⟩)], .int .i64 5] w (CallPost w g lb r ba bc bs) := by
  have HTw : Hid (Tw w g lb r ba bc bs st) := h
  clear h
  go_enter Try.func12, Try.ntmps12
  go_wp2_with fail
  obtain ⟨w0, hw0⟩ : ∃ w0, w0 = w.alloc (Obj.cells #[.pointer (some ⟨g, 0, none⟩), .pointer (some ⟨r, 0, none⟩)] 36) := ⟨_, rfl⟩
  rw [← hw0]
  have HK0 : Hid (Kept No w w0) := by rw [hw0]; exact (Kept.refl _ _).alloc _
  have HT0 : Hid (w0.heap[w.heap.size]? = some (.cells #[.pointer (some ⟨g, 0, none⟩), .pointer (some ⟨r, 0, none⟩)] 36 (0, 0))) := by rw [hw0]; exact heap_new _ _
  have HLt : Hid (g < w.heap.size ∧ r < w.heap.size ∧ w.heap.size < w0.heap.size) := ⟨HTw.out.rs.lt, HTw.out.rf.lt, by rw [hw0, World.heap_size_alloc1]; omega⟩
  have HT : Hid (Tw w0 g lb r ba bc bs st) := HTw.out.no HK0.out
  have p0 : w0.cell? ⟨w.heap.size, 0, none⟩ = some (.pointer (some ⟨g, 0, none⟩)) := by rw [cell_of_row _ _ 0 _ 36 (0, 0) HT0.out]; rfl
  have p1 : w0.cell? ⟨w.heap.size, 1, none⟩ = some (.pointer (some ⟨r, 0, none⟩)) := by rw [cell_of_row _ _ 1 _ 36 (0, 0) HT0.out]; rfl
  clear hw0 HTw
  have HQ1 : Hid (∀ q, Calls Try.prog 25 #[.pointer (some ⟨g, 0, none⟩)] (w0.drewN q) fun e w' => e = .returned (.bool (moreS st)) ∧ ∃ m, w' = (w0.drewN q).drewN m) := fun q => (More_all g lb st (w0.drewN q) (HT.out.rs.no (Kept.no_drewN _ _))).mono fun e w' h => ⟨h.1, 0, h.2⟩
  have HQ2 : Hid (∀ q, Calls Try.prog 39 #[.pointer (some ⟨r, 0, none⟩)] (w0.drewN q) fun e w' => e = .returned (.bool (moreS st)) ∧ ∃ m, w' = (w0.drewN q).drewN m) := fun q => rmore_all r ba bc bs st (w0.drewN q) (HT.out.rf.no (Kept.no_drewN _ _))
  generalize moreS st = M at HQ1 HQ2
  go_quiet ((first | (go_at_call 25; exact Calls.quiet_of (HQ1.out _)) | (go_at_call 39; exact Calls.quiet_of (HQ2.out _))))
  go_wp2_with fail
  refine (Err_all g lb st _ (HT.out.rs.no (Kept.no_drewN _ _))).mono ?_
  rintro e w8 ⟨rfl, n8, hw8⟩
  have hk8 : Kept No w0 w8 := by rw [hw8]; exact ((Kept.refl _ _).drewN _).drewN _
  have HP : Hid (Tw w8 g lb r ba bc bs st ∧ Kept (Both g r) w w8) := ⟨HT.out.no hk8, HK0.out.of_no.then hk8.of_no⟩
  have HT8 : Hid (w8.heap[w.heap.size]? = some (.cells #[.pointer (some ⟨g, 0, none⟩), .pointer (some ⟨r, 0, none⟩)] 36 (0, 0))) := (hk8.block _ HLt.out.2.2 (fun e => e)).trans HT0.out
  have c2 := HP.out.1.rf.c2
  have c3 := HP.out.1.rf.c3
  clear p0 p1
  have p0 : w8.cell? ⟨w.heap.size, 0, none⟩ = some (.pointer (some ⟨g, 0, none⟩)) := by rw [cell_of_row _ _ 0 _ 36 (0, 0) HT8.out]; rfl
  have p1 : w8.cell? ⟨w.heap.size, 1, none⟩ = some (.pointer (some ⟨r, 0, none⟩)) := by rw [cell_of_row _ _ 1 _ 36 (0, 0) HT8.out]; rfl
  clear hw8 hk8 HQ1 HQ2 HT
  generalize errS st = E at c2 c3
  obtain ⟨E1, E2⟩ := E
  simp only at c2 c3 ⊢
  go_wp2
  go_ret
  exact ⟨rfl, _, HP.out.1, HP.out.2⟩

end Go.Proofs.Ytnhjpghkmbgeaaa
