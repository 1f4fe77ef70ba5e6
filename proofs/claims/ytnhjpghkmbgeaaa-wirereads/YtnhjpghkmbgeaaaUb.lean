import Derived.Test.YtnhjpghkmbgeaaaUa
namespace Go.Proofs.Ytnhjpghkmbgeaaa
open Go.RowKit
set_option linter.unusedVariables false

/-- The program's reader and the reference's, in one state. -/
structure Tw (w : World) (g lb h : Nat) (ba : Option Addr) (bc : Nat) (bs : List Int) (st : RS) : Prop where
  rs : Rs w g lb st
  rf : Rf w h ba bc bs st
  ne : g ≠ h
  nl : lb ≠ h
  ll : lb < w.heap.size
  na : 0 < bs.length → ∀ k, At ba k → k ≠ g

set_option maxRecDepth 100000 in
set_option maxHeartbeats 1000000 in
theorem reader_any (a : Option Addr) (cap : Nat) (zs : List Int) (w : World) (h : Sl w a zs.length cap zs) :
    Calls Try.prog 11 #[.slice a zs.length cap] w fun e w' => ∃ g lb r, e = .returned (.tuple #[.agg #[.pointer (some ⟨g, 0, none⟩), .pointer (some ⟨r, 0, none⟩)], .bool true]) ∧ Tw w' g lb r a cap zs (.ok zs 0) ∧ Kept No w w' ∧ w.heap.size ≤ g ∧ w.heap.size ≤ r := by
  have HS : Hid (Sl w a zs.length cap zs) := h
  have hbd := h.bd
  clear h
  go_enter Try.func11, Try.ntmps11
  go_wp2_with fail
  obtain ⟨w0, hw0⟩ : ∃ w0, w0 = w.alloc (Obj.cells #[.pointer none, .pointer none] 36) := ⟨_, rfl⟩
  rw [← hw0]
  have HK0 : Hid (Kept No w w0) := by rw [hw0]; exact (Kept.refl _ _).alloc _
  have HT0 : Hid (w0.heap[w.heap.size]? = some (.cells #[.pointer none, .pointer none] 36 (0, 0))) := by rw [hw0]; exact heap_new _ _
  have HZ0 : Hid (w0.heap.size = w.heap.size + 1) := by rw [hw0]; exact World.heap_size_alloc1 _ _
  clear hw0
  have HS0 : Hid (Sl w0 a zs.length cap zs) := HS.out.no HK0.out
  refine (lendN_any _ _ _ zs w0 HS0.out.len (by omega) HS0.out.bytes).mono ?_
  rintro e w1 ⟨rfl, hB1, hK1⟩
  have HB1 : Hid (Blk w1 w0.heap.size (lent zs 5)) := hB1
  have HK1 : Hid (Kept No w0 w1) := hK1
  clear hB1 hK1
  go_wp2_with fail
  refine (Read_any _ _ _ zs w1 (lent_sl HB1.out HS.out.len HS.out.u8 (by omega))).mono ?_
  rintro e w2 ⟨g, lb, rfl, hg, hlb, hr, hK2, hgl, hlbl⟩
  have HB2 : Hid (Blk w2 w0.heap.size (lent zs 5)) := HB1.out.kept hK2 (fun e => e)
  have HR2 : Hid (Rs w2 g lb (.ok zs 0)) := hr
  have HK2 : Hid (Kept No w0 w2) := HK1.out.then hK2
  have HG : Hid (w0.heap.size < g ∧ w0.heap.size < lb ∧ g < w2.heap.size ∧ lb < w2.heap.size) := by have := HB1.out.lt; exact ⟨by omega, by omega, hgl, hlbl⟩
  clear hg hlb hr hK2 hgl hlbl HB1 HK1
  go_wp2_with fail
  refine (backN_any _ _ _ _ _ zs _ HS.out.len rfl (by omega) HB2.out (HS0.out.no HK2.out).bytes).mono ?_
  rintro e w3 ⟨rfl, hK3⟩
  have HR3 : Hid (Rs w3 g lb (.ok zs 0)) := HR2.out.kept hK3 (fun e => by have e' : g = w0.heap.size := e; have := HG.out.1; omega) (fun e => by have e' : lb = w0.heap.size := e; have := HG.out.2.1; omega)
  have HK3 : Hid (Kept No w0 w3) := HK2.out.fresh hK3 (fun k e => by have h2 : k = w0.heap.size := e; omega)
  have HG3 : Hid (w0.heap.size ≤ g ∧ w0.heap.size ≤ lb ∧ g < w3.heap.size ∧ lb < w3.heap.size) := by have h1 := HG.out; have h2 := hK3.size; exact ⟨by omega, by omega, by omega, by omega⟩
  have hT3 := (HK3.out.block _ (by rw [HZ0.out]; omega) (fun e => e)).trans HT0.out
  have hT4 : (w3.alloc (Obj.cells #[.slice a zs.length cap, .int .i64 0, .int .i64 0, .int .i64 0] 62)).heap[w.heap.size]? = some (.cells #[.pointer none, .pointer none] 36 (0, 0)) := (((Kept.refl No w3).alloc _).block _ (by have h1 := HG3.out; have h2 := HZ0.out; omega) (fun e => e)).trans hT3
  have t0 : (w3.alloc (Obj.cells #[.slice a zs.length cap, .int .i64 0, .int .i64 0, .int .i64 0] 62)).cell? ⟨w.heap.size, 0, none⟩ = some (.pointer none) := by rw [cell_of_row _ _ 0 _ 36 (0, 0) hT4]; rfl
  have t1 : (w3.alloc (Obj.cells #[.slice a zs.length cap, .int .i64 0, .int .i64 0, .int .i64 0] 62)).cell? ⟨w.heap.size, 1, none⟩ = some (.pointer none) := by rw [cell_of_row _ _ 1 _ 36 (0, 0) hT4]; rfl
  have u0 := frozen_of_row _ _ 0 _ 36 hT4
  have u1 := frozen_of_row _ _ 1 _ 36 hT4
  clear hK3 HR2 HK2 HB2 HG hT3 hT4
  go_wp2
  refine bodyPost_ret (v := .tuple #[.agg #[.pointer (some ⟨g, 0, none⟩), .pointer (some ⟨w3.heap.size, 0, none⟩)], .bool true]) (by simp [results, Try.results11, go_sem, t0, t1]) rfl ⟨g, lb, w3.heap.size, rfl, ?_, ?_, ?_, ?_⟩
  · have g3 := HG3.out
    have z0 := HZ0.out
    have hko : Kept (Only w.heap.size) (w3.alloc (Obj.cells #[.slice a zs.length cap, .int .i64 0, .int .i64 0, .int .i64 0] 62)) (((w3.alloc (Obj.cells #[.slice a zs.length cap, .int .i64 0, .int .i64 0, .int .i64 0] 62)).setCell ⟨w.heap.size, 0, none⟩ (.pointer (some ⟨g, 0, none⟩))).setCell ⟨w.heap.size, 1, none⟩ (.pointer (some ⟨w3.heap.size, 0, none⟩))) :=
      ((Kept.refl (Only w.heap.size) _).setCell (p := ⟨w.heap.size, 0, none⟩) (fun _ => (rfl : w.heap.size = w.heap.size)) _).setCell (p := ⟨w.heap.size, 1, none⟩) (fun _ => (rfl : w.heap.size = w.heap.size)) _
    have hal : ∀ k, 0 < zs.length → At a k → k < w.heap.size := by
      intro k h0 hka
      obtain ⟨b, off, rfl, hc⟩ := HS.out.bytes 0 h0
      rw [at_some hka]
      exact World.block_lt_of_cell? w _ hc
    have hs4 : Sl (w3.alloc (Obj.cells #[.slice a zs.length cap, .int .i64 0, .int .i64 0, .int .i64 0] 62)) a zs.length cap zs := (HS0.out.no HK3.out).no ((Kept.refl _ _).alloc _)
    refine ⟨(HR3.out.no ((Kept.refl _ _).alloc _)).kept hko (fun e => by have e' : g = w.heap.size := e; omega) (fun e => by have e' : lb = w.heap.size := e; omega), ⟨⟨?_, hs4.kept2 hko (fun h0 k hk e => by have e' : k = w.heap.size := e; have := hal k h0 hk; omega), Nat.zero_le _⟩, rfl⟩, by omega, by omega, ?_, fun h0 k hk => by have := hal k h0 hk; omega⟩
    · exact (hko.block w3.heap.size (by rw [World.heap_size_alloc1]; omega) (fun e => by have e' : w3.heap.size = w.heap.size := e; omega)).trans (heap_new _ _)
    · have h1 := hko.size; rw [World.heap_size_alloc1] at h1; omega
  · exact ((((HK0.out.then HK3.out).alloc _).setCell (p := ⟨w.heap.size, 0, none⟩) (fun h => absurd h (Nat.lt_irrefl _)) _).setCell (p := ⟨w.heap.size, 1, none⟩) (fun h => absurd h (Nat.lt_irrefl _)) _)
  · have g3 := HG3.out; have z0 := HZ0.out; omega
  · have g3 := HG3.out; have z0 := HZ0.out; omega

end Go.Proofs.Ytnhjpghkmbgeaaa
