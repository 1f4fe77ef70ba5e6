import Derived.Test.YtpapbleabjpbfabE
namespace Go.Proofs.Ytpapbleabjpbfab
open Go.RowKit
set_option linter.unusedVariables false

theorem Box.other {w : World} {g : Nat} {t : TypeId} {cs : Array Value} (h : Box w g t cs) {p : Addr} (hp : g ≠ p.block) (v : Value) : Box (w.setCell p v) g t cs :=
  (Below.heap_setCell _ _ _ _ hp).trans h
theorem lent_at (zs : List Int) : ((zs ++ [0]).map (Value.int .i64)).toArray[zs.length]? = some (.int .i64 0) := by
  simp
theorem lent_set (zs : List Int) : ((zs ++ [0]).map (Value.int .i64)).toArray.setIfInBounds zs.length (.int .i64 (-77)) = ((zs ++ [-77]).map (Value.int .i64)).toArray := by
  simp

theorem below_kept {B : Nat} {w w' : World} (h : Below B w w') : Kept (fun k => B ≤ k) w w' :=
  ⟨h.os, h.tape, h.output, h.size, fun k hk hS => h.block k (by omega)⟩

set_option maxRecDepth 100000 in
set_option maxHeartbeats 1000000 in
theorem lend_any (a : Option Addr) (cap : Nat) (zs : List Int) (f p bu bl ro : Int) (w : World) (hm : zs.length ≤ 17592186043904) (hb : Nums .i64 w a zs) :
    Calls Try.prog 17 #[cfgV (.slice a zs.length cap) f p bu bl ro] w fun e w' => e = .returned (cfgV (.slice (some ⟨w.heap.size + 2, 0, none⟩) zs.length (zs.length + 1)) f p bu bl ro) ∧ Box w' (w.heap.size + 2) 3 ((zs ++ [-77]).map (Value.int .i64)).toArray ∧ Kept No w w' := by
  have HB : Hid (Nums .i64 w a zs) := hb
  clear hb
  obtain ⟨i0, hi, hz0, hz1, hz2⟩ := info_parts Try.info3
  go_enter Try.func17, Try.ntmps17
  go_wp2_with (first
    | (at_make
       obtain ⟨w0, hw0⟩ : ∃ w0, w0 = (w.alloc (.cells #[.slice a zs.length cap, .int .i64 f, .int .i64 p, .int .i64 bu, .int .i64 bl, .int .i64 ro] 24)).alloc (.cells #[.slice none 0 0, .int .i64 0, .int .i64 0, .int .i64 0, .int .i64 0, .int .i64 0] 24) := ⟨_, rfl⟩
       rw [← hw0]
       have HB0 : Hid (Box w0 w.heap.size 24 #[.slice a zs.length cap, .int .i64 f, .int .i64 p, .int .i64 bu, .int .i64 bl, .int .i64 ro]) := by
           rw [hw0]; exact (Box.new _ _ _).alloc _
       have HR0 : Hid (Box w0 (w.heap.size + 1) 24 #[.slice none 0 0, .int .i64 0, .int .i64 0, .int .i64 0, .int .i64 0, .int .i64 0]) := by
           rw [hw0]; show Box _ _ _ _; have := Box.new (w.alloc (.cells #[.slice a zs.length cap, .int .i64 f, .int .i64 p, .int .i64 bu, .int .i64 bl, .int .i64 ro] 24)) 24 #[.slice none 0 0, .int .i64 0, .int .i64 0, .int .i64 0, .int .i64 0, .int .i64 0]
           simpa using this
       have HK0 : Hid (Kept No w w0) := by rw [hw0]; exact ((Kept.refl No w).alloc _).alloc _
       have hs0 : w0.heap.size = w.heap.size + 2 := by rw [hw0]; simp
       clear hw0
       refine wpList_make_full _ rfl (.tmp 7) (.tmp 7) 22 rfl w0.heap.size 3 i0 (.int .i64 0) 1 Try.underlying22 hi hz0 hz1 .i64 .i64 _ _ (zs.length + 1) rfl rfl ?hl ?hc (by rw [hz2]; omega) (by unfold maxLen; omega) (Nat.le_refl _) ?_
       case hl => omega
       case hc => omega
       intro w1 hown hgrow
       have HG : Hid (Box w1 (w.heap.size + 2) 3 ((List.replicate (zs.length + 1) (0 : Int)).map (Value.int .i64)).toArray) := by
           rw [made_ints] at hown; rw [← hs0]; exact made_box hown
       have HK1 : Hid (Kept No w0 w1) := kept_grown hgrow
       have HB1 : Hid (Box w1 w.heap.size 24 _) := HB0.out.kept HK1.out (fun e => e)
       have HR1 : Hid (Box w1 (w.heap.size + 1) 24 _) := HR0.out.kept HK1.out (fun e => e)
       have HK : Hid (Kept No w w1) := HK0.out.then HK1.out
       rw [hs0]
       have HS : Hid (Nums .i64 w1 a zs) := HB.out.no HK.out
       have c0 := HB1.out.cell 0
       simp only [List.getElem?_toArray, List.getElem?_cons_zero] at c0
       have hlt1 : Hid (w.heap.size + 2 < w1.heap.size) := HG.out.lt
       clear HB0 HR0 HK0 HK1 hown hgrow hs0)
    | (refine wpList_copy_splice rfl (.tmp 9) (.tmp 11) 22 22 rfl 3 Try.underlying22 Try.size3 _ a (zs.length + 1) (zs.length + 1) zs.length cap rfl rfl (w.heap.size + 2) 0 ((List.replicate (zs.length + 1) (0 : Int)).map (Value.int .i64)) 3 HG.out (zs.map (Value.int .i64)) (by rw [List.length_map]; exact (Nat.min_eq_left (by omega)).symm) (fun h0 => ⟨rfl, HS.out.src h0⟩) (by simp) (num_one .i64 zs) (w.heap.size + 2) w1 ((Kept.refl No w1).below (by have := hlt1.out; omega) (fun _ e => e.elim)) (Nat.le_refl _) ?_
       intro w2 HG2 hbel
       have HB2 : Hid (Box w2 (w.heap.size + 2) 3 ((zs ++ [0]).map (Value.int .i64)).toArray) := (by have := HG2.out; rw [lent_0] at this; exact this)
       have HK2 : Hid (Kept (fun k => w.heap.size + 2 ≤ k) w1 w2) := (below_kept hbel)
       have HC2 : Hid (Box w2 w.heap.size 24 _) := HB1.out.kept HK2.out (by omega)
       have HR2 : Hid (Box w2 (w.heap.size + 1) 24 _) := HR1.out.kept HK2.out (by omega)
       have HK3 : Hid (Kept No w w2) := HK.out.trans HK2.out (fun _ e => e) (fun i hi e => by omega)
       have c0 := HC2.out.cell 0
       have c1 := HC2.out.cell 1
       have c2 := HC2.out.cell 2
       have c3 := HC2.out.cell 3
       have c4 := HC2.out.cell 4
       have c5 := HC2.out.cell 5
       simp only [List.getElem?_toArray, List.getElem?_cons_zero, List.getElem?_cons_succ] at c0 c1 c2 c3 c4 c5
       have f0 := HC2.out.frozen 0
       have r0 := HR2.out.frozen 0
       have r1 := HR2.out.frozen 1
       have r2 := HR2.out.frozen 2
       have r3 := HR2.out.frozen 3
       have r4 := HR2.out.frozen 4
       have r5 := HR2.out.frozen 5
       have s0 := HR2.out.cell 0
       have s1 := HR2.out.cell 1
       have s2 := HR2.out.cell 2
       have s3 := HR2.out.cell 3
       have s4 := HR2.out.cell 4
       have s5 := HR2.out.cell 5
       simp only [List.getElem?_toArray, List.getElem?_cons_zero, List.getElem?_cons_succ] at s0 s1 s2 s3 s4 s5
       have g0 := HB2.out.frozen zs.length
       have g1 := HB2.out.cell zs.length
       rw [lent_at] at g1
       clear HG2 hbel HK HG HS HB1 HR1 HK2))
  refine bodyPost_ret (v := cfgV (.slice (some ⟨w.heap.size + 2, 0, none⟩) zs.length (zs.length + 1)) f p bu bl ro) (by simp [results, Try.results17, go_sem, s0, s1, s2, s3, s4, s5]) rfl ⟨rfl, ?_, ?_⟩
  · have := HB2.out.set zs.length (.int .i64 (-77))
    rw [lent_set] at this
    exact ((((((this.other (by simp) _).other (by simp) _).other (by simp) _).other (by simp) _).other (by simp) _).other (by simp) _).other (by simp) _
  · exact (((((((HK3.out.setCell (fun h => by simp at h; omega) _).setCell (fun h => by simp at h) _).setCell (fun h => by simp at h; omega) _).setCell (fun h => by simp at h; omega) _).setCell (fun h => by simp at h; omega) _).setCell (fun h => by simp at h; omega) _).setCell (fun h => by simp at h; omega) _).setCell (fun h => by simp at h; omega) _

end Go.Proofs.Ytpapbleabjpbfab
