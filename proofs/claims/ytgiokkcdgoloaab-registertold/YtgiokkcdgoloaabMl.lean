import Derived.Test.YtgiokkcdgoloaabMk
namespace Go.Proofs.Ytgiokkcdgoloaab
open Go.RowKit
set_option linter.unusedVariables false
set_option linter.unusedSimpArgs false

theorem md_cell (d : MD) : d.cells[11]? = some (.int .i64 d.sn) ∧ d.cells[12]? = some (.int .i64 d.sc) ∧ d.cells[15]? = some (.slice d.ba d.bl d.bk) := by
  refine ⟨?_, ?_, ?_⟩ <;> simp [MD.cells]
theorem eqlStamp (n c m d : Int) (w : World) : (binOp .eql 29 (.agg #[.int .i64 n, .int .i64 c]) (.agg #[.int .i64 m, .int .i64 d])).run Try.prog w = .ok (.bool (n == m && c == d)) w := by
  rw [run_eql_struct, eqStamp]; rfl

def KeepOut (w : World) (n c : Int) (zs : List Int) (e : Ending) (w' : World) : Prop :=
  ∃ a' cap', e = .returned (.agg #[.int .i64 n, .int .i64 c, .slice a' zs.length cap']) ∧ OwnB w' w.heap.size a' cap' zs ∧ Kept No w w'

set_option maxRecDepth 100000 in
set_option maxHeartbeats 4000000 in
theorem keepW_any (cl : Int) (da : Option Addr) (dl dc : Nat) (d : MD) (w : World) :
    Calls Try.prog 67 #[.agg #[.int .i64 cl, .slice da dl dc], .agg d.cells] w (KeepOut w d.sn d.sc []) := by
  obtain ⟨w1, hw1⟩ : ∃ w1, w1 = (w.alloc (.cells #[.int .i64 cl, .slice da dl dc] 96)).alloc (.cells d.cells 73) := ⟨_, rfl⟩
  obtain ⟨N, hN⟩ : ∃ N, N = w.heap.size + 1 := ⟨_, rfl⟩
  have hs1 : w1.heap.size = N + 1 := by rw [hw1, hN]; simp
  have HK1 : Hid (Kept No w w1) := by rw [hw1]; exact ((Kept.refl No w).alloc _).alloc _
  have hX : Box w1 N 73 d.cells := by
    have h := Box.new (w.alloc (.cells #[.int .i64 cl, .slice da dl dc] 96)) 73 d.cells
    have e : (w.alloc (.cells #[.int .i64 cl, .slice da dl dc] 96)).heap.size = w.heap.size + 1 := by simp
    rw [e] at h
    rw [hw1, hN]
    exact h
  have hX2 : Box (w1.alloc (.cells #[.int .i64 0, .int .i64 0, .slice none 0 0] 31)) N 73 d.cells := hX.alloc _
  have HF : Hid (Box (w1.alloc (.cells #[.int .i64 d.sn, .int .i64 d.sc, .slice none 0 0] 31)) (N + 1) 31 #[.int .i64 d.sn, .int .i64 d.sc, .slice none 0 0]) := by
    have := Box.new w1 31 #[.int .i64 d.sn, .int .i64 d.sc, .slice none 0 0]
    rw [hs1] at this
    exact this
  have c11 := md_at hX2 11 (by omega)
  have c12 := md_at hX2 12 (by omega)
  simp only [List.getElem?_cons_zero, List.getElem?_cons_succ] at c11 c12
  clear hX hX2
  have HNe : Hid (w.heap.size ≤ N) := by rw [hN]; show _ ≤ _; omega
  go_enter Try.func67, Try.ntmps67
  go_wp2_with (refine wp_boxV rfl 73 _ rfl d.cells rfl (w.heap.size + 1) (by simp) ?_
               rw [← hw1, ← hN]
               have HSz : Hid (w1.heap.size = N + 1) := hs1
               clear hw1 hN hs1)
  rw [HSz.out]
  refine bodyPost_ret (results_cell_row (by rfl) _ _ (N + 1) 31 #[.int .i64 d.sn, .int .i64 d.sc, .slice none 0 0] (0, 0) _ (by rfl) HF.out Try.underlying31 rfl Try.size31) rfl ?_
  exact ⟨none, 0, rfl, Own.nil _ _ _ _, HK1.out.alloc _⟩


set_option maxRecDepth 100000 in
set_option maxHeartbeats 4000000 in
theorem keepR0_any (sz : Int) (d : MD) (w : World) (h0 : 0 ≤ sz) (h1 : sz ≤ 4096) (hn : d.sn = 0) (hc : d.sc = 0) :
    Calls Try.prog 66 #[.agg #[.int .i64 sz], .agg d.cells] w (KeepOut w 0 0 (List.replicate sz.toNat 0)) := by
  obtain ⟨w2, hw2⟩ : ∃ w2, w2 = ((w.alloc (.cells #[.int .i64 sz] 93)).alloc (.cells d.cells 73)).alloc (.cells #[.int .i64 0, .int .i64 0, .slice none 0 0] 31) := ⟨_, rfl⟩
  have HK2 : Hid (Kept No w w2) := by rw [hw2]; exact (((Kept.refl No w).alloc _).alloc _).alloc _
  have HZ : Hid (Box w2 (w.heap.size + 1 + 1) 31 #[.int .i64 0, .int .i64 0, .slice none 0 0]) := by
    have h := Box.new ((w.alloc (.cells #[.int .i64 sz] 93)).alloc (.cells d.cells 73)) 31 #[.int .i64 0, .int .i64 0, .slice none 0 0]
    have e : ((w.alloc (.cells #[.int .i64 sz] 93)).alloc (.cells d.cells 73)).heap.size = w.heap.size + 1 + 1 := by simp
    rw [e] at h
    rw [hw2]
    exact h
  have HX : Hid (Box w2 (w.heap.size + 1) 73 d.cells) := by
    have h := Box.new (w.alloc (.cells #[.int .i64 sz] 93)) 73 d.cells
    have e : (w.alloc (.cells #[.int .i64 sz] 93)).heap.size = w.heap.size + 1 := by simp
    rw [e] at h
    rw [hw2]
    exact h.alloc _
  obtain ⟨e11, e12, e15⟩ := md_cell d
  have q41 := eqlStamp
  rw [hn] at e11
  rw [hc] at e12
  clear hn hc e15 HX
  obtain ⟨n, rfl⟩ : ∃ n : Nat, sz = (n : Int) := ⟨sz.toNat, by omega⟩
  have hn : n ≤ 4096 := by omega
  simp only [Int.toNat_natCast]
  clear h0 h1
  obtain ⟨i0, hi, hz0, hz1, hz2⟩ := info_parts Try.info5
  go_enter Try.func66, Try.ntmps66
  go_wp2_with (first
    | (refine wp_boxV rfl 73 _ rfl d.cells rfl (w.heap.size + 1) (by simp) ?_)
    | (at_make
       rw [← hw2]
       go_must (
         refine wpList_make_full _ rfl (.tmp 10) (.tmp 10) 22 rfl w2.heap.size 5 i0 (.int .u8 0) 1 Try.underlying22 hi hz0 hz1 .i64 .i64 _ _ n rfl rfl (by omega) (by omega) (by rw [hz2]; omega) (by unfold maxLen; omega) (Nat.le_refl _) ?_
         intro w3 hown hgrow
         have HO3 : Hid (OwnB w3 w2.heap.size (some ⟨w2.heap.size, 0, none⟩) n (List.replicate n 0)) := (by
           have h := hown
           rw [made_bytes] at h
           have e : (List.replicate n (0 : Int)).length = n := by simp
           show Own 5 1 w3 w2.heap.size (some ⟨w2.heap.size, 0, none⟩) n (List.replicate n (0 : Int)).length _
           rw [e]
           exact h)
         have HK3 : Hid (Kept No w2 w3) := kept_grown hgrow
         have HZ3 : Hid (Box w3 (w.heap.size + 1 + 1) 31 #[.int .i64 0, .int .i64 0, .slice none 0 0]) := HZ.out.kept HK3.out (fun e => e)
         have b0 := HZ3.out.cell 0
         have b1 := HZ3.out.cell 1
         have b2 := HZ3.out.cell 2
         have f0 := HZ3.out.frozen 0
         have f1 := HZ3.out.frozen 1
         have f2 := HZ3.out.frozen 2
         simp only [List.getElem?_toArray, List.getElem?_cons_zero, List.getElem?_cons_succ] at b0 b1 b2
         obtain ⟨G, hG⟩ : ∃ G, G = w2.heap.size := ⟨_, rfl⟩
         have HG : Hid (G = w2.heap.size) := hG
         rw [← hG] at HO3 ⊢
         clear hown hgrow hw2 hG)))
  obtain ⟨hF, hKs⟩ := set3 HZ3.out (.int .i64 0) (.int .i64 0) (.slice (some ⟨G, 0, none⟩) n n)
  refine bodyPost_ret (results_cell_row (by rfl) _ _ (w.heap.size + 1 + 1) 31 #[.int .i64 0, .int .i64 0, .slice (some ⟨G, 0, none⟩) n n] (0, 0) _ (by rfl) hF Try.underlying31 rfl Try.size31) rfl ?_
  have hs := HZ.out.lt
  have hs2 := HG.out
  have e : (List.replicate n (0 : Int)).length = n := by simp
  refine ⟨some ⟨G, 0, none⟩, n, by rw [e], Own.lower (HO3.out.kept hKs (fun k hk e => ?_)) (Nat.le_trans HK2.out.size (Nat.le_of_eq HG.out.symm)), (HK2.out.then HK3.out).trans hKs (fun _ e => e) (fun i hi e => ?_)⟩
  · have h1 : k = w.heap.size + 1 + 1 := e
    have h2 := HO3.out.base hk
    omega
  · have : i = w.heap.size + 1 + 1 := e
    omega

set_option maxRecDepth 100000 in
set_option maxHeartbeats 4000000 in
theorem keepR1_any (sz : Int) (d : MD) (bz : List Int) (w : World) (hne : ¬ (d.sn = 0 ∧ d.sc = 0)) (hl : bz.length = d.bl) (hbl : d.bl ≤ 140737488355328) (hb : Bytes w d.ba bz) :
    Calls Try.prog 66 #[.agg #[.int .i64 sz], .agg d.cells] w (KeepOut w d.sn d.sc bz) := by
  obtain ⟨w2, hw2⟩ : ∃ w2, w2 = ((w.alloc (.cells #[.int .i64 sz] 93)).alloc (.cells d.cells 73)).alloc (.cells #[.int .i64 0, .int .i64 0, .slice none 0 0] 31) := ⟨_, rfl⟩
  have HK2 : Hid (Kept No w w2) := by rw [hw2]; exact (((Kept.refl No w).alloc _).alloc _).alloc _
  have HZ : Hid (Box w2 (w.heap.size + 1 + 1) 31 #[.int .i64 0, .int .i64 0, .slice none 0 0]) := by
    have h := Box.new ((w.alloc (.cells #[.int .i64 sz] 93)).alloc (.cells d.cells 73)) 31 #[.int .i64 0, .int .i64 0, .slice none 0 0]
    have e : ((w.alloc (.cells #[.int .i64 sz] 93)).alloc (.cells d.cells 73)).heap.size = w.heap.size + 1 + 1 := by simp
    rw [e] at h
    rw [hw2]
    exact h
  have HX : Hid (Box w2 (w.heap.size + 1) 73 d.cells) := by
    have h := Box.new (w.alloc (.cells #[.int .i64 sz] 93)) 73 d.cells
    have e : (w.alloc (.cells #[.int .i64 sz] 93)).heap.size = w.heap.size + 1 := by simp
    rw [e] at h
    rw [hw2]
    exact h.alloc _
  obtain ⟨e11, e12, e15⟩ := md_cell d
  have q41 := eqlStamp
  have hne' : (d.sn == 0 && d.sc == 0) = false := by
    cases h : (d.sn == 0 && d.sc == 0)
    · rfl
    · exact absurd (by simpa using h) hne
  have HB : Hid (Bytes w d.ba bz) := hb
  have HL : Hid (bz.length = d.bl) := hl
  clear hne hb hl
  go_enter Try.func66, Try.ntmps66
  go_upto_region 3 with (refine wp_boxV rfl 73 _ rfl d.cells rfl (w.heap.size + 1) (by simp) ?_)
  rw [← hw2]
  obtain ⟨N, hN⟩ : ∃ N, N = w.heap.size + 1 := ⟨_, rfl⟩
  rw [← hN] at HX HZ ⊢
  have HNN : Hid (N = w.heap.size + 1) := hN
  clear hw2 hN e11 e12 e15 q41
  have HXc : Hid (∀ wr, Kept No w2 wr → wr.cell? ⟨N, 11, none⟩ = some (.int .i64 d.sn) ∧ wr.cell? ⟨N, 12, none⟩ = some (.int .i64 d.sc) ∧ wr.cell? ⟨N, 15, none⟩ = some (.slice d.ba d.bl d.bk)) := fun wr hk => by
    have h := HX.out.kept hk (fun e => e)
    exact ⟨md_at h 11 (by omega), md_at h 12 (by omega), md_at h 15 (by omega)⟩
  obtain ⟨x0, x1, x2⟩ := HXc.out w2 (Kept.refl _ _)
  have HKr : Hid (Kept No w2 w2.drew) := (Kept.refl No w2).drew
  have nA : N ≠ N + 1 := by omega
  have nB : N + 1 ≠ N := by omega
  go_region_held3 (fun w' => w'.cell? ⟨N, 11, none⟩ = some (.int .i64 d.sn) ∧ w'.cell? ⟨N, 12, none⟩ = some (.int .i64 d.sc) ∧ w'.cell? ⟨N, 15, none⟩ = some (.slice d.ba d.bl d.bk)) (go_keep) (first
    | (go_at_call 21
       refine Calls.mono (clone_any d.ba d.bl d.bk bz w2.drew HL.out hbl (HB.out.no (HK2.out.then HKr.out))) ?_
       rintro e w3 ⟨a3, c3, rfl, hO3, hk3, _, _⟩
       have HK3 : Hid (Kept No w2 w3) := HKr.out.then hk3
       have HO3 : Hid (OwnB w3 w2.heap.size a3 c3 bz) := hO3
       obtain ⟨y0, y1, y2⟩ := HXc.out w3 HK3.out
       have HZ3 : Hid (Box w3 (N + 1) 31 #[.int .i64 0, .int .i64 0, .slice none 0 0]) := HZ.out.kept HK3.out (fun e => e)
       have b0 := HZ3.out.cell 0
       have b1 := HZ3.out.cell 1
       have b2 := HZ3.out.cell 2
       have f0 := HZ3.out.frozen 0
       have f1 := HZ3.out.frozen 1
       have f2 := HZ3.out.frozen 2
       simp only [List.getElem?_toArray, List.getElem?_cons_zero, List.getElem?_cons_succ] at b0 b1 b2
       clear hO3 hk3))
  obtain ⟨hF, hKs⟩ := set3 HZ3.out (.int .i64 d.sn) (.int .i64 d.sc) (.slice a3 bz.length c3)
  have HF : Hid _ := hF
  have HKs : Hid _ := hKs
  clear hF hKs
  generalize (((w3.setCell ⟨N + 1, 0, none⟩ (.int .i64 d.sn)).setCell ⟨N + 1, 1, none⟩ (.int .i64 d.sc)).setCell ⟨N + 1, 2, none⟩ (.slice a3 bz.length c3)) = w4 at HF HKs ⊢
  clear b0 b1 b2 f0 f1 f2
  go_wp2
  refine bodyPost_ret (results_cell_row (by rfl) _ _ (N + 1) 31 #[.int .i64 d.sn, .int .i64 d.sc, .slice a3 bz.length c3] (0, 0) _ (by rfl) HF.out Try.underlying31 rfl Try.size31) rfl ?_
  have hs := HZ.out.lt
  have hN := HNN.out
  refine ⟨a3, c3, rfl, Own.lower (HO3.out.kept HKs.out (fun k hk e => ?_)) HK2.out.size, (HK2.out.then HK3.out).trans HKs.out (fun _ e => e) (fun i hi e => ?_)⟩
  · have h1 : k = N + 1 := e
    have h2 := HO3.out.base hk
    omega
  · have : i = N + 1 := e
    omega

end Go.Proofs.Ytgiokkcdgoloaab
