import Derived.Test.YtgiokkcdgoloaabMj
namespace Go.Proofs.Ytgiokkcdgoloaab
open Go.RowKit
set_option linter.unusedVariables false
set_option linter.unusedSimpArgs false

set_option maxRecDepth 100000 in
set_option maxHeartbeats 1000000 in
theorem rless_any (n c m d : Int) (w : World) : Calls Try.prog 40 #[.agg #[.int .i64 n, .int .i64 c], .agg #[.int .i64 m, .int .i64 d]] w (fun e w' => e = .returned (.bool (lessB n c m d)) ∧ Kept No w w') := by
  have HL : Hid (lessB n c m d = (decide (n < m) || (decide (n = m) && decide (c < d)))) := rfl
  generalize lessB n c m d = L at HL
  by_cases h : n = m
  · subst h
    have h0 : ¬ (n < n) := by omega
    go_enter Try.func40, Try.ntmps40
    go_wp2
    all_goals go_ret
    all_goals refine ⟨ret_bool ?_, (((Kept.refl No w).alloc _).alloc _)⟩
    all_goals rw [HL.out]
    all_goals simp
  · have h' : (n == m) = false := by simpa using h
    by_cases h1 : n < m
    · go_enter Try.func40, Try.ntmps40
      go_wp2
      all_goals go_ret
      all_goals refine ⟨ret_bool ?_, (((Kept.refl No w).alloc _).alloc _)⟩
      all_goals rw [HL.out]
      all_goals simp_all
    · go_enter Try.func40, Try.ntmps40
      go_wp2
      all_goals go_ret
      all_goals refine ⟨ret_bool ?_, (((Kept.refl No w).alloc _).alloc _)⟩
      all_goals rw [HL.out]
      all_goals simp_all

def NewerOut (w : World) (n c : Int) (zs : List Int) (b : Bool) (e : Ending) (w' : World) : Prop :=
  ∃ a' cap', e = .returned (.tuple #[.agg #[.int .i64 n, .int .i64 c, .slice a' zs.length cap'], .bool b]) ∧ OwnB w' w.heap.size a' cap' zs ∧ Kept No w w'

theorem set3 {w : World} {g : Nat} {t : TypeId} {u0 u1 u2 : Value} (h : Box w g t #[u0, u1, u2]) (v0 v1 v2 : Value) :
    Box (((w.setCell ⟨g, 0, none⟩ v0).setCell ⟨g, 1, none⟩ v1).setCell ⟨g, 2, none⟩ v2) g t #[v0, v1, v2] ∧ Kept (Only g) w (((w.setCell ⟨g, 0, none⟩ v0).setCell ⟨g, 1, none⟩ v1).setCell ⟨g, 2, none⟩ v2) :=
  ⟨((h.set 0 v0).set 1 v1).set 2 v2, (((Kept.refl (Only g) w).setCell (p := ⟨g, 0, none⟩) (fun _ => rfl) _).setCell (p := ⟨g, 1, none⟩) (fun _ => rfl) _).setCell (p := ⟨g, 2, none⟩) (fun _ => rfl) _⟩

set_option maxRecDepth 100000 in
set_option maxHeartbeats 4000000 in
theorem newerYes_any (hn hc : Int) (ha : Option Addr) (hl hk : Nat) (sn sc : Int) (da : Option Addr) (dl dk : Nat) (dz : List Int) (w : World) (hd : dz.length = dl) (hdl : dl ≤ 140737488355328) (hdb : Bytes w da dz) (hL : lessB hn hc sn sc = true) :
    Calls Try.prog 7 #[.agg #[.int .i64 hn, .int .i64 hc, .slice ha hl hk], .agg #[.int .i64 sn, .int .i64 sc], .slice da dl dk] w (NewerOut w sn sc dz true) := by
  have HD : Hid (dz.length = dl) := hd
  have HDB : Hid (Bytes w da dz) := hdb
  have HL : Hid (lessB hn hc sn sc = true) := hL
  clear hd hdb hL
  obtain ⟨w1, hw1⟩ : ∃ w1, w1 = ((w.alloc (.cells #[.int .i64 hn, .int .i64 hc, .slice ha hl hk] 31)).alloc (.cells #[.int .i64 sn, .int .i64 sc] 29)).alloc (.cells #[.int .i64 0, .int .i64 0, .slice none 0 0] 31) := ⟨_, rfl⟩
  obtain ⟨N, hN⟩ : ∃ N, N = w.heap.size := ⟨_, rfl⟩
  have HNN : Hid (N = w.heap.size) := hN
  have HK1 : Hid (Kept No w w1) := by rw [hw1]; exact (((Kept.refl No w).alloc _).alloc _).alloc _
  have e1 : (w.alloc (.cells #[.int .i64 hn, .int .i64 hc, .slice ha hl hk] 31)).heap.size = w.heap.size + 1 := by simp
  have e2 : ((w.alloc (.cells #[.int .i64 hn, .int .i64 hc, .slice ha hl hk] 31)).alloc (.cells #[.int .i64 sn, .int .i64 sc] 29)).heap.size = w.heap.size + 1 + 1 := by simp
  have HX1 : Hid (∀ wr, Kept No w1 wr → wr.cell? ⟨N + 1, 0, none⟩ = some (.int .i64 sn) ∧ wr.cell? ⟨N + 1, 1, none⟩ = some (.int .i64 sc)) := fun wr hk' => by
    have hX := Box.new (w.alloc (.cells #[.int .i64 hn, .int .i64 hc, .slice ha hl hk] 31)) 29 #[.int .i64 sn, .int .i64 sc]
    rw [e1] at hX
    have hX := hX.alloc (.cells #[.int .i64 0, .int .i64 0, .slice none 0 0] 31)
    rw [← hw1] at hX
    have hX := hX.kept hk' (fun e => e)
    rw [hN]
    exact ⟨hX.cell 0, hX.cell 1⟩
  have HY1 : Hid (Box w1 (N + 1 + 1) 31 #[.int .i64 0, .int .i64 0, .slice none 0 0]) := by
    have hX := Box.new ((w.alloc (.cells #[.int .i64 hn, .int .i64 hc, .slice ha hl hk] 31)).alloc (.cells #[.int .i64 sn, .int .i64 sc] 29)) 31 #[.int .i64 0, .int .i64 0, .slice none 0 0]
    rw [e2] at hX
    rw [hw1, hN]
    exact hX
  clear e1 e2
  go_enter Try.func7, Try.ntmps7
  go_upto_region 2 with (first
    | (go_at_call 20
       rw [← hw1]
       refine Calls.mono (less_any hn hc sn sc w1) ?_
       rintro e w2 ⟨rfl, hk2⟩
       rw [HL.out]
       have HK2 : Hid (Kept No w1 w2) := hk2
       clear hk2))
  rw [← hN]
  clear hw1 hN
  have HKr : Hid (Kept No w1 w2.drew) := HK2.out.drew
  obtain ⟨x0, x1⟩ := HX1.out w2 HK2.out
  go_region_held3 (fun w' => w'.cell? ⟨N + 1, 0, none⟩ = some (.int .i64 sn) ∧ w'.cell? ⟨N + 1, 1, none⟩ = some (.int .i64 sc)) (go_keep) (first
    | (go_at_call 21
       refine Calls.mono (clone_any da dl dk dz w2.drew HD.out hdl (HDB.out.no (HK1.out.then HKr.out))) ?_
       rintro e w3 ⟨a3, c3, rfl, hO3, hk3, _, _⟩
       have HK3 : Hid (Kept No w1 w3) := HKr.out.then hk3
       have HO3 : Hid (OwnB w3 w2.heap.size a3 c3 dz) := hO3
       obtain ⟨y0, y1⟩ := HX1.out w3 HK3.out
       have HY3 : Hid (Box w3 (N + 1 + 1) 31 #[.int .i64 0, .int .i64 0, .slice none 0 0]) := HY1.out.kept HK3.out (fun e => e)
       have b0 := HY3.out.cell 0
       have b1 := HY3.out.cell 1
       have b2 := HY3.out.cell 2
       have f0 := HY3.out.frozen 0
       have f1 := HY3.out.frozen 1
       have f2 := HY3.out.frozen 2
       simp only [List.getElem?_toArray, List.getElem?_cons_zero, List.getElem?_cons_succ] at b0 b1 b2
       clear hO3 hk3))
  obtain ⟨HF, HKs⟩ := set3 HY3.out (.int .i64 sn) (.int .i64 sc) (.slice a3 dz.length c3)
  have HF : Hid _ := HF
  have HKs : Hid _ := HKs
  generalize (((w3.setCell ⟨N + 1 + 1, 0, none⟩ (.int .i64 sn)).setCell ⟨N + 1 + 1, 1, none⟩ (.int .i64 sc)).setCell ⟨N + 1 + 1, 2, none⟩ (.slice a3 dz.length c3)) = w4 at HF HKs ⊢
  clear b0 b1 b2 f0 f1 f2
  go_wp2
  refine bodyPost_ret (results_row_tmp (by rfl) _ _ (N + 1 + 1) #[.int .i64 sn, .int .i64 sc, .slice a3 dz.length c3] (by rfl) (load57_run HF.out rfl)) rfl ?_
  have hN := HNN.out
  have hs1 := HY1.out.lt
  refine ⟨a3, c3, rfl, Own.lower (HO3.out.kept HKs.out (fun k hk e => ?_)) (HK1.out.then HK2.out).size, (HK1.out.then HK3.out).trans HKs.out (fun _ e => e) (fun i hi e => ?_)⟩
  · have : k = N + 1 + 1 := e
    have := HO3.out.base hk
    have := HK2.out.size
    omega
  · have : i = N + 1 + 1 := e
    omega

set_option maxRecDepth 100000 in
set_option maxHeartbeats 4000000 in
theorem newerNo_any (hn hc : Int) (ha : Option Addr) (hl hk : Nat) (dz : List Int) (sn sc : Int) (da : Option Addr) (dl dk : Nat) (w : World) (hd : dz.length = hl) (hdl : hl ≤ 140737488355328) (hdb : Bytes w ha dz) (hL : lessB hn hc sn sc = false) :
    Calls Try.prog 7 #[.agg #[.int .i64 hn, .int .i64 hc, .slice ha hl hk], .agg #[.int .i64 sn, .int .i64 sc], .slice da dl dk] w (NewerOut w hn hc dz false) := by
  have HD : Hid (dz.length = hl) := hd
  have HDB : Hid (Bytes w ha dz) := hdb
  have HL : Hid (lessB hn hc sn sc = false) := hL
  clear hd hdb hL
  obtain ⟨w1, hw1⟩ : ∃ w1, w1 = ((w.alloc (.cells #[.int .i64 hn, .int .i64 hc, .slice ha hl hk] 31)).alloc (.cells #[.int .i64 sn, .int .i64 sc] 29)).alloc (.cells #[.int .i64 0, .int .i64 0, .slice none 0 0] 31) := ⟨_, rfl⟩
  obtain ⟨N, hN⟩ : ∃ N, N = w.heap.size := ⟨_, rfl⟩
  have HNN : Hid (N = w.heap.size) := hN
  have HK1 : Hid (Kept No w w1) := by rw [hw1]; exact (((Kept.refl No w).alloc _).alloc _).alloc _
  have e1 : (w.alloc (.cells #[.int .i64 hn, .int .i64 hc, .slice ha hl hk] 31)).heap.size = w.heap.size + 1 := by simp
  have e2 : ((w.alloc (.cells #[.int .i64 hn, .int .i64 hc, .slice ha hl hk] 31)).alloc (.cells #[.int .i64 sn, .int .i64 sc] 29)).heap.size = w.heap.size + 1 + 1 := by simp
  have HX1 : Hid (∀ wr, Kept No w1 wr → wr.cell? ⟨N, 0, none⟩ = some (.int .i64 hn) ∧ wr.cell? ⟨N, 1, none⟩ = some (.int .i64 hc) ∧ wr.cell? ⟨N, 2, none⟩ = some (.slice ha hl hk)) := fun wr hk' => by
    have hX := Box.new w 31 #[.int .i64 hn, .int .i64 hc, .slice ha hl hk]
    have hX := (hX.alloc (.cells #[.int .i64 sn, .int .i64 sc] 29)).alloc (.cells #[.int .i64 0, .int .i64 0, .slice none 0 0] 31)
    rw [← hw1] at hX
    have hX := hX.kept hk' (fun e => e)
    rw [hN]
    exact ⟨hX.cell 0, hX.cell 1, hX.cell 2⟩
  have HY1 : Hid (Box w1 (N + 1 + 1) 31 #[.int .i64 0, .int .i64 0, .slice none 0 0]) := by
    have hX := Box.new ((w.alloc (.cells #[.int .i64 hn, .int .i64 hc, .slice ha hl hk] 31)).alloc (.cells #[.int .i64 sn, .int .i64 sc] 29)) 31 #[.int .i64 0, .int .i64 0, .slice none 0 0]
    rw [e2] at hX
    rw [hw1, hN]
    exact hX
  clear e1 e2
  go_enter Try.func7, Try.ntmps7
  go_upto_region 3 with (first
    | (go_at_call 20
       rw [← hw1]
       refine Calls.mono (less_any hn hc sn sc w1) ?_
       rintro e w2 ⟨rfl, hk2⟩
       rw [HL.out]
       have HK2 : Hid (Kept No w1 w2) := hk2
       clear hk2))
  rw [← hN]
  clear hw1 hN
  have HKr : Hid (Kept No w1 w2.drew) := HK2.out.drew
  obtain ⟨x0, x1, x2⟩ := HX1.out w2 HK2.out
  have nA : N ≠ N + 1 + 1 := by omega
  have nB : N + 1 + 1 ≠ N := by omega
  go_region_held3 (fun w' => w'.cell? ⟨N, 0, none⟩ = some (.int .i64 hn) ∧ w'.cell? ⟨N, 1, none⟩ = some (.int .i64 hc) ∧ w'.cell? ⟨N, 2, none⟩ = some (.slice ha hl hk)) (go_keep) (first
    | (go_at_call 21
       refine Calls.mono (clone_any ha hl hk dz w2.drew HD.out hdl (HDB.out.no (HK1.out.then HKr.out))) ?_
       rintro e w3 ⟨a3, c3, rfl, hO3, hk3, _, _⟩
       have HK3 : Hid (Kept No w1 w3) := HKr.out.then hk3
       have HO3 : Hid (OwnB w3 w2.heap.size a3 c3 dz) := hO3
       obtain ⟨y0, y1, y2⟩ := HX1.out w3 HK3.out
       have HY3 : Hid (Box w3 (N + 1 + 1) 31 #[.int .i64 0, .int .i64 0, .slice none 0 0]) := HY1.out.kept HK3.out (fun e => e)
       have b0 := HY3.out.cell 0
       have b1 := HY3.out.cell 1
       have b2 := HY3.out.cell 2
       have f0 := HY3.out.frozen 0
       have f1 := HY3.out.frozen 1
       have f2 := HY3.out.frozen 2
       simp only [List.getElem?_toArray, List.getElem?_cons_zero, List.getElem?_cons_succ] at b0 b1 b2
       clear hO3 hk3))
  obtain ⟨HF, HKs⟩ := set3 HY3.out (.int .i64 hn) (.int .i64 hc) (.slice a3 dz.length c3)
  have HF : Hid _ := HF
  have HKs : Hid _ := HKs
  generalize (((w3.setCell ⟨N + 1 + 1, 0, none⟩ (.int .i64 hn)).setCell ⟨N + 1 + 1, 1, none⟩ (.int .i64 hc)).setCell ⟨N + 1 + 1, 2, none⟩ (.slice a3 dz.length c3)) = w4 at HF HKs ⊢
  clear b0 b1 b2 f0 f1 f2
  go_wp2
  refine bodyPost_ret (results_row_tmp (by rfl) _ _ (N + 1 + 1) #[.int .i64 hn, .int .i64 hc, .slice a3 dz.length c3] (by rfl) (load57_run HF.out rfl)) rfl ?_
  have hN := HNN.out
  have hs1 := HY1.out.lt
  refine ⟨a3, c3, rfl, Own.lower (HO3.out.kept HKs.out (fun k hk e => ?_)) (HK1.out.then HK2.out).size, (HK1.out.then HK3.out).trans HKs.out (fun _ e => e) (fun i hi e => ?_)⟩
  · have : k = N + 1 + 1 := e
    have := HO3.out.base hk
    have := HK2.out.size
    omega
  · have : i = N + 1 + 1 := e
    omega

end Go.Proofs.Ytgiokkcdgoloaab
