import Derived.Test.YtgiokkcdgoloaabHb
namespace Go.Proofs.Ytgiokkcdgoloaab
open Go.RowKit
set_option linter.unusedVariables false
set_option linter.unusedSimpArgs false

set_option maxRecDepth 100000 in
set_option maxHeartbeats 4000000 in
theorem done1_any (err sn sc : Int) (da : Option Addr) (dl dc : Nat) (zs : List Int) (w : World) (hz : zs.length = dl) (hzl : dl ≤ 140737488355328) (hzb : Bytes w da zs) :
    Calls Try.prog 80 #[endV err sn sc da dl dc] w (DoneOut w err sn sc zs true) := by
  have HZ : Hid (zs.length = dl) := hz
  have HZB : Hid (Bytes w da zs) := hzb
  clear hz hzb
  obtain ⟨N, hN⟩ : ∃ N, N = w.heap.size := ⟨_, rfl⟩
  have HNN : Hid (N = w.heap.size) := hN
  have HR1 : Hid ((resC err sn sc da dl dc).size = 11 ∧ (resC err sn sc da dl dc).all (·.oneCell') = true ∧ (resC err sn sc da dl dc)[6]? = some (.slice da dl dc)) := ⟨rfl, resC_one _ _ _ _ _ _, rfl⟩
  have HR2 : Hid (∀ v, (resC err sn sc da dl dc).setIfInBounds 6 v = #[.int .i64 err, .string ⟨#[]⟩, .int .i64 0, .int .i64 0, .int .i64 0, .slice none 0 0, v, .int .i64 0, .int .i64 sn, .int .i64 sc, .int .i64 0]) := fun v => rfl
  unfold endV
  generalize resC err sn sc da dl dc = RC at HR1 HR2 ⊢
  obtain ⟨wc, hwc⟩ : ∃ wc, wc = ((w.alloc (.cells RC 145)).alloc (.cells #[.int .i64 0, .string ⟨#[]⟩, .int .i64 0, .int .i64 0, .int .i64 0, .slice none 0 0, .slice none 0 0, .int .i64 0, .int .i64 0, .int .i64 0, .int .i64 0] 39)).alloc (.cells #[.int .i64 0, .string ⟨#[]⟩, .int .i64 0, .int .i64 0, .int .i64 0, .slice none 0 0, .slice none 0 0, .int .i64 0, .int .i64 0, .int .i64 0, .int .i64 0] 39) := ⟨_, rfl⟩
  have HKc : Hid (Kept No w wc) := by rw [hwc]; exact (((Kept.refl No w).alloc _).alloc _).alloc _
  have HX0 : Hid (Box ((w.alloc (.cells RC 145)).alloc (.cells #[.int .i64 0, .string ⟨#[]⟩, .int .i64 0, .int .i64 0, .int .i64 0, .slice none 0 0, .slice none 0 0, .int .i64 0, .int .i64 0, .int .i64 0, .int .i64 0] 39)) w.heap.size 145 RC) := (Box.new w 145 RC).alloc _
  have HX1 : Hid (Box wc (N + 1) 39 (resC 0 0 0 none 0 0)) := by
    have h := Box.new (w.alloc (.cells RC 145)) 39 (resC 0 0 0 none 0 0)
    have e : (w.alloc (.cells RC 145)).heap.size = w.heap.size + 1 := by simp
    rw [e] at h
    rw [hwc, hN]
    exact h.alloc _
  have HX2 : Hid (Box wc (N + 1 + 1) 39 (resC 0 0 0 none 0 0)) := by
    have h := Box.new ((w.alloc (.cells RC 145)).alloc (.cells #[.int .i64 0, .string ⟨#[]⟩, .int .i64 0, .int .i64 0, .int .i64 0, .slice none 0 0, .slice none 0 0, .int .i64 0, .int .i64 0, .int .i64 0, .int .i64 0] 39)) 39 (resC 0 0 0 none 0 0)
    have e : ((w.alloc (.cells RC 145)).alloc (.cells #[.int .i64 0, .string ⟨#[]⟩, .int .i64 0, .int .i64 0, .int .i64 0, .slice none 0 0, .slice none 0 0, .int .i64 0, .int .i64 0, .int .i64 0, .int .i64 0] 39)).heap.size = w.heap.size + 1 + 1 := by simp
    rw [e] at h
    rw [hwc, hN]
    exact h
  have HS : Hid (N + 1 + 1 < wc.heap.size) := HX2.out.lt
  have TA : Hid (1 = 1) := rfl
  have TB : Hid (1 = 1) := rfl
  go_enter Try.func80, Try.ntmps80
  go_wp2_with (first
    | (refine wp_boxV rfl 145 _ rfl RC rfl w.heap.size rfl ?_)
    | (have htok := TA
       refine wpList_load_row rfl 39 _ rfl w.heap.size rfl 145 RC (0, 0) _ HX0.out Try.underlying39 rfl (by rw [HR1.out.1]; exact Try.size39) ?_
       clear htok TA)
    | (have htok := TB
       rw [← hwc, ← hN]
       refine wpList_store_row rfl 39 _ _ rfl (N + 1 + 1) RC rfl rfl 39 (resC 0 0 0 none 0 0) HX2.out (by rw [HR1.out.1]; exact Try.size39) HR1.out.1.symm HR1.out.2.1 ?_
       obtain ⟨w1, hw1⟩ : ∃ w1, w1 = wc.setRow (N + 1 + 1) RC := ⟨_, rfl⟩
       rw [← hw1]
       have HK1 : Hid (Kept No w w1) := by rw [hw1]; exact HKc.out.trans (Kept.setRow _ _ _) (fun _ e => e) (fun i hi e => by have : i = N + 1 + 1 := e; have := HNN.out; omega)
       have HZ1 : Hid (Box w1 (N + 1) 39 (resC 0 0 0 none 0 0)) := by rw [hw1]; exact HX1.out.kept (Kept.setRow _ _ _) (fun e => by have : N + 1 = N + 1 + 1 := e; omega)
       have HZ2 : Hid (Box w1 (N + 1 + 1) 39 RC) := by rw [hw1]; exact HX2.out.setRow _
       have HS1 : Hid (N + 1 + 1 < w1.heap.size) := HZ2.out.lt
       have c6 : w1.cell? ⟨N + 1 + 1, 6, none⟩ = some (.slice da dl dc) := by rw [HZ2.out.cell]; exact HR1.out.2.2
       clear hw1 hwc hN htok TB)
    | (go_at_call 21
       refine Calls.mono (clone_any da dl dc zs w1 HZ.out hzl (HZB.out.no HK1.out)) ?_
       rintro e w2 ⟨a2, c2, rfl, hO2, hk2, _, _⟩
       have HO2 : Hid (OwnB w2 w1.heap.size a2 c2 zs) := hO2
       have HK2 : Hid (Kept No w1 w2) := hk2
       have HY1 : Hid (Box w2 (N + 1) 39 (resC 0 0 0 none 0 0)) := HZ1.out.kept hk2 (fun e => e)
       have HY2 : Hid (Box w2 (N + 1 + 1) 39 RC) := HZ2.out.kept hk2 (fun e => e)
       have b6 : w2.cell? ⟨N + 1 + 1, 6, none⟩ = some (.slice da dl dc) := by rw [HY2.out.cell]; exact HR1.out.2.2
       have f6 := HY2.out.frozen 6
       have HY3 : Hid (Box (w2.setCell ⟨N + 1 + 1, 6, none⟩ (.slice a2 zs.length c2)) (N + 1 + 1) 39 (resC err sn sc a2 zs.length c2)) := by
         have h := HY2.out.set 6 (.slice a2 zs.length c2)
         rw [HR2.out] at h
         exact h
       have HY4 : Hid (Box (w2.setCell ⟨N + 1 + 1, 6, none⟩ (.slice a2 zs.length c2)) (N + 1) 39 (resC 0 0 0 none 0 0)) := HY1.out.other (p := ⟨N + 1 + 1, 6, none⟩) (by show N + 1 ≠ N + 1 + 1; omega) _
       clear hO2 hk2)
    | (refine wpList_load_row rfl 39 _ rfl (N + 1 + 1) rfl 39 (resC err sn sc a2 zs.length c2) (0, 0) _ HY3.out Try.underlying39 rfl Try.size39 ?_)
    | (refine wpList_store_row rfl 39 _ _ rfl (N + 1) (resC err sn sc a2 zs.length c2) rfl rfl 39 (resC 0 0 0 none 0 0) HY4.out Try.size39 rfl (resC_one _ _ _ _ _ _) ?_
       have HF : Hid _ := HY4.out.setRow (resC err sn sc a2 zs.length c2)))
  refine bodyPost_ret (results_row_tmp (by rfl) _ _ (N + 1) (resC err sn sc a2 zs.length c2) (by rfl) (load90_run HF.out rfl)) rfl ?_
  have hN := HNN.out
  have hS := HS1.out
  have hk := HK1.out.size
  refine ⟨a2, c2, rfl, Own.lower ((HO2.out.kept ((Kept.refl (Only (N + 1 + 1)) w2).setCell (p := ⟨N + 1 + 1, 6, none⟩) (fun _ => rfl) _) (fun k hk e => ?_)).kept (Kept.setRow _ _ _) (fun k hk e => ?_)) hk, ((HK1.out.then HK2.out).setCell (p := ⟨N + 1 + 1, 6, none⟩) (fun h => ?_) _).trans (Kept.setRow _ _ _) (fun _ e => e) (fun i hi e => ?_)⟩
  · have : k = N + 1 + 1 := e
    have := HO2.out.base hk
    omega
  · have : k = N + 1 := e
    have := HO2.out.base hk
    omega
  · have : N + 1 + 1 < w.heap.size := h
    omega
  · have : i = N + 1 := e
    omega

theorem machDoneE_any (m : Nat) (a : Option Addr) (cap : Nat) (x : MS) (err sn sc : Int) (da : Option Addr) (dl dc : Nat) (zs : List Int) (w : World) (hM : Mach w m a cap x 145 (endV err sn sc da dl dc)) (hz : zs.length = dl) (hzl : dl ≤ 140737488355328) (hzb : Bytes w da zs) :
    Calls Try.prog 62 #[.pointer (some ⟨m, 0, none⟩)] w (DoneOut w err sn sc zs true) :=
  done_gen101 m a cap x 145 _ _ err sn sc zs true w hM (meth_doneE err sn sc da dl dc) (fun w1 hk => done1_any err sn sc da dl dc zs w1 hz hzl (hzb.no hk))
theorem machDoneL_any (m : Nat) (a : Option Addr) (cap : Nat) (x : MS) (n c : Int) (pa : Option Addr) (l k : Nat) (err sn sc : Int) (da : Option Addr) (dl dc ub : Nat) (w : World) (hM : Mach w m a cap x 163 (layV n c pa l k err sn sc da dl dc ub)) :
    Calls Try.prog 62 #[.pointer (some ⟨m, 0, none⟩)] w (DoneOut w 0 0 0 [] false) :=
  done_gen92 m a cap x 163 _ (.agg #[]) 0 0 0 [] false w hM (meth_doneL n c pa l k err sn sc da dl dc ub) (fun w1 _ => done0_any w1)

def szB (n : Int) : Int := min (max n 0) 4096
def ReadOut (w : World) (x : MS) (sz : Int) (e : Ending) (w' : World) : Prop :=
  ∃ m a cap, e = .returned (.iface 90 (.pointer (some ⟨m, 0, none⟩))) ∧ Mach w' m a cap x 109 (.agg #[.iface 93 (.agg #[.int .i64 (szB sz)])]) ∧ (∀ k, MB m a k → w.heap.size ≤ k) ∧ Kept No w w'

set_option maxRecDepth 100000 in
set_option maxHeartbeats 2000000 in
theorem read_any (cl op k0 k1 k2 k3 rd sz : Int) (a0 : Option Addr) (n0 cap0 : Nat) (gs : List Int) (w : World) (hz : gs.length = n0) (hn : n0 ≤ 17592186043904) (hb : Nums .i64 w a0 gs) (h0 : 0 ≤ sz) (h1 : sz ≤ 4096) :
    Calls Try.prog 18 #[.int .i64 cl, .int .i64 op, .agg #[.int .i64 k0, .int .i64 k1, .int .i64 k2, .int .i64 k3], .slice a0 n0 cap0, .int .i64 rd, .int .i64 sz] w (ReadOut w ⟨cl, op, k0, k1, k2, k3, uq gs, rd⟩ sz) := by
  have HB : Hid (Nums .i64 w a0 gs) := hb
  have HZ : Hid (gs.length = n0) := hz
  clear hb hz
  obtain ⟨w1, hw1⟩ : ∃ w1, w1 = w.alloc (.cells #[.int .i64 k0, .int .i64 k1, .int .i64 k2, .int .i64 k3] 49) := ⟨_, rfl⟩
  have HK1 : Hid (Kept No w w1) := by rw [hw1]; exact (Kept.refl No w).alloc _
  have HS : Hid (szB sz = sz) := by show _ = _; unfold szB; omega
  have e0 : ¬ (0 > sz) := by omega
  have e1 : ¬ (sz < 0) := by omega
  have e2 : ¬ (4096 < sz) := by omega
  clear h0 h1
  go_enter Try.func18, Try.ntmps18
  go_wp2_with (first
    | (go_at_call 36
       rw [← hw1]
       refine Calls.mono (newM_any cl op k0 k1 k2 k3 rd a0 n0 cap0 gs 93 (.agg #[.int .i64 sz]) w1 HZ.out hn (HB.out.no HK1.out)) ?_
       rintro e w3 ⟨m, a, cap, rfl, hM, hf, hk3⟩
       have HM3 : Hid (Mach w3 m a cap ⟨cl, op, k0, k1, k2, k3, uq gs, rd⟩ 109 (.agg #[.iface 93 (.agg #[.int .i64 (szB sz)])])) := by rw [HS.out]; exact hM
       have HF3 : Hid (∀ k, MB m a k → w1.heap.size ≤ k) := hf
       have HK3 : Hid (Kept No w w3) := HK1.out.then hk3
       clear hM hf hk3 hw1))
  go_ret
  exact ⟨m, a, cap, rfl, HM3.out, fun k h => Nat.le_trans HK1.out.size (HF3.out k h), HK3.out⟩

end Go.Proofs.Ytgiokkcdgoloaab
