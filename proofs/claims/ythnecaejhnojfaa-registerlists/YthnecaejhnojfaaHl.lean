import Derived.Test.YthnecaejhnojfaaHb
namespace Go.Proofs.Ythnecaejhnojfaa
open Go.RowKit
set_option linter.unusedVariables false
set_option linter.unusedSimpArgs false

set_option maxRecDepth 100000 in
set_option maxHeartbeats 4000000 in
theorem done1_any (err sn sc : Int) (da : Option Addr) (dl dc : Nat) (zs : List Int) (w : World) (hz : zs.length = dl) (hzl : dl ≤ 140737488355328) (hzb : Bytes w da zs) :
    Calls Try.prog 77 #[endV err sn sc da dl dc] w (DoneOut w err sn sc zs true) := by
  have HZ : Hid (zs.length = dl) := hz
  have HZB : Hid (Bytes w da zs) := hzb
  clear hz hzb
  obtain ⟨N, hN⟩ : ∃ N, N = w.heap.size := ⟨_, rfl⟩
  have HNN : Hid (N = w.heap.size) := hN
  have HR1 : Hid ((resC err sn sc da dl dc).size = 11 ∧ (resC err sn sc da dl dc).all (·.oneCell') = true ∧ (resC err sn sc da dl dc)[6]? = some (.slice da dl dc)) := ⟨rfl, resC_one _ _ _ _ _ _, rfl⟩
  have HR2 : Hid (∀ v, (resC err sn sc da dl dc).setIfInBounds 6 v = #[.int .i64 err, .string ⟨#[]⟩, .int .i64 0, .int .i64 0, .int .i64 0, .slice none 0 0, v, .int .i64 0, .int .i64 sn, .int .i64 sc, .int .i64 0]) := fun v => rfl
  unfold endV
  generalize resC err sn sc da dl dc = RC at HR1 HR2 ⊢
  obtain ⟨wc, hwc⟩ : ∃ wc, wc = ((w.alloc (.cells RC 139)).alloc (.cells #[.int .i64 0, .string ⟨#[]⟩, .int .i64 0, .int .i64 0, .int .i64 0, .slice none 0 0, .slice none 0 0, .int .i64 0, .int .i64 0, .int .i64 0, .int .i64 0] 72)).alloc (.cells #[.int .i64 0, .string ⟨#[]⟩, .int .i64 0, .int .i64 0, .int .i64 0, .slice none 0 0, .slice none 0 0, .int .i64 0, .int .i64 0, .int .i64 0, .int .i64 0] 72) := ⟨_, rfl⟩
  have HKc : Hid (Kept No w wc) := by rw [hwc]; exact (((Kept.refl No w).alloc _).alloc _).alloc _
  have HX0 : Hid (Box ((w.alloc (.cells RC 139)).alloc (.cells #[.int .i64 0, .string ⟨#[]⟩, .int .i64 0, .int .i64 0, .int .i64 0, .slice none 0 0, .slice none 0 0, .int .i64 0, .int .i64 0, .int .i64 0, .int .i64 0] 72)) w.heap.size 139 RC) := (Box.new w 139 RC).alloc _
  have HX1 : Hid (Box wc (N + 1) 72 (resC 0 0 0 none 0 0)) := by
    have h := Box.new (w.alloc (.cells RC 139)) 72 (resC 0 0 0 none 0 0)
    have e : (w.alloc (.cells RC 139)).heap.size = w.heap.size + 1 := by simp
    rw [e] at h
    rw [hwc, hN]
    exact h.alloc _
  have HX2 : Hid (Box wc (N + 1 + 1) 72 (resC 0 0 0 none 0 0)) := by
    have h := Box.new ((w.alloc (.cells RC 139)).alloc (.cells #[.int .i64 0, .string ⟨#[]⟩, .int .i64 0, .int .i64 0, .int .i64 0, .slice none 0 0, .slice none 0 0, .int .i64 0, .int .i64 0, .int .i64 0, .int .i64 0] 72)) 72 (resC 0 0 0 none 0 0)
    have e : ((w.alloc (.cells RC 139)).alloc (.cells #[.int .i64 0, .string ⟨#[]⟩, .int .i64 0, .int .i64 0, .int .i64 0, .slice none 0 0, .slice none 0 0, .int .i64 0, .int .i64 0, .int .i64 0, .int .i64 0] 72)).heap.size = w.heap.size + 1 + 1 := by simp
    rw [e] at h
    rw [hwc, hN]
    exact h
  have HS : Hid (N + 1 + 1 < wc.heap.size) := HX2.out.lt
  have TA : Hid (1 = 1) := rfl
  have TB : Hid (1 = 1) := rfl
  go_enter Try.func77, Try.ntmps77
  go_wp2_with (first
    | (refine wp_boxV rfl 139 _ rfl RC rfl w.heap.size rfl ?_)
    | (have htok := TA
       refine wpList_load_row rfl 72 _ rfl w.heap.size rfl 139 RC (0, 0) _ HX0.out Try.underlying72 rfl (by rw [HR1.out.1]; exact Try.size90) ?_
       clear htok TA)
    | (have htok := TB
       rw [← hwc, ← hN]
       refine wpList_store_row rfl 72 _ _ rfl (N + 1 + 1) RC rfl rfl 72 (resC 0 0 0 none 0 0) HX2.out (by rw [HR1.out.1]; exact Try.size90) HR1.out.1.symm HR1.out.2.1 ?_
       obtain ⟨w1, hw1⟩ : ∃ w1, w1 = wc.setRow (N + 1 + 1) RC := ⟨_, rfl⟩
       rw [← hw1]
       have HK1 : Hid (Kept No w w1) := by rw [hw1]; exact HKc.out.trans (Kept.setRow _ _ _) (fun _ e => e) (fun i hi e => by have : i = N + 1 + 1 := e; have := HNN.out; omega)
       have HZ1 : Hid (Box w1 (N + 1) 72 (resC 0 0 0 none 0 0)) := by rw [hw1]; exact HX1.out.kept (Kept.setRow _ _ _) (fun e => by have : N + 1 = N + 1 + 1 := e; omega)
       have HZ2 : Hid (Box w1 (N + 1 + 1) 72 RC) := by rw [hw1]; exact HX2.out.setRow _
       have HS1 : Hid (N + 1 + 1 < w1.heap.size) := HZ2.out.lt
       have c6 : w1.cell? ⟨N + 1 + 1, 6, none⟩ = some (.slice da dl dc) := by rw [HZ2.out.cell]; exact HR1.out.2.2
       clear hw1 hwc hN htok TB)
    | (go_at_call 32
       refine Calls.mono (clone_any da dl dc zs w1 HZ.out hzl (HZB.out.no HK1.out)) ?_
       rintro e w2 ⟨a2, c2, rfl, hO2, hk2, _, _⟩
       have HO2 : Hid (OwnB w2 w1.heap.size a2 c2 zs) := hO2
       have HK2 : Hid (Kept No w1 w2) := hk2
       have HY1 : Hid (Box w2 (N + 1) 72 (resC 0 0 0 none 0 0)) := HZ1.out.kept hk2 (fun e => e)
       have HY2 : Hid (Box w2 (N + 1 + 1) 72 RC) := HZ2.out.kept hk2 (fun e => e)
       have b6 : w2.cell? ⟨N + 1 + 1, 6, none⟩ = some (.slice da dl dc) := by rw [HY2.out.cell]; exact HR1.out.2.2
       have f6 := HY2.out.frozen 6
       have HY3 : Hid (Box (w2.setCell ⟨N + 1 + 1, 6, none⟩ (.slice a2 zs.length c2)) (N + 1 + 1) 72 (resC err sn sc a2 zs.length c2)) := by
         have h := HY2.out.set 6 (.slice a2 zs.length c2)
         rw [HR2.out] at h
         exact h
       have HY4 : Hid (Box (w2.setCell ⟨N + 1 + 1, 6, none⟩ (.slice a2 zs.length c2)) (N + 1) 72 (resC 0 0 0 none 0 0)) := HY1.out.other (p := ⟨N + 1 + 1, 6, none⟩) (by show N + 1 ≠ N + 1 + 1; omega) _
       clear hO2 hk2)
    | (refine wpList_load_row rfl 72 _ rfl (N + 1 + 1) rfl 72 (resC err sn sc a2 zs.length c2) (0, 0) _ HY3.out Try.underlying72 rfl Try.size90 ?_)
    | (refine wpList_store_row rfl 72 _ _ rfl (N + 1) (resC err sn sc a2 zs.length c2) rfl rfl 72 (resC 0 0 0 none 0 0) HY4.out Try.size90 rfl (resC_one _ _ _ _ _ _) ?_
       have HF : Hid _ := HY4.out.setRow (resC err sn sc a2 zs.length c2)))
  refine bodyPost_ret (results_row_tmp (by rfl) _ _ (N + 1) (resC err sn sc a2 zs.length c2) (by rfl) (load90_run HF.out rfl)) rfl ?_
  have hN := HNN.out
  have hS := HS1.out
  have hk := HK1.out.size
  refine ⟨a2, c2, rfl, Own.lower ((HO2.out.kept ((Kept.refl (Only (N + 1 + 1)) w2).setCell (p := ⟨N + 1 + 1, 6, none⟩) (fun _ => rfl) _) (fun k hk e => ?_)).kept (Kept.setRow _ _ _) (fun k hk e => ?_)) hk, ((HK1.out.then HK2.out).setCell (p := ⟨N + 1 + 1, 6, none⟩) (fun h => ?_) _).trans (Kept.setRow _ _ _) (fun _ e => e) (fun i hi e => ?_)⟩
  · have : k = N + 1 + 1 := e
    have := HO2.out.base hk
    omega
  · have : k = N + 1 := e
    have := HO2.out.base hk
    omega
  · have : N + 1 + 1 < w.heap.size := h
    omega
  · have : i = N + 1 := e
    omega

theorem machDoneE_any (m : Nat) (a : Option Addr) (cap : Nat) (x : MS) (err sn sc : Int) (da : Option Addr) (dl dc : Nat) (zs : List Int) (w : World) (hM : Mach w m a cap x 139 (endV err sn sc da dl dc)) (hz : zs.length = dl) (hzl : dl ≤ 140737488355328) (hzb : Bytes w da zs) :
    Calls Try.prog 59 #[.pointer (some ⟨m, 0, none⟩)] w (DoneOut w err sn sc zs true) :=
  done_gen101 m a cap x 139 _ _ err sn sc zs true w hM (meth_doneE err sn sc da dl dc) (fun w1 hk => done1_any err sn sc da dl dc zs w1 hz hzl (hzb.no hk))
theorem machDoneL_any (m : Nat) (a : Option Addr) (cap : Nat) (x : MS) (n c : Int) (pa : Option Addr) (l k : Nat) (err sn sc : Int) (da : Option Addr) (dl dc ub : Nat) (w : World) (hM : Mach w m a cap x 160 (layV n c pa l k err sn sc da dl dc ub)) :
    Calls Try.prog 59 #[.pointer (some ⟨m, 0, none⟩)] w (DoneOut w 0 0 0 [] false) :=
  done_gen92 m a cap x 160 _ (.agg #[]) 0 0 0 [] false w hM (meth_doneL n c pa l k err sn sc da dl dc ub) (fun w1 _ => done0_any w1)

def szB (n : Int) : Int := min (max n 0) 4096
def ReadOut (w : World) (x : MS) (sz : Int) (e : Ending) (w' : World) : Prop :=
  ∃ m a cap, e = .returned (.iface 84 (.pointer (some ⟨m, 0, none⟩))) ∧ Mach w' m a cap x 105 (.agg #[.iface 89 (.agg #[.int .i64 (szB sz)])]) ∧ (∀ k, MB m a k → w.heap.size ≤ k) ∧ Kept No w w'

set_option maxRecDepth 100000 in
set_option maxHeartbeats 2000000 in
theorem read_any (cl op k0 k1 k2 k3 rd sz : Int) (a0 : Option Addr) (n0 cap0 : Nat) (gs : List Int) (w : World) (hz : gs.length = n0) (hn : n0 ≤ 17592186043904) (hb : Nums .i64 w a0 gs) (h0 : 0 ≤ sz) (h1 : sz ≤ 4096) :
    Calls Try.prog 17 #[.int .i64 cl, .int .i64 op, .agg #[.int .i64 k0, .int .i64 k1, .int .i64 k2, .int .i64 k3], .slice a0 n0 cap0, .int .i64 rd, .int .i64 sz] w (ReadOut w ⟨cl, op, k0, k1, k2, k3, uq gs, rd⟩ sz) := by
  have HB : Hid (Nums .i64 w a0 gs) := hb
  have HZ : Hid (gs.length = n0) := hz
  clear hb hz
  obtain ⟨w1, hw1⟩ : ∃ w1, w1 = w.alloc (.cells #[.int .i64 k0, .int .i64 k1, .int .i64 k2, .int .i64 k3] 23) := ⟨_, rfl⟩
  have HK1 : Hid (Kept No w w1) := by rw [hw1]; exact (Kept.refl No w).alloc _
  have HS : Hid (szB sz = sz) := by show _ = _; unfold szB; omega
  have e0 : ¬ (0 > sz) := by omega
  have e1 : ¬ (sz < 0) := by omega
  have e2 : ¬ (4096 < sz) := by omega
  clear h0 h1
  go_enter Try.func17, Try.ntmps17
  go_wp2_with (first
    | (go_at_call 31
       rw [← hw1]
       refine Calls.mono (newM_any cl op k0 k1 k2 k3 rd a0 n0 cap0 gs 89 (.agg #[.int .i64 sz]) w1 HZ.out hn (HB.out.no HK1.out)) ?_
       rintro e w3 ⟨m, a, cap, rfl, hM, hf, hk3⟩
       have HM3 : Hid (Mach w3 m a cap ⟨cl, op, k0, k1, k2, k3, uq gs, rd⟩ 105 (.agg #[.iface 89 (.agg #[.int .i64 (szB sz)])])) := by rw [HS.out]; exact hM
       have HF3 : Hid (∀ k, MB m a k → w1.heap.size ≤ k) := hf
       have HK3 : Hid (Kept No w w3) := HK1.out.then hk3
       clear hM hf hk3 hw1))
  go_ret
  exact ⟨m, a, cap, rfl, HM3.out, fun k h => Nat.le_trans HK1.out.size (HF3.out k h), HK3.out⟩

end Go.Proofs.Ythnecaejhnojfaa
namespace Go.Proofs.Ythnecaejhnojfaa
open Go.RowKit
set_option linter.unusedVariables false
set_option linter.unusedSimpArgs false

/-- A message is read whole, within a region that draws. -/
def loadS (x : Addr) := loadVar 52 x
theorem loadS_eq (x : Addr) : loadVar 52 x = loadS x := rfl
theorem run_loadS (g : Nat) (d : MD) (w : World) (hb : Box w g 52 d.cells) (hk : MdOk d) : Sem.run Try.prog (loadS ⟨g, 0, none⟩) w = .ok (.agg d.cells) w := load52_run hb (MD.size hk)

section
attribute [local go_sem ↓] loadS_eq

end

end Go.Proofs.Ythnecaejhnojfaa
namespace Go.Proofs.Ythnecaejhnojfaa
open Go.RowKit
set_option linter.unusedVariables false
set_option linter.unusedSimpArgs false

/-- New variables of a block's and of a result's type. -/
def Z57 : Array Value := #[.int .i64 0, .int .i64 0, .slice none 0 0]
def al57 (w : World) : World := w.alloc (.cells Z57 144)
def al90 (w : World) : World := w.alloc (.cells (resC 0 0 0 none 0 0) 72)
def Is57 (w : World) (g : Nat) : Prop := Box w g 144 Z57
def Is90 (w : World) (g : Nat) : Prop := Box w g 72 (resC 0 0 0 none 0 0)
theorem Is57.new (w : World) : Is57 (al57 w) w.heap.size := Box.new _ _ _
theorem Is90.new (w : World) : Is90 (al90 w) w.heap.size := Box.new _ _ _
theorem Is57.al {w : World} {g : Nat} (h : Is57 w g) : Is57 (al90 w) g := Box.alloc h _
theorem Is90.al {w : World} {g : Nat} (h : Is90 w g) : Is90 (al57 w) g := Box.alloc h _
theorem box_ne {w : World} {g g' : Nat} {t t' : TypeId} {cs cs' : Array Value} (h : Box w g t cs) (h' : Box w g' t' cs') (ht : t ≠ t') : g ≠ g' := by
  rintro rfl
  unfold Box at h h'
  rw [h] at h'
  simp at h'
  exact ht h'.2
theorem Is90.row {w : World} {g p : Nat} (h : Is90 w g) (h' : Is57 w p) (cs : Array Value) : Is90 (w.setRow p cs) g := Box.kept h (Kept.setRow _ _ _) (fun e => box_ne h h' (by decide) e)
/-- The phase's own variable. -/
def IsN (N : Nat) (v1 v2 : Value) (w : World) : Prop := Box w N 146 #[v1, v2]
theorem IsN.al57 {N : Nat} {v1 v2 : Value} {w : World} (h : IsN N v1 v2 w) : IsN N v1 v2 (al57 w) := Box.alloc h _
theorem IsN.al90 {N : Nat} {v1 v2 : Value} {w : World} (h : IsN N v1 v2 w) : IsN N v1 v2 (al90 w) := Box.alloc h _
theorem IsN.c0 {N : Nat} {v1 v2 : Value} {w : World} (h : IsN N v1 v2 w) : w.cell? ⟨N, 0, none⟩ = some v1 := Box.cell h 0
theorem IsN.c1 {N : Nat} {v1 v2 : Value} {w : World} (h : IsN N v1 v2 w) : w.cell? ⟨N, 1, none⟩ = some v2 := Box.cell h 1

end Go.Proofs.Ythnecaejhnojfaa
namespace Go.Proofs.Ythnecaejhnojfaa
open Go.RowKit
set_option linter.unusedVariables false
set_option linter.unusedSimpArgs false

section
attribute [local go_sem ↓] loadS_eq

set_option maxRecDepth 100000 in
set_option maxHeartbeats 4000000 in
theorem takeL_pass (m : Nat) (a : Option Addr) (cap : Nat) (x : MS) (t : TypeId) (v : Value) (n c : Int) (pa : Option Addr) (l k : Nat) (err sn sc : Int) (da : Option Addr) (dl dc : Nat) (ub bb ct : Nat) (at' : Option Addr) (X : TS Unit) (d : MD) (w : World) (hM : Mach w m a cap x t v) (hT : Tal 113 ansU w ub bb at' ct X) (hok : MdOk d) (hhit : hitB x 12 d = false) :
    Calls Try.prog 94 #[layV n c pa l k err sn sc da dl dc ub, .pointer (some ⟨m, 0, none⟩), .agg d.cells] w (fun e w' => e = .returned (.slice none 0 0) ∧ Kept No w w') := by
  have HM : Hid (Mach w m a cap x t v) := hM
  have HT : Hid (Tal 113 ansU w ub bb at' ct X) := hT
  have HOk : Hid (MdOk d) := hok
  have HH : Hid (hitB x 12 d = false) := hhit
  clear hM hT hhit
  obtain ⟨w1, hw1⟩ : ∃ w1, w1 = (w.alloc (.cells #[.int .i64 n, .int .i64 c, .slice pa l k, .int .i64 err, .string ⟨#[]⟩, .int .i64 0, .int .i64 0, .int .i64 0, .slice none 0 0, .slice da dl dc, .int .i64 0, .int .i64 sn, .int .i64 sc, .int .i64 0, .pointer (some ⟨ub, 0, none⟩)] 160)).alloc (.cells d.cells 52) := ⟨_, rfl⟩
  obtain ⟨N, hN⟩ : ∃ N, N = w.heap.size := ⟨_, rfl⟩
  have HNN : Hid (N = w.heap.size) := hN
  have HK1 : Hid (Kept No w w1) := by rw [hw1]; exact ((Kept.refl No w).alloc _).alloc _
  have HX0 : Hid (Box w1 N 160 #[.int .i64 n, .int .i64 c, .slice pa l k, .int .i64 err, .string ⟨#[]⟩, .int .i64 0, .int .i64 0, .int .i64 0, .slice none 0 0, .slice da dl dc, .int .i64 0, .int .i64 sn, .int .i64 sc, .int .i64 0, .pointer (some ⟨ub, 0, none⟩)]) := by rw [hw1, hN]; exact (Box.new _ _ _).alloc _
  have HX1 : Hid (Box w1 (N + 1) 52 d.cells) := by
    have h := Box.new (w.alloc (.cells #[.int .i64 n, .int .i64 c, .slice pa l k, .int .i64 err, .string ⟨#[]⟩, .int .i64 0, .int .i64 0, .int .i64 0, .slice none 0 0, .slice da dl dc, .int .i64 0, .int .i64 sn, .int .i64 sc, .int .i64 0, .pointer (some ⟨ub, 0, none⟩)] 160)) 52 d.cells
    have e : (w.alloc (.cells #[.int .i64 n, .int .i64 c, .slice pa l k, .int .i64 err, .string ⟨#[]⟩, .int .i64 0, .int .i64 0, .int .i64 0, .slice none 0 0, .slice da dl dc, .int .i64 0, .int .i64 sn, .int .i64 sc, .int .i64 0, .pointer (some ⟨ub, 0, none⟩)] 160)).heap.size = w.heap.size + 1 := by simp
    rw [e] at h
    rw [hw1, hN]
    exact h
  have HXc : Hid (∀ wr, Kept (Tb2 ub bb) w1 wr → (wr.cell? ⟨N, 14, none⟩ = some (.pointer (some ⟨ub, 0, none⟩)) ∧ wr.cell? ⟨N + 1, 2, none⟩ = some (.int .i64 d.fi)) ∧ Box wr (N + 1) 52 d.cells ∧ Box wr N 160 #[.int .i64 n, .int .i64 c, .slice pa l k, .int .i64 err, .string ⟨#[]⟩, .int .i64 0, .int .i64 0, .int .i64 0, .slice none 0 0, .slice da dl dc, .int .i64 0, .int .i64 sn, .int .i64 sc, .int .i64 0, .pointer (some ⟨ub, 0, none⟩)]) := fun wr hk => by
    have hlt1 := HT.out.box.lt
    have hlt2 := HT.out.map.lt
    have hn := HNN.out
    have h0 := HX0.out.kept hk (fun e => by rcases e with e | e <;> omega)
    have h1 := HX1.out.kept hk (fun e => by rcases e with e | e <;> omega)
    exact ⟨⟨h0.cell 14, md_at h1 2 (by omega)⟩, h1, h0⟩
  unfold layV
  go_enter Try.func94, Try.ntmps94
  go_upto_region 1 with (refine wp_boxV rfl 52 _ rfl d.cells rfl (w.heap.size + 1) (by simp) ?_)
  rw [← hw1, ← hN]
  clear hw1 hN
  obtain ⟨⟨x0, x1⟩, x3, _⟩ := HXc.out w1 (Kept.refl _ _)
  have HB1 : Hid (Box w1 (N + 1) 52 d.cells) := x3
  clear x3
  go_wp2_with (first
    | (refine wp_loadM rfl _ rfl (N + 1) d.cells rfl (MD.size HOk.out) HB1.out ?_)
    | (go_at_call 83
       refine Calls.mono (answered_any m a cap x _ _ d 12 w1 (HM.out.no HK1.out)) ?_
       rintro e w2 ⟨rfl, hk2⟩
       rw [HH.out]
       have HK2 : Hid (Kept No w1 w2) := hk2
       obtain ⟨⟨y0, y1⟩, y2, _⟩ := HXc.out w2 HK2.out.of_no
       clear hk2))
  go_ret
  exact ⟨rfl, HK1.out.then HK2.out⟩

set_option maxRecDepth 100000 in
set_option maxHeartbeats 4000000 in
theorem takeL_no (m : Nat) (a : Option Addr) (cap : Nat) (x : MS) (t : TypeId) (v : Value) (n c : Int) (pa : Option Addr) (l k : Nat) (err sn sc : Int) (da : Option Addr) (dl dc : Nat) (ub bb ct : Nat) (at' : Option Addr) (X : TS Unit) (d : MD) (w : World) (hM : Mach w m a cap x t v) (hT : Tal 113 ansU w ub bb at' ct X) (hok : MdOk d) (hhit : hitB x 12 d = true) (htb : takeB X d.fi = false) :
    Calls Try.prog 94 #[layV n c pa l k err sn sc da dl dc ub, .pointer (some ⟨m, 0, none⟩), .agg d.cells] w (fun e w' => e = .returned (.slice none 0 0) ∧ Tal 113 ansU w' ub bb at' ct (takeS X d.fi ()) ∧ Kept (Tb2 ub bb) w w') := by
  have HTb : Hid (takeB X d.fi = false) := htb
  clear htb
  have HM : Hid (Mach w m a cap x t v) := hM
  have HT : Hid (Tal 113 ansU w ub bb at' ct X) := hT
  have HOk : Hid (MdOk d) := hok
  have HH : Hid (hitB x 12 d = true) := hhit
  clear hM hT hhit
  obtain ⟨w1, hw1⟩ : ∃ w1, w1 = (w.alloc (.cells #[.int .i64 n, .int .i64 c, .slice pa l k, .int .i64 err, .string ⟨#[]⟩, .int .i64 0, .int .i64 0, .int .i64 0, .slice none 0 0, .slice da dl dc, .int .i64 0, .int .i64 sn, .int .i64 sc, .int .i64 0, .pointer (some ⟨ub, 0, none⟩)] 160)).alloc (.cells d.cells 52) := ⟨_, rfl⟩
  obtain ⟨N, hN⟩ : ∃ N, N = w.heap.size := ⟨_, rfl⟩
  have HNN : Hid (N = w.heap.size) := hN
  have HK1 : Hid (Kept No w w1) := by rw [hw1]; exact ((Kept.refl No w).alloc _).alloc _
  have HX0 : Hid (Box w1 N 160 #[.int .i64 n, .int .i64 c, .slice pa l k, .int .i64 err, .string ⟨#[]⟩, .int .i64 0, .int .i64 0, .int .i64 0, .slice none 0 0, .slice da dl dc, .int .i64 0, .int .i64 sn, .int .i64 sc, .int .i64 0, .pointer (some ⟨ub, 0, none⟩)]) := by rw [hw1, hN]; exact (Box.new _ _ _).alloc _
  have HX1 : Hid (Box w1 (N + 1) 52 d.cells) := by
    have h := Box.new (w.alloc (.cells #[.int .i64 n, .int .i64 c, .slice pa l k, .int .i64 err, .string ⟨#[]⟩, .int .i64 0, .int .i64 0, .int .i64 0, .slice none 0 0, .slice da dl dc, .int .i64 0, .int .i64 sn, .int .i64 sc, .int .i64 0, .pointer (some ⟨ub, 0, none⟩)] 160)) 52 d.cells
    have e : (w.alloc (.cells #[.int .i64 n, .int .i64 c, .slice pa l k, .int .i64 err, .string ⟨#[]⟩, .int .i64 0, .int .i64 0, .int .i64 0, .slice none 0 0, .slice da dl dc, .int .i64 0, .int .i64 sn, .int .i64 sc, .int .i64 0, .pointer (some ⟨ub, 0, none⟩)] 160)).heap.size = w.heap.size + 1 := by simp
    rw [e] at h
    rw [hw1, hN]
    exact h
  have HXc : Hid (∀ wr, Kept (Tb2 ub bb) w1 wr → (wr.cell? ⟨N, 14, none⟩ = some (.pointer (some ⟨ub, 0, none⟩)) ∧ wr.cell? ⟨N + 1, 2, none⟩ = some (.int .i64 d.fi)) ∧ Box wr (N + 1) 52 d.cells ∧ Box wr N 160 #[.int .i64 n, .int .i64 c, .slice pa l k, .int .i64 err, .string ⟨#[]⟩, .int .i64 0, .int .i64 0, .int .i64 0, .slice none 0 0, .slice da dl dc, .int .i64 0, .int .i64 sn, .int .i64 sc, .int .i64 0, .pointer (some ⟨ub, 0, none⟩)]) := fun wr hk => by
    have hlt1 := HT.out.box.lt
    have hlt2 := HT.out.map.lt
    have hn := HNN.out
    have h0 := HX0.out.kept hk (fun e => by rcases e with e | e <;> omega)
    have h1 := HX1.out.kept hk (fun e => by rcases e with e | e <;> omega)
    exact ⟨⟨h0.cell 14, md_at h1 2 (by omega)⟩, h1, h0⟩
  unfold layV
  go_enter Try.func94, Try.ntmps94
  go_upto_region 1 with (refine wp_boxV rfl 52 _ rfl d.cells rfl (w.heap.size + 1) (by simp) ?_)
  rw [← hw1, ← hN]
  clear hw1 hN
  obtain ⟨⟨x0, x1⟩, x3, _⟩ := HXc.out w1 (Kept.refl _ _)
  have HB1 : Hid (Box w1 (N + 1) 52 d.cells) := x3
  clear x3
  go_wp2_with (first
    | (refine wp_loadM rfl _ rfl (N + 1) d.cells rfl (MD.size HOk.out) HB1.out ?_)
    | (go_at_call 83
       refine Calls.mono (answered_any m a cap x _ _ d 12 w1 (HM.out.no HK1.out)) ?_
       rintro e w2 ⟨rfl, hk2⟩
       rw [HH.out]
       have HK2 : Hid (Kept No w1 w2) := hk2
       obtain ⟨⟨y0, y1⟩, y2, _⟩ := HXc.out w2 HK2.out.of_no
       clear hk2)
    | (go_at_call 66
       refine Calls.mono (take_anyU ub bb ct at' X d.fi () w2 (HT.out.no (HK1.out.then HK2.out))) ?_
       rintro e w4 ⟨rfl, hT4, hk4⟩
       rw [HTb.out]
       have HT4 : Hid (Tal 113 ansU w4 ub bb at' ct (takeS X d.fi ())) := hT4
       have HK4 : Hid (Kept (Tb2 ub bb) w w4) := ((HK1.out.then HK2.out).of_no).then hk4
       have HK14 : Hid (Kept (Tb2 ub bb) w1 w4) := HK2.out.of_no.then hk4
       obtain ⟨⟨u0, u1⟩, u2, u3⟩ := HXc.out w4 HK14.out
       have HU : Hid (Box w4 N 160 #[.int .i64 n, .int .i64 c, .slice pa l k, .int .i64 err, .string ⟨#[]⟩, .int .i64 0, .int .i64 0, .int .i64 0, .slice none 0 0, .slice da dl dc, .int .i64 0, .int .i64 sn, .int .i64 sc, .int .i64 0, .pointer (some ⟨ub, 0, none⟩)]) := u3
       clear hT4 hk4 u3))
  go_ret
  exact ⟨rfl, HT4.out, HK4.out⟩

set_option maxRecDepth 100000 in
set_option maxHeartbeats 4000000 in
theorem takeL_end (m : Nat) (a : Option Addr) (cap : Nat) (x : MS) (t : TypeId) (v : Value) (n c : Int) (pa : Option Addr) (l k : Nat) (err sn sc : Int) (da : Option Addr) (dl dc : Nat) (ub bb ct : Nat) (at' : Option Addr) (X : TS Unit) (d : MD) (w : World) (hM : Mach w m a cap x t v) (hT : Tal 113 ansU w ub bb at' ct X) (hok : MdOk d) (hhit : hitB x 12 d = true) (htb : takeB X d.fi = true) (hd : ∀ k, MB m a k → ¬ Tb2 ub bb k) :
    Calls Try.prog 94 #[layV n c pa l k err sn sc da dl dc ub, .pointer (some ⟨m, 0, none⟩), .agg d.cells] w (fun e w' => e = .returned (.slice none 0 0) ∧ Mach w' m a cap x 139 (endV err sn sc da dl dc) ∧ Tal 113 ansU w' ub bb at' ct (takeS X d.fi ()) ∧ Kept (fun k => k = m ∨ Tb2 ub bb k) w w') := by
  have HTb : Hid (takeB X d.fi = true) := htb
  have HDj : Hid (∀ k, MB m a k → ¬ Tb2 ub bb k) := hd
  clear htb hd
  have HM : Hid (Mach w m a cap x t v) := hM
  have HT : Hid (Tal 113 ansU w ub bb at' ct X) := hT
  have HOk : Hid (MdOk d) := hok
  have HH : Hid (hitB x 12 d = true) := hhit
  clear hM hT hhit
  obtain ⟨w1, hw1⟩ : ∃ w1, w1 = (w.alloc (.cells #[.int .i64 n, .int .i64 c, .slice pa l k, .int .i64 err, .string ⟨#[]⟩, .int .i64 0, .int .i64 0, .int .i64 0, .slice none 0 0, .slice da dl dc, .int .i64 0, .int .i64 sn, .int .i64 sc, .int .i64 0, .pointer (some ⟨ub, 0, none⟩)] 160)).alloc (.cells d.cells 52) := ⟨_, rfl⟩
  obtain ⟨N, hN⟩ : ∃ N, N = w.heap.size := ⟨_, rfl⟩
  have HNN : Hid (N = w.heap.size) := hN
  have HK1 : Hid (Kept No w w1) := by rw [hw1]; exact ((Kept.refl No w).alloc _).alloc _
  have HX0 : Hid (Box w1 N 160 #[.int .i64 n, .int .i64 c, .slice pa l k, .int .i64 err, .string ⟨#[]⟩, .int .i64 0, .int .i64 0, .int .i64 0, .slice none 0 0, .slice da dl dc, .int .i64 0, .int .i64 sn, .int .i64 sc, .int .i64 0, .pointer (some ⟨ub, 0, none⟩)]) := by rw [hw1, hN]; exact (Box.new _ _ _).alloc _
  have HX1 : Hid (Box w1 (N + 1) 52 d.cells) := by
    have h := Box.new (w.alloc (.cells #[.int .i64 n, .int .i64 c, .slice pa l k, .int .i64 err, .string ⟨#[]⟩, .int .i64 0, .int .i64 0, .int .i64 0, .slice none 0 0, .slice da dl dc, .int .i64 0, .int .i64 sn, .int .i64 sc, .int .i64 0, .pointer (some ⟨ub, 0, none⟩)] 160)) 52 d.cells
    have e : (w.alloc (.cells #[.int .i64 n, .int .i64 c, .slice pa l k, .int .i64 err, .string ⟨#[]⟩, .int .i64 0, .int .i64 0, .int .i64 0, .slice none 0 0, .slice da dl dc, .int .i64 0, .int .i64 sn, .int .i64 sc, .int .i64 0, .pointer (some ⟨ub, 0, none⟩)] 160)).heap.size = w.heap.size + 1 := by simp
    rw [e] at h
    rw [hw1, hN]
    exact h
  have HXc : Hid (∀ wr, Kept (Tb2 ub bb) w1 wr → (wr.cell? ⟨N, 14, none⟩ = some (.pointer (some ⟨ub, 0, none⟩)) ∧ wr.cell? ⟨N + 1, 2, none⟩ = some (.int .i64 d.fi)) ∧ Box wr (N + 1) 52 d.cells ∧ Box wr N 160 #[.int .i64 n, .int .i64 c, .slice pa l k, .int .i64 err, .string ⟨#[]⟩, .int .i64 0, .int .i64 0, .int .i64 0, .slice none 0 0, .slice da dl dc, .int .i64 0, .int .i64 sn, .int .i64 sc, .int .i64 0, .pointer (some ⟨ub, 0, none⟩)]) := fun wr hk => by
    have hlt1 := HT.out.box.lt
    have hlt2 := HT.out.map.lt
    have hn := HNN.out
    have h0 := HX0.out.kept hk (fun e => by rcases e with e | e <;> omega)
    have h1 := HX1.out.kept hk (fun e => by rcases e with e | e <;> omega)
    exact ⟨⟨h0.cell 14, md_at h1 2 (by omega)⟩, h1, h0⟩
  unfold layV
  go_enter Try.func94, Try.ntmps94
  go_upto_region 1 with (refine wp_boxV rfl 52 _ rfl d.cells rfl (w.heap.size + 1) (by simp) ?_)
  rw [← hw1, ← hN]
  clear hw1 hN
  obtain ⟨⟨x0, x1⟩, x3, _⟩ := HXc.out w1 (Kept.refl _ _)
  have HB1 : Hid (Box w1 (N + 1) 52 d.cells) := x3
  clear x3
  go_wp2_with (first
    | (refine wp_loadM rfl _ rfl (N + 1) d.cells rfl (MD.size HOk.out) HB1.out ?_)
    | (go_at_call 83
       refine Calls.mono (answered_any m a cap x _ _ d 12 w1 (HM.out.no HK1.out)) ?_
       rintro e w2 ⟨rfl, hk2⟩
       rw [HH.out]
       have HK2 : Hid (Kept No w1 w2) := hk2
       obtain ⟨⟨y0, y1⟩, y2, _⟩ := HXc.out w2 HK2.out.of_no
       clear hk2)
    | (go_at_call 66
       refine Calls.mono (take_anyU ub bb ct at' X d.fi () w2 (HT.out.no (HK1.out.then HK2.out))) ?_
       rintro e w4 ⟨rfl, hT4, hk4⟩
       rw [HTb.out]
       have HT4 : Hid (Tal 113 ansU w4 ub bb at' ct (takeS X d.fi ())) := hT4
       have HK4 : Hid (Kept (Tb2 ub bb) w w4) := ((HK1.out.then HK2.out).of_no).then hk4
       have HK14 : Hid (Kept (Tb2 ub bb) w1 w4) := HK2.out.of_no.then hk4
       obtain ⟨⟨u0, u1⟩, u2, u3⟩ := HXc.out w4 HK14.out
       have HU : Hid (Box w4 N 160 #[.int .i64 n, .int .i64 c, .slice pa l k, .int .i64 err, .string ⟨#[]⟩, .int .i64 0, .int .i64 0, .int .i64 0, .slice none 0 0, .slice da dl dc, .int .i64 0, .int .i64 sn, .int .i64 sc, .int .i64 0, .pointer (some ⟨ub, 0, none⟩)]) := u3
       have HM4 : Hid (Mach w4 m a cap x t v) := HM.out.kept HK4.out HDj.out
       have c3 := HU.out.cell 3
       have c4 := HU.out.cell 4
       have c5 := HU.out.cell 5
       have c6 := HU.out.cell 6
       have c7 := HU.out.cell 7
       have c8 := HU.out.cell 8
       have c9 := HU.out.cell 9
       have c10 := HU.out.cell 10
       have c11 := HU.out.cell 11
       have c12 := HU.out.cell 12
       have c13 := HU.out.cell 13
       simp only [List.getElem?_toArray, List.getElem?_cons_zero, List.getElem?_cons_succ] at c3 c4 c5 c6 c7 c8 c9 c10 c11 c12 c13
       clear hT4 hk4 u3 x0 x1 y0 y1 u0 u1)
    | (go_at_call 72
       refine Calls.mono (enterE_any m a cap x _ _ err sn sc da dl dc w4 HM4.out) ?_
       rintro e w9 ⟨rfl, hM9, hk9⟩
       have HM9 : Hid (Mach w9 m a cap x 139 (endV err sn sc da dl dc)) := hM9
       have HK9 : Hid (Kept (Only m) w4 w9) := hk9
       clear hM9 hk9))
  go_ret
  refine ⟨rfl, HM9.out, HT4.out.kept HK9.out (fun k hk e => ?_), (HK4.out.mono (fun i _ e => .inr e)).then (HK9.out.mono (fun i _ e => .inl e))⟩
  have e : k = m := e
  subst e
  rcases hk with h | h | h
  · exact HDj.out k (.inl rfl) (.inl h)
  · exact HDj.out k (.inl rfl) (.inr h)
  · exact box_row HM4.out.box (by decide) HT4.out.row h rfl
end

end Go.Proofs.Ythnecaejhnojfaa
namespace Go.Proofs.Ythnecaejhnojfaa
open Go.RowKit
set_option linter.unusedVariables false
set_option linter.unusedSimpArgs false

theorem meth_takeA (a1 a2 : Value) (w : World) : (method 277 146 (.agg #[a1, a2]) "cairn/register.take").run Try.prog w = .ok (81, .agg #[a1, a2]) w := by kernel_rfl
theorem meth_takeL (n c : Int) (a : Option Addr) (l k : Nat) (err sn sc : Int) (da : Option Addr) (dl dc : Nat) (ub : Nat) (w : World) : (method 277 160 (layV n c a l k err sn sc da dl dc ub) "cairn/register.take").run Try.prog w = .ok (94, layV n c a l k err sn sc da dl dc ub) w := by kernel_rfl
set_option maxRecDepth 100000 in
set_option maxHeartbeats 2000000 in
theorem take0_any (m : Value) (d : MD) (w : World) : Calls Try.prog 69 #[.agg #[], m, .agg d.cells] w (fun e w' => e = .returned (.slice none 0 0) ∧ Kept No w w') := by
  obtain ⟨w1, hw1⟩ : ∃ w1, w1 = (w.alloc (.cells #[] 103)).alloc (.cells d.cells 52) := ⟨_, rfl⟩
  have HK1 : Hid (Kept No w w1) := by rw [hw1]; exact ((Kept.refl No w).alloc _).alloc _
  go_enter Try.func69, Try.ntmps69
  go_upto_region 1 with (refine wp_boxV rfl 52 _ rfl d.cells rfl (w.heap.size + 1) (by simp) ?_)
  rw [← hw1]
  clear hw1
  go_wp2
  go_ret
  exact ⟨rfl, HK1.out⟩

section
attribute [local go_sem ↓] loadS_eq

set_option maxRecDepth 100000 in
set_option maxHeartbeats 4000000 in
theorem machTakeA_any (m : Nat) (a : Option Addr) (cap : Nat) (x : MS) (v rv : Value) (d : MD) (w : World) (Q : Ending → World → Prop) (hM : Mach w m a cap x 146 v) (hok : MdOk d) (hm : ∀ w, (method 277 146 v "cairn/register.take").run Try.prog w = .ok (81, rv) w)
    (hF : ∀ wr, Kept No w wr → Calls Try.prog 81 #[rv, .pointer (some ⟨m, 0, none⟩), .agg d.cells] wr (fun e w' => (∃ a l c, e = .returned (.slice a l c)) ∧ Q e w')) :
    Calls Try.prog 61 #[.pointer (some ⟨m, 0, none⟩), .agg d.cells] w Q := by
  have HC : Hid (∀ wr, Kept No w wr → Calls Try.prog 81 #[rv, .pointer (some ⟨m, 0, none⟩), .agg d.cells] wr (fun e w' => (∃ a l c, e = .returned (.slice a l c)) ∧ Q e w')) := hF
  have HM : Hid (Mach w m a cap x 146 v) := hM
  clear hF hM
  obtain ⟨w1, hw1⟩ : ∃ w1, w1 = w.alloc (.cells d.cells 52) := ⟨_, rfl⟩
  obtain ⟨N, hN⟩ : ∃ N, N = w.heap.size := ⟨_, rfl⟩
  have HK1 : Hid (Kept No w w1) := by rw [hw1]; exact (Kept.refl No w).alloc _
  have x3 : Box w1 N 52 d.cells := by rw [hw1, hN]; exact Box.new _ _ _
  have c9 := (HM.out.no HK1.out).box.cell 9
  simp only [mC, List.getElem?_toArray, List.getElem?_cons_zero, List.getElem?_cons_succ] at c9
  go_enter Try.func61, Try.ntmps61
  go_upto_region 1 with (refine wp_boxV rfl 52 _ rfl d.cells rfl w.heap.size rfl ?_)
  rw [← hw1, ← hN]
  clear hw1 hN
  have x4 : Box w1.drew N 52 d.cells := x3
  have HKr : Hid (Kept No w1 w1.drew) := (Kept.refl No w1).drew
  have hld : ∀ w', Box w' N 52 d.cells → Sem.run Try.prog (loadS ⟨N, 0, none⟩) w' = .ok (.agg d.cells) w' := fun w' hb => run_loadS _ d w' hb hok
  go_region_with (first
    | (go_at_call 81
       refine Calls.mono (HC.out w1.drew (HK1.out.then HKr.out)) ?_
       rintro e w2 ⟨⟨ra, rl, rc, rfl⟩, hq⟩
       have HQ : Hid (Q (.returned (.slice ra rl rc)) w2) := hq
       clear hq c9 x3 x4))
  all_goals (
    go_wp2
    go_ret
    exact HQ.out)

set_option maxRecDepth 100000 in
set_option maxHeartbeats 4000000 in
theorem machTakeL_any (m : Nat) (a : Option Addr) (cap : Nat) (x : MS) (v rv : Value) (d : MD) (w : World) (Q : Ending → World → Prop) (hM : Mach w m a cap x 160 v) (hok : MdOk d) (hm : ∀ w, (method 277 160 v "cairn/register.take").run Try.prog w = .ok (94, rv) w)
    (hF : ∀ wr, Kept No w wr → Calls Try.prog 94 #[rv, .pointer (some ⟨m, 0, none⟩), .agg d.cells] wr (fun e w' => (∃ a l c, e = .returned (.slice a l c)) ∧ Q e w')) :
    Calls Try.prog 61 #[.pointer (some ⟨m, 0, none⟩), .agg d.cells] w Q := by
  have HC : Hid (∀ wr, Kept No w wr → Calls Try.prog 94 #[rv, .pointer (some ⟨m, 0, none⟩), .agg d.cells] wr (fun e w' => (∃ a l c, e = .returned (.slice a l c)) ∧ Q e w')) := hF
  have HM : Hid (Mach w m a cap x 160 v) := hM
  clear hF hM
  obtain ⟨w1, hw1⟩ : ∃ w1, w1 = w.alloc (.cells d.cells 52) := ⟨_, rfl⟩
  obtain ⟨N, hN⟩ : ∃ N, N = w.heap.size := ⟨_, rfl⟩
  have HK1 : Hid (Kept No w w1) := by rw [hw1]; exact (Kept.refl No w).alloc _
  have x3 : Box w1 N 52 d.cells := by rw [hw1, hN]; exact Box.new _ _ _
  have c9 := (HM.out.no HK1.out).box.cell 9
  simp only [mC, List.getElem?_toArray, List.getElem?_cons_zero, List.getElem?_cons_succ] at c9
  go_enter Try.func61, Try.ntmps61
  go_upto_region 1 with (refine wp_boxV rfl 52 _ rfl d.cells rfl w.heap.size rfl ?_)
  rw [← hw1, ← hN]
  clear hw1 hN
  have x4 : Box w1.drew N 52 d.cells := x3
  have HKr : Hid (Kept No w1 w1.drew) := (Kept.refl No w1).drew
  have hld : ∀ w', Box w' N 52 d.cells → Sem.run Try.prog (loadS ⟨N, 0, none⟩) w' = .ok (.agg d.cells) w' := fun w' hb => run_loadS _ d w' hb hok
  go_region_with (first
    | (go_at_call 94
       refine Calls.mono (HC.out w1.drew (HK1.out.then HKr.out)) ?_
       rintro e w2 ⟨⟨ra, rl, rc, rfl⟩, hq⟩
       have HQ : Hid (Q (.returned (.slice ra rl rc)) w2) := hq
       clear hq c9 x3 x4))
  all_goals (
    go_wp2
    go_ret
    exact HQ.out)

end

end Go.Proofs.Ythnecaejhnojfaa
