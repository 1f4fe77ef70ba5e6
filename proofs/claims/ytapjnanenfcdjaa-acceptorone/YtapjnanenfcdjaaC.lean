import Derived.Test.YtapjnanenfcdjaaB
namespace Go.Proofs.Ytapjnanenfcdjaa
open Go.RowKit
set_option linter.unusedVariables false
set_option linter.unusedSimpArgs false

/-- What a server does. -/
def refB (i : In) (b : Sp) : Bool := i.d || lt b i.p
def refM (i : In) (b : Sp) : Mg := if i.d then ⟨16, sZ, sZ, i.c⟩ else if lt b i.p then ⟨14, i.p, sZ, cZ⟩ else mZ
def prepI (i : In) (b : Sp) : In := if refB i b then i else ⟨b, i.a, i.c, i.d⟩
def prepM (i : In) (b : Sp) : Mg := if refB i b then refM i b else ⟨13, b, i.a, i.c⟩
def prepB (i : In) (b : Sp) : Bool := if refB i b then false else !eqI ⟨b, i.a, i.c, i.d⟩ i
def accI (i : In) (b : Sp) (c : Cm) : In := if refB i b then i else ⟨b, b, c, false⟩
def accM (i : In) (b : Sp) : Mg := if refB i b then refM i b else ⟨15, b, sZ, cZ⟩
def accB (i : In) (b : Sp) (c : Cm) : Bool := if refB i b then false else !eqI ⟨b, b, c, false⟩ i
def lrnI (i : In) (c : Cm) : In := if i.d then i else ⟨sZ, sZ, c, true⟩
def lrnB (i : In) (c : Cm) : Bool := if i.d then false else !eqI ⟨sZ, sZ, c, true⟩ i

theorem In.cel {w : World} {g : Nat} {i : In} (hb : Box w g 29 i.cells) : w.cell? ⟨g, 0, none⟩ = some (.int .i64 i.p.n) ∧ w.cell? ⟨g, 1, none⟩ = some (.int .i64 i.p.c) ∧ w.cell? ⟨g, 2, none⟩ = some (.int .i64 i.a.n) ∧ w.cell? ⟨g, 3, none⟩ = some (.int .i64 i.a.c) ∧ w.cell? ⟨g, 13, none⟩ = some (.bool i.d) :=
  ⟨hb.cell 0, hb.cell 1, hb.cell 2, hb.cell 3, hb.cell 13⟩
theorem Mg.cel {w : World} {g : Nat} {m : Mg} (hb : Box w g 52 m.cells) : w.cell? ⟨g, 0, none⟩ = some (.int .i64 m.k) ∧ w.cell? ⟨g, 11, none⟩ = some (.int .i64 m.s.n) ∧ w.cell? ⟨g, 12, none⟩ = some (.int .i64 m.s.c) ∧ w.cell? ⟨g, 13, none⟩ = some (.int .i64 m.h.n) ∧ w.cell? ⟨g, 14, none⟩ = some (.int .i64 m.h.c) :=
  ⟨hb.cell 0, hb.cell 11, hb.cell 12, hb.cell 13, hb.cell 14⟩
theorem Sp.cel {w : World} {g : Nat} {n c : Int} {t : TypeId} (hb : Box w g t #[.int .i64 n, .int .i64 c]) : w.cell? ⟨g, 0, none⟩ = some (.int .i64 n) ∧ w.cell? ⟨g, 1, none⟩ = some (.int .i64 c) := ⟨hb.cell 0, hb.cell 1⟩

theorem results_row_tmp {fn : Func} {p u : Tmp} {t : TypeId} (h : fn.results = #[.cell p t, .tmp u]) (tmps : Array Value) (w : World) (g : Nat) (cs : Array Value) (hp : tmps.getD p undef = .pointer (some ⟨g, 0, none⟩)) (hrun : (loadVar t ⟨g, 0, none⟩).run Try.prog w = .ok (.agg cs) w) :
    (results fn tmps).run Try.prog w = .ok (.tuple #[.agg cs, tmps.getD u undef]) w := by
  rw [results_cell_tmp h, hp]
  simp [asAddr, hrun, Result.andThen]
theorem results_cct {fn : Func} {p q u : Tmp} {t s : TypeId} (h : fn.results = #[.cell p t, .cell q s, .tmp u]) (tmps : Array Value) (P : Program) (w : World) :
    (results fn tmps).run P w = ((asAddr (tmps.getD p undef)).run P w).andThen fun a w₁ => ((loadVar t a).run P w₁).andThen fun v w₂ => ((asAddr (tmps.getD q undef)).run P w₂).andThen fun b w₃ => ((loadVar s b).run P w₃).andThen fun v' w₄ => .ok (.tuple #[v, v', tmps.getD u undef]) w₄ := by
  simp only [results, h]
  simp [Sem.run_bind, Result.andThen]
theorem results_row2_tmp {fn : Func} {p q u : Tmp} {t s : TypeId} (h : fn.results = #[.cell p t, .cell q s, .tmp u]) (tmps : Array Value) (w : World) (g g' : Nat) (cs cs' : Array Value) (hp : tmps.getD p undef = .pointer (some ⟨g, 0, none⟩)) (hq : tmps.getD q undef = .pointer (some ⟨g', 0, none⟩)) (hrun : (loadVar t ⟨g, 0, none⟩).run Try.prog w = .ok (.agg cs) w) (hrun' : (loadVar s ⟨g', 0, none⟩).run Try.prog w = .ok (.agg cs') w) :
    (results fn tmps).run Try.prog w = .ok (.tuple #[.agg cs, .agg cs', tmps.getD u undef]) w := by
  rw [results_cct h, hp, hq]
  simp [asAddr, hrun, hrun', Result.andThen]

set_option maxRecDepth 100000 in
set_option maxHeartbeats 1000000 in
theorem refusal_any (i : In) (b : Sp) (w : World) : Calls Try.prog 31 #[.agg i.cells, .agg #[.int .i64 b.n, .int .i64 b.c]] w (fun e w' => e = .returned (.tuple #[.agg (refM i b).cells, .bool (refB i b)]) ∧ Kept No w w') := by
  obtain ⟨w1, hw1⟩ : ∃ w1, w1 = ((w.alloc (.cells i.cells 29)).alloc (.cells #[.int .i64 b.n, .int .i64 b.c] 23)).alloc (.cells mZ.cells 52) := ⟨_, rfl⟩
  obtain ⟨N, hN⟩ : ∃ N, N = w.heap.size := ⟨_, rfl⟩
  have HNN : Hid (N = w.heap.size) := hN
  have HK1 : Hid (Kept No w w1) := by rw [hw1]; exact (((Kept.refl No w).alloc _).alloc _).alloc _
  have HX0 : Hid (Box w1 N 29 i.cells) := by rw [hw1, hN]; exact ((Box.new _ _ _).alloc _).alloc _
  have HX1 : Hid (Box w1 (N + 1) 23 #[.int .i64 b.n, .int .i64 b.c]) := by
    have h := Box.new (w.alloc (.cells i.cells 29)) 23 #[.int .i64 b.n, .int .i64 b.c]
    rw [show (w.alloc (.cells i.cells 29)).heap.size = w.heap.size + 1 by simp] at h
    rw [hw1, hN]
    exact h.alloc _
  have HX2 : Hid (Box w1 (N + 1 + 1) 52 mZ.cells) := by
    have h := Box.new ((w.alloc (.cells i.cells 29)).alloc (.cells #[.int .i64 b.n, .int .i64 b.c] 23)) 52 mZ.cells
    rw [show ((w.alloc (.cells i.cells 29)).alloc (.cells #[.int .i64 b.n, .int .i64 b.c] 23)).heap.size = w.heap.size + 1 + 1 by simp] at h
    rw [hw1, hN]
    exact h
  have HM : Hid (refM i b = if i.d then ⟨16, sZ, sZ, i.c⟩ else if lt b i.p then ⟨14, i.p, sZ, cZ⟩ else mZ) := rfl
  have HB : Hid (refB i b = (i.d || lt b i.p)) := rfl
  generalize refM i b = RM at HM
  generalize refB i b = RB at HB
  go_enter Try.func31, Try.ntmps31
  go_upto_region 1 with (first
    | (refine wp_boxV rfl 29 _ rfl i.cells rfl w.heap.size rfl ?_)
    | (refine wp_allocT rfl 52 rfl mZ.cells zero52 (w.heap.size + 1 + 1) (by simp) ?_))
  rw [← hw1, ← hN]
  clear hw1 hN
  obtain ⟨x0, x1, -, -, x13⟩ := In.cel HX0.out
  obtain ⟨y0, y1⟩ := Sp.cel HX1.out
  cases hd : i.d
  · rw [hd] at x13
    have HM : Hid (RM = if lt b i.p then ⟨14, i.p, sZ, cZ⟩ else mZ) := by have := HM.out; rw [hd] at this; exact this
    have HB : Hid (RB = lt b i.p) := by have := HB.out; rw [hd] at this; exact this
    cases hl : lt b i.p
    · have HM : Hid (RM = mZ) := by have := HM.out; rw [hl] at this; exact this
      have HB : Hid (RB = false) := by have := HB.out; rw [hl] at this; exact this
      have HL : Hid (lt b i.p = false) := hl
      clear hl
      go_wp2_with (first
        | (go_at_call 37
           refine Calls.mono (less_any b.n b.c i.p.n i.p.c w1) ?_
           rintro e w2 ⟨rfl, hk2⟩
           have hlt : lessB b.n b.c i.p.n i.p.c = false := HL.out
           rw [hlt]
           have HK2 : Hid (Kept No w1 w2) := hk2
           have HY2 : Hid (Box w2 (N + 1 + 1) 52 mZ.cells) := HX2.out.kept hk2 (fun e => e)
           clear hk2 hlt)
        | (refine wp_buildT rfl 52 _ rfl mZ.cells (by kernel_rfl) ?_)
        | (refine wp_storeV rfl 52 _ _ rfl ⟨N + 1 + 1, 0, none⟩ (.agg mZ.cells) rfl rfl _ (store_M HY2.out rfl) ?_))
      refine bodyPost_ret (results_row_tmp (by rfl) _ _ (N + 1 + 1) mZ.cells (by rfl) (load_M (HY2.out.setRow _))) rfl ?_
      rw [HM.out, HB.out]
      exact ⟨rfl, (HK1.out.then HK2.out).newRow (by have := HNN.out; omega) _⟩
    · have HM : Hid (RM = ⟨14, i.p, sZ, cZ⟩) := by have := HM.out; rw [hl] at this; exact this
      have HB : Hid (RB = true) := by have := HB.out; rw [hl] at this; exact this
      have HL : Hid (lt b i.p = true) := hl
      clear hl
      go_wp2_with (first
        | (go_at_call 37
           refine Calls.mono (less_any b.n b.c i.p.n i.p.c w1) ?_
           rintro e w2 ⟨rfl, hk2⟩
           have hlt : lessB b.n b.c i.p.n i.p.c = true := HL.out
           rw [hlt]
           have HK2 : Hid (Kept No w1 w2) := hk2
           have HY2 : Hid (Box w2 (N + 1 + 1) 52 mZ.cells) := HX2.out.kept hk2 (fun e => e)
           obtain ⟨z0, z1, -, -, -⟩ := In.cel (HX0.out.kept hk2 (fun e => e))
           clear hk2 hlt)
        | (refine wp_buildT rfl 52 _ rfl (Mg.cells ⟨14, i.p, sZ, cZ⟩) (by kernel_rfl) ?_)
        | (refine wp_storeV rfl 52 _ _ rfl ⟨N + 1 + 1, 0, none⟩ (.agg (Mg.cells ⟨14, i.p, sZ, cZ⟩)) rfl rfl _ (store_M HY2.out rfl) ?_))
      refine bodyPost_ret (results_row_tmp (by rfl) _ _ (N + 1 + 1) (Mg.cells ⟨14, i.p, sZ, cZ⟩) (by rfl) (load_M (HY2.out.setRow _))) rfl ?_
      rw [HM.out, HB.out]
      exact ⟨rfl, (HK1.out.then HK2.out).newRow (by have := HNN.out; omega) _⟩
  · rw [hd] at x13
    have HM : Hid (RM = ⟨16, sZ, sZ, i.c⟩) := by have := HM.out; rw [hd] at this; exact this
    have HB : Hid (RB = true) := by have := HB.out; rw [hd] at this; exact this
    go_wp2_with (first
      | (refine wp_loadV rfl 27 _ rfl ⟨N, 4, none⟩ rfl (.agg i.c.cells) (load_IC HX0.out) ?_)
      | (refine wp_buildT rfl 52 _ rfl (Mg.cells ⟨16, sZ, sZ, i.c⟩) (by kernel_rfl) ?_)
      | (refine wp_storeV rfl 52 _ _ rfl ⟨N + 1 + 1, 0, none⟩ (.agg (Mg.cells ⟨16, sZ, sZ, i.c⟩)) rfl rfl _ (store_M HX2.out rfl) ?_))
    refine bodyPost_ret (results_row_tmp (by rfl) _ _ (N + 1 + 1) (Mg.cells ⟨16, sZ, sZ, i.c⟩) (by rfl) (load_M (HX2.out.setRow _))) rfl ?_
    rw [HM.out, HB.out]
    exact ⟨rfl, HK1.out.newRow (by have := HNN.out; omega) _⟩

set_option maxRecDepth 100000 in
set_option maxHeartbeats 1000000 in
theorem refused_any (i : In) (b : Sp) (w : World) : Calls Try.prog 32 #[.agg i.cells, .agg #[.int .i64 b.n, .int .i64 b.c]] w (fun e w' => e = .returned (.tuple #[.agg (refM i b).cells, .bool (refB i b)]) ∧ Kept No w w') := by
  obtain ⟨w1, hw1⟩ : ∃ w1, w1 = ((w.alloc (.cells i.cells 29)).alloc (.cells #[.int .i64 b.n, .int .i64 b.c] 23)).alloc (.cells mZ.cells 52) := ⟨_, rfl⟩
  obtain ⟨N, hN⟩ : ∃ N, N = w.heap.size := ⟨_, rfl⟩
  have HNN : Hid (N = w.heap.size) := hN
  have HK1 : Hid (Kept No w w1) := by rw [hw1]; exact (((Kept.refl No w).alloc _).alloc _).alloc _
  have HX0 : Hid (Box w1 N 29 i.cells) := by rw [hw1, hN]; exact ((Box.new _ _ _).alloc _).alloc _
  have HX1 : Hid (Box w1 (N + 1) 23 #[.int .i64 b.n, .int .i64 b.c]) := by
    have h := Box.new (w.alloc (.cells i.cells 29)) 23 #[.int .i64 b.n, .int .i64 b.c]
    rw [show (w.alloc (.cells i.cells 29)).heap.size = w.heap.size + 1 by simp] at h
    rw [hw1, hN]
    exact h.alloc _
  have HX2 : Hid (Box w1 (N + 1 + 1) 52 mZ.cells) := by
    have h := Box.new ((w.alloc (.cells i.cells 29)).alloc (.cells #[.int .i64 b.n, .int .i64 b.c] 23)) 52 mZ.cells
    rw [show ((w.alloc (.cells i.cells 29)).alloc (.cells #[.int .i64 b.n, .int .i64 b.c] 23)).heap.size = w.heap.size + 1 + 1 by simp] at h
    rw [hw1, hN]
    exact h
  have HM : Hid (refM i b = if i.d then ⟨16, sZ, sZ, i.c⟩ else if lt b i.p then ⟨14, i.p, sZ, cZ⟩ else mZ) := rfl
  have HB : Hid (refB i b = (i.d || lt b i.p)) := rfl
  generalize refM i b = RM at HM
  generalize refB i b = RB at HB
  go_enter Try.func32, Try.ntmps32
  go_upto_region 1 with (first
    | (refine wp_boxV rfl 29 _ rfl i.cells rfl w.heap.size rfl ?_)
    | (refine wp_allocT rfl 52 rfl mZ.cells zero52 (w.heap.size + 1 + 1) (by simp) ?_))
  rw [← hw1, ← hN]
  clear hw1 hN
  obtain ⟨x0, x1, -, -, x13⟩ := In.cel HX0.out
  obtain ⟨y0, y1⟩ := Sp.cel HX1.out
  cases hd : i.d
  · rw [hd] at x13
    have HM : Hid (RM = if lt b i.p then ⟨14, i.p, sZ, cZ⟩ else mZ) := by have := HM.out; rw [hd] at this; exact this
    have HB : Hid (RB = lt b i.p) := by have := HB.out; rw [hd] at this; exact this
    cases hl : lt b i.p
    · have HM : Hid (RM = mZ) := by have := HM.out; rw [hl] at this; exact this
      have HB : Hid (RB = false) := by have := HB.out; rw [hl] at this; exact this
      have HL : Hid (lt b i.p = false) := hl
      clear hl
      go_wp2_with (first
        | (go_at_call 19
           refine Calls.mono (above_any i.p.n i.p.c b.n b.c w1) ?_
           rintro e w2 ⟨rfl, hk2⟩
           have hlt : lessB b.n b.c i.p.n i.p.c = false := HL.out
           rw [hlt]
           have HK2 : Hid (Kept No w1 w2) := hk2
           have HY2 : Hid (Box w2 (N + 1 + 1) 52 mZ.cells) := HX2.out.kept hk2 (fun e => e)
           clear hk2 hlt)
        | (refine wp_buildT rfl 52 _ rfl mZ.cells (by kernel_rfl) ?_)
        | (refine wp_storeV rfl 52 _ _ rfl ⟨N + 1 + 1, 0, none⟩ (.agg mZ.cells) rfl rfl _ (store_M HY2.out rfl) ?_))
      refine bodyPost_ret (results_row_tmp (by rfl) _ _ (N + 1 + 1) mZ.cells (by rfl) (load_M (HY2.out.setRow _))) rfl ?_
      rw [HM.out, HB.out]
      exact ⟨rfl, (HK1.out.then HK2.out).newRow (by have := HNN.out; omega) _⟩
    · have HM : Hid (RM = ⟨14, i.p, sZ, cZ⟩) := by have := HM.out; rw [hl] at this; exact this
      have HB : Hid (RB = true) := by have := HB.out; rw [hl] at this; exact this
      have HL : Hid (lt b i.p = true) := hl
      clear hl
      go_wp2_with (first
        | (go_at_call 19
           refine Calls.mono (above_any i.p.n i.p.c b.n b.c w1) ?_
           rintro e w2 ⟨rfl, hk2⟩
           have hlt : lessB b.n b.c i.p.n i.p.c = true := HL.out
           rw [hlt]
           have HK2 : Hid (Kept No w1 w2) := hk2
           have HY2 : Hid (Box w2 (N + 1 + 1) 52 mZ.cells) := HX2.out.kept hk2 (fun e => e)
           obtain ⟨z0, z1, -, -, -⟩ := In.cel (HX0.out.kept hk2 (fun e => e))
           clear hk2 hlt)
        | (refine wp_buildT rfl 52 _ rfl (Mg.cells ⟨14, i.p, sZ, cZ⟩) (by kernel_rfl) ?_)
        | (refine wp_storeV rfl 52 _ _ rfl ⟨N + 1 + 1, 0, none⟩ (.agg (Mg.cells ⟨14, i.p, sZ, cZ⟩)) rfl rfl _ (store_M HY2.out rfl) ?_))
      refine bodyPost_ret (results_row_tmp (by rfl) _ _ (N + 1 + 1) (Mg.cells ⟨14, i.p, sZ, cZ⟩) (by rfl) (load_M (HY2.out.setRow _))) rfl ?_
      rw [HM.out, HB.out]
      exact ⟨rfl, (HK1.out.then HK2.out).newRow (by have := HNN.out; omega) _⟩
  · rw [hd] at x13
    have HM : Hid (RM = ⟨16, sZ, sZ, i.c⟩) := by have := HM.out; rw [hd] at this; exact this
    have HB : Hid (RB = true) := by have := HB.out; rw [hd] at this; exact this
    go_wp2_with (first
      | (refine wp_loadV rfl 27 _ rfl ⟨N, 4, none⟩ rfl (.agg i.c.cells) (load_IC HX0.out) ?_)
      | (refine wp_buildT rfl 52 _ rfl (Mg.cells ⟨16, sZ, sZ, i.c⟩) (by kernel_rfl) ?_)
      | (refine wp_storeV rfl 52 _ _ rfl ⟨N + 1 + 1, 0, none⟩ (.agg (Mg.cells ⟨16, sZ, sZ, i.c⟩)) rfl rfl _ (store_M HX2.out rfl) ?_))
    refine bodyPost_ret (results_row_tmp (by rfl) _ _ (N + 1 + 1) (Mg.cells ⟨16, sZ, sZ, i.c⟩) (by rfl) (load_M (HX2.out.setRow _))) rfl ?_
    rw [HM.out, HB.out]
    exact ⟨rfl, HK1.out.newRow (by have := HNN.out; omega) _⟩

end Go.Proofs.Ytapjnanenfcdjaa
