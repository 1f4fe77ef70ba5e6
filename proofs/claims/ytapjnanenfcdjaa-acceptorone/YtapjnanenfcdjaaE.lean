import Derived.Test.YtapjnanenfcdjaaD
namespace Go.Proofs.Ytapjnanenfcdjaa
open Go.RowKit
set_option linter.unusedVariables false
set_option linter.unusedSimpArgs false

theorem al2 (w : World) (c0 : Array Value) (t0 : TypeId) (c1 : Array Value) (t1 : TypeId) : Kept No w ((w.alloc (.cells c0 t0)).alloc (.cells c1 t1)) ∧ Box ((w.alloc (.cells c0 t0)).alloc (.cells c1 t1)) (w.heap.size) t0 c0 ∧ Box ((w.alloc (.cells c0 t0)).alloc (.cells c1 t1)) (w.heap.size + 1) t1 c1 ∧ ((w.alloc (.cells c0 t0)).alloc (.cells c1 t1)).heap.size = w.heap.size + 1 + 1 := by
  have b0 := Box.new w t0 c0
  have e1 : (w.alloc (.cells c0 t0)).heap.size = w.heap.size + 1 := by simp
  have b1 := Box.new (w.alloc (.cells c0 t0)) t1 c1
  rw [e1] at b1
  exact ⟨(((Kept.refl No w).alloc _).alloc _), (b0.alloc _), b1, by simp⟩
theorem al3 (w : World) (c0 : Array Value) (t0 : TypeId) (c1 : Array Value) (t1 : TypeId) (c2 : Array Value) (t2 : TypeId) : Kept No w (((w.alloc (.cells c0 t0)).alloc (.cells c1 t1)).alloc (.cells c2 t2)) ∧ Box (((w.alloc (.cells c0 t0)).alloc (.cells c1 t1)).alloc (.cells c2 t2)) (w.heap.size) t0 c0 ∧ Box (((w.alloc (.cells c0 t0)).alloc (.cells c1 t1)).alloc (.cells c2 t2)) (w.heap.size + 1) t1 c1 ∧ Box (((w.alloc (.cells c0 t0)).alloc (.cells c1 t1)).alloc (.cells c2 t2)) (w.heap.size + 1 + 1) t2 c2 ∧ (((w.alloc (.cells c0 t0)).alloc (.cells c1 t1)).alloc (.cells c2 t2)).heap.size = w.heap.size + 1 + 1 + 1 := by
  have b0 := Box.new w t0 c0
  have e1 : (w.alloc (.cells c0 t0)).heap.size = w.heap.size + 1 := by simp
  have b1 := Box.new (w.alloc (.cells c0 t0)) t1 c1
  rw [e1] at b1
  have e2 : ((w.alloc (.cells c0 t0)).alloc (.cells c1 t1)).heap.size = w.heap.size + 1 + 1 := by simp
  have b2 := Box.new ((w.alloc (.cells c0 t0)).alloc (.cells c1 t1)) t2 c2
  rw [e2] at b2
  exact ⟨((((Kept.refl No w).alloc _).alloc _).alloc _), ((b0.alloc _).alloc _), (b1.alloc _), b2, by simp⟩
theorem al4 (w : World) (c0 : Array Value) (t0 : TypeId) (c1 : Array Value) (t1 : TypeId) (c2 : Array Value) (t2 : TypeId) (c3 : Array Value) (t3 : TypeId) : Kept No w ((((w.alloc (.cells c0 t0)).alloc (.cells c1 t1)).alloc (.cells c2 t2)).alloc (.cells c3 t3)) ∧ Box ((((w.alloc (.cells c0 t0)).alloc (.cells c1 t1)).alloc (.cells c2 t2)).alloc (.cells c3 t3)) (w.heap.size) t0 c0 ∧ Box ((((w.alloc (.cells c0 t0)).alloc (.cells c1 t1)).alloc (.cells c2 t2)).alloc (.cells c3 t3)) (w.heap.size + 1) t1 c1 ∧ Box ((((w.alloc (.cells c0 t0)).alloc (.cells c1 t1)).alloc (.cells c2 t2)).alloc (.cells c3 t3)) (w.heap.size + 1 + 1) t2 c2 ∧ Box ((((w.alloc (.cells c0 t0)).alloc (.cells c1 t1)).alloc (.cells c2 t2)).alloc (.cells c3 t3)) (w.heap.size + 1 + 1 + 1) t3 c3 ∧ ((((w.alloc (.cells c0 t0)).alloc (.cells c1 t1)).alloc (.cells c2 t2)).alloc (.cells c3 t3)).heap.size = w.heap.size + 1 + 1 + 1 + 1 := by
  have b0 := Box.new w t0 c0
  have e1 : (w.alloc (.cells c0 t0)).heap.size = w.heap.size + 1 := by simp
  have b1 := Box.new (w.alloc (.cells c0 t0)) t1 c1
  rw [e1] at b1
  have e2 : ((w.alloc (.cells c0 t0)).alloc (.cells c1 t1)).heap.size = w.heap.size + 1 + 1 := by simp
  have b2 := Box.new ((w.alloc (.cells c0 t0)).alloc (.cells c1 t1)) t2 c2
  rw [e2] at b2
  have e3 : (((w.alloc (.cells c0 t0)).alloc (.cells c1 t1)).alloc (.cells c2 t2)).heap.size = w.heap.size + 1 + 1 + 1 := by simp
  have b3 := Box.new (((w.alloc (.cells c0 t0)).alloc (.cells c1 t1)).alloc (.cells c2 t2)) t3 c3
  rw [e3] at b3
  exact ⟨(((((Kept.refl No w).alloc _).alloc _).alloc _).alloc _), (((b0.alloc _).alloc _).alloc _), ((b1.alloc _).alloc _), (b2.alloc _), b3, by simp⟩
theorem al5 (w : World) (c0 : Array Value) (t0 : TypeId) (c1 : Array Value) (t1 : TypeId) (c2 : Array Value) (t2 : TypeId) (c3 : Array Value) (t3 : TypeId) (c4 : Array Value) (t4 : TypeId) : Kept No w (((((w.alloc (.cells c0 t0)).alloc (.cells c1 t1)).alloc (.cells c2 t2)).alloc (.cells c3 t3)).alloc (.cells c4 t4)) ∧ Box (((((w.alloc (.cells c0 t0)).alloc (.cells c1 t1)).alloc (.cells c2 t2)).alloc (.cells c3 t3)).alloc (.cells c4 t4)) (w.heap.size) t0 c0 ∧ Box (((((w.alloc (.cells c0 t0)).alloc (.cells c1 t1)).alloc (.cells c2 t2)).alloc (.cells c3 t3)).alloc (.cells c4 t4)) (w.heap.size + 1) t1 c1 ∧ Box (((((w.alloc (.cells c0 t0)).alloc (.cells c1 t1)).alloc (.cells c2 t2)).alloc (.cells c3 t3)).alloc (.cells c4 t4)) (w.heap.size + 1 + 1) t2 c2 ∧ Box (((((w.alloc (.cells c0 t0)).alloc (.cells c1 t1)).alloc (.cells c2 t2)).alloc (.cells c3 t3)).alloc (.cells c4 t4)) (w.heap.size + 1 + 1 + 1) t3 c3 ∧ Box (((((w.alloc (.cells c0 t0)).alloc (.cells c1 t1)).alloc (.cells c2 t2)).alloc (.cells c3 t3)).alloc (.cells c4 t4)) (w.heap.size + 1 + 1 + 1 + 1) t4 c4 ∧ (((((w.alloc (.cells c0 t0)).alloc (.cells c1 t1)).alloc (.cells c2 t2)).alloc (.cells c3 t3)).alloc (.cells c4 t4)).heap.size = w.heap.size + 1 + 1 + 1 + 1 + 1 := by
  have b0 := Box.new w t0 c0
  have e1 : (w.alloc (.cells c0 t0)).heap.size = w.heap.size + 1 := by simp
  have b1 := Box.new (w.alloc (.cells c0 t0)) t1 c1
  rw [e1] at b1
  have e2 : ((w.alloc (.cells c0 t0)).alloc (.cells c1 t1)).heap.size = w.heap.size + 1 + 1 := by simp
  have b2 := Box.new ((w.alloc (.cells c0 t0)).alloc (.cells c1 t1)) t2 c2
  rw [e2] at b2
  have e3 : (((w.alloc (.cells c0 t0)).alloc (.cells c1 t1)).alloc (.cells c2 t2)).heap.size = w.heap.size + 1 + 1 + 1 := by simp
  have b3 := Box.new (((w.alloc (.cells c0 t0)).alloc (.cells c1 t1)).alloc (.cells c2 t2)) t3 c3
  rw [e3] at b3
  have e4 : ((((w.alloc (.cells c0 t0)).alloc (.cells c1 t1)).alloc (.cells c2 t2)).alloc (.cells c3 t3)).heap.size = w.heap.size + 1 + 1 + 1 + 1 := by simp
  have b4 := Box.new ((((w.alloc (.cells c0 t0)).alloc (.cells c1 t1)).alloc (.cells c2 t2)).alloc (.cells c3 t3)) t4 c4
  rw [e4] at b4
  exact ⟨((((((Kept.refl No w).alloc _).alloc _).alloc _).alloc _).alloc _), ((((b0.alloc _).alloc _).alloc _).alloc _), (((b1.alloc _).alloc _).alloc _), ((b2.alloc _).alloc _), (b3.alloc _), b4, by simp⟩
theorem store_IP {w : World} {g : Nat} {i : In} (b : Sp) (hb : Box w g 29 i.cells) : (storeVar 23 ⟨g, 0, none⟩ (.agg #[.int .i64 b.n, .int .i64 b.c])).run Try.prog w = .ok () (w.setRow g (In.cells ⟨b, i.a, i.c, i.d⟩)) :=
  run_store_at (cur := i.cs) (vs := [.int .i64 b.n, .int .i64 b.c]) hb rfl Try.size23 (by rw [In.len]; simp) (by intro x hx; simp at hx; rcases hx with rfl | rfl <;> rfl)
theorem load_S {w : World} {g off : Nat} {n c : Int} {T : TypeId} {cs : List Value} (hb : Box w g T cs.toArray) (hp : Part cs off [.int .i64 n, .int .i64 c]) : (loadVar 23 ⟨g, off, none⟩).run Try.prog w = .ok (.agg #[.int .i64 n, .int .i64 c]) w :=
  run_load_part hb hp Try.und23 rfl Try.size23
theorem In.partP (i : In) : Part i.cs 0 [.int .i64 i.p.n, .int .i64 i.p.c] := fun j v h => by
  match j, h with
  | 0, h => exact h
  | 1, h => exact h
theorem In.partA (i : In) : Part i.cs 2 [.int .i64 i.a.n, .int .i64 i.a.c] := fun j v h => by
  match j, h with
  | 0, h => exact h
  | 1, h => exact h
theorem Mg.partS (m : Mg) : Part m.cs 11 [.int .i64 m.s.n, .int .i64 m.s.c] := fun j v h => by
  match j, h with
  | 0, h => exact h
  | 1, h => exact h
theorem Mg.partH (m : Mg) : Part m.cs 13 [.int .i64 m.h.n, .int .i64 m.h.c] := fun j v h => by
  match j, h with
  | 0, h => exact h
  | 1, h => exact h

def prepBr (i : In) (b : Sp) : Bool := if refB i b then false else !eqS i.p b
set_option maxRecDepth 100000 in
set_option maxHeartbeats 2000000 in
theorem prep_any (i : In) (b : Sp) (w : World) : Calls Try.prog 11 #[.agg i.cells, .agg #[.int .i64 b.n, .int .i64 b.c]] w (fun e w' => e = .returned (.tuple #[.agg (prepI i b).cells, .agg (prepM i b).cells, .bool (prepB i b)]) ∧ Kept No w w') := by
  obtain ⟨w1, hw1⟩ : ∃ w1, w1 = (((w.alloc (.cells i.cells 29)).alloc (.cells #[.int .i64 b.n, .int .i64 b.c] 23)).alloc (.cells iZ.cells 29)).alloc (.cells mZ.cells 52) := ⟨_, rfl⟩
  obtain ⟨N, hN⟩ : ∃ N, N = w.heap.size := ⟨_, rfl⟩
  have HNN : Hid (N = w.heap.size) := hN
  have hal := al4 w i.cells 29 #[.int .i64 b.n, .int .i64 b.c] 23 iZ.cells 29 mZ.cells 52
  rw [← hw1, ← hN] at hal
  obtain ⟨hk1, hb0, hb1, hb2, hb3, hs1⟩ := hal
  have HK1 : Hid (Kept No w w1) := hk1
  have HX0 : Hid (Box w1 N 29 i.cells) := hb0
  have HX1 : Hid (Box w1 (N + 1) 23 #[.int .i64 b.n, .int .i64 b.c]) := hb1
  have HX2 : Hid (Box w1 (N + 1 + 1) 29 iZ.cells) := hb2
  have HX3 : Hid (Box w1 (N + 1 + 1 + 1) 52 mZ.cells) := hb3
  have HS1 : Hid (w1.heap.size = N + 1 + 1 + 1 + 1) := hs1
  clear hk1 hb0 hb1 hb2 hb3 hs1
  go_enter Try.func11, Try.ntmps11
  go_upto_region 1 with (first
    | (refine wp_boxV rfl 29 _ rfl i.cells rfl w.heap.size rfl ?_)
    | (refine wp_allocT rfl 29 rfl iZ.cells zero29 (w.heap.size + 1 + 1) (by simp) ?_)
    | (refine wp_allocT rfl 52 rfl mZ.cells zero52 (w.heap.size + 1 + 1 + 1) (by simp) ?_))
  rw [← hw1, ← hN]
  clear hw1 hN
  obtain ⟨y0, y1⟩ := Sp.cel HX1.out
  go_upto_region 2 with (first
    | (refine wp_loadV rfl 29 _ rfl ⟨N, 0, none⟩ rfl (.agg i.cells) (load_I HX0.out) ?_)
    | (go_at_call 31
       refine Calls.mono (refusal_any i b w1) ?_
       rintro e w2 ⟨rfl, hk2⟩
       have HK2 : Hid (Kept No w1 w2) := hk2
       clear hk2)
    | (refine wp_allocT rfl 52 rfl mZ.cells zero52 w2.heap.size rfl ?_)
    | (refine wp_storeV rfl 52 _ _ rfl ⟨w2.heap.size, 0, none⟩ (.agg (refM i b).cells) rfl rfl _ (store_M (Box.new _ _ _) rfl) ?_))
  have HF : Hid (Kept No w1 ((w2.alloc (.cells mZ.cells 52)).setRow w2.heap.size (refM i b).cells) ∧ Box ((w2.alloc (.cells mZ.cells 52)).setRow w2.heap.size (refM i b).cells) w2.heap.size 52 (refM i b).cells ∧ N + 1 + 1 + 1 + 1 ≤ w2.heap.size) := ⟨(HK2.out.alloc _).newRow HK2.out.size _, (Box.new _ _ _).setRow _, by have := HK2.out.size; rw [HS1.out] at this; exact this⟩
  generalize (w2.alloc (.cells mZ.cells 52)).setRow w2.heap.size (refM i b).cells = w3 at HF ⊢
  generalize w2.heap.size = M at HF ⊢
  clear y0 y1 HK2 w2
  have HK3 : Hid (Kept No w1 w3) := HF.out.1
  have HM : Hid (Box w3 M 52 (refM i b).cells) := HF.out.2.1
  have HMs : Hid (N + 1 + 1 + 1 + 1 ≤ M) := HF.out.2.2
  have HY0 : Hid (Box w3 N 29 i.cells) := HX0.out.kept HK3.out (fun e => e)
  have HY1 : Hid (Box w3 (N + 1) 23 #[.int .i64 b.n, .int .i64 b.c]) := HX1.out.kept HK3.out (fun e => e)
  have HY2 : Hid (Box w3 (N + 1 + 1) 29 iZ.cells) := HX2.out.kept HK3.out (fun e => e)
  have HY3 : Hid (Box w3 (N + 1 + 1 + 1) 52 mZ.cells) := HX3.out.kept HK3.out (fun e => e)
  have HKw : Hid (Kept No w w3) := HK1.out.then HK3.out
  clear HF HX0 HX1 HX2 HX3 HK1 HK3 HS1
  have HPI : Hid (prepI i b = if refB i b then i else ⟨b, i.a, i.c, i.d⟩) := rfl
  have HPM : Hid (prepM i b = if refB i b then refM i b else ⟨13, b, i.a, i.c⟩) := rfl
  have HPB : Hid ((prepB i b) = if refB i b then false else !eqI ⟨b, i.a, i.c, i.d⟩ i) := rfl
  cases hr : refB i b
  · have HPI : Hid (prepI i b = ⟨b, i.a, i.c, i.d⟩) := by have := HPI.out; rw [hr] at this; exact this
    have HPM : Hid (prepM i b = ⟨13, b, i.a, i.c⟩) := by have := HPM.out; rw [hr] at this; exact this
    have HPB : Hid (prepB i b = !eqI ⟨b, i.a, i.c, i.d⟩ i) := by have := HPB.out; rw [hr] at this; exact this
    obtain ⟨y0, y1⟩ := Sp.cel HY1.out
    go_upto_region 6 with (first
      | (refine wp_loadV rfl 29 _ rfl ⟨N, 0, none⟩ rfl (.agg i.cells) (load_I HY0.out) ?_)
      | (refine wp_allocT rfl 29 rfl iZ.cells zero29 w3.heap.size rfl ?_)
      | (refine wp_storeV rfl 29 _ _ rfl ⟨w3.heap.size, 0, none⟩ (.agg i.cells) rfl rfl _ (store_I (Box.new _ _ _) rfl) ?_
         have HQ : Hid (Kept No w3 ((w3.alloc (.cells iZ.cells 29)).setRow w3.heap.size i.cells) ∧ Box ((w3.alloc (.cells iZ.cells 29)).setRow w3.heap.size i.cells) w3.heap.size 29 i.cells ∧ M < w3.heap.size) := ⟨((Kept.refl No w3).alloc _).newRow (Nat.le_refl _) _, (Box.new _ _ _).setRow _, HM.out.lt⟩
         generalize (w3.alloc (.cells iZ.cells 29)).setRow w3.heap.size i.cells = w4 at HQ ⊢
         generalize w3.heap.size = L at HQ ⊢
         clear y0 y1
         obtain ⟨y0, y1⟩ := Sp.cel (HY1.out.kept HQ.out.1 (fun e => e)))
      | (refine wp_storeV rfl 23 _ _ rfl ⟨L, 0, none⟩ (.agg #[.int .i64 b.n, .int .i64 b.c]) rfl rfl _ (store_IP b HQ.out.2.1) ?_))
    have HF : Hid (Kept No w (w4.setRow L (In.cells ⟨b, i.a, i.c, i.d⟩)) ∧ Box (w4.setRow L (In.cells ⟨b, i.a, i.c, i.d⟩)) N 29 i.cells ∧ Box (w4.setRow L (In.cells ⟨b, i.a, i.c, i.d⟩)) (N + 1) 23 #[.int .i64 b.n, .int .i64 b.c] ∧ Box (w4.setRow L (In.cells ⟨b, i.a, i.c, i.d⟩)) (N + 1 + 1) 29 iZ.cells ∧ Box (w4.setRow L (In.cells ⟨b, i.a, i.c, i.d⟩)) (N + 1 + 1 + 1) 52 mZ.cells ∧ Box (w4.setRow L (In.cells ⟨b, i.a, i.c, i.d⟩)) L 29 (In.cells ⟨b, i.a, i.c, i.d⟩)) := by
      have h1 := HMs.out
      have h2 := HQ.out.2.2
      have hk := HQ.out.1
      refine ⟨(HKw.out.then hk).newRow (by have := HNN.out; omega) _, (HY0.out.kept hk (fun e => e)).rowNe (by omega) _, (HY1.out.kept hk (fun e => e)).rowNe (by omega) _, (HY2.out.kept hk (fun e => e)).rowNe (by omega) _, (HY3.out.kept hk (fun e => e)).rowNe (by omega) _, HQ.out.2.1.setRow _⟩
    have HLs : Hid (M < L) := HQ.out.2.2
    generalize w4.setRow L (In.cells ⟨b, i.a, i.c, i.d⟩) = w5 at HF ⊢
    clear y0 y1 HQ HY0 HY1 HY2 HY3 HKw HM w4
    have HKw : Hid (Kept No w w5) := HF.out.1
    have HY0 : Hid (Box w5 N 29 i.cells) := HF.out.2.1
    have HY1 : Hid (Box w5 (N + 1) 23 #[.int .i64 b.n, .int .i64 b.c]) := HF.out.2.2.1
    have HY2 : Hid (Box w5 (N + 1 + 1) 29 iZ.cells) := HF.out.2.2.2.1
    have HY3 : Hid (Box w5 (N + 1 + 1 + 1) 52 mZ.cells) := HF.out.2.2.2.2.1
    have HYL : Hid (Box w5 L 29 (In.cells ⟨b, i.a, i.c, i.d⟩)) := HF.out.2.2.2.2.2
    clear HF
    refine wp_region_held_drew (S := fun w' => Box w' N 29 i.cells ∧ Box w' (N + 1) 23 #[.int .i64 b.n, .int .i64 b.c] ∧ Box w' L 29 (In.cells ⟨b, i.a, i.c, i.d⟩)) rfl ⟨HY0.out, HY1.out, HYL.out⟩ (fun hH => ?_)
    refine any_take (i := 0) (oi := { dst := some 22, op := Op.load 29 (Operand.tmp 9), type := 29, pos := "acceptor.go:16", after := #[], guard := none }) (v := .agg (In.cells ⟨b, i.a, i.c, i.d⟩)) rfl (by kernel_rfl) (by kernel_rfl) (by kernel_rfl) (fun _ _ _ h => h) (by kernel_rfl) (fun w' hw => exec_load 29 _ rfl ⟨L, 0, none⟩ (by kernel_rfl) (.agg (In.cells ⟨b, i.a, i.c, i.d⟩)) (load_I hw.2.2)) hH ?_
    refine any_take (i := 1) (oi := { dst := some 23, op := Op.load 23 (Operand.tmp 3), type := 23, pos := "acceptor.go:16", after := #[{ on := 10, ground := Ground.gcOnly Departure.lateStores }], guard := none }) (v := .agg #[.int .i64 b.n, .int .i64 b.c]) rfl (by kernel_rfl) (by kernel_rfl) (by kernel_rfl) (fun _ _ _ h => h) (by kernel_rfl) (fun w' hw => exec_load 23 _ rfl ⟨N + 1, 0, none⟩ (by kernel_rfl) (.agg #[.int .i64 b.n, .int .i64 b.c]) (load_S (cs := [.int .i64 b.n, .int .i64 b.c]) hw.2.1 (Part.all _))) hH ?_
    refine any_take (i := 2) (oi := { dst := some 24, op := Op.fieldAddr 29 (Operand.tmp 2) 1, type := 0, pos := "acceptor.go:16", after := #[{ on := 10, ground := Ground.gcOnly Departure.lateStores }], guard := none }) (v := .pointer (some ⟨N, 2, none⟩)) rfl (by kernel_rfl) (by kernel_rfl) (by kernel_rfl) (fun _ _ _ h => h) (by kernel_rfl) (fun _ _ => by kernel_rfl) hH ?_
    refine any_take (i := 3) (oi := { dst := some 25, op := Op.load 23 (Operand.tmp 24), type := 23, pos := "acceptor.go:16", after := #[{ on := 2, ground := Ground.data }, { on := 10, ground := Ground.gcOnly Departure.lateStores }], guard := none }) (v := .agg #[.int .i64 i.a.n, .int .i64 i.a.c]) rfl (by kernel_rfl) (by kernel_rfl) (by kernel_rfl) (fun _ _ _ h => h) (by kernel_rfl) (fun w' hw => exec_load 23 _ rfl ⟨N, 2, none⟩ (by kernel_rfl) (.agg #[.int .i64 i.a.n, .int .i64 i.a.c]) (load_S hw.1 i.partA)) hH ?_
    refine any_take (i := 4) (oi := { dst := some 26, op := Op.fieldAddr 29 (Operand.tmp 2) 2, type := 0, pos := "acceptor.go:16", after := #[{ on := 10, ground := Ground.gcOnly Departure.lateStores }], guard := none }) (v := .pointer (some ⟨N, 4, none⟩)) rfl (by kernel_rfl) (by kernel_rfl) (by kernel_rfl) (fun _ _ _ h => h) (by kernel_rfl) (fun _ _ => by kernel_rfl) hH ?_
    refine any_take (i := 5) (oi := { dst := some 27, op := Op.load 27 (Operand.tmp 26), type := 27, pos := "acceptor.go:16", after := #[{ on := 4, ground := Ground.data }, { on := 10, ground := Ground.gcOnly Departure.lateStores }], guard := none }) (v := .agg i.c.cells) rfl (by kernel_rfl) (by kernel_rfl) (by kernel_rfl) (fun _ _ _ h => h) (by kernel_rfl) (fun w' hw => exec_load 27 _ rfl ⟨N, 4, none⟩ (by kernel_rfl) (.agg i.c.cells) (load_IC hw.1)) hH ?_
    refine any_take (i := 6) (oi := { dst := some 28, op := Op.build 52 #[(0, Operand.const (Value.int IntKind.i64 13)), (6, Operand.tmp 23), (7, Operand.tmp 25), (9, Operand.tmp 27)], type := 52, pos := "acceptor.go:16", after := #[{ on := 1, ground := Ground.data }, { on := 3, ground := Ground.data }, { on := 5, ground := Ground.data }, { on := 10, ground := Ground.gcOnly Departure.lateStores }], guard := none }) (v := .agg (Mg.cells ⟨13, b, i.a, i.c⟩)) rfl (by kernel_rfl) (by kernel_rfl) (by kernel_rfl) (fun _ _ _ h => h) (by kernel_rfl) (fun w' hw => exec_build 52 _ rfl (Mg.cells ⟨13, b, i.a, i.c⟩) (by kernel_rfl)) hH ?_
    refine any_take (i := 7) (oi := { dst := some 29, op := Op.load 29 (Operand.tmp 9), type := 29, pos := "acceptor.go:16", after := #[{ on := 11, ground := Ground.gcOnly Departure.lateStores }], guard := none }) (v := .agg (In.cells ⟨b, i.a, i.c, i.d⟩)) rfl (by kernel_rfl) (by kernel_rfl) (by kernel_rfl) (fun _ _ _ h => h) (by kernel_rfl) (fun w' hw => exec_load 29 _ rfl ⟨L, 0, none⟩ (by kernel_rfl) (.agg (In.cells ⟨b, i.a, i.c, i.d⟩)) (load_I hw.2.2)) hH ?_
    refine any_take (i := 8) (oi := { dst := some 30, op := Op.load 29 (Operand.tmp 2), type := 29, pos := "acceptor.go:16", after := #[{ on := 11, ground := Ground.gcOnly Departure.lateStores }], guard := none }) (v := .agg i.cells) rfl (by kernel_rfl) (by kernel_rfl) (by kernel_rfl) (fun _ _ _ h => h) (by kernel_rfl) (fun w' hw => exec_load 29 _ rfl ⟨N, 0, none⟩ (by kernel_rfl) (.agg i.cells) (load_I hw.1)) hH ?_
    refine any_take (i := 9) (oi := { dst := some 31, op := Op.binOp BinOp.neq 29 (Operand.tmp 29) (Operand.tmp 30) 29, type := 4, pos := "acceptor.go:16", after := #[{ on := 7, ground := Ground.data }, { on := 8, ground := Ground.data }, { on := 11, ground := Ground.gcOnly Departure.lateStores }], guard := none }) (v := .bool (!eqI ⟨b, i.a, i.c, i.d⟩ i)) rfl (by kernel_rfl) (by kernel_rfl) (by kernel_rfl) (fun _ _ _ h => h) (by kernel_rfl) (fun w' hw => exec_bin .neq 29 _ _ _ rfl (.agg (In.cells ⟨b, i.a, i.c, i.d⟩)) (.agg i.cells) (.bool (!eqI ⟨b, i.a, i.c, i.d⟩ i)) (by kernel_rfl) (by kernel_rfl) (guard_I _ (.inr rfl) _ _ _ _ _) (neqI _ _ _)) hH ?_
    refine any_store (i := 10) (o := { dst := none, op := Op.store 29 (Operand.tmp 4) (Operand.tmp 22), type := 0, pos := "acceptor.go:16", after := #[{ on := 0, ground := Ground.data }, { on := 0, ground := Ground.phase }, { on := 1, ground := Ground.textOnly Departure.lateStores }, { on := 2, ground := Ground.textOnly Departure.lateStores }, { on := 3, ground := Ground.textOnly Departure.lateStores }, { on := 4, ground := Ground.textOnly Departure.lateStores }, { on := 5, ground := Ground.textOnly Departure.lateStores }, { on := 6, ground := Ground.textOnly Departure.lateStores }, { on := 7, ground := Ground.textOnly Departure.lateStores }, { on := 8, ground := Ground.textOnly Departure.lateStores }, { on := 9, ground := Ground.textOnly Departure.lateStores }], guard := none }) rfl (by kernel_rfl) (by kernel_rfl) 29 _ _ rfl ⟨N + 1 + 1, 0, none⟩ (.agg (In.cells ⟨b, i.a, i.c, i.d⟩)) (by kernel_rfl) (by kernel_rfl) (store_I HY2.out rfl) (⟨hH.1.rowNe (by have := HMs.out; have := HLs.out; omega) _, hH.2.1.rowNe (by have := HMs.out; have := HLs.out; omega) _, hH.2.2.rowNe (by have := HMs.out; have := HLs.out; omega) _⟩) (fun hH => ?_)
    refine any_store (i := 11) (o := { dst := none, op := Op.store 52 (Operand.tmp 5) (Operand.tmp 28), type := 0, pos := "acceptor.go:16", after := #[{ on := 6, ground := Ground.data }, { on := 10, ground := Ground.chain }, { on := 0, ground := Ground.phase }, { on := 1, ground := Ground.phase }, { on := 2, ground := Ground.phase }, { on := 3, ground := Ground.phase }, { on := 4, ground := Ground.phase }, { on := 5, ground := Ground.phase }, { on := 6, ground := Ground.phase }, { on := 7, ground := Ground.textOnly Departure.lateStores }, { on := 8, ground := Ground.textOnly Departure.lateStores }, { on := 9, ground := Ground.textOnly Departure.lateStores }, { on := 10, ground := Ground.phase }], guard := none }) rfl (by kernel_rfl) (by kernel_rfl) 52 _ _ rfl ⟨N + 1 + 1 + 1, 0, none⟩ (.agg (Mg.cells ⟨13, b, i.a, i.c⟩)) (by kernel_rfl) (by kernel_rfl) (store_M (HY3.out.rowNe (by have := HMs.out; have := HLs.out; omega) _) rfl) (⟨hH.1.rowNe (by have := HMs.out; have := HLs.out; omega) _, hH.2.1.rowNe (by have := HMs.out; have := HLs.out; omega) _, hH.2.2.rowNe (by have := HMs.out; have := HLs.out; omega) _⟩) (fun hH => ?_)
    refine any_take (i := 12) (oi := { dst := some 6, op := Op.assign (Operand.tmp 31), type := 4, pos := "acceptor.go:16", after := #[{ on := 9, ground := Ground.data }, { on := 11, ground := Ground.chain }, { on := 0, ground := Ground.phase }, { on := 1, ground := Ground.phase }, { on := 2, ground := Ground.phase }, { on := 3, ground := Ground.phase }, { on := 4, ground := Ground.phase }, { on := 5, ground := Ground.phase }, { on := 6, ground := Ground.phase }, { on := 7, ground := Ground.phase }, { on := 8, ground := Ground.phase }, { on := 9, ground := Ground.phase }, { on := 10, ground := Ground.phase }, { on := 11, ground := Ground.phase }], guard := none }) (v := .bool (!eqI ⟨b, i.a, i.c, i.d⟩ i)) rfl (by kernel_rfl) (by kernel_rfl) (by kernel_rfl) (fun _ _ _ h => h) (by kernel_rfl) (fun _ _ => by kernel_rfl) hH ?_
    refine wpAnyH_done (by kernel_rfl) ?_ _
    try simp only [Act.put, List.setIfInBounds_toArray, List.set_cons_zero, List.set_cons_succ]
    have HR2 : Hid (Box ((w5.drew.setRow (N + 1 + 1) (In.cells ⟨b, i.a, i.c, i.d⟩)).setRow (N + 1 + 1 + 1) (Mg.cells ⟨13, b, i.a, i.c⟩)) (N + 1 + 1) 29 (In.cells ⟨b, i.a, i.c, i.d⟩)) := (Box.setRow HY2.out _).rowNe (by have := HMs.out; have := HLs.out; omega) _
    have HR3 : Hid (Box ((w5.drew.setRow (N + 1 + 1) (In.cells ⟨b, i.a, i.c, i.d⟩)).setRow (N + 1 + 1 + 1) (Mg.cells ⟨13, b, i.a, i.c⟩)) (N + 1 + 1 + 1) 52 (Mg.cells ⟨13, b, i.a, i.c⟩)) := (Box.rowNe HY3.out (by have := HMs.out; have := HLs.out; omega) _).setRow _
    have HKf : Hid (Kept No w ((w5.drew.setRow (N + 1 + 1) (In.cells ⟨b, i.a, i.c, i.d⟩)).setRow (N + 1 + 1 + 1) (Mg.cells ⟨13, b, i.a, i.c⟩))) := (HKw.out.drew.newRow (by have := HNN.out; omega) _).newRow (by have := HNN.out; omega) _
    generalize (w5.drew.setRow (N + 1 + 1) (In.cells ⟨b, i.a, i.c, i.d⟩)).setRow (N + 1 + 1 + 1) (Mg.cells ⟨13, b, i.a, i.c⟩) = w6 at HR2 HR3 HKf ⊢
    go_wp2
    refine bodyPost_ret (results_row2_tmp (by rfl) _ _ (N + 1 + 1) (N + 1 + 1 + 1) (In.cells ⟨b, i.a, i.c, i.d⟩) (Mg.cells ⟨13, b, i.a, i.c⟩) (by rfl) (by rfl) (load_I HR2.out) (load_M HR3.out)) rfl ?_
    rw [HPI.out, HPM.out, HPB.out]
    exact ⟨rfl, HKf.out⟩
  · have HPI : Hid (prepI i b = i) := by have := HPI.out; rw [hr] at this; exact this
    have HPM : Hid (prepM i b = refM i b) := by have := HPM.out; rw [hr] at this; exact this
    have HPB : Hid (prepB i b = false) := by have := HPB.out; rw [hr] at this; exact this
    go_upto_region 3 with fail
    refine wp_region_held_drew (S := fun w' => Box w' N 29 i.cells ∧ Box w' M 52 (refM i b).cells) rfl ⟨HY0.out, HM.out⟩ (fun hH => ?_)
    refine any_take (i := 0) (oi := { dst := some 17, op := Op.load 29 (Operand.tmp 2), type := 29, pos := "acceptor.go:12", after := #[], guard := none }) (v := .agg i.cells) rfl (by kernel_rfl) (by kernel_rfl) (by kernel_rfl) (fun _ _ _ h => h) (by kernel_rfl) (fun w' hw => exec_load 29 _ rfl ⟨N, 0, none⟩ (by kernel_rfl) (.agg i.cells) (load_I hw.1)) hH ?_
    refine any_take (i := 1) (oi := { dst := some 18, op := Op.load 52 (Operand.tmp 7), type := 52, pos := "acceptor.go:12", after := #[{ on := 2, ground := Ground.gcOnly Departure.lateStores }], guard := none }) (v := .agg (refM i b).cells) rfl (by kernel_rfl) (by kernel_rfl) (by kernel_rfl) (fun _ _ _ h => h) (by kernel_rfl) (fun w' hw => exec_load 52 _ rfl ⟨M, 0, none⟩ (by kernel_rfl) (.agg (refM i b).cells) (load_M hw.2)) hH ?_
    refine any_store (i := 2) (o := { dst := none, op := Op.store 29 (Operand.tmp 4) (Operand.tmp 17), type := 0, pos := "acceptor.go:12", after := #[{ on := 0, ground := Ground.data }, { on := 0, ground := Ground.phase }, { on := 1, ground := Ground.textOnly Departure.lateStores }], guard := none }) rfl (by kernel_rfl) (by kernel_rfl) 29 _ _ rfl ⟨N + 1 + 1, 0, none⟩ (.agg i.cells) (by kernel_rfl) (by kernel_rfl) (store_I HY2.out rfl) (⟨hH.1.rowNe (by have := HMs.out; omega) _, hH.2.rowNe (by have := HMs.out; omega) _⟩) (fun hH => ?_)
    refine any_store (i := 3) (o := { dst := none, op := Op.store 52 (Operand.tmp 5) (Operand.tmp 18), type := 0, pos := "acceptor.go:12", after := #[{ on := 1, ground := Ground.data }, { on := 2, ground := Ground.chain }, { on := 0, ground := Ground.phase }, { on := 1, ground := Ground.phase }, { on := 2, ground := Ground.phase }], guard := none }) rfl (by kernel_rfl) (by kernel_rfl) 52 _ _ rfl ⟨N + 1 + 1 + 1, 0, none⟩ (.agg (refM i b).cells) (by kernel_rfl) (by kernel_rfl) (store_M (HY3.out.rowNe (by have := HMs.out; omega) _) rfl) (⟨hH.1.rowNe (by have := HMs.out; omega) _, hH.2.rowNe (by have := HMs.out; omega) _⟩) (fun hH => ?_)
    refine any_take (i := 4) (oi := { dst := some 6, op := Op.assign (Operand.const (Value.bool false)), type := 4, pos := "acceptor.go:12", after := #[{ on := 3, ground := Ground.chain }, { on := 0, ground := Ground.phase }, { on := 1, ground := Ground.phase }, { on := 2, ground := Ground.phase }, { on := 3, ground := Ground.phase }], guard := none }) (v := .bool false) rfl (by kernel_rfl) (by kernel_rfl) (by kernel_rfl) (fun _ _ _ h => h) (by kernel_rfl) (fun _ _ => by kernel_rfl) hH ?_
    refine wpAnyH_done (by kernel_rfl) ?_ _
    try simp only [Act.put, List.setIfInBounds_toArray, List.set_cons_zero, List.set_cons_succ]
    have HR2 : Hid (Box ((w3.drew.setRow (N + 1 + 1) i.cells).setRow (N + 1 + 1 + 1) (refM i b).cells) (N + 1 + 1) 29 i.cells) := (Box.setRow HY2.out _).rowNe (by have := HMs.out; omega) _
    have HR3 : Hid (Box ((w3.drew.setRow (N + 1 + 1) i.cells).setRow (N + 1 + 1 + 1) (refM i b).cells) (N + 1 + 1 + 1) 52 (refM i b).cells) := (Box.rowNe HY3.out (by have := HMs.out; omega) _).setRow _
    have HKf : Hid (Kept No w ((w3.drew.setRow (N + 1 + 1) i.cells).setRow (N + 1 + 1 + 1) (refM i b).cells)) := (HKw.out.drew.newRow (by have := HNN.out; omega) _).newRow (by have := HNN.out; omega) _
    generalize (w3.drew.setRow (N + 1 + 1) i.cells).setRow (N + 1 + 1 + 1) (refM i b).cells = w6 at HR2 HR3 HKf ⊢
    go_wp2
    refine bodyPost_ret (results_row2_tmp (by rfl) _ _ (N + 1 + 1) (N + 1 + 1 + 1) i.cells (refM i b).cells (by rfl) (by rfl) (load_I HR2.out) (load_M HR3.out)) rfl ?_
    rw [HPI.out, HPM.out, HPB.out]
    exact ⟨rfl, HKf.out⟩

set_option maxRecDepth 100000 in
set_option maxHeartbeats 2000000 in
theorem rprep_any (i : In) (b : Sp) (w : World) : Calls Try.prog 12 #[.agg i.cells, .agg #[.int .i64 b.n, .int .i64 b.c]] w (fun e w' => e = .returned (.tuple #[.agg (prepI i b).cells, .agg (prepM i b).cells, .bool (prepBr i b)]) ∧ Kept No w w') := by
  obtain ⟨w1, hw1⟩ : ∃ w1, w1 = (((w.alloc (.cells i.cells 29)).alloc (.cells #[.int .i64 b.n, .int .i64 b.c] 23)).alloc (.cells iZ.cells 29)).alloc (.cells mZ.cells 52) := ⟨_, rfl⟩
  obtain ⟨N, hN⟩ : ∃ N, N = w.heap.size := ⟨_, rfl⟩
  have HNN : Hid (N = w.heap.size) := hN
  have hal := al4 w i.cells 29 #[.int .i64 b.n, .int .i64 b.c] 23 iZ.cells 29 mZ.cells 52
  rw [← hw1, ← hN] at hal
  obtain ⟨hk1, hb0, hb1, hb2, hb3, hs1⟩ := hal
  have HK1 : Hid (Kept No w w1) := hk1
  have HX0 : Hid (Box w1 N 29 i.cells) := hb0
  have HX1 : Hid (Box w1 (N + 1) 23 #[.int .i64 b.n, .int .i64 b.c]) := hb1
  have HX2 : Hid (Box w1 (N + 1 + 1) 29 iZ.cells) := hb2
  have HX3 : Hid (Box w1 (N + 1 + 1 + 1) 52 mZ.cells) := hb3
  have HS1 : Hid (w1.heap.size = N + 1 + 1 + 1 + 1) := hs1
  clear hk1 hb0 hb1 hb2 hb3 hs1
  go_enter Try.func12, Try.ntmps12
  go_upto_region 1 with (first
    | (refine wp_boxV rfl 29 _ rfl i.cells rfl w.heap.size rfl ?_)
    | (refine wp_allocT rfl 29 rfl iZ.cells zero29 (w.heap.size + 1 + 1) (by simp) ?_)
    | (refine wp_allocT rfl 52 rfl mZ.cells zero52 (w.heap.size + 1 + 1 + 1) (by simp) ?_))
  rw [← hw1, ← hN]
  clear hw1 hN
  obtain ⟨y0, y1⟩ := Sp.cel HX1.out
  go_upto_region 2 with (first
    | (refine wp_loadV rfl 29 _ rfl ⟨N, 0, none⟩ rfl (.agg i.cells) (load_I HX0.out) ?_)
    | (go_at_call 32
       refine Calls.mono (refused_any i b w1) ?_
       rintro e w2 ⟨rfl, hk2⟩
       have HK2 : Hid (Kept No w1 w2) := hk2
       clear hk2)
    | (refine wp_allocT rfl 52 rfl mZ.cells zero52 w2.heap.size rfl ?_)
    | (refine wp_storeV rfl 52 _ _ rfl ⟨w2.heap.size, 0, none⟩ (.agg (refM i b).cells) rfl rfl _ (store_M (Box.new _ _ _) rfl) ?_))
  have HF : Hid (Kept No w1 ((w2.alloc (.cells mZ.cells 52)).setRow w2.heap.size (refM i b).cells) ∧ Box ((w2.alloc (.cells mZ.cells 52)).setRow w2.heap.size (refM i b).cells) w2.heap.size 52 (refM i b).cells ∧ N + 1 + 1 + 1 + 1 ≤ w2.heap.size) := ⟨(HK2.out.alloc _).newRow HK2.out.size _, (Box.new _ _ _).setRow _, by have := HK2.out.size; rw [HS1.out] at this; exact this⟩
  generalize (w2.alloc (.cells mZ.cells 52)).setRow w2.heap.size (refM i b).cells = w3 at HF ⊢
  generalize w2.heap.size = M at HF ⊢
  clear y0 y1 HK2 w2
  have HK3 : Hid (Kept No w1 w3) := HF.out.1
  have HM : Hid (Box w3 M 52 (refM i b).cells) := HF.out.2.1
  have HMs : Hid (N + 1 + 1 + 1 + 1 ≤ M) := HF.out.2.2
  have HY0 : Hid (Box w3 N 29 i.cells) := HX0.out.kept HK3.out (fun e => e)
  have HY1 : Hid (Box w3 (N + 1) 23 #[.int .i64 b.n, .int .i64 b.c]) := HX1.out.kept HK3.out (fun e => e)
  have HY2 : Hid (Box w3 (N + 1 + 1) 29 iZ.cells) := HX2.out.kept HK3.out (fun e => e)
  have HY3 : Hid (Box w3 (N + 1 + 1 + 1) 52 mZ.cells) := HX3.out.kept HK3.out (fun e => e)
  have HKw : Hid (Kept No w w3) := HK1.out.then HK3.out
  clear HF HX0 HX1 HX2 HX3 HK1 HK3 HS1
  have HPI : Hid (prepI i b = if refB i b then i else ⟨b, i.a, i.c, i.d⟩) := rfl
  have HPM : Hid (prepM i b = if refB i b then refM i b else ⟨13, b, i.a, i.c⟩) := rfl
  have HPB : Hid ((prepBr i b) = if refB i b then false else !eqS i.p b) := rfl
  cases hr : refB i b
  · have HPI : Hid (prepI i b = ⟨b, i.a, i.c, i.d⟩) := by have := HPI.out; rw [hr] at this; exact this
    have HPM : Hid (prepM i b = ⟨13, b, i.a, i.c⟩) := by have := HPM.out; rw [hr] at this; exact this
    have HPB : Hid (prepBr i b = !eqS i.p b) := by have := HPB.out; rw [hr] at this; exact this
    obtain ⟨y0, y1⟩ := Sp.cel HY1.out
    go_upto_region 6 with (first
      | (refine wp_loadV rfl 29 _ rfl ⟨N, 0, none⟩ rfl (.agg i.cells) (load_I HY0.out) ?_)
      | (refine wp_allocT rfl 29 rfl iZ.cells zero29 w3.heap.size rfl ?_)
      | (refine wp_storeV rfl 29 _ _ rfl ⟨w3.heap.size, 0, none⟩ (.agg i.cells) rfl rfl _ (store_I (Box.new _ _ _) rfl) ?_
         have HQ : Hid (Kept No w3 ((w3.alloc (.cells iZ.cells 29)).setRow w3.heap.size i.cells) ∧ Box ((w3.alloc (.cells iZ.cells 29)).setRow w3.heap.size i.cells) w3.heap.size 29 i.cells ∧ M < w3.heap.size) := ⟨((Kept.refl No w3).alloc _).newRow (Nat.le_refl _) _, (Box.new _ _ _).setRow _, HM.out.lt⟩
         generalize (w3.alloc (.cells iZ.cells 29)).setRow w3.heap.size i.cells = w4 at HQ ⊢
         generalize w3.heap.size = L at HQ ⊢
         clear y0 y1
         obtain ⟨y0, y1⟩ := Sp.cel (HY1.out.kept HQ.out.1 (fun e => e)))
      | (refine wp_storeV rfl 23 _ _ rfl ⟨L, 0, none⟩ (.agg #[.int .i64 b.n, .int .i64 b.c]) rfl rfl _ (store_IP b HQ.out.2.1) ?_))
    have HF : Hid (Kept No w (w4.setRow L (In.cells ⟨b, i.a, i.c, i.d⟩)) ∧ Box (w4.setRow L (In.cells ⟨b, i.a, i.c, i.d⟩)) N 29 i.cells ∧ Box (w4.setRow L (In.cells ⟨b, i.a, i.c, i.d⟩)) (N + 1) 23 #[.int .i64 b.n, .int .i64 b.c] ∧ Box (w4.setRow L (In.cells ⟨b, i.a, i.c, i.d⟩)) (N + 1 + 1) 29 iZ.cells ∧ Box (w4.setRow L (In.cells ⟨b, i.a, i.c, i.d⟩)) (N + 1 + 1 + 1) 52 mZ.cells ∧ Box (w4.setRow L (In.cells ⟨b, i.a, i.c, i.d⟩)) L 29 (In.cells ⟨b, i.a, i.c, i.d⟩)) := by
      have h1 := HMs.out
      have h2 := HQ.out.2.2
      have hk := HQ.out.1
      refine ⟨(HKw.out.then hk).newRow (by have := HNN.out; omega) _, (HY0.out.kept hk (fun e => e)).rowNe (by omega) _, (HY1.out.kept hk (fun e => e)).rowNe (by omega) _, (HY2.out.kept hk (fun e => e)).rowNe (by omega) _, (HY3.out.kept hk (fun e => e)).rowNe (by omega) _, HQ.out.2.1.setRow _⟩
    have HLs : Hid (M < L) := HQ.out.2.2
    generalize w4.setRow L (In.cells ⟨b, i.a, i.c, i.d⟩) = w5 at HF ⊢
    clear y0 y1 HQ HY0 HY1 HY2 HY3 HKw HM w4
    have HKw : Hid (Kept No w w5) := HF.out.1
    have HY0 : Hid (Box w5 N 29 i.cells) := HF.out.2.1
    have HY1 : Hid (Box w5 (N + 1) 23 #[.int .i64 b.n, .int .i64 b.c]) := HF.out.2.2.1
    have HY2 : Hid (Box w5 (N + 1 + 1) 29 iZ.cells) := HF.out.2.2.2.1
    have HY3 : Hid (Box w5 (N + 1 + 1 + 1) 52 mZ.cells) := HF.out.2.2.2.2.1
    have HYL : Hid (Box w5 L 29 (In.cells ⟨b, i.a, i.c, i.d⟩)) := HF.out.2.2.2.2.2
    clear HF
    refine wp_region_held_drew (S := fun w' => Box w' N 29 i.cells ∧ Box w' (N + 1) 23 #[.int .i64 b.n, .int .i64 b.c] ∧ Box w' L 29 (In.cells ⟨b, i.a, i.c, i.d⟩)) rfl ⟨HY0.out, HY1.out, HYL.out⟩ (fun hH => ?_)
    refine any_take (i := 0) (oi := { dst := some 22, op := Op.load 29 (Operand.tmp 9), type := 29, pos := "ref.go:36", after := #[], guard := none }) (v := .agg (In.cells ⟨b, i.a, i.c, i.d⟩)) rfl (by kernel_rfl) (by kernel_rfl) (by kernel_rfl) (fun _ _ _ h => h) (by kernel_rfl) (fun w' hw => exec_load 29 _ rfl ⟨L, 0, none⟩ (by kernel_rfl) (.agg (In.cells ⟨b, i.a, i.c, i.d⟩)) (load_I hw.2.2)) hH ?_
    refine any_take (i := 1) (oi := { dst := some 23, op := Op.load 23 (Operand.tmp 3), type := 23, pos := "ref.go:36", after := #[{ on := 11, ground := Ground.gcOnly Departure.lateStores }], guard := none }) (v := .agg #[.int .i64 b.n, .int .i64 b.c]) rfl (by kernel_rfl) (by kernel_rfl) (by kernel_rfl) (fun _ _ _ h => h) (by kernel_rfl) (fun w' hw => exec_load 23 _ rfl ⟨N + 1, 0, none⟩ (by kernel_rfl) (.agg #[.int .i64 b.n, .int .i64 b.c]) (load_S (cs := [.int .i64 b.n, .int .i64 b.c]) hw.2.1 (Part.all _))) hH ?_
    refine any_take (i := 2) (oi := { dst := some 24, op := Op.fieldAddr 29 (Operand.tmp 2) 1, type := 0, pos := "ref.go:36", after := #[{ on := 11, ground := Ground.gcOnly Departure.lateStores }], guard := none }) (v := .pointer (some ⟨N, 2, none⟩)) rfl (by kernel_rfl) (by kernel_rfl) (by kernel_rfl) (fun _ _ _ h => h) (by kernel_rfl) (fun _ _ => by kernel_rfl) hH ?_
    refine any_take (i := 3) (oi := { dst := some 25, op := Op.load 23 (Operand.tmp 24), type := 23, pos := "ref.go:36", after := #[{ on := 2, ground := Ground.data }, { on := 11, ground := Ground.gcOnly Departure.lateStores }], guard := none }) (v := .agg #[.int .i64 i.a.n, .int .i64 i.a.c]) rfl (by kernel_rfl) (by kernel_rfl) (by kernel_rfl) (fun _ _ _ h => h) (by kernel_rfl) (fun w' hw => exec_load 23 _ rfl ⟨N, 2, none⟩ (by kernel_rfl) (.agg #[.int .i64 i.a.n, .int .i64 i.a.c]) (load_S hw.1 i.partA)) hH ?_
    refine any_take (i := 4) (oi := { dst := some 26, op := Op.fieldAddr 29 (Operand.tmp 2) 2, type := 0, pos := "ref.go:36", after := #[{ on := 11, ground := Ground.gcOnly Departure.lateStores }], guard := none }) (v := .pointer (some ⟨N, 4, none⟩)) rfl (by kernel_rfl) (by kernel_rfl) (by kernel_rfl) (fun _ _ _ h => h) (by kernel_rfl) (fun _ _ => by kernel_rfl) hH ?_
    refine any_take (i := 5) (oi := { dst := some 27, op := Op.load 27 (Operand.tmp 26), type := 27, pos := "ref.go:36", after := #[{ on := 4, ground := Ground.data }, { on := 11, ground := Ground.gcOnly Departure.lateStores }], guard := none }) (v := .agg i.c.cells) rfl (by kernel_rfl) (by kernel_rfl) (by kernel_rfl) (fun _ _ _ h => h) (by kernel_rfl) (fun w' hw => exec_load 27 _ rfl ⟨N, 4, none⟩ (by kernel_rfl) (.agg i.c.cells) (load_IC hw.1)) hH ?_
    refine any_take (i := 6) (oi := { dst := some 28, op := Op.build 52 #[(0, Operand.const (Value.int IntKind.i64 13)), (6, Operand.tmp 23), (7, Operand.tmp 25), (9, Operand.tmp 27)], type := 52, pos := "ref.go:36", after := #[{ on := 1, ground := Ground.data }, { on := 3, ground := Ground.data }, { on := 5, ground := Ground.data }, { on := 11, ground := Ground.gcOnly Departure.lateStores }], guard := none }) (v := .agg (Mg.cells ⟨13, b, i.a, i.c⟩)) rfl (by kernel_rfl) (by kernel_rfl) (by kernel_rfl) (fun _ _ _ h => h) (by kernel_rfl) (fun w' hw => exec_build 52 _ rfl (Mg.cells ⟨13, b, i.a, i.c⟩) (by kernel_rfl)) hH ?_
    refine any_take (i := 7) (oi := { dst := some 29, op := Op.fieldAddr 29 (Operand.tmp 2) 0, type := 0, pos := "ref.go:36", after := #[{ on := 12, ground := Ground.gcOnly Departure.lateStores }], guard := none }) (v := .pointer (some ⟨N, 0, none⟩)) rfl (by kernel_rfl) (by kernel_rfl) (by kernel_rfl) (fun _ _ _ h => h) (by kernel_rfl) (fun _ _ => by kernel_rfl) hH ?_
    refine any_take (i := 8) (oi := { dst := some 30, op := Op.load 23 (Operand.tmp 29), type := 23, pos := "ref.go:36", after := #[{ on := 7, ground := Ground.data }, { on := 12, ground := Ground.gcOnly Departure.lateStores }], guard := none }) (v := .agg #[.int .i64 i.p.n, .int .i64 i.p.c]) rfl (by kernel_rfl) (by kernel_rfl) (by kernel_rfl) (fun _ _ _ h => h) (by kernel_rfl) (fun w' hw => exec_load 23 _ rfl ⟨N, 0, none⟩ (by kernel_rfl) (.agg #[.int .i64 i.p.n, .int .i64 i.p.c]) (load_S hw.1 i.partP)) hH ?_
    refine any_take (i := 9) (oi := { dst := some 31, op := Op.load 23 (Operand.tmp 3), type := 23, pos := "ref.go:36", after := #[{ on := 12, ground := Ground.gcOnly Departure.lateStores }], guard := none }) (v := .agg #[.int .i64 b.n, .int .i64 b.c]) rfl (by kernel_rfl) (by kernel_rfl) (by kernel_rfl) (fun _ _ _ h => h) (by kernel_rfl) (fun w' hw => exec_load 23 _ rfl ⟨N + 1, 0, none⟩ (by kernel_rfl) (.agg #[.int .i64 b.n, .int .i64 b.c]) (load_S (cs := [.int .i64 b.n, .int .i64 b.c]) hw.2.1 (Part.all _))) hH ?_
    refine any_take (i := 10) (oi := { dst := some 32, op := Op.binOp BinOp.neq 23 (Operand.tmp 30) (Operand.tmp 31) 23, type := 4, pos := "ref.go:36", after := #[{ on := 8, ground := Ground.data }, { on := 9, ground := Ground.data }, { on := 12, ground := Ground.gcOnly Departure.lateStores }], guard := none }) (v := .bool (!eqS i.p b)) rfl (by kernel_rfl) (by kernel_rfl) (by kernel_rfl) (fun _ _ _ h => h) (by kernel_rfl) (fun w' hw => exec_bin .neq 23 _ _ _ rfl (.agg #[.int .i64 i.p.n, .int .i64 i.p.c]) (.agg #[.int .i64 b.n, .int .i64 b.c]) (.bool (!eqS i.p b)) (by kernel_rfl) (by kernel_rfl) (guard_S _ (.inr rfl) _ _ _ _ _) (neqS i.p b _)) hH ?_
    refine any_store (i := 11) (o := { dst := none, op := Op.store 29 (Operand.tmp 4) (Operand.tmp 22), type := 0, pos := "ref.go:36", after := #[{ on := 0, ground := Ground.data }, { on := 0, ground := Ground.phase }, { on := 1, ground := Ground.textOnly Departure.lateStores }, { on := 2, ground := Ground.textOnly Departure.lateStores }, { on := 3, ground := Ground.textOnly Departure.lateStores }, { on := 4, ground := Ground.textOnly Departure.lateStores }, { on := 5, ground := Ground.textOnly Departure.lateStores }, { on := 6, ground := Ground.textOnly Departure.lateStores }, { on := 7, ground := Ground.textOnly Departure.lateStores }, { on := 8, ground := Ground.textOnly Departure.lateStores }, { on := 9, ground := Ground.textOnly Departure.lateStores }, { on := 10, ground := Ground.textOnly Departure.lateStores }], guard := none }) rfl (by kernel_rfl) (by kernel_rfl) 29 _ _ rfl ⟨N + 1 + 1, 0, none⟩ (.agg (In.cells ⟨b, i.a, i.c, i.d⟩)) (by kernel_rfl) (by kernel_rfl) (store_I HY2.out rfl) (⟨hH.1.rowNe (by have := HMs.out; have := HLs.out; omega) _, hH.2.1.rowNe (by have := HMs.out; have := HLs.out; omega) _, hH.2.2.rowNe (by have := HMs.out; have := HLs.out; omega) _⟩) (fun hH => ?_)
    refine any_store (i := 12) (o := { dst := none, op := Op.store 52 (Operand.tmp 5) (Operand.tmp 28), type := 0, pos := "ref.go:36", after := #[{ on := 6, ground := Ground.data }, { on := 11, ground := Ground.chain }, { on := 0, ground := Ground.phase }, { on := 1, ground := Ground.phase }, { on := 2, ground := Ground.phase }, { on := 3, ground := Ground.phase }, { on := 4, ground := Ground.phase }, { on := 5, ground := Ground.phase }, { on := 6, ground := Ground.phase }, { on := 7, ground := Ground.textOnly Departure.lateStores }, { on := 8, ground := Ground.textOnly Departure.lateStores }, { on := 9, ground := Ground.textOnly Departure.lateStores }, { on := 10, ground := Ground.textOnly Departure.lateStores }, { on := 11, ground := Ground.phase }], guard := none }) rfl (by kernel_rfl) (by kernel_rfl) 52 _ _ rfl ⟨N + 1 + 1 + 1, 0, none⟩ (.agg (Mg.cells ⟨13, b, i.a, i.c⟩)) (by kernel_rfl) (by kernel_rfl) (store_M (HY3.out.rowNe (by have := HMs.out; have := HLs.out; omega) _) rfl) (⟨hH.1.rowNe (by have := HMs.out; have := HLs.out; omega) _, hH.2.1.rowNe (by have := HMs.out; have := HLs.out; omega) _, hH.2.2.rowNe (by have := HMs.out; have := HLs.out; omega) _⟩) (fun hH => ?_)
    refine any_take (i := 13) (oi := { dst := some 6, op := Op.assign (Operand.tmp 32), type := 4, pos := "ref.go:36", after := #[{ on := 10, ground := Ground.data }, { on := 12, ground := Ground.chain }, { on := 0, ground := Ground.phase }, { on := 1, ground := Ground.phase }, { on := 2, ground := Ground.phase }, { on := 3, ground := Ground.phase }, { on := 4, ground := Ground.phase }, { on := 5, ground := Ground.phase }, { on := 6, ground := Ground.phase }, { on := 7, ground := Ground.phase }, { on := 8, ground := Ground.phase }, { on := 9, ground := Ground.phase }, { on := 10, ground := Ground.phase }, { on := 11, ground := Ground.phase }, { on := 12, ground := Ground.phase }], guard := none }) (v := .bool (!eqS i.p b)) rfl (by kernel_rfl) (by kernel_rfl) (by kernel_rfl) (fun _ _ _ h => h) (by kernel_rfl) (fun _ _ => by kernel_rfl) hH ?_
    refine wpAnyH_done (by kernel_rfl) ?_ _
    try simp only [Act.put, List.setIfInBounds_toArray, List.set_cons_zero, List.set_cons_succ]
    have HR2 : Hid (Box ((w5.drew.setRow (N + 1 + 1) (In.cells ⟨b, i.a, i.c, i.d⟩)).setRow (N + 1 + 1 + 1) (Mg.cells ⟨13, b, i.a, i.c⟩)) (N + 1 + 1) 29 (In.cells ⟨b, i.a, i.c, i.d⟩)) := (Box.setRow HY2.out _).rowNe (by have := HMs.out; have := HLs.out; omega) _
    have HR3 : Hid (Box ((w5.drew.setRow (N + 1 + 1) (In.cells ⟨b, i.a, i.c, i.d⟩)).setRow (N + 1 + 1 + 1) (Mg.cells ⟨13, b, i.a, i.c⟩)) (N + 1 + 1 + 1) 52 (Mg.cells ⟨13, b, i.a, i.c⟩)) := (Box.rowNe HY3.out (by have := HMs.out; have := HLs.out; omega) _).setRow _
    have HKf : Hid (Kept No w ((w5.drew.setRow (N + 1 + 1) (In.cells ⟨b, i.a, i.c, i.d⟩)).setRow (N + 1 + 1 + 1) (Mg.cells ⟨13, b, i.a, i.c⟩))) := (HKw.out.drew.newRow (by have := HNN.out; omega) _).newRow (by have := HNN.out; omega) _
    generalize (w5.drew.setRow (N + 1 + 1) (In.cells ⟨b, i.a, i.c, i.d⟩)).setRow (N + 1 + 1 + 1) (Mg.cells ⟨13, b, i.a, i.c⟩) = w6 at HR2 HR3 HKf ⊢
    go_wp2
    refine bodyPost_ret (results_row2_tmp (by rfl) _ _ (N + 1 + 1) (N + 1 + 1 + 1) (In.cells ⟨b, i.a, i.c, i.d⟩) (Mg.cells ⟨13, b, i.a, i.c⟩) (by rfl) (by rfl) (load_I HR2.out) (load_M HR3.out)) rfl ?_
    rw [HPI.out, HPM.out, HPB.out]
    exact ⟨rfl, HKf.out⟩
  · have HPI : Hid (prepI i b = i) := by have := HPI.out; rw [hr] at this; exact this
    have HPM : Hid (prepM i b = refM i b) := by have := HPM.out; rw [hr] at this; exact this
    have HPB : Hid (prepBr i b = false) := by have := HPB.out; rw [hr] at this; exact this
    go_upto_region 3 with fail
    refine wp_region_held_drew (S := fun w' => Box w' N 29 i.cells ∧ Box w' M 52 (refM i b).cells) rfl ⟨HY0.out, HM.out⟩ (fun hH => ?_)
    refine any_take (i := 0) (oi := { dst := some 17, op := Op.load 29 (Operand.tmp 2), type := 29, pos := "ref.go:32", after := #[], guard := none }) (v := .agg i.cells) rfl (by kernel_rfl) (by kernel_rfl) (by kernel_rfl) (fun _ _ _ h => h) (by kernel_rfl) (fun w' hw => exec_load 29 _ rfl ⟨N, 0, none⟩ (by kernel_rfl) (.agg i.cells) (load_I hw.1)) hH ?_
    refine any_take (i := 1) (oi := { dst := some 18, op := Op.load 52 (Operand.tmp 7), type := 52, pos := "ref.go:32", after := #[{ on := 2, ground := Ground.gcOnly Departure.lateStores }], guard := none }) (v := .agg (refM i b).cells) rfl (by kernel_rfl) (by kernel_rfl) (by kernel_rfl) (fun _ _ _ h => h) (by kernel_rfl) (fun w' hw => exec_load 52 _ rfl ⟨M, 0, none⟩ (by kernel_rfl) (.agg (refM i b).cells) (load_M hw.2)) hH ?_
    refine any_store (i := 2) (o := { dst := none, op := Op.store 29 (Operand.tmp 4) (Operand.tmp 17), type := 0, pos := "ref.go:32", after := #[{ on := 0, ground := Ground.data }, { on := 0, ground := Ground.phase }, { on := 1, ground := Ground.textOnly Departure.lateStores }], guard := none }) rfl (by kernel_rfl) (by kernel_rfl) 29 _ _ rfl ⟨N + 1 + 1, 0, none⟩ (.agg i.cells) (by kernel_rfl) (by kernel_rfl) (store_I HY2.out rfl) (⟨hH.1.rowNe (by have := HMs.out; omega) _, hH.2.rowNe (by have := HMs.out; omega) _⟩) (fun hH => ?_)
    refine any_store (i := 3) (o := { dst := none, op := Op.store 52 (Operand.tmp 5) (Operand.tmp 18), type := 0, pos := "ref.go:32", after := #[{ on := 1, ground := Ground.data }, { on := 2, ground := Ground.chain }, { on := 0, ground := Ground.phase }, { on := 1, ground := Ground.phase }, { on := 2, ground := Ground.phase }], guard := none }) rfl (by kernel_rfl) (by kernel_rfl) 52 _ _ rfl ⟨N + 1 + 1 + 1, 0, none⟩ (.agg (refM i b).cells) (by kernel_rfl) (by kernel_rfl) (store_M (HY3.out.rowNe (by have := HMs.out; omega) _) rfl) (⟨hH.1.rowNe (by have := HMs.out; omega) _, hH.2.rowNe (by have := HMs.out; omega) _⟩) (fun hH => ?_)
    refine any_take (i := 4) (oi := { dst := some 6, op := Op.assign (Operand.const (Value.bool false)), type := 4, pos := "ref.go:32", after := #[{ on := 3, ground := Ground.chain }, { on := 0, ground := Ground.phase }, { on := 1, ground := Ground.phase }, { on := 2, ground := Ground.phase }, { on := 3, ground := Ground.phase }], guard := none }) (v := .bool false) rfl (by kernel_rfl) (by kernel_rfl) (by kernel_rfl) (fun _ _ _ h => h) (by kernel_rfl) (fun _ _ => by kernel_rfl) hH ?_
    refine wpAnyH_done (by kernel_rfl) ?_ _
    try simp only [Act.put, List.setIfInBounds_toArray, List.set_cons_zero, List.set_cons_succ]
    have HR2 : Hid (Box ((w3.drew.setRow (N + 1 + 1) i.cells).setRow (N + 1 + 1 + 1) (refM i b).cells) (N + 1 + 1) 29 i.cells) := (Box.setRow HY2.out _).rowNe (by have := HMs.out; omega) _
    have HR3 : Hid (Box ((w3.drew.setRow (N + 1 + 1) i.cells).setRow (N + 1 + 1 + 1) (refM i b).cells) (N + 1 + 1 + 1) 52 (refM i b).cells) := (Box.rowNe HY3.out (by have := HMs.out; omega) _).setRow _
    have HKf : Hid (Kept No w ((w3.drew.setRow (N + 1 + 1) i.cells).setRow (N + 1 + 1 + 1) (refM i b).cells)) := (HKw.out.drew.newRow (by have := HNN.out; omega) _).newRow (by have := HNN.out; omega) _
    generalize (w3.drew.setRow (N + 1 + 1) i.cells).setRow (N + 1 + 1 + 1) (refM i b).cells = w6 at HR2 HR3 HKf ⊢
    go_wp2
    refine bodyPost_ret (results_row2_tmp (by rfl) _ _ (N + 1 + 1) (N + 1 + 1 + 1) i.cells (refM i b).cells (by rfl) (by rfl) (load_I HR2.out) (load_M HR3.out)) rfl ?_
    rw [HPI.out, HPM.out, HPB.out]
    exact ⟨rfl, HKf.out⟩

end Go.Proofs.Ytapjnanenfcdjaa
