import Derived.Test.YtppkjebiiheljaaRa
namespace Go.Proofs.Ytppkjebiiheljaa
open Go.RowKit
set_option linter.unusedVariables false
set_option linter.unusedSimpArgs false

theorem Rdk.cells {w : World} {r gs : Nat} {F : Nat → Prop} {x : DS} {arm : Bool} {lf tn : Int} {vs : List Value} (h : Rdk w r gs F x arm lf tn vs) : w.cell? ⟨r, 0, none⟩ = some (.slice (some ⟨gs, 0, none⟩) x.N x.N) ∧ w.cell? ⟨r, 1, none⟩ = some (.bool arm) ∧ w.cell? ⟨r, 2, none⟩ = some (.bool x.fl) ∧ w.cell? ⟨r, 3, none⟩ = some (.int .i64 lf) ∧ w.cell? ⟨r, 4, none⟩ = some (.int .i64 tn) ∧ w.cell? ⟨r, 5, none⟩ = some (.int .i64 x.rd) ∧ w.cell? ⟨r, 6, none⟩ = some (.int .i64 x.wr) :=
  ⟨h.box.cell 0, h.box.cell 1, h.box.cell 2, h.box.cell 3, h.box.cell 4, h.box.cell 5, h.box.cell 6⟩

/-- New bytes of the call's own. -/
def NewB (w : World) (s : List Int) (e : Ending) (w' : World) : Prop := ∃ g, e = .returned (.slice (some ⟨g, 0, none⟩) 512 512) ∧ w.heap.size ≤ g ∧ Box w' g 5 (u8s s) ∧ Kept No w w'

set_option maxRecDepth 100000 in
set_option maxHeartbeats 1000000 in
theorem refSector_any (r gs n : Nat) (F : Nat → Prop) (x : DS) (arm : Bool) (lf tn : Int) (vs : List Value) (w : World) (h : Rdk w r gs F x arm lf tn vs) (hn : n < x.N) (hN : x.N ≤ 65536) (hl : (x.c n).length = 512) :
    Calls Try.prog 38 #[.pointer (some ⟨r, 0, none⟩), .int .i64 n] w (NewB w (x.c n)) := by
  have c0 := h.cells.1
  have hni : (n : Int) < (x.N : Int) := by omega
  have c1 := h.row.cell n
  rw [List.getElem?_toArray] at c1
  rcases h.sec n hn with ⟨e, hz⟩ | ⟨g, e, hb, hf⟩
  · rw [e] at c1
    have HZ : Hid (x.c n = zs) := hz
    clear h hn hN hl hz e
    go_enter Try.func38, Try.ntmps38
    go_wp2_with (refine wp_make512 rfl rfl ?_
                 intro w1 HB1 hk1
                 have HK1 : Hid (Kept No w w1) := hk1
                 clear hk1)
    all_goals go_ret
    exact ⟨w.heap.size, rfl, Nat.le_refl _, by rw [HZ.out]; exact HB1.out, HK1.out⟩
  · rw [e] at c1
    have HT : Hid _ := twin_any (some ⟨g, 0, none⟩) 512 512 (x.c n) w hb.all hl (by omega)
    clear h hn hN hl e hb hf
    go_enter Try.func38, Try.ntmps38
    go_wp2_with (go_at_call 33
                 refine Calls.mono HT.out ?_
                 rintro e w1 ⟨rfl, hb1, hk1⟩
                 have HB1 : Hid (Box w1 w.heap.size 5 (u8s (x.c n))) := hb1
                 have HK1 : Hid (Kept No w w1) := hk1
                 clear hb1 hk1)
    all_goals go_ret
    exact ⟨w.heap.size, rfl, Nat.le_refl _, HB1.out, HK1.out⟩

/-- What a Read of the reference's leaves. -/
def RdR (w : World) (r gs : Nat) (F : Nat → Prop) (x : DS) (n : Int) (e : Ending) (w' : World) : Prop :=
  ∃ a m bs, e = .returned (.tuple #[.slice a m m, .int .i64 (refE x n)]) ∧ Nums .u8 w' a bs ∧ bs.length = m ∧ bs = (if refE x n = 0 then x.c n.toNat else []) ∧ (∀ k, At a k → w.heap.size ≤ k) ∧ RD w' r gs F (rdD x n) ∧ Kept (Only r) w w'

theorem refE_cases (x : DS) (n : Int) : (x.fl = true ∧ refE x n = 5) ∨ (x.fl = false ∧ (n < 0 ∨ (x.N : Int) ≤ n) ∧ refE x n = 31) ∨ (x.fl = false ∧ (0 ≤ n ∧ n.toNat < x.N) ∧ refE x n = 0) := by
  unfold refE
  cases hf : x.fl
  · right
    simp only [Bool.false_eq_true, if_false]
    by_cases h1 : n < 0
    · left; exact ⟨trivial, .inl h1, by rw [if_pos h1]⟩
    · by_cases h2 : n ≥ x.N
      · left; exact ⟨trivial, .inr h2, by rw [if_neg h1, if_pos h2]⟩
      · right; exact ⟨trivial, ⟨by omega, by omega⟩, by rw [if_neg h1, if_neg h2]⟩
  · left; exact ⟨rfl, rfl⟩

theorem Rdk.set {w : World} {r gs : Nat} {F : Nat → Prop} {x : DS} {arm : Bool} {lf tn : Int} {vs : List Value} (h : Rdk w r gs F x arm lf tn vs) (i : Nat) (v : Value) (y : DS) (arm' : Bool) (lf' tn' : Int)
    (hc : (#[.slice (some ⟨gs, 0, none⟩) x.N x.N, .bool arm, .bool x.fl, .int .i64 lf, .int .i64 tn, .int .i64 x.rd, .int .i64 x.wr] : Array Value).setIfInBounds i v = #[.slice (some ⟨gs, 0, none⟩) y.N y.N, .bool arm', .bool y.fl, .int .i64 lf', .int .i64 tn', .int .i64 y.rd, .int .i64 y.wr])
    (hy : y.c = x.c) (hN : y.N = x.N) (hp : y.fl = false → (y.pw = none ∧ arm' = false) ∨ (y.pw = some (lf', tn') ∧ arm' = true)) : Rdk (w.setCell ⟨r, i, none⟩ v) r gs F y arm' lf' tn' vs := by
  have hk : Kept (Only r) w (w.setCell ⟨r, i, none⟩ v) := (Kept.refl (Only r) w).setCell (fun _ => onlySelf r) v
  refine ⟨?_, h.row.kept hk (fun e => h.row.diff h.box (by decide) e), h.len.trans hN.symm, fun n hn => ?_, hp⟩
  · rw [← hc]; exact h.box.set i v
  · rw [hN] at hn
    rw [hy]
    exact (h.sec n hn).imp id (fun ⟨g, e, hb, hf⟩ => ⟨g, e, hb.kept hk (fun e => hb.diff h.box (by decide) e), hf⟩)

set_option maxRecDepth 100000 in
set_option maxHeartbeats 1000000 in
theorem refRead_any (r gs : Nat) (n : Int) (F : Nat → Prop) (x : DS) (w : World) (h : RD w r gs F x) (ho : Ok x) :
    Calls Try.prog 27 #[.pointer (some ⟨r, 0, none⟩), .int .i64 n] w (RdR w r gs F x n) := by
  obtain ⟨arm, lf, tn, vs, h⟩ := h
  obtain ⟨c0, c1, c2, c3, c4, c5, c6⟩ := h.cells
  clear c1 c3 c4 c6
  rcases refE_cases x n with ⟨hf, he⟩ | ⟨hf, hn, he⟩ | ⟨hf, hn, he⟩
  · rw [hf] at c2
    have HF : Hid (RdR w r gs F x n (.returned (.tuple #[.slice none 0 0, .int .i64 5])) w) := ⟨none, 0, [], by rw [he], Nums.nil _ _ _, rfl, by rw [if_neg (by rw [he]; decide)], fun k hk => absurd hk At.none, ⟨arm, lf, tn, vs, by unfold rdD; rw [if_pos (by rw [he]; decide)]; exact h⟩, Kept.refl _ _⟩
    clear h ho hf he
    go_enter Try.func27, Try.ntmps27
    go_wp2
    all_goals go_ret2
    all_goals exact HF.out
  · rw [hf] at c2
    have HF : Hid (RdR w r gs F x n (.returned (.tuple #[.slice none 0 0, .int .i64 31])) w) := ⟨none, 0, [], by rw [he], Nums.nil _ _ _, rfl, by rw [if_neg (by rw [he]; decide)], fun k hk => absurd hk At.none, ⟨arm, lf, tn, vs, by unfold rdD; rw [if_pos (by rw [he]; decide)]; exact h⟩, Kept.refl _ _⟩
    clear h ho hf he
    rcases hn with hn | hn
    · go_enter Try.func27, Try.ntmps27
      go_wp2
      all_goals go_ret2
      all_goals exact HF.out
    · have hn0 : ¬ (n < 0) := by omega
      go_enter Try.func27, Try.ntmps27
      go_wp2
      all_goals go_ret2
      all_goals exact HF.out
  · rw [hf] at c2
    have f5 := h.box.frozen 5
    have hrd : rdD x n = { x with rd := x.rd + 1 } := by unfold rdD; rw [if_neg (fun e => e he)]
    have H1 := h.set 5 (.int .i64 (x.rd + 1)) { x with rd := x.rd + 1 } arm lf tn (by rfl) rfl rfl h.pw
    obtain ⟨w1, hw1⟩ : ∃ w1, w1 = w.setCell ⟨r, 5, none⟩ (.int .i64 (x.rd + 1)) := ⟨_, rfl⟩
    rw [← hw1] at H1
    have HK1 : Hid (Kept (Only r) w w1) := by rw [hw1]; exact (Kept.refl (Only r) w).setCell (fun _ => onlySelf r) _
    have hs1 : Hid (w1.heap.size = w.heap.size) := by show w1.heap.size = w.heap.size; rw [hw1]; simp
    have HS := refSector_any r gs n.toNat F { x with rd := x.rd + 1 } arm lf tn vs w1 H1 hn.2 ho.fine.n2 (ho.fine.len _)
    have HS' : Hid (Calls Try.prog 38 #[.pointer (some ⟨r, 0, none⟩), .int .i64 n] w1 (NewB w1 (x.c n.toNat))) := by
      rw [show n = (n.toNat : Int) by omega]; exact HS
    have HX : Hid (Rdk w1 r gs F { x with rd := x.rd + 1 } arm lf tn vs ∧ Ok x ∧ refE x n = 0 ∧ rdD x n = { x with rd := x.rd + 1 } ∧ r < w.heap.size) := ⟨H1, ho, he, hrd, h.box.lt⟩
    have hn0 : ¬ (n < 0) := by omega
    have hn1 : ¬ ((x.N : Int) ≤ n) := by omega
    have hr0 : 0 ≤ x.rd := ho.rd0
    have hr1 : x.rd < 4611686018427387904 := ho.rd1
    clear h ho hf he hn H1 HS hrd
    go_enter Try.func27, Try.ntmps27
    go_wp2_with (go_at_call 38
                 rw [← hw1]
                 refine Calls.mono HS'.out ?_
                 rintro e w2 ⟨g, rfl, hg, hb2, hk2⟩
                 have HB2 : Hid (Box w2 g 5 (u8s (x.c n.toNat)) ∧ w1.heap.size ≤ g) := ⟨hb2, hg⟩
                 have HK2 : Hid (Kept No w1 w2) := hk2
                 clear hb2 hk2 hg hw1)
    all_goals go_ret2
    refine ⟨some ⟨g, 0, none⟩, 512, x.c n.toNat, by rw [HX.out.2.2.1]; rfl, HB2.out.1.all, HX.out.2.1.fine.len _, by rw [if_pos HX.out.2.2.1], ?_, ⟨arm, lf, tn, vs, ?_⟩, HK1.out.trans HK2.out (fun _ e => e) (fun _ _ e => e.elim)⟩
    · rintro k ⟨ad, e, rfl⟩
      cases e
      have := HB2.out.2
      have := hs1.out
      show w.heap.size ≤ g
      omega
    · rw [HX.out.2.2.2.1]
      exact HX.out.1.kept HK2.out (fun e => e) (fun e => e) (fun _ _ _ e => e)

end Go.Proofs.Ytppkjebiiheljaa
