import Derived.Test.YtphiokehcgbldaaNq
namespace Go.Proofs.Ytphiokehcgbldaa
open Go.RowKit Go.Shelf
set_option linter.unusedVariables false
set_option linter.unusedSimpArgs false

attribute [local go_sem] Oper.semAt_some
theorem NetM.dlt {w : World} {n : Nat} {s : Ns} {I : Nat → Prop} (h : NetM w n s I) {q : Pq} (hq : q ∈ s.L) {k : Nat} (hk : At q.da k) : k < w.heap.size ∧ I k := by
  rcases h with ⟨rfl, _⟩ | ⟨b1, b2, b3, P, h⟩
  · simp [ns0] at hq
  · exact ⟨Own.ltA (h.dt q hq) hk, h.ind q hq k hk⟩
/-- The data of what is under way are not too long. -/
def Sml (s : Ns) : Prop := s.came < 1000000000000 ∧ ∀ q ∈ s.L, q.zs.length ≤ 140737488355328
theorem UnOut.use {w w0 w1 : World} {n : Nat} {s : Ns} {I : Nat → Prop} {e : Ending} (hN : NetM w n s I) (hk0 : Kept No w w0) (h : UnOut w0 s e w1) :
    ∃ lb ra rc P, e = .returned (.func (.func 39) #[] #[.pointer (some ⟨lb, 0, none⟩)]) ∧ SeqN w1 lb ra rc s.L P s.L ∧ (∀ k, SqB lb ra s.L k → k < w.heap.size ∨ w0.heap.size ≤ k) ∧ Kept No w0 w1 := by
  obtain ⟨lb, ra, rc, P, rfl, hsq, hlb, hra, hk⟩ := h
  refine ⟨lb, ra, rc, P, rfl, hsq, ?_, hk⟩
  rintro k (rfl | h | ⟨q, hq, h⟩)
  · exact .inr hlb
  · exact .inr (hra k h)
  · exact .inl (hN.dlt hq h).1
theorem eqFn (lb : Nat) (W : World) : (binOp .eql 53 (.func (.func 39) #[] #[.pointer (some ⟨lb, 0, none⟩)]) .nilFunc).run Try.prog W = .ok (.bool false) W := by kernel_rfl
theorem neFn (lb : Nat) (W : World) : (binOp .neq 53 (.func (.func 39) #[] #[.pointer (some ⟨lb, 0, none⟩)]) .nilFunc).run Try.prog W = .ok (.bool true) W := by kernel_rfl
set_option maxRecDepth 100000 in
set_option maxHeartbeats 4000000 in
theorem many_any {I : Nat → Prop} {n : Nat} {s : Ns} (w : World) (hN : NetM w n s I) (hs : Sml s) : Calls Try.prog 17 #[.pointer (some ⟨n, 0, none⟩)] w (fun e w' => e = .returned (.int .i64 (s.L.length : Nat)) ∧ Kept No w w') := by
  obtain ⟨C, hC⟩ : ∃ C : Ending → World → Prop, C = (fun e w' => e = .returned (.int .i64 (s.L.length : Nat)) ∧ Kept No w w') := ⟨_, rfl⟩
  have HC : Hid (C = (fun e w' => e = .returned (.int .i64 (s.L.length : Nat)) ∧ Kept No w w')) := hC
  rw [← hC]
  clear hC
  have HN : Hid (NetM w n s I) := hN
  have HS : Hid (Sml s) := hs
  clear hN hs
  refine (callsIn_wide (n := 3)).1 ?_
  refine callsIn_of_wp_marks Try.func17 rfl trivial ?_ rfl
  refine wpIn_wide.2 ?_
  simp only [Try.ntmps17, List.size_toArray, List.length_cons, List.length_nil, Nat.reduceAdd, Nat.reduceSub, Array.replicate_succ, Array.replicate_zero, List.push_toArray, List.append_toArray, List.nil_append, List.cons_append]
  go_wp2_with (go_at_call 21; refine (under_any (s := s) (I := I) _ (HN.out.no ((Kept.refl No w).alloc _)) HS.out.1).mono ?_; intro e w1 hu; obtain ⟨lb, ra, rc, P, rfl, hsq, hof, hk⟩ := hu.use HN.out ((Kept.refl No w).alloc _); have HU : Hid (SeqN w1 lb ra rc s.L P s.L ∧ (∀ k, SqB lb ra s.L k → k ≠ w.heap.size) ∧ Kept No w w1 ∧ Box w1 w.heap.size 3 #[.int .i64 0]) := ⟨hsq, (fun k h e => by have := hof k h; simp at this; omega), ((Kept.refl No w).alloc _).then hk, Box.kept (Box.new w 3 #[.int .i64 0]) hk (fun e => e)⟩; have heq := eqFn lb w1; clear hsq hof hk hu)
  refine (wpIn_wide (n := 3)).1 ?_
  clear heq
  have hlt := HU.out.2.2.2.lt
  have hL : s.L.length ≤ 1000000000000 := by have := len_came HN.out.ok; have := HS.out.1; omega
  refine' rf_net (by omega) (lb := lb) rfl HU.out.1 (by omega) HS.out.2 (fun pre W => Box W w.heap.size 3 #[.int .i64 (pre.length : Nat)] ∧ Kept No w W) (fun _ _ _ => False) ⟨HU.out.2.2.2, HU.out.2.2.1⟩ ?hI (fun _ _ _ _ h _ => h) ?round ?done ?stop
  case hI =>
    rintro xs W W' ⟨h1, h2⟩ hk
    exact ⟨h1.kept hk (by rintro (e | e) <;> omega), h2.trans hk (fun _ e => e) (fun i hi e => by rcases e with e | e <;> omega)⟩
  case stop => exact fun _ _ _ h => h.elim
  case round =>
    rintro pre x W0 W1 ⟨hb, hk⟩ hk01 hO hp hl0 hsq hlo
    refine wpIn_skip ⟨Kept.refl _ _, fun Wb hkb hlo' => ?_⟩
    have HB : Hid (Box Wb w.heap.size 3 #[.int .i64 (pre.length : Nat)]) := (hb.kept hk01 (fun e => e)).kept hkb (fun e => by have e : w.heap.size = w1.heap.size + 1 := e; omega)
    have HK : Hid (Kept No w Wb) := (hk.then hk01).trans hkb (fun _ e => e) (fun i hi e => by have e : i = w1.heap.size + 1 := e; omega)
    have hpl : pre.length < s.L.length := (List.getElem?_eq_some_iff.1 hp).1
    have hc : Wb.cell? ⟨w.heap.size, 0, none⟩ = some (.int .i64 (pre.length : Nat)) := HB.out.cell 0
    have hf := HB.out.frozen 0
    clear hb hk hk01 hO hp hl0 hsq hlo hkb hlo'
    simp only [tdV]
    gi_wp2
    refine ⟨(Kept.refl _ Wb).setCell (p := ⟨w.heap.size, 0, none⟩) (fun _ e => ?_) _, ?_, HK.out.setCell (p := ⟨w.heap.size, 0, none⟩) (fun h => by have h : w.heap.size < w.heap.size := h; omega) _⟩
    · rcases e with e | e
      · exact HU.out.2.1 _ e rfl
      · have e : w.heap.size = w1.heap.size ∨ w.heap.size = w1.heap.size + 1 := e
        omega
    · have h := HB.out.set 0 (.int .i64 ((pre.length : Int) + 1))
      simpa using h
  case done =>
    rintro xs W hxs ⟨hb, hk⟩ hD
    have e1 : W.cell? ⟨w.heap.size, 0, none⟩ = some (.int .i64 (s.L.length : Nat)) := by
      have h := hb.cell 0
      have hl : xs.length = s.L.length := by rw [← hxs, List.length_map]
      rw [hl] at h
      simpa using h
    have HW : Hid (Kept No w W ∧ W.heap[w1.heap.size]? = some (.deferred (some []))) := ⟨hk, hD⟩
    clear hb hk hD hxs
    go_wp2
    rw [HC.out]
    have hgr := grownBy_putObj' W w1.heap.size (.deferred none)
    refine ⟨by simp, .inl ⟨_, _, rfl, run_takeDeferred HW.out.2, ?_⟩⟩
    refine ⟨.int .i64 (s.L.length : Nat), ?_, ?_⟩
    · exact results_tmp (fn := Try.f17) rfl _ _ _
    · exact ⟨rfl, kept_put HW.out.1 (.inr (by omega))⟩
end Go.Proofs.Ytphiokehcgbldaa
