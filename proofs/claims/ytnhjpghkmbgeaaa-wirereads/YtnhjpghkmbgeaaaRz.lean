import Derived.Test.YtnhjpghkmbgeaaaRy
import Derived.Deep.RegionLaw
namespace Go.Proofs.Ytnhjpghkmbgeaaa
open Go.RowKit
set_option linter.unusedVariables false

theorem readS_b {k : Int} (k1 : (k == 1) = false) (k2 : (k == 2) = false) (st : RS) : readS st k = ((bytesS st).1, 0, (bytesS st).2) := by
  have h1 : k ≠ 1 := by simpa using k1
  have h2 : k ≠ 2 := by simpa using k2
  unfold readS
  rw [if_neg h1, if_neg h2]

/-- Bytes that are appended to nothing, as one step of a region that draws its order. -/
theorem step_app0 {P : Program} {ops : Array Oper} {o : Oper} {a : Act} {w : World} {K : Act → World → Prop} {Q : Exit → Act → World → Prop} {E : Prop}
    (h23 : P.underlying 23 = some (.slice 5)) (h5 : (P.info? 5).map (fun i => (i.zero, i.size, i.bytes)) = some (some (.int .u8 0), 1, 1))
    (hg : o.guard = Option.none) (s x : Operand) (hop : o.op = Op.call { callee := Callee.builtin Builtin.append, args := #[s, x], argTypes := #[23, 23] })
    (hs : a.eval s = .slice none 0 0) (ad : Addr) (m c : Nat) (ys : List Int) (hx : a.eval x = .slice (some ad) m c) (hm : ys.length = m) (hy : Bytes w (some ad) ys) (hlen : ys.length ≤ 140737488351232)
    (hK : ∀ a' c' w', Hid (OwnS w' w.heap.size a' c' ys) → Hid (Kept No w w') → K (a.put o.dst (.slice a' m c')) w') :
    if Region.wanted o (yielded ops a.tmps) = true then Oper.wp P o a w K Q else E := by
  have hw : Region.wanted o (yielded ops a.tmps) = true := by simp [Region.wanted, hg]
  rw [if_pos hw]
  subst hm
  obtain ⟨i0, hi, hz0, hz1, hz2⟩ := info_parts h5
  obtain ⟨v', w', hrun, r1, r2, _⟩ := run_append_own (P := P) w w.heap.size 23 o.type 5 i0 (.int .u8 0) 1 1 h23 hi hz0 hz1 hz2 rfl (by decide) (.slice none 0 0) 0 [] (World.ownsRow_nil w _ 5 1) ad ys.length c (ys.map (Value.int .u8)) (by simp) (by
      intro j u hu
      obtain ⟨ad', e, hc⟩ := hy.src (by have := (List.getElem?_eq_some_iff.1 hu).1; omega)
      cases e
      exact hc j u hu) (u8_one ys) (by unfold maxLen; omega) (by omega) (Nat.le_refl _)
  have hv : ∃ a' c', v' = .slice a' ys.length c' := by
    rcases r1.2 with ⟨e, h0⟩ | ⟨g, cap', cur, e, _⟩
    · exact ⟨_, _, by rw [show ys.length = 0 from by simpa using h0]; exact e⟩
    · exact ⟨some ⟨g, 0, none⟩, cap', by rw [e, Nat.zero_add]⟩
  obtain ⟨a', c', rfl⟩ := hv
  have ho' : OwnS w' w.heap.size a' c' ys := by
    unfold OwnS
    simpa using r1
  unfold Oper.wp
  simp [execOp, hop, resolve, invoke, builtin, hs, hx, hrun, Result.andThen]
  exact hK a' c' w' ho' ((Kept.refl _ _).grown r2 (fun k e _ => by simp [Value.ownBlock] at e))

theorem Bytes.cut {w : World} {b off : Nat} {bs : List Int} (h : Bytes w (some ⟨b, off, none⟩) bs) (f u : Nat) (hfu : f + u ≤ bs.length) : Bytes w (some ⟨b, off + f, none⟩) ((bs.drop f).take u) := by
  intro i hi
  simp only [List.length_take, List.length_drop] at hi
  obtain ⟨b', o', e, hc⟩ := h (f + i) (by omega)
  cases e
  refine ⟨b, off + f, rfl, ?_⟩
  rw [List.getElem?_take_of_lt (by omega), List.getElem?_drop, Nat.add_assoc]
  exact hc

theorem good_cells {w1 w2 : World} {B g q : Nat} {k : Int} {ba : Option Addr} {bc : Nat} {bs : List Int} {at_ : Nat} (hA : w1.heap[B]? = some (.cells #[.int .i64 0, .int .i64 0, .slice none 0 0] 27 (0, 0))) (hB : w1.heap[B + 1]? = some (.cells #[.int .i64 k, .int .i64 0, .slice none 0 0] 27 (0, 0))) (hR : Rr w1 g ba bc bs at_ 0 0) (hs : B + 1 < w1.heap.size) (hK : Kept No (w1.drewN q) w2) :
    w2.cell? ⟨B, 0, none⟩ = some (.int .i64 0) ∧ w2.cell? ⟨B, 1, none⟩ = some (.int .i64 0) ∧ w2.cell? ⟨B, 2, none⟩ = some (.slice none 0 0) ∧ w2.cell? ⟨B + 1, 0, none⟩ = some (.int .i64 k) ∧ w2.cell? ⟨B + 1, 1, none⟩ = some (.int .i64 0) ∧ w2.cell? ⟨B + 1, 2, none⟩ = some (.slice none 0 0) ∧ w2.cell? ⟨g, 1, none⟩ = some (.int .i64 (at_ : Int)) ∧
    w2.frozen? ⟨B, 0, none⟩ = false ∧ w2.frozen? ⟨B, 1, none⟩ = false ∧ w2.frozen? ⟨B, 2, none⟩ = false ∧ w2.frozen? ⟨B + 1, 2, none⟩ = false ∧ w2.frozen? ⟨g, 1, none⟩ = false := by
  have hK' : Kept No w1 w2 := ((Kept.refl No w1).drewN q).then hK
  have a := (hK'.block B (by omega) (fun e => e)).trans hA
  have b := (hK'.block (B + 1) (by omega) (fun e => e)).trans hB
  have r := (hR.no hK').cell
  refine ⟨?_, ?_, ?_, ?_, ?_, ?_, ?_, frozen_of_row w2 _ 0 _ 27 a, frozen_of_row w2 _ 1 _ 27 a, frozen_of_row w2 _ 2 _ 27 a, frozen_of_row w2 _ 2 _ 27 b, frozen_of_row w2 g 1 _ 62 r⟩
  · rw [cell_of_row w2 _ 0 _ 27 (0, 0) a]; rfl
  · rw [cell_of_row w2 _ 1 _ 27 (0, 0) a]; rfl
  · rw [cell_of_row w2 _ 2 _ 27 (0, 0) a]; rfl
  · rw [cell_of_row w2 _ 0 _ 27 (0, 0) b]; rfl
  · rw [cell_of_row w2 _ 1 _ 27 (0, 0) b]; rfl
  · rw [cell_of_row w2 _ 2 _ 27 (0, 0) b]; rfl
  · rw [cell_of_row w2 g 1 _ 62 (0, 0) r]; rfl

set_option maxRecDepth 100000 in
set_option maxHeartbeats 2000000 in
theorem ref_3 (g : Nat) (ba : Option Addr) (bc : Nat) (bs : List Int) (zs : List Int) (at_ : Nat) (k : Int) (w : World) (k1 : (k == 1) = false) (k2 : (k == 2) = false) (h : Rf w g ba bc bs (.ok zs at_)) :
    Calls Try.prog 35 #[.pointer (some ⟨g, 0, none⟩), .int .i64 k] w (RefPost w g ba bc bs (.ok zs at_) k) := by
  have HR : Hid (Rr w g ba bc bs at_ 0 0) := h.1
  have HZ : Hid (zs = bs.drop at_) := h.2
  have HL : Hid (0 < bs.length → ∀ i, At ba i → i < w.heap.size) := fun h0 i hi => h.at_lt h0 hi
  have c2 : w.cell? ⟨g, 2, none⟩ = some (.int .i64 0) := by rw [cell_of_row w g 2 _ 62 (0, 0) h.1.cell]; rfl
  have hbd := h.1.sl.bd
  have hg := h.lt
  clear h
  go_enter Try.func35, Try.ntmps35
  go_wp2_with fail
  refine (refvar_any g ba bc bs at_ 0 0 false _ (HR.out.no (((Kept.refl _ _).alloc _).alloc _))).mono ?_
  intro e w1 hpost
  rw [rv_false, ← HZ.out] at hpost
  cases hv : nr zs with
  | error c =>
    rw [hv] at hpost
    obtain ⟨rfl, hr, hk⟩ := hpost
    obtain ⟨hA, hB⟩ := read_blocks hg hk
    have cA0 : w1.cell? ⟨w.heap.size, 0, none⟩ = some (.int .i64 0) := by rw [cell_of_row w1 _ 0 _ 27 (0, 0) hA]; rfl
    have cA1 : w1.cell? ⟨w.heap.size, 1, none⟩ = some (.int .i64 0) := by rw [cell_of_row w1 _ 1 _ 27 (0, 0) hA]; rfl
    have cA2 : w1.cell? ⟨w.heap.size, 2, none⟩ = some (.slice none 0 0) := by rw [cell_of_row w1 _ 2 _ 27 (0, 0) hA]; rfl
    have cB0 : w1.cell? ⟨w.heap.size + 1, 0, none⟩ = some (.int .i64 k) := by rw [cell_of_row w1 _ 0 _ 27 (0, 0) hB]; rfl
    have cB1 : w1.cell? ⟨w.heap.size + 1, 1, none⟩ = some (.int .i64 0) := by rw [cell_of_row w1 _ 1 _ 27 (0, 0) hB]; rfl
    have cB2 : w1.cell? ⟨w.heap.size + 1, 2, none⟩ = some (.slice none 0 0) := by rw [cell_of_row w1 _ 2 _ 27 (0, 0) hB]; rfl
    have fA0 := frozen_of_row w1 _ 0 _ 27 hA
    have fA1 := frozen_of_row w1 _ 1 _ 27 hA
    have fA2 := frozen_of_row w1 _ 2 _ 27 hA
    have fB0 := frozen_of_row w1 _ 0 _ 27 hB
    have fB1 := frozen_of_row w1 _ 1 _ 27 hB
    have fB2 := frozen_of_row w1 _ 2 _ 27 hB
    have HF : Hid (Rf w1 g ba bc bs (.bad at_ c)) := ⟨by have := nr_code hv; omega, at_, hr⟩
    have HK1 : Hid (Kept (Only g) w w1) := (((Kept.refl No w).alloc _).alloc _).of_no.then hk
    have HE : Hid (readS (.ok zs at_) k = (.bad at_ c, 0, [])) := by rw [Hid, readS_b k1 k2]; simp only [bytesS, cr, hv]
    clear hA hB hr hk hv
    go_wp2
    exact bodyPost_ret (v := .agg #[.int .i64 k, .int .i64 0, .slice none 0 0]) (by simp [results, Try.results35, go_sem, cA0, cA1, cA2]) rfl (ref_end hg HL.out HK1.out HF.out (Sl.nilS _) (fun i h => absurd h At.none) ((((Kept.refl (Fresh2 w.heap.size) w1).setCell (p := ⟨w.heap.size, 0, none⟩) (fun _ => .inl rfl) _).setCell (p := ⟨w.heap.size, 1, none⟩) (fun _ => .inl rfl) _).setCell (p := ⟨w.heap.size, 2, none⟩) (fun _ => .inl rfl) _) HE.out)
  | ok x =>
    obtain ⟨u, j⟩ := x
    rw [hv] at hpost
    obtain ⟨rfl, n, hw⟩ := hpost
    have hk : Kept No ((w.alloc (Obj.cells #[.int .i64 0, .int .i64 0, .slice none 0 0] 27)).alloc (Obj.cells #[.int .i64 k, .int .i64 0, .slice none 0 0] 27)) w1 := by rw [hw]; exact (Kept.refl _ _).drewN n
    clear hw
    obtain ⟨hA, hB⟩ := read_blocks hg (hk.of_no (S := Only g))
    have cA0 : w1.cell? ⟨w.heap.size, 0, none⟩ = some (.int .i64 0) := by rw [cell_of_row w1 _ 0 _ 27 (0, 0) hA]; rfl
    have cA1 : w1.cell? ⟨w.heap.size, 1, none⟩ = some (.int .i64 0) := by rw [cell_of_row w1 _ 1 _ 27 (0, 0) hA]; rfl
    have cA2 : w1.cell? ⟨w.heap.size, 2, none⟩ = some (.slice none 0 0) := by rw [cell_of_row w1 _ 2 _ 27 (0, 0) hA]; rfl
    have cB0 : w1.cell? ⟨w.heap.size + 1, 0, none⟩ = some (.int .i64 k) := by rw [cell_of_row w1 _ 0 _ 27 (0, 0) hB]; rfl
    have cB1 : w1.cell? ⟨w.heap.size + 1, 1, none⟩ = some (.int .i64 0) := by rw [cell_of_row w1 _ 1 _ 27 (0, 0) hB]; rfl
    have cB2 : w1.cell? ⟨w.heap.size + 1, 2, none⟩ = some (.slice none 0 0) := by rw [cell_of_row w1 _ 2 _ 27 (0, 0) hB]; rfl
    have fA0 := frozen_of_row w1 _ 0 _ 27 hA
    have fA1 := frozen_of_row w1 _ 1 _ 27 hA
    have fA2 := frozen_of_row w1 _ 2 _ 27 hA
    have fB0 := frozen_of_row w1 _ 0 _ 27 hB
    have fB1 := frozen_of_row w1 _ 1 _ 27 hB
    have fB2 := frozen_of_row w1 _ 2 _ 27 hB
    have hr : Rr w1 g ba bc bs at_ 0 0 := HR.out.no ((((Kept.refl No w).alloc _).alloc _).then hk)
    have d1 : w1.cell? ⟨g, 1, none⟩ = some (.int .i64 (at_ : Int)) := by rw [cell_of_row w1 g 1 _ 62 (0, 0) hr.cell]; rfl
    have f1 := frozen_of_row w1 g 1 _ 62 hr.cell
    have HR1 : Hid (Rr w1 g ba bc bs at_ 0 0) := hr
    have HK1 : Hid (Kept No w w1) := (((Kept.refl No w).alloc _).alloc _).then hk
    have d0 : w1.cell? ⟨g, 0, none⟩ = some (.slice ba bs.length bc) := by rw [cell_of_row w1 g 0 _ 62 (0, 0) hr.cell]; rfl
    obtain ⟨hu, hj1, hj2, hj3, _⟩ := nr_bd hv
    have HJ : Hid (at_ + j ≤ bs.length) := by have h1 := HR1.out.le; rw [HZ.out, List.length_drop] at hj3; unfold Hid; omega
    have hJ : (at_ : Int) + (j : Int) ≤ (bs.length : Int) := by have := HJ.out; omega
    have hj0 : ((j : Int) == 0) = false := by simp; omega
    have hu' : (u : Int) ≤ 9223372036854775807 := by omega
    clear hj2 hj3 hu
    have HA : Hid _ := hA
    have HB : Hid _ := hB
    have HKs : Hid (w.heap.size + 1 < w1.heap.size) := by have := hk.size; rw [World.heap_size_alloc1, World.heap_size_alloc1] at this; unfold Hid; omega
    have HP : Hid (0 < bs.length) := by have := HJ.out; unfold Hid; omega
    clear hA hB hr hk hj1
    by_cases hcut : bs.length - at_ - j < u
    · have HE : Hid (readS (.ok zs at_) k = (.bad at_ 10, 0, [])) := by
        rw [Hid, readS_b k1 k2]
        simp only [bytesS, cr, hv]
        rw [if_pos (by rw [HZ.out, List.length_drop]; exact hcut)]
      have hc : (bs.length : Int) - (at_ : Int) - (j : Int) < (u : Int) := by omega
      clear hv hcut
      go_wp2
      go_quiet (fail)
      go_wp2_with fail
      refine (fail_any g ba bc bs at_ 0 0 10 at_ _ (HR1.out.no ((Kept.refl No w1).drewN _))).mono ?_
      rintro e' w2 ⟨rfl, hr, hk1⟩
      have hh : ∀ i, i = w.heap.size ∨ i = w.heap.size + 1 → w2.heap[i]? = w1.heap[i]? := fun i hi => (((Kept.refl No w1).drewN _).of_no.then hk1).block i (by have := HKs.out; omega) (fun e => by have e' : i = g := e; omega)
      have hA2 := (hh _ (.inl rfl)).trans HA.out
      have hB2 := (hh _ (.inr rfl)).trans HB.out
      have HF : Hid (Rf w2 g ba bc bs (.bad at_ 10)) := ⟨by omega, at_, hr⟩
      have HK2 : Hid (Kept (Only g) w w2) := HK1.out.of_no.then (((Kept.refl No w1).drewN _).of_no.then hk1)
      clear cA0 cA1 cA2 cB0 cB1 cB2 fA0 fA1 fA2 fB0 fB1 fB2 d0 d1 f1
      have cA0 : w2.cell? ⟨w.heap.size, 0, none⟩ = some (.int .i64 0) := by rw [cell_of_row w2 _ 0 _ 27 (0, 0) hA2]; rfl
      have cA1 : w2.cell? ⟨w.heap.size, 1, none⟩ = some (.int .i64 0) := by rw [cell_of_row w2 _ 1 _ 27 (0, 0) hA2]; rfl
      have cA2 : w2.cell? ⟨w.heap.size, 2, none⟩ = some (.slice none 0 0) := by rw [cell_of_row w2 _ 2 _ 27 (0, 0) hA2]; rfl
      have cB0 : w2.cell? ⟨w.heap.size + 1, 0, none⟩ = some (.int .i64 k) := by rw [cell_of_row w2 _ 0 _ 27 (0, 0) hB2]; rfl
      have cB1 : w2.cell? ⟨w.heap.size + 1, 1, none⟩ = some (.int .i64 0) := by rw [cell_of_row w2 _ 1 _ 27 (0, 0) hB2]; rfl
      have cB2 : w2.cell? ⟨w.heap.size + 1, 2, none⟩ = some (.slice none 0 0) := by rw [cell_of_row w2 _ 2 _ 27 (0, 0) hB2]; rfl
      have fA0 := frozen_of_row w2 _ 0 _ 27 hA2
      have fA1 := frozen_of_row w2 _ 1 _ 27 hA2
      have fA2 := frozen_of_row w2 _ 2 _ 27 hA2
      have fB0 := frozen_of_row w2 _ 0 _ 27 hB2
      have fB1 := frozen_of_row w2 _ 1 _ 27 hB2
      have fB2 := frozen_of_row w2 _ 2 _ 27 hB2
      clear hr hk1 hh hA2 hB2
      go_wp2
      exact bodyPost_ret (v := .agg #[.int .i64 k, .int .i64 0, .slice none 0 0]) (by simp [results, Try.results35, go_sem, cA0, cA1, cA2]) rfl (ref_end hg HL.out HK2.out HF.out (Sl.nilS _) (fun i h => absurd h At.none) ((((Kept.refl (Fresh2 w.heap.size) _).setCell (p := ⟨w.heap.size, 0, none⟩) (fun _ => .inl rfl) _).setCell (p := ⟨w.heap.size, 1, none⟩) (fun _ => .inl rfl) _).setCell (p := ⟨w.heap.size, 2, none⟩) (fun _ => .inl rfl) _) HE.out)
    · have HE : Hid (readS (.ok zs at_) k = (.ok (bs.drop (at_ + (j + u))) (at_ + (j + u)), 0, (bs.drop (at_ + j)).take u)) := by
        rw [Hid, readS_b k1 k2]
        simp only [bytesS, cr, hv]
        rw [if_neg (by rw [HZ.out, List.length_drop]; exact hcut)]
        simp only [HZ.out, List.drop_drop]
      have hc : ¬ (bs.length : Int) - (at_ : Int) - (j : Int) < (u : Int) := by omega
      clear hv hcut
      go_wp2
      go_quiet (fail)
      obtain ⟨b, off, rfl, _⟩ := HR1.out.sl.bytes 0 HP.out
      have hble : bs.length ≤ bc := HR1.out.sl.le
      have p1 : (at_ : Int) + (j : Int) + (u : Int) ≤ (bc : Int) := by omega
      have p2 : ((at_ : Int) + (j : Int)).toNat = at_ + j := by omega
      have p3 : ((at_ : Int) + (j : Int) + (u : Int)).toNat = at_ + j + u := by omega
      have HLn : Hid (((bs.drop (at_ + j)).take u).length = u) := by unfold Hid; simp only [List.length_take, List.length_drop]; omega
      have r1 : IntKind.i64.wrap (u : Int) = (u : Int) := by rw [IntKind.wrap_i64]; omega
      have r2 : IntKind.i64.wrap ((at_ : Int) + (j : Int) + (u : Int)) = (at_ : Int) + (j : Int) + (u : Int) := by rw [IntKind.wrap_i64]; omega
      have r3 : (0 : Int) ≤ (at_ : Int) + (j : Int) + (u : Int) := by omega
      have r4 : (0 : Int) ≤ (at_ : Int) + (j : Int) := by omega
      have r5 : (at_ : Int) + (j : Int) ≤ max ((at_ : Int) + (j : Int) + (u : Int)) 0 := by omega
      have r7 : (at_ : Int) + (j : Int) ≤ (at_ : Int) + (j : Int) + (u : Int) := by omega
      have r6 : at_ + j + u - (at_ + j) = u := by omega
      have HU8 : Hid (U8 ((bs.drop (at_ + j)).take u)) := (HR1.out.sl.u8.drop _).take u
      have HJu : Hid (at_ + (j + u) ≤ bs.length) := by unfold Hid; omega
      by_cases hbe : bc = at_ + j
      · have HBy : Hid (∀ q, Bytes (w1.drewN q) (some ⟨b, off, none⟩) ((bs.drop (at_ + j)).take u)) := by
          have u0 : u = 0 := by have h1 := HR1.out.sl.le; omega
          intro q i hi
          rw [u0] at hi
          simp at hi
        have r8 : (at_ : Int) + (j : Int) + (u : Int) ≤ (at_ : Int) + (j : Int) := by have h1 := HR1.out.sl.le; omega
        clear hble
        go_wp2
        go_region_law (refine step_app0 Try.underlying23 Try.info5 rfl (.tmp 59) (.tmp 69) rfl (by simp [Act.eval, Act.put]) ⟨b, off, none⟩ u 0 ((bs.drop (at_ + j)).take u) (by simp [Act.eval, Act.put]) HLn.out (HBy.out _) (by rw [HLn.out]; omega) ?_; intro a2 c2 w2 HO2 HK2; have HC2 : Hid _ := good_cells HA.out HB.out HR1.out HKs.out HK2.out; have cA0' := HC2.out.1; have cA1' := HC2.out.2.1; have cA2' := HC2.out.2.2.1; have cB0' := HC2.out.2.2.2.1; have cB1' := HC2.out.2.2.2.2.1; have cB2' := HC2.out.2.2.2.2.2.1; have d1' := HC2.out.2.2.2.2.2.2.1; have fA0' := HC2.out.2.2.2.2.2.2.2.1; have fA1' := HC2.out.2.2.2.2.2.2.2.2.1; have fA2' := HC2.out.2.2.2.2.2.2.2.2.2.1; have fB2' := HC2.out.2.2.2.2.2.2.2.2.2.2.1; have f1' := HC2.out.2.2.2.2.2.2.2.2.2.2.2)
        all_goals (try go_wp2)
        all_goals exact bodyPost_ret (v := .agg #[.int .i64 k, .int .i64 0, .slice a2 u c2]) (by simp [results, Try.results35, go_sem, cA0', cA1', cA2']) rfl (ref_good (j := j + u) hg HL.out (HK1.out.then (((Kept.refl No w1).drewN _).then HK2.out)) (HR1.out.no (((Kept.refl No w1).drewN _).then HK2.out)) HJu.out (HO2.out.sl HLn.out HU8.out (by omega)) (fun i hi => by have h1 := HO2.out.base hi; have h2 := HKs.out; have h3 : (w1.drewN 0).heap.size = w1.heap.size := rfl; simp only [World.drewN] at h1; omega) ((Kept.refl (Fresh2 w.heap.size) w2).setCell (p := ⟨w.heap.size + 1, 2, none⟩) (fun _ => .inr rfl) _) (by omega) ((((Kept.refl (Fresh2 w.heap.size) _).setCell (p := ⟨w.heap.size, 0, none⟩) (fun _ => .inl rfl) _).setCell (p := ⟨w.heap.size, 1, none⟩) (fun _ => .inl rfl) _).setCell (p := ⟨w.heap.size, 2, none⟩) (fun _ => .inl rfl) _) HE.out)
      · have HBy : Hid (∀ q, Bytes (w1.drewN q) (some ⟨b, off + (at_ + j), none⟩) ((bs.drop (at_ + j)).take u)) := fun q => (HR1.out.sl.bytes.no ((Kept.refl No w1).drewN q)).cut _ _ (by omega)
        clear hble
        go_wp2
        go_region_law (refine step_app0 Try.underlying23 Try.info5 rfl (.tmp 59) (.tmp 69) rfl (by simp [Act.eval, Act.put]) ⟨b, off + (at_ + j), none⟩ u (bc - (at_ + j)) ((bs.drop (at_ + j)).take u) (by simp [Act.eval, Act.put]) HLn.out (HBy.out _) (by rw [HLn.out]; omega) ?_; intro a2 c2 w2 HO2 HK2; have HC2 : Hid _ := good_cells HA.out HB.out HR1.out HKs.out HK2.out; have cA0' := HC2.out.1; have cA1' := HC2.out.2.1; have cA2' := HC2.out.2.2.1; have cB0' := HC2.out.2.2.2.1; have cB1' := HC2.out.2.2.2.2.1; have cB2' := HC2.out.2.2.2.2.2.1; have d1' := HC2.out.2.2.2.2.2.2.1; have fA0' := HC2.out.2.2.2.2.2.2.2.1; have fA1' := HC2.out.2.2.2.2.2.2.2.2.1; have fA2' := HC2.out.2.2.2.2.2.2.2.2.2.1; have fB2' := HC2.out.2.2.2.2.2.2.2.2.2.2.1; have f1' := HC2.out.2.2.2.2.2.2.2.2.2.2.2)
        all_goals (try go_wp2)
        all_goals exact bodyPost_ret (v := .agg #[.int .i64 k, .int .i64 0, .slice a2 u c2]) (by simp [results, Try.results35, go_sem, cA0', cA1', cA2']) rfl (ref_good (j := j + u) hg HL.out (HK1.out.then (((Kept.refl No w1).drewN _).then HK2.out)) (HR1.out.no (((Kept.refl No w1).drewN _).then HK2.out)) HJu.out (HO2.out.sl HLn.out HU8.out (by omega)) (fun i hi => by have h1 := HO2.out.base hi; have h2 := HKs.out; have h3 : (w1.drewN 0).heap.size = w1.heap.size := rfl; simp only [World.drewN] at h1; omega) ((Kept.refl (Fresh2 w.heap.size) w2).setCell (p := ⟨w.heap.size + 1, 2, none⟩) (fun _ => .inr rfl) _) (by omega) ((((Kept.refl (Fresh2 w.heap.size) _).setCell (p := ⟨w.heap.size, 0, none⟩) (fun _ => .inl rfl) _).setCell (p := ⟨w.heap.size, 1, none⟩) (fun _ => .inl rfl) _).setCell (p := ⟨w.heap.size, 2, none⟩) (fun _ => .inl rfl) _) HE.out)

end Go.Proofs.Ytnhjpghkmbgeaaa
