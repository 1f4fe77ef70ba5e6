import Derived.Test.YtgiokkcdgoloaabTy
namespace Go.Proofs.Ytgiokkcdgoloaab
open Go.RowKit
set_option linter.unusedVariables false
set_option linter.unusedSimpArgs false

/-- The place of the best of the first k + 1, gone through from the left. -/
def bi (lt : Nat → Nat → Bool) : Nat → Nat
  | 0 => 0
  | k + 1 => if lt (bi lt k) (k + 1) then k + 1 else bi lt k
theorem bi_le (lt : Nat → Nat → Bool) : ∀ k, bi lt k ≤ k
  | 0 => Nat.le_refl _
  | k + 1 => by
    have := bi_le lt k
    unfold bi
    split <;> omega
theorem bi_yes {lt : Nat → Nat → Bool} {k : Nat} (h : lt (bi lt k) (k + 1) = true) : bi lt (k + 1) = k + 1 := if_pos h
theorem bi_no {lt : Nat → Nat → Bool} {k : Nat} (h : lt (bi lt k) (k + 1) = false) : bi lt (k + 1) = bi lt k := by
  show (if lt (bi lt k) (k + 1) then k + 1 else bi lt k) = _
  rw [h]; rfl


def bkV (p : Bk) : Value := .agg #[.int .i64 p.n, .int .i64 p.c, .slice p.a p.l p.k]
def pAt (ps : List Bk) (i : Nat) : Bk := ps[i]?.getD default
def lessK (p q : Bk) : Bool := lessB p.n p.c q.n q.c
/-- A row of blocks. -/
def Sts (w : World) (a : Option Addr) (ps : List Bk) : Prop :=
  ∀ i, i < ps.length → ∃ b off, a = some ⟨b, off, none⟩ ∧ w.cell? ⟨b, off + i * 3, none⟩ = some (.int .i64 (pAt ps i).n) ∧ w.cell? ⟨b, off + i * 3 + 1, none⟩ = some (.int .i64 (pAt ps i).c) ∧ w.cell? ⟨b, off + i * 3 + 2, none⟩ = some (.slice (pAt ps i).a (pAt ps i).l (pAt ps i).k)
theorem Sts.no {w w' : World} {a : Option Addr} {ps : List Bk} (h : Sts w a ps) (hk : Kept No w w') : Sts w' a ps := by
  intro i hi
  obtain ⟨b, off, e, c0, c1, c2⟩ := h i hi
  exact ⟨b, off, e, hk.cell c0 (fun e => e), hk.cell c1 (fun e => e), hk.cell c2 (fun e => e)⟩

set_option maxRecDepth 100000 in
set_option maxHeartbeats 2000000 in
theorem below_any (p q : Bk) (w : World) : Calls Try.prog 90 #[bkV p, bkV q] w fun e w' => e = .returned (.bool (lessK p q)) ∧ Kept No w w' := by
  obtain ⟨p1, p2, p3, p4, p5⟩ := p
  obtain ⟨q1, q2, q3, q4, q5⟩ := q
  unfold bkV lessK
  simp only
  obtain ⟨w1, hw1⟩ : ∃ w1, w1 = (w.alloc (.cells #[.int .i64 p1, .int .i64 p2, .slice p3 p4 p5] 31)).alloc (.cells #[.int .i64 q1, .int .i64 q2, .slice q3 q4 q5] 31) := ⟨_, rfl⟩
  have HK1 : Hid (Kept No w w1) := by rw [hw1]; exact ((Kept.refl No w).alloc _).alloc _
  go_enter Try.func90, Try.ntmps90
  go_wp2_with (first
    | (go_at_call 20
       rw [← hw1]
       refine Calls.mono (less_any p1 p2 q1 q2 w1) ?_
       rintro e w2 ⟨rfl, hk2⟩
       have HK2 : Hid (Kept No w w2) := HK1.out.then hk2
       clear hk2 hw1))
  go_ret
  exact ⟨rfl, HK2.out⟩

def ltP (ps : List Bk) (i j : Nat) : Bool := lessK (pAt ps i) (pAt ps j)
def bestP (ps : List Bk) : Bk := pAt ps (bi (ltP ps) (ps.length - 1))
def BestOutP (w : World) (ps : List Bk) (e : Ending) (w' : World) : Prop :=
  e = .returned (.tuple #[bkV (bestP ps), .bool true]) ∧ Kept No w w'

theorem best_step {ps : List Bk} {k : Nat} : (lessK (pAt ps (bi (ltP ps) k)) (pAt ps (k + 1)) = true → pAt ps (bi (ltP ps) (k + 1)) = pAt ps (k + 1)) ∧ (lessK (pAt ps (bi (ltP ps) k)) (pAt ps (k + 1)) = false → pAt ps (bi (ltP ps) (k + 1)) = pAt ps (bi (ltP ps) k)) :=
  ⟨fun h => by rw [bi_yes (lt := ltP ps) h], fun h => by rw [bi_no (lt := ltP ps) h]⟩

set_option maxRecDepth 100000 in
set_option maxHeartbeats 4000000 in
theorem bestP_any (a : Option Addr) (n cap : Nat) (ps : List Bk) (w : World) (hs : ps.length = n + 1) (hn : n + 1 ≤ 8796093021952) (hcap : n + 1 ≤ cap) (hc1 : ¬ cap = 1) (hm : cap ≤ 9223372036854775807) (h : Sts w a ps) :
    Calls Try.prog 91 #[.func (.func 90) #[] #[], .slice a (n + 1) cap] w (BestOutP w ps) := by
  have HS : Hid (ps.length = n + 1) := hs
  have H1 : Hid (Sts w a ps) := h
  obtain ⟨b, off, rfl, _⟩ := h 0 (by omega)
  clear hs h
  have HC : Hid (∀ wr, Kept No w wr → ∀ i, i < n + 1 → wr.cell? ⟨b, off + i * 3, none⟩ = some (.int .i64 (pAt ps i).n) ∧ wr.cell? ⟨b, off + i * 3 + 1, none⟩ = some (.int .i64 (pAt ps i).c) ∧ wr.cell? ⟨b, off + i * 3 + 2, none⟩ = some (.slice (pAt ps i).a (pAt ps i).l (pAt ps i).k)) := fun wr hk i hi => by
    obtain ⟨b', o', e, hc⟩ := (H1.out.no hk) i (by rw [HS.out]; exact hi)
    cases e; exact hc
  have HLs : Hid (∀ (p q : Bk) w, Calls Try.prog 90 #[bkV p, bkV q] w fun e w' => e = .returned (.bool (lessK p q)) ∧ Kept No w w') := below_any
  have hb0 : ((n : Int) + 1 == 0) = false := by simp; omega
  obtain ⟨w0, hw0⟩ : ∃ w0, w0 = w.alloc (.cells #[.int .i64 0, .int .i64 0, .slice none 0 0] 31) := ⟨_, rfl⟩
  have HK0 : Hid (Kept No w w0) := by rw [hw0]; exact (Kept.refl No w).alloc _
  obtain ⟨c0, c1, c2⟩ := HC.out w0 HK0.out 0 (by omega)
  rw [Nat.zero_mul, Nat.add_zero] at c0 c1 c2
  rw [hw0] at c0 c1 c2
  have hz : Hid (pAt ps 0 = pAt ps (bi (ltP ps) 0)) := rfl
  generalize pAt ps 0 = xx at c0 c1 c2 hz
  obtain ⟨x0, x1, x2, x3, x4⟩ := xx
  simp only at c0 c1 c2
  go_enter Try.func91, Try.ntmps91
  go_wp2
  obtain ⟨w1, hw1⟩ : ∃ w1, w1 = (w.alloc (.cells #[.int .i64 0, .int .i64 0, .slice none 0 0] 31)).alloc (.cells #[.int .i64 x0, .int .i64 x1, .slice x2 x3 x4] 31) := ⟨_, rfl⟩
  rw [← hw1]
  have HK1 : Hid (Kept No w w1) := by rw [hw1]; exact ((Kept.refl No w).alloc _).alloc _
  have HB1 : Hid (Box w1 w.heap.size 31 #[.int .i64 0, .int .i64 0, .slice none 0 0]) := by rw [hw1]; exact (Box.new _ _ _).alloc _
  have HB2 : Hid (Box w1 (w.heap.size + 1) 31 #[.int .i64 x0, .int .i64 x1, .slice x2 x3 x4]) := by
    have h1 : (w.alloc (.cells #[.int .i64 0, .int .i64 0, .slice none 0 0] 31)).heap.size = w.heap.size + 1 := by simp
    rw [hw1, ← h1]; exact Box.new _ _ _
  clear hw1 hw0 c0 c1 c2
  go_loopw [20] (fun vi wr => ∃ k : Nat, vi = .int .i64 k ∧ k ≤ n ∧ Hid (Box wr w.heap.size 31 #[.int .i64 0, .int .i64 0, .slice none 0 0]) ∧ Hid (Box wr (w.heap.size + 1) 31 #[.int .i64 (pAt ps (bi (ltP ps) k)).n, .int .i64 (pAt ps (bi (ltP ps) k)).c, .slice (pAt ps (bi (ltP ps) k)).a (pAt ps (bi (ltP ps) k)).l (pAt ps (bi (ltP ps) k)).k]) ∧ Hid (Kept No w wr)) (fun i _ => n - (intOf i).toNat)
  case atStart => exact ⟨0, by go_num, by omega, HB1, by rw [← hz.out]; exact HB2, HK1⟩
  case round =>
    obtain ⟨k, rfl, hk, HA, HB, HK⟩ := hrel
    clear HB1 HB2 HK1 HK0
    by_cases hlt : k < n
    · have hlt' : (k : Int) < (n : Int) := by omega
      obtain ⟨e1, e2, e3⟩ := HC.out wr HK.out (k + 1) (by omega)
      rw [show off + (k + 1) * 3 = off + 3 + k * 3 by omega] at e1 e2 e3
      have HY : Hid _ := @best_step ps k
      generalize pAt ps (bi (ltP ps) k) = p at HB HY
      generalize pAt ps (k + 1) = q at e1 e2 e3 HY
      obtain ⟨p1, p2, p3, p4, p5⟩ := p
      obtain ⟨q1, q2, q3, q4, q5⟩ := q
      simp only at e1 e2 e3 HB
      obtain ⟨w5, hw5⟩ : ∃ w5, w5 = wr.alloc (.cells #[.int .i64 q1, .int .i64 q2, .slice q3 q4 q5] 31) := ⟨_, rfl⟩
      have HK5 : Hid (Kept No w w5) := by rw [hw5]; exact HK.out.alloc _
      have HA5 : Hid (Box w5 w.heap.size 31 #[.int .i64 0, .int .i64 0, .slice none 0 0]) := by rw [hw5]; exact HA.out.alloc _
      have HB5 : Hid (Box w5 (w.heap.size + 1) 31 #[.int .i64 p1, .int .i64 p2, .slice p3 p4 p5]) := by rw [hw5]; exact HB.out.alloc _
      have HQ5 : Hid (Box w5 wr.heap.size 31 #[.int .i64 q1, .int .i64 q2, .slice q3 q4 q5]) := by rw [hw5]; exact Box.new _ _ _
      have d0 := HB5.out.cell 0
      have d1 := HB5.out.cell 1
      have d2 := HB5.out.cell 2
      simp only [List.getElem?_toArray, List.getElem?_cons_zero, List.getElem?_cons_succ] at d0 d1 d2
      rw [hw5] at d0 d1 d2
      cases hb : lessK ⟨p1, p2, p3, p4, p5⟩ ⟨q1, q2, q3, q4, q5⟩ with
      | true =>
        have HU : Hid (pAt ps (bi (ltP ps) (k + 1)) = ⟨q1, q2, q3, q4, q5⟩) := HY.out.1 hb
        clear HY
        go_wp2_with (go_at_call 90
                     rw [← hw5]
                     refine Calls.mono (HLs.out ⟨p1, p2, p3, p4, p5⟩ ⟨q1, q2, q3, q4, q5⟩ w5) ?_
                     rintro e w6 ⟨rfl, hk6⟩
                     rw [hb]
                     have HK6 : Hid (Kept No w w6) := HK5.out.then hk6
                     have HA6 : Hid (Box w6 w.heap.size 31 #[.int .i64 0, .int .i64 0, .slice none 0 0]) := HA5.out.kept hk6 (fun e => e)
                     have HB6 : Hid (Box w6 (w.heap.size + 1) 31 #[.int .i64 p1, .int .i64 p2, .slice p3 p4 p5]) := HB5.out.kept hk6 (fun e => e)
                     have HQ6 : Hid (Box w6 wr.heap.size 31 #[.int .i64 q1, .int .i64 q2, .slice q3 q4 q5]) := HQ5.out.kept hk6 (fun e => e)
                     have g0 := HQ6.out.cell 0
                     have g1 := HQ6.out.cell 1
                     have g2 := HQ6.out.cell 2
                     simp only [List.getElem?_toArray, List.getElem?_cons_zero, List.getElem?_cons_succ] at g0 g1 g2
                     have d0' := HB6.out.cell 0
                     have d1' := HB6.out.cell 1
                     have d2' := HB6.out.cell 2
                     simp only [List.getElem?_toArray, List.getElem?_cons_zero, List.getElem?_cons_succ] at d0' d1' d2'
                     have f0 := HB6.out.frozen 0
                     have f1 := HB6.out.frozen 1
                     have f2 := HB6.out.frozen 2
                     clear hk6 d0 d1 d2 hw5)
        go_roundw
        case rel =>
          refine ⟨k + 1, by go_num, by omega, ?_, ?_, ?_⟩
          · exact (((HA6.out.other (by simp) _).other (by simp) _).other (by simp) _)
          · rw [HU.out]
            exact (((HB6.out.set 0 (.int .i64 q1)).set 1 (.int .i64 q2)).set 2 (.slice q3 q4 q5))
          · exact (((HK6.out.setCell (p := ⟨w.heap.size + 1, 0, none⟩) (fun h => by have : w.heap.size + 1 < w.heap.size := h; omega) _).setCell (p := ⟨w.heap.size + 1, 1, none⟩) (fun h => by have : w.heap.size + 1 < w.heap.size := h; omega) _).setCell (p := ⟨w.heap.size + 1, 2, none⟩) (fun h => by have : w.heap.size + 1 < w.heap.size := h; omega) _)
        case measure => simp [intOf]; omega
      | false =>
        have HU : Hid (pAt ps (bi (ltP ps) (k + 1)) = ⟨p1, p2, p3, p4, p5⟩) := HY.out.2 hb
        clear HY
        go_wp2_with (go_at_call 90
                     rw [← hw5]
                     refine Calls.mono (HLs.out ⟨p1, p2, p3, p4, p5⟩ ⟨q1, q2, q3, q4, q5⟩ w5) ?_
                     rintro e w6 ⟨rfl, hk6⟩
                     rw [hb]
                     have HK6 : Hid (Kept No w w6) := HK5.out.then hk6
                     have HA6 : Hid (Box w6 w.heap.size 31 #[.int .i64 0, .int .i64 0, .slice none 0 0]) := HA5.out.kept hk6 (fun e => e)
                     have HB6 : Hid (Box w6 (w.heap.size + 1) 31 #[.int .i64 p1, .int .i64 p2, .slice p3 p4 p5]) := HB5.out.kept hk6 (fun e => e)
                     clear hk6 d0 d1 d2 hw5)
        go_roundw
        case rel => exact ⟨k + 1, by go_num, by omega, HA6, by rw [HU.out]; exact HB6, HK6⟩
        case measure => simp [intOf]; omega
    · have hlt' : ¬ (k : Int) < (n : Int) := by omega
      obtain rfl : k = n := by omega
      have HE : Hid (bestP ps = pAt ps (bi (ltP ps) k)) := by show pAt ps (bi (ltP ps) (ps.length - 1)) = _; rw [HS.out, Nat.add_sub_cancel]
      generalize pAt ps (bi (ltP ps) k) = p at HB HE
      obtain ⟨p1, p2, p3, p4, p5⟩ := p
      simp only at HB
      have d0 := HB.out.cell 0
      have d1 := HB.out.cell 1
      have d2 := HB.out.cell 2
      have a0 := HA.out.cell 0
      have a1 := HA.out.cell 1
      have a2 := HA.out.cell 2
      simp only [List.getElem?_toArray, List.getElem?_cons_zero, List.getElem?_cons_succ] at d0 d1 d2 a0 a1 a2
      have f0 := HA.out.frozen 0
      have f1 := HA.out.frozen 1
      have f2 := HA.out.frozen 2
      go_wp2
      obtain ⟨hF, hKs⟩ := set3 HA.out (.int .i64 p1) (.int .i64 p2) (.slice p3 p4 p5)
      refine bodyPost_ret (results_row_tmp (by rfl) _ _ w.heap.size #[.int .i64 p1, .int .i64 p2, .slice p3 p4 p5] (by rfl) (load57_run hF rfl)) rfl ⟨by rw [HE.out]; rfl, ?_⟩
      exact HK.out.trans hKs (fun _ e => e) (fun i hi e => by have : i = w.heap.size := e; omega)

end Go.Proofs.Ytgiokkcdgoloaab
