import Derived.Test.YtmhjbkpojndhkaaOc
namespace Go.Proofs.Ytmhjbkpojndhkaa
open Go.RowKit
set_option linter.unusedVariables false
set_option linter.unusedSimpArgs false

def lessP (p q : Int × Int) : Bool := decide (p.1 < q.1 ∨ (p.1 = q.1 ∧ p.2 < q.2))
abbrev stV (a b : Int) : Value := .agg #[.int .i64 a, .int .i64 b]

theorem less_any (a b c d : Int) (w : World) :
    Calls Try.prog 21 #[stV a b, stV c d] w fun e w' => e = .returned (.bool (lessP (a, b) (c, d))) ∧ Kept No w w' := by
  by_cases h : a = c
  · subst h
    go_enter Try.func21, Try.ntmps21
    go_wp2
    all_goals go_ret
    all_goals refine ⟨ret_bool ?_, ((Kept.refl No w).alloc _).alloc _⟩
    all_goals simp_all [lessP]
  · have hb : (a == c) = false := by simpa using h
    go_enter Try.func21, Try.ntmps21
    go_wp2
    all_goals go_ret
    all_goals refine ⟨ret_bool ?_, ((Kept.refl No w).alloc _).alloc _⟩
    all_goals simp_all [lessP]

theorem rless_any (a b c d : Int) (w : World) :
    Calls Try.prog 22 #[stV a b, stV c d] w fun e w' => e = .returned (.bool (lessP (a, b) (c, d))) ∧ Kept No w w' := by
  by_cases h0 : a < c
  · go_enter Try.func22, Try.ntmps22
    go_wp2
    all_goals go_ret
    all_goals refine ⟨ret_bool ?_, ((Kept.refl No w).alloc _).alloc _⟩
    all_goals simp_all [lessP]
  · by_cases h : a = c
    · subst h
      go_enter Try.func22, Try.ntmps22
      go_wp2
      all_goals go_ret
      all_goals refine ⟨ret_bool ?_, ((Kept.refl No w).alloc _).alloc _⟩
      all_goals simp_all [lessP]
    · have hb : (a == c) = false := by simpa using h
      go_enter Try.func22, Try.ntmps22
      go_wp2
      all_goals go_ret
      all_goals refine ⟨ret_bool ?_, ((Kept.refl No w).alloc _).alloc _⟩
      all_goals simp_all [lessP]

def ltP (ps : List (Int × Int)) (i j : Nat) : Bool := lessP (pAt ps i) (pAt ps j)
def bestP (ps : List (Int × Int)) : Int × Int := pAt ps (bi (ltP ps) (ps.length - 1))
def BestOutP (w : World) (ps : List (Int × Int)) (e : Ending) (w' : World) : Prop :=
  e = .returned (.tuple #[stV (bestP ps).1 (bestP ps).2, .bool true]) ∧ Kept No w w'

theorem best_step {ps : List (Int × Int)} {k : Nat} : (lessP (pAt ps (bi (ltP ps) k)) (pAt ps (k + 1)) = true → pAt ps (bi (ltP ps) (k + 1)) = pAt ps (k + 1)) ∧ (lessP (pAt ps (bi (ltP ps) k)) (pAt ps (k + 1)) = false → pAt ps (bi (ltP ps) (k + 1)) = pAt ps (bi (ltP ps) k)) :=
  ⟨fun h => by rw [bi_yes (lt := ltP ps) h], fun h => by rw [bi_no (lt := ltP ps) h]⟩

set_option maxHeartbeats 2000000 in
theorem bestP_any (a : Option Addr) (n cap : Nat) (ps : List (Int × Int)) (w : World) (hs : ps.length = n + 1) (hn : n + 1 ≤ 8796093021952) (hcap : n + 1 < cap) (hm : cap ≤ 9223372036854775807) (h : Sts w a ps) :
    Calls Try.prog 36 #[.func (.func 21) #[] #[], .slice a (n + 1) cap] w (BestOutP w ps) := by
  have HS : Hid (ps.length = n + 1) := hs
  have H1 : Hid (Sts w a ps) := h
  obtain ⟨b, off, rfl, _⟩ := h 0 (by omega)
  clear hs h
  have HC : Hid (∀ wr, Kept No w wr → ∀ i, i < n + 1 → wr.cell? ⟨b, off + i * 2, none⟩ = some (.int .i64 (pAt ps i).1) ∧ wr.cell? ⟨b, off + i * 2 + 1, none⟩ = some (.int .i64 (pAt ps i).2)) := fun wr hk i hi => by
    obtain ⟨b', o', e, hc⟩ := (H1.out.no hk) i (by rw [HS.out]; exact hi)
    cases e; exact hc
  have HLs : Hid (∀ a b c d w, Calls Try.prog 21 #[stV a b, stV c d] w fun e w' => e = .returned (.bool (lessP (a, b) (c, d))) ∧ Kept No w w') := less_any
  have hb0 : ((n : Int) + 1 == 0) = false := by simp; omega
  have hc1 : ¬ cap = 1 := by omega
  obtain ⟨w0, hw0⟩ : ∃ w0, w0 = w.alloc (.cells #[.int .i64 0, .int .i64 0] 47) := ⟨_, rfl⟩
  have HK0 : Hid (Kept No w w0) := by rw [hw0]; exact (Kept.refl No w).alloc _
  obtain ⟨c0, c1⟩ := HC.out w0 HK0.out 0 (by omega)
  rw [Nat.zero_mul, Nat.add_zero] at c0 c1
  rw [hw0] at c0 c1
  have hz : Hid (pAt ps 0 = pAt ps (bi (ltP ps) 0)) := rfl
  generalize pAt ps 0 = xx at c0 c1 hz
  obtain ⟨x0, x1⟩ := xx
  simp only at c0 c1
  go_enter Try.func36, Try.ntmps36
  go_wp2
  obtain ⟨w1, hw1⟩ : ∃ w1, w1 = (w.alloc (.cells #[.int .i64 0, .int .i64 0] 47)).alloc (.cells #[.int .i64 x0, .int .i64 x1] 47) := ⟨_, rfl⟩
  rw [← hw1]
  have HK1 : Hid (Kept No w w1) := by rw [hw1]; exact ((Kept.refl No w).alloc _).alloc _
  have HB1 : Hid (Box w1 w.heap.size 47 #[.int .i64 0, .int .i64 0]) := by rw [hw1]; exact (Box.new _ _ _).alloc _
  have HB2 : Hid (Box w1 (w.heap.size + 1) 47 #[.int .i64 x0, .int .i64 x1]) := by
    have h1 : (w.alloc (.cells #[.int .i64 0, .int .i64 0] 47)).heap.size = w.heap.size + 1 := by simp
    rw [hw1, ← h1]; exact Box.new _ _ _
  clear hw1 hw0 c0 c1
  go_loopw [20] (fun vi wr => ∃ k : Nat, vi = .int .i64 k ∧ k ≤ n ∧ Hid (Box wr w.heap.size 47 #[.int .i64 0, .int .i64 0]) ∧ Hid (Box wr (w.heap.size + 1) 47 #[.int .i64 (pAt ps (bi (ltP ps) k)).1, .int .i64 (pAt ps (bi (ltP ps) k)).2]) ∧ Hid (Kept No w wr)) (fun i _ => n - (intOf i).toNat)
  case atStart => exact ⟨0, by go_num, by omega, HB1, by rw [← hz.out]; exact HB2, HK1⟩
  case round =>
    obtain ⟨k, rfl, hk, HA, HB, HK⟩ := hrel
    clear HB1 HB2 HK1 HK0
    by_cases hlt : k < n
    · have hlt' : (k : Int) < (n : Int) := by omega
      obtain ⟨e1, e2⟩ := HC.out wr HK.out (k + 1) (by omega)
      rw [show off + (k + 1) * 2 = off + 2 + k * 2 by omega] at e1 e2
      have HY : Hid _ := @best_step ps k
      generalize pAt ps (bi (ltP ps) k) = p at HB HY
      generalize pAt ps (k + 1) = q at e1 e2 HY
      obtain ⟨p1, p2⟩ := p
      obtain ⟨q1, q2⟩ := q
      simp only at e1 e2 HB
      obtain ⟨w5, hw5⟩ : ∃ w5, w5 = wr.alloc (.cells #[.int .i64 q1, .int .i64 q2] 47) := ⟨_, rfl⟩
      have HK5 : Hid (Kept No w w5) := by rw [hw5]; exact HK.out.alloc _
      have HA5 : Hid (Box w5 w.heap.size 47 #[.int .i64 0, .int .i64 0]) := by rw [hw5]; exact HA.out.alloc _
      have HB5 : Hid (Box w5 (w.heap.size + 1) 47 #[.int .i64 p1, .int .i64 p2]) := by rw [hw5]; exact HB.out.alloc _
      have HQ5 : Hid (Box w5 wr.heap.size 47 #[.int .i64 q1, .int .i64 q2]) := by rw [hw5]; exact Box.new _ _ _
      have d0 := HB5.out.cell 0
      have d1 := HB5.out.cell 1
      simp only [List.getElem?_toArray, List.getElem?_cons_zero, List.getElem?_cons_succ] at d0 d1
      rw [hw5] at d0 d1
      cases hb : lessP (p1, p2) (q1, q2) with
      | true =>
        have HU : Hid (pAt ps (bi (ltP ps) (k + 1)) = (q1, q2)) := HY.out.1 hb
        clear HY
        go_wp2_with (go_at_call 21
                     rw [← hw5]
                     refine Calls.mono (HLs.out p1 p2 q1 q2 w5) ?_
                     rintro e w6 ⟨rfl, hk6⟩
                     rw [hb]
                     have HK6 : Hid (Kept No w w6) := HK5.out.then hk6
                     have HA6 : Hid (Box w6 w.heap.size 47 #[.int .i64 0, .int .i64 0]) := HA5.out.kept hk6 (fun e => e)
                     have HB6 : Hid (Box w6 (w.heap.size + 1) 47 #[.int .i64 p1, .int .i64 p2]) := HB5.out.kept hk6 (fun e => e)
                     have HQ6 : Hid (Box w6 wr.heap.size 47 #[.int .i64 q1, .int .i64 q2]) := HQ5.out.kept hk6 (fun e => e)
                     have g0 := HQ6.out.cell 0
                     have g1 := HQ6.out.cell 1
                     simp only [List.getElem?_toArray, List.getElem?_cons_zero, List.getElem?_cons_succ] at g0 g1
                     have d0' := HB6.out.cell 0
                     have d1' := HB6.out.cell 1
                     simp only [List.getElem?_toArray, List.getElem?_cons_zero, List.getElem?_cons_succ] at d0' d1'
                     have f0 := HB6.out.frozen 0
                     have f1 := HB6.out.frozen 1
                     clear hk6 d0 d1 hw5)
        go_roundw
        case rel =>
          refine ⟨k + 1, by go_num, by omega, ?_, ?_, ?_⟩
          · exact ((HA6.out.other (by simp) _).other (by simp) _)
          · rw [HU.out]
            exact ((HB6.out.set 0 (.int .i64 q1)).set 1 (.int .i64 q2))
          · exact ((HK6.out.setCell (p := ⟨w.heap.size + 1, 0, none⟩) (fun h => by have : w.heap.size + 1 < w.heap.size := h; omega) _).setCell (p := ⟨w.heap.size + 1, 1, none⟩) (fun h => by have : w.heap.size + 1 < w.heap.size := h; omega) _)
        case measure => simp [intOf]; omega
      | false =>
        have HU : Hid (pAt ps (bi (ltP ps) (k + 1)) = (p1, p2)) := HY.out.2 hb
        clear HY
        go_wp2_with (go_at_call 21
                     rw [← hw5]
                     refine Calls.mono (HLs.out p1 p2 q1 q2 w5) ?_
                     rintro e w6 ⟨rfl, hk6⟩
                     rw [hb]
                     have HK6 : Hid (Kept No w w6) := HK5.out.then hk6
                     have HA6 : Hid (Box w6 w.heap.size 47 #[.int .i64 0, .int .i64 0]) := HA5.out.kept hk6 (fun e => e)
                     have HB6 : Hid (Box w6 (w.heap.size + 1) 47 #[.int .i64 p1, .int .i64 p2]) := HB5.out.kept hk6 (fun e => e)
                     clear hk6 d0 d1 hw5)
        go_roundw
        case rel => exact ⟨k + 1, by go_num, by omega, HA6, by rw [HU.out]; exact HB6, HK6⟩
        case measure => simp [intOf]; omega
    · have hlt' : ¬ (k : Int) < (n : Int) := by omega
      obtain rfl : k = n := by omega
      have HE : Hid (bestP ps = pAt ps (bi (ltP ps) k)) := by show pAt ps (bi (ltP ps) (ps.length - 1)) = _; rw [HS.out, Nat.add_sub_cancel]
      generalize pAt ps (bi (ltP ps) k) = p at HB HE
      obtain ⟨p1, p2⟩ := p
      simp only at HB
      have d0 := HB.out.cell 0
      have d1 := HB.out.cell 1
      have a0 := HA.out.cell 0
      have a1 := HA.out.cell 1
      simp only [List.getElem?_toArray, List.getElem?_cons_zero, List.getElem?_cons_succ] at d0 d1 a0 a1
      have f0 := HA.out.frozen 0
      have f1 := HA.out.frozen 1
      go_wp2
      have hB2 := (HA.out.set 0 (.int .i64 p1)).set 1 (.int .i64 p2)
      have r0 := hB2.cell 0
      have r1 := hB2.cell 1
      simp only [List.getElem?_toArray, List.getElem?_cons_zero, List.getElem?_cons_succ, List.setIfInBounds_toArray, List.set_cons_zero, List.set_cons_succ] at r0 r1
      refine bodyPost_ret (v := .tuple #[stV p1 p2, .bool true]) (by simp [results, Try.results36, go_sem, r0, r1]) rfl ⟨by rw [HE.out], ?_⟩
      exact ((HK.out.setCell (p := ⟨w.heap.size, 0, none⟩) (fun h => by have : w.heap.size < w.heap.size := h; omega) _).setCell (p := ⟨w.heap.size, 1, none⟩) (fun h => by have : w.heap.size < w.heap.size := h; omega) _)

theorem bestP_nil (cap : Nat) (a : Option Addr) (w : World) :
    Calls Try.prog 36 #[.func (.func 21) #[] #[], .slice a 0 cap] w fun e w' => e = .returned (.tuple #[stV 0 0, .bool false]) ∧ Kept No w w' := by
  go_enter Try.func36, Try.ntmps36
  go_wp2
  all_goals exact bodyPost_ret (v := .tuple #[stV 0 0, .bool false]) (by simp [results, Try.results36, go_sem]) rfl ⟨rfl, by
    first
      | exact ((Kept.refl No w).alloc _).alloc _
      | exact ((((Kept.refl No w).alloc _).alloc _).setCell (p := ⟨w.heap.size, 0, none⟩) (fun h => by have : w.heap.size < w.heap.size := h; omega) _).setCell (p := ⟨w.heap.size, 1, none⟩) (fun h => by have : w.heap.size < w.heap.size := h; omega) _⟩

/-- The greatest of some. -/
def maxP (ps : List (Int × Int)) : Int × Int := if ps = [] then (0, 0) else bestP ps
def MaxOut (w : World) (ps : List (Int × Int)) (e : Ending) (w' : World) : Prop := e = .returned (stV (maxP ps).1 (maxP ps).2) ∧ Kept No w w'
def PairOut (w : World) (p : Int × Int) (ok : Bool) (e : Ending) (w' : World) : Prop := e = .returned (.tuple #[stV p.1 p.2, .bool ok]) ∧ Kept No w w'

theorem max_gen (v : Value) (p : Int × Int) (ok : Bool) (ps : List (Int × Int)) (w : World) (hp : maxP ps = p) (h : ∀ W, Kept No w W → Calls Try.prog 36 #[.func (.func 21) #[] #[], v] W (PairOut W p ok)) :
    Calls Try.prog 23 #[v] w (MaxOut w ps) := by
  have H : Hid (∀ W, Kept No w W → Calls Try.prog 36 #[.func (.func 21) #[] #[], v] W (PairOut W p ok)) := h
  have HP : Hid (maxP ps = p) := hp
  clear h hp
  obtain ⟨p1, p2⟩ := p
  go_enter Try.func23, Try.ntmps23
  go_wp2_with (go_at_call 36
               refine Calls.mono (H.out _ ((Kept.refl No w).alloc _)) ?_
               rintro e w1 ⟨rfl, hk⟩
               have HK1 : Hid (Kept No w w1) := ((Kept.refl No w).alloc _).then hk
               have HB1 : Hid (Box w1 w.heap.size 47 #[.int .i64 0, .int .i64 0]) := (Box.new w 47 _).kept hk (fun e => e)
               have HB2 : Hid (Box (w1.alloc (.cells #[.int .i64 p1, .int .i64 p2] 47)) w.heap.size 47 #[.int .i64 0, .int .i64 0]) := HB1.out.alloc _
               have a0 := HB2.out.cell 0
               have a1 := HB2.out.cell 1
               simp only [List.getElem?_toArray, List.getElem?_cons_zero, List.getElem?_cons_succ] at a0 a1
               have f0 := HB2.out.frozen 0
               have f1 := HB2.out.frozen 1
               simp only
               clear hk)
  have hB2 := (HB2.out.set 0 (.int .i64 p1)).set 1 (.int .i64 p2)
  have r0 := hB2.cell 0
  have r1 := hB2.cell 1
  simp only [List.getElem?_toArray, List.getElem?_cons_zero, List.getElem?_cons_succ, List.setIfInBounds_toArray, List.set_cons_zero, List.set_cons_succ] at r0 r1
  refine bodyPost_ret (v := stV p1 p2) (by simp [results, Try.results23, go_sem, r0, r1]) rfl ⟨by rw [HP.out], ?_⟩
  exact (((HK1.out.alloc _).setCell (p := ⟨w.heap.size, 0, none⟩) (fun h => by have : w.heap.size < w.heap.size := h; omega) _).setCell (p := ⟨w.heap.size, 1, none⟩) (fun h => by have : w.heap.size < w.heap.size := h; omega) _)

theorem max_any (a : Option Addr) (n cap : Nat) (ps : List (Int × Int)) (w : World) (hs : ps.length = n) (hn : n ≤ 8796093021952) (hcap : n < cap) (hm : cap ≤ 9223372036854775807) (h : Sts w a ps) :
    Calls Try.prog 23 #[.slice a n cap] w (MaxOut w ps) := by
  rcases Nat.eq_zero_or_pos n with h0 | h0
  · subst h0
    obtain rfl : ps = [] := List.length_eq_zero_iff.1 hs
    exact max_gen _ (0, 0) false [] w rfl (fun W hk => bestP_nil cap a W)
  · obtain ⟨m, rfl⟩ : ∃ m, n = m + 1 := ⟨n - 1, by omega⟩
    exact max_gen _ (bestP ps) true ps w (by unfold maxP; rw [if_neg (fun e => by rw [e] at hs; cases hs)]) (fun W hk => bestP_any a m cap ps W hs hn hcap hm (h.no hk))
theorem max_nil (w : World) : Calls Try.prog 23 #[.slice none 0 0] w (MaxOut w []) :=
  max_gen _ (0, 0) false [] w rfl (fun W hk => bestP_nil 0 none W)

end Go.Proofs.Ytmhjbkpojndhkaa
