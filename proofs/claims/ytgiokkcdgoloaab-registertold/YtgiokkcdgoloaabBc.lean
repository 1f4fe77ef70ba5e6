import Derived.Test.YtgiokkcdgoloaabBb
namespace Go.Proofs.Ytgiokkcdgoloaab
open Go.RowKit
set_option linter.unusedVariables false
set_option linter.unusedSimpArgs false

/-- Has it another stamp? -/
def otherB (g p : Bk) : Bool := !(p.n == g.n && p.c == g.c)
set_option maxRecDepth 100000 in
set_option maxHeartbeats 2000000 in
theorem other_any (gb : Nat) (g p : Bk) (w : World) (hb : Box w gb 31 #[.int .i64 g.n, .int .i64 g.c, .slice g.a g.l g.k]) :
    Calls Try.prog 92 #[bkV p, .pointer (some ⟨gb, 0, none⟩)] w fun e w' => e = .returned (.bool (otherB g p)) ∧ Kept No w w' := by
  obtain ⟨p1, p2, p3, p4, p5⟩ := p
  obtain ⟨g1, g2, g3, g4, g5⟩ := g
  unfold bkV otherB
  simp only at hb ⊢
  have hb1 := hb.alloc (.cells #[.int .i64 p1, .int .i64 p2, .slice p3 p4 p5] 31)
  have c0 := hb1.cell 0
  have c1 := hb1.cell 1
  simp only [List.getElem?_toArray, List.getElem?_cons_zero, List.getElem?_cons_succ] at c0 c1
  have q := neqStamp
  clear hb hb1
  go_enter Try.func92, Try.ntmps92
  go_wp2
  go_ret
  exact ⟨ret_bool (by simp), (Kept.refl No w).alloc _⟩

theorem any_snoc {α : Type} (f : α → Bool) (l : List α) (x : α) : (l ++ [x]).any f = (l.any f || f x) := by simp
theorem pAt_take {ps : List Bk} {k : Nat} (h : k < ps.length) : ps.take (k + 1) = ps.take k ++ [pAt ps k] := by
  rw [List.take_succ_eq_append_getElem h, pAt, List.getElem?_eq_getElem h]; rfl

set_option maxRecDepth 100000 in
set_option maxHeartbeats 4000000 in
theorem index_any (a : Option Addr) (n cap gb : Nat) (ps : List Bk) (g : Bk) (w : World) (hl : ps.length = n) (hn : n ≤ 2000000000000) (h : Sts w a ps) (hb : Box w gb 31 #[.int .i64 g.n, .int .i64 g.c, .slice g.a g.l g.k]) :
    Calls Try.prog 95 #[.slice a n cap, .func (.func 92) #[] #[.pointer (some ⟨gb, 0, none⟩)]] w fun e w' => (∃ r : Int, e = .returned (.int .i64 r) ∧ decide (0 ≤ r) = ps.any (otherB g)) ∧ Kept No w w' := by
  have HS : Hid (Sts w a ps) := h
  have HL : Hid (ps.length = n) := hl
  have HO : Hid (∀ (p : Bk) wr, Kept No w wr → Calls Try.prog 92 #[bkV p, .pointer (some ⟨gb, 0, none⟩)] wr fun e w' => e = .returned (.bool (otherB g p)) ∧ Kept No wr w') := fun p wr hk => other_any gb g p wr (hb.kept hk (fun e => e))
  clear h hl hb
  go_enter Try.func95, Try.ntmps95
  go_wp2
  go_loopw [8] (fun vi wr => ∃ k : Nat, vi = .int .i64 k ∧ k ≤ n ∧ Hid ((ps.take k).any (otherB g) = false) ∧ Hid (Kept No w wr)) (fun i _ => n - (intOf i).toNat)
  case atStart => exact ⟨0, by go_num, by omega, (by show _ = _; simp), Kept.refl _ _⟩
  case round =>
    obtain ⟨k, rfl, hk, HA, HK⟩ := hrel
    by_cases hlt : k < n
    · have hlt' : (k : Int) < (n : Int) := by omega
      obtain ⟨b, off, rfl, c0, c1, c2⟩ := (HS.out.no HK.out) k (by rw [HL.out]; exact hlt)
      have HTk : Hid (ps.take (k + 1) = ps.take k ++ [pAt ps k]) := pAt_take (by rw [HL.out]; exact hlt)
      have HMem : Hid (pAt ps k ∈ ps) := by
        have hk' : k < ps.length := by rw [HL.out]; exact hlt
        show pAt ps k ∈ ps
        unfold pAt
        rw [List.getElem?_eq_getElem hk']
        exact List.getElem_mem hk'
      generalize pAt ps k = p at c0 c1 c2 HTk HMem
      cases hp : otherB g p with
      | true =>
        have HP : Hid (otherB g p = true) := hp
        go_wp2_with (go_at_call 92
                     refine Calls.mono (HO.out p wr HK.out) ?_
                     rintro e w2 ⟨rfl, hk2⟩
                     rw [HP.out]
                     have HK2 : Hid (Kept No w w2) := HK.out.then hk2
                     clear hk2)
        go_ret
        refine ⟨⟨_, rfl, ?_⟩, HK2.out⟩
        have : ps.any (otherB g) = true := List.any_eq_true.2 ⟨p, HMem.out, HP.out⟩
        rw [this]
        simp
      | false =>
        have HP : Hid (otherB g p = false) := hp
        go_wp2_with (go_at_call 92
                     refine Calls.mono (HO.out p wr HK.out) ?_
                     rintro e w2 ⟨rfl, hk2⟩
                     rw [HP.out]
                     have HK2 : Hid (Kept No w w2) := HK.out.then hk2
                     clear hk2)
        go_roundw
        case rel => exact ⟨k + 1, by go_num, by omega, (by show _ = _; rw [HTk.out, any_snoc, HA.out, HP.out]; rfl), HK2⟩
        case measure => simp [intOf]; omega
    · have hlt' : ¬ (k : Int) < (n : Int) := by omega
      obtain rfl : k = n := by omega
      go_wp2
      go_ret
      refine ⟨⟨_, rfl, ?_⟩, HK.out⟩
      have h := HA.out
      rw [List.take_of_length_le (by rw [HL.out]; omega)] at h
      rw [h]
      rfl

set_option maxRecDepth 100000 in
set_option maxHeartbeats 4000000 in
theorem contains_any (a : Option Addr) (n cap gb : Nat) (ps : List Bk) (g : Bk) (w : World) (hl : ps.length = n) (hn : n ≤ 2000000000000) (h : Sts w a ps) (hb : Box w gb 31 #[.int .i64 g.n, .int .i64 g.c, .slice g.a g.l g.k]) :
    Calls Try.prog 93 #[.slice a n cap, .func (.func 92) #[] #[.pointer (some ⟨gb, 0, none⟩)]] w fun e w' => e = .returned (.bool (ps.any (otherB g))) ∧ Kept No w w' := by
  have HI : Hid _ := index_any a n cap gb ps g w hl hn h hb
  clear h hl hb
  go_enter Try.func93, Try.ntmps93
  go_wp2_with (go_at_call 95
               refine Calls.mono HI.out ?_
               rintro e w2 ⟨⟨r, rfl, hr⟩, hk2⟩
               have HR : Hid (decide (0 ≤ r) = ps.any (otherB g)) := hr
               have HK2 : Hid (Kept No w w2) := hk2
               clear hr hk2)
  all_goals go_ret
  all_goals refine ⟨ret_bool ?_, HK2.out⟩
  all_goals rw [← HR.out]
  all_goals simp_all

end Go.Proofs.Ytgiokkcdgoloaab
