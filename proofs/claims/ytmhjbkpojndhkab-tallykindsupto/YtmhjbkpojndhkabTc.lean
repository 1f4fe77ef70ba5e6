import Derived.Test.YtmhjbkpojndhkabTb
namespace Go.Proofs.Ytmhjbkpojndhkab
open Go.RowKit
set_option linter.unusedVariables false
set_option linter.unusedSimpArgs false

theorem tmap_no {x : TS} {s : Int} (h : s ∉ x.g) : tmap x s = none := if_neg h
theorem tmap_some {x : TS} {s v : Int} (h : s ∈ x.g) (hv : x.v s = some v) : tmap x s = some (.agg #[.bool true, .int .i64 v]) := by unfold tmap; rw [if_pos h, hv]; rfl
theorem tmap_none {x : TS} {s : Int} (h : s ∈ x.g) (hv : x.v s = none) : tmap x s = some (.agg #[.bool false, .int .i64 0]) := by unfold tmap; rw [if_pos h, hv]; rfl

theorem look_no {x : TS} {s : Int} (h : s ∉ x.g) : tupOk ((tmap x s).getD (.agg #[.bool false, .int .i64 0])) (tmap x s).isSome true = .tuple #[.agg #[.bool false, .int .i64 0], .bool false] := by
  rw [tmap_no h]; rfl
theorem look_some {x : TS} {s v : Int} (h : s ∈ x.g) (hv : x.v s = some v) : tupOk ((tmap x s).getD (.agg #[.bool false, .int .i64 0])) (tmap x s).isSome true = .tuple #[.agg #[.bool true, .int .i64 v], .bool true] := by
  rw [tmap_some h hv]; rfl
theorem look_none {x : TS} {s : Int} (h : s ∈ x.g) (hv : x.v s = none) : tupOk ((tmap x s).getD (.agg #[.bool false, .int .i64 0])) (tmap x s).isSome true = .tuple #[.agg #[.bool false, .int .i64 0], .bool true] := by
  rw [tmap_none h hv]; rfl

def TakeOut (w : World) (t b cap : Nat) (a : Option Addr) (x : TS) (s v : Int) (e : Ending) (w' : World) : Prop :=
  e = .returned (.bool (takeB x s)) ∧ Tal w' t b a cap (takeS x s v) ∧ Kept (Tb2 t b) w w'

theorem takeNo {x : TS} {s v : Int} (h : mayB x s = false) : takeB x s = false ∧ takeS x s v = x := by
  unfold takeB takeS; rw [h]; exact ⟨rfl, rfl⟩

set_option maxHeartbeats 1000000 in
theorem take_any (t b cap : Nat) (a : Option Addr) (x : TS) (s v : Int) (w : World) (h : Tal w t b a cap x) :
    Calls Try.prog 18 #[.pointer (some ⟨t, 0, none⟩), .int .i64 s, .int .i64 v] w (TakeOut w t b cap a x s v) := by
  have HT : Hid (Tal w t b a cap x) := h
  obtain ⟨c0, c1, c2, c3⟩ := h.cells
  clear c0 c1 c2
  by_cases hs : s ∈ x.g
  · cases hv : x.v s with
    | some u =>
      have hN : Hid (takeB x s = false ∧ takeS x s v = x) := takeNo (by unfold mayB; simp [hv])
      have HL : Hid _ := look_some hs hv
      clear h hs hv
      go_enter Try.func18, Try.ntmps18
      go_wp2_with (refine wp_lookupV rfl _ _ 89 93 true rfl b s rfl rfl HT.out.map Try.und89 (Try.zero93 _) _ HL.out ?_)
      go_ret
      have hk := (Kept.refl No w).alloc (.cells #[.bool true, .int .i64 u] 93)
      exact ⟨ret_bool hN.out.1.symm, by rw [hN.out.2]; exact HT.out.no hk, hk.of_no⟩
    | none =>
      have HL : Hid _ := look_none hs hv
      obtain ⟨w1, hw1⟩ : ∃ w1, w1 = w.alloc (.cells #[.bool false, .int .i64 0] 93) := ⟨_, rfl⟩
      have HK1 : Hid (Kept No w w1) := by rw [hw1]; exact (Kept.refl No w).alloc _
      have HT1 : Hid (Tal w1 t b a cap x) := HT.out.no HK1.out
      by_cases hE : enB x = true
      · have hN : Hid (takeB x s = false ∧ takeS x s v = x) := takeNo (by unfold mayB; simp [hE])
        have HE : Hid (enB x = true) := hE
        clear h hs hv hE
        go_enter Try.func18, Try.ntmps18
        go_wp2_with (first
          | (refine wp_lookupV rfl _ _ 89 93 true rfl b s rfl rfl HT.out.map Try.und89 (Try.zero93 _) _ HL.out ?_)
          | (go_at_call 23
             rw [← hw1]
             refine Calls.mono (enough_any t b cap a x w1 HT1.out) ?_
             rintro e w2 ⟨rfl, ⟨n, rfl⟩⟩
             rw [HE.out]))
        go_ret
        have hk := HK1.out.drewN n
        rw [hw1] at hk
        exact ⟨ret_bool hN.out.1.symm, by rw [hN.out.2]; exact HT.out.no hk, hk.of_no⟩
      · have HE : Hid (enB x = false) := by cases h : enB x; rfl; exact absurd h hE
        have hM : Hid (takeB x s = enB (putS x s v) ∧ takeS x s v = putS x s v ∧ cnt (putS x s v) = cnt x + 1) := by
          have hm : mayB x s = true := by unfold mayB; simp [hs, hv, HE.out]
          have hc := cnt_put (v := v) h.nd hs hv
          refine ⟨?_, by unfold takeS; rw [if_pos hm], hc⟩
          unfold takeB enB
          rw [hm, hc, Bool.true_and]
          exact decide_eq_decide.2 (by simp only [putS]; omega)
        have HS : Hid (updG (tmap x) s (some (ansV (some v))) = tmap (putS x s v)) := tmap_put hs
        have hcl := cnt_le x
        have hgl := h.len
        have hcb : (cnt x : Int) ≤ 17592186043904 := by omega
        have hc0 : (0 : Int) ≤ cnt x := by omega
        clear h hs hv hE hcl hgl
        have HC : Hid ((cnt x : Int) ≤ 17592186043904 ∧ (0 : Int) ≤ cnt x) := ⟨hcb, hc0⟩
        go_enter Try.func18, Try.ntmps18
        go_wp2_with (first
          | (refine wp_lookupV rfl _ _ 89 93 true rfl b s rfl rfl HT.out.map Try.und89 (Try.zero93 _) _ HL.out ?_)
          | (go_at_call 23
             have htok := hw1
             rw [← hw1]
             refine Calls.mono (enough_any t b cap a x w1 HT1.out) ?_
             rintro e w2 ⟨rfl, ⟨n, hw2⟩⟩
             rw [HE.out]
             have HK2 : Hid (Kept No w w2) := by rw [hw2]; exact HK1.out.drewN n
             have HT2 : Hid (Tal w2 t b a cap x) := HT.out.no HK2.out
             have d3 := HT2.out.cells.2.2.2
             clear hw2 hw1 htok c3)
          | (refine wp_updateV rfl _ _ _ 89 93 rfl b s (ansV (some v)) rfl rfl rfl HT2.out.map Try.und89 ?_
             intro w3 HM3 HK3 hs3
             have HB3 : Hid (Box w3 t 91 (talC a cap b x)) := HT2.out.box.kept HK3.out (fun e => HT2.out.ne e)
             have e2 := HB3.out.cell 2
             have f2 := HB3.out.frozen 2
             simp only [talC, List.getElem?_toArray, List.getElem?_cons_zero, List.getElem?_cons_succ] at e2
             obtain ⟨w4, hw4⟩ : ∃ w4, w4 = w3.setCell ⟨t, 2, none⟩ (.int .i64 (cnt x + 1)) := ⟨_, rfl⟩
             have HB4 : Hid (Box w4 t 91 (talC a cap b (putS x s v))) := by
               rw [hw4]
               have := HB3.out.set 2 (.int .i64 (cnt x + 1))
               unfold talC at this ⊢
               rw [hM.out.2.2]
               exact this
             have HK4 : Hid (Kept (Tb2 t b) w w4) := by
               rw [hw4]
               exact (HK2.out.trans HK3.out (fun _ e => e.elim) (fun _ _ e => .inr e)).setCell (p := ⟨t, 2, none⟩) (fun _ => .inl rfl) _
             have HT4 : Hid (Tal w4 t b a cap (putS x s v)) := by
               refine ⟨HB4.out, ?_, ?_, HT.out.nd, HT.out.len⟩
               · have := HM3.out
                 rw [HS.out] at this
                 rw [hw4]
                 exact this.kept ((Kept.refl (Only t) w3).setCell (p := ⟨t, 2, none⟩) (fun _ => rfl) _) (fun e => HT.out.ne e.symm)
               · exact HT.out.row.kept HK4.out (fun k hk e => by
                   obtain ⟨h1, h2⟩ := HT.out.off hk
                   rcases e with e | e
                   · exact h1 e
                   · exact h2 e)
             clear HM3 HK3 hs3 HB4 d3)
          | (go_at_call 23
             rw [← hw4]
             refine Calls.mono (enough_any t b cap a (putS x s v) w4 HT4.out) ?_
             rintro e w5 ⟨rfl, ⟨n5, hw5⟩⟩
             have HK5 : Hid (Kept (Tb2 t b) w w5) := by rw [hw5]; exact HK4.out.drewN n5
             have HT5 : Hid (Tal w5 t b a cap (putS x s v)) := by rw [hw5]; exact HT4.out.no (Kept.no_drewN _ _)
             clear hw5 hw4))
        go_ret
        exact ⟨ret_bool hM.out.1.symm, by rw [hM.out.2.1]; exact HT5.out, HK5.out⟩
  · have hN : Hid (takeB x s = false ∧ takeS x s v = x) := takeNo (by unfold mayB; simp [hs])
    have HL : Hid _ := look_no hs
    clear h hs
    go_enter Try.func18, Try.ntmps18
    go_wp2_with (refine wp_lookupV rfl _ _ 89 93 true rfl b s rfl rfl HT.out.map Try.und89 (Try.zero93 _) _ HL.out ?_)
    go_ret
    have hk := (Kept.refl No w).alloc (.cells #[.bool false, .int .i64 0] 93)
    exact ⟨ret_bool hN.out.1.symm, by rw [hN.out.2]; exact HT.out.no hk, hk.of_no⟩

end Go.Proofs.Ytmhjbkpojndhkab
