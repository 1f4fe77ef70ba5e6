import Derived.Test.YtgiokkcdgoloaabMc
namespace Go.Proofs.Ytgiokkcdgoloaab
open Go.RowKit
set_option linter.unusedVariables false
set_option linter.unusedSimpArgs false


set_option maxRecDepth 100000 in
set_option maxHeartbeats 2000000 in
theorem take_anyB (t b cap : Nat) (a : Option Addr) (x : TS Bk) (s : Int) (v : Bk) (w : World) (h : Tal 153 ansB w t b a cap x) :
    Calls Try.prog 83 #[.pointer (some ⟨t, 0, none⟩), .int .i64 s, .agg #[.int .i64 v.n, .int .i64 v.c, .slice v.a v.l v.k]] w (TakeOutB w t b cap a x s v) := by
  obtain ⟨w0, hw0⟩ : ∃ w0, w0 = w.alloc (.cells #[.int .i64 v.n, .int .i64 v.c, .slice v.a v.l v.k] 31) := ⟨_, rfl⟩
  have HK0 : Hid (Kept No w w0) := by rw [hw0]; exact (Kept.refl No w).alloc _
  have HT : Hid (Tal 153 ansB w0 t b a cap x) := h.no HK0.out
  obtain ⟨N, hN⟩ : ∃ N, N = w.heap.size := ⟨_, rfl⟩
  have HX : Hid (Box w0 N 31 #[.int .i64 v.n, .int .i64 v.c, .slice v.a v.l v.k]) := by rw [hw0, hN]; exact Box.new _ _ _
  have hlt := h.map.lt
  have htl := h.box.lt
  have HNe : Hid (N ≠ t ∧ N ≠ b) := by rw [hN]; exact ⟨by omega, by omega⟩
  clear hlt htl
  obtain ⟨c0, c1, c2, c3⟩ := HT.out.cells
  rw [hw0] at c3
  clear c0 c1 c2
  by_cases hs : s ∈ x.g
  · cases hv : x.v s with
    | some u =>
      have hN' : Hid (takeB x s = false ∧ takeS x s v = x) := takeNo (by unfold mayB; simp [hv])
      have HL : Hid _ := look_someB hs hv
      clear h hs hv
      go_enter Try.func83, Try.ntmps83
      go_wp2_with (refine wp_lookupV rfl _ _ 151 155 true rfl b s rfl rfl (by rw [← hw0]; exact HT.out.map) Try.und151 (Try.zero155 _) _ HL.out ?_)
      go_ret
      rw [← hw0]
      have hk := (Kept.refl No w0).alloc (.cells #[.bool true, .int .i64 u.n, .int .i64 u.c, .slice u.a u.l u.k] 155)
      exact ⟨ret_bool hN'.out.1.symm, by rw [hN'.out.2]; exact HT.out.no hk, (HK0.out.then hk).of_no⟩
    | none =>
      have HL : Hid _ := look_noneB hs hv
      obtain ⟨w1, hw1⟩ : ∃ w1, w1 = w0.alloc (.cells #[.bool false, .int .i64 0, .int .i64 0, .slice none 0 0] 155) := ⟨_, rfl⟩
      have HK1 : Hid (Kept No w0 w1) := by rw [hw1]; exact (Kept.refl No w0).alloc _
      have HT1 : Hid (Tal 153 ansB w1 t b a cap x) := HT.out.no HK1.out
      by_cases hE : enB x = true
      · have hN' : Hid (takeB x s = false ∧ takeS x s v = x) := takeNo (by unfold mayB; simp [hE])
        have HE : Hid (enB x = true) := hE
        clear h hs hv hE
        go_enter Try.func83, Try.ntmps83
        go_wp2_with (first
          | (refine wp_lookupV rfl _ _ 151 155 true rfl b s rfl rfl (by rw [← hw0]; exact HT.out.map) Try.und151 (Try.zero155 _) _ HL.out ?_)
          | (go_at_call 81
             rw [← hw0, ← hw1]
             refine Calls.mono (enough_anyB t b cap a x w1 HT1.out) ?_
             rintro e w2 ⟨rfl, ⟨n, hw2⟩⟩
             have HK2 : Hid (Kept No w w2) := by rw [hw2]; exact (HK0.out.then HK1.out).drewN n
             have HT2 : Hid (Tal 153 ansB w2 t b a cap x) := by rw [hw2]; exact HT1.out.no (Kept.no_drewN _ _)
             rw [HE.out]
             clear hw2 hw1))
        go_ret
        exact ⟨ret_bool hN'.out.1.symm, by rw [hN'.out.2]; exact HT2.out, HK2.out.of_no⟩
      · have HE : Hid (enB x = false) := by cases h : enB x; rfl; exact absurd h hE
        have hM : Hid (takeB x s = enB (putS x s v) ∧ takeS x s v = putS x s v ∧ cnt (putS x s v) = cnt x + 1) := by
          have hm : mayB x s = true := by unfold mayB; simp [hs, hv, HE.out]
          have hc := cnt_put (v := v) h.nd hs hv
          refine ⟨?_, by unfold takeS; rw [if_pos hm], hc⟩
          unfold takeB enB
          rw [hm, hc, Bool.true_and]
          exact decide_eq_decide.2 (by simp only [putS]; omega)
        have HS : Hid (updG (tmap ansB x) s (some (ansB (some v))) = tmap ansB (putS x s v)) := tmap_put hs
        have hcl := cnt_le x
        have hgl := h.len
        have hcb : (cnt x : Int) ≤ 17592186043904 := by omega
        have hc0 : (0 : Int) ≤ cnt x := by omega
        clear h hs hv hE hcl hgl
        have HC : Hid ((cnt x : Int) ≤ 17592186043904 ∧ (0 : Int) ≤ cnt x) := ⟨hcb, hc0⟩
        go_enter Try.func83, Try.ntmps83
        go_upto_region 4 with (first
          | (refine wp_lookupV rfl _ _ 151 155 true rfl b s rfl rfl (by rw [← hw0]; exact HT.out.map) Try.und151 (Try.zero155 _) _ HL.out ?_)
          | (go_at_call 81
             rw [← hw0, ← hw1]
             refine Calls.mono (enough_anyB t b cap a x w1 HT1.out) ?_
             rintro e w2 ⟨rfl, ⟨n, hw2⟩⟩
             have HK2 : Hid (Kept No w0 w2) := by rw [hw2]; exact HK1.out.drewN n
             have HT2 : Hid (Tal 153 ansB w2 t b a cap x) := HT.out.no HK2.out
             have HX2 : Hid (Box w2 N 31 #[.int .i64 v.n, .int .i64 v.c, .slice v.a v.l v.k]) := HX.out.kept HK2.out (fun e => e)
             rw [HE.out]
             clear hw2 hw1))
        rw [← hN]
        clear hw0 hN c3
        have d3 := HT2.out.cells.2.2.2
        obtain ⟨x0, x1, x2⟩ : w2.cell? ⟨N, 0, none⟩ = some (.int .i64 v.n) ∧ w2.cell? ⟨N, 1, none⟩ = some (.int .i64 v.c) ∧ w2.cell? ⟨N, 2, none⟩ = some (.slice v.a v.l v.k) := ⟨HX2.out.cell 0, HX2.out.cell 1, HX2.out.cell 2⟩
        have h3 : Try.prog.underlying 3 = some (.int .i64) := Try.und3
        obtain ⟨w3, hrun, hM3, hK3, hs3⟩ := run_update_v (P := Try.prog) (w := w2.drew) (HT2.out.no (Kept.refl No w2).drew).map Try.und151 h3 s (ansB (some v))
        have HM3 : Hid (MapIs w3 b (updG (tmap ansB x) s (some (ansB (some v))))) := hM3
        have HK3 : Hid (Kept (Only b) w2.drew w3) := hK3
        have HB3 : Hid (Box w3 t 153 (talC a cap b x)) := (HT2.out.no (Kept.refl No w2).drew).box.kept hK3 (fun e => HT2.out.ne e)
        have z3 : w3.cell? ⟨t, 3, none⟩ = some (.map (some b)) := HB3.out.cell 3
        have HX3 : Hid (Box w3 N 31 #[.int .i64 v.n, .int .i64 v.c, .slice v.a v.l v.k]) := (HX2.out.kept (Kept.refl No w2).drew (fun e => e)).kept hK3 (fun e => HNe.out.2 e)
        obtain ⟨y0, y1, y2⟩ : w3.cell? ⟨N, 0, none⟩ = some (.int .i64 v.n) ∧ w3.cell? ⟨N, 1, none⟩ = some (.int .i64 v.c) ∧ w3.cell? ⟨N, 2, none⟩ = some (.slice v.a v.l v.k) := ⟨HX3.out.cell 0, HX3.out.cell 1, HX3.out.cell 2⟩
        unfold ansB at hrun
        clear hM3 hK3 hs3 h3
        go_region_held3 (fun w' => w'.cell? ⟨t, 3, none⟩ = some (.map (some b)) ∧ w'.cell? ⟨N, 0, none⟩ = some (.int .i64 v.n) ∧ w'.cell? ⟨N, 1, none⟩ = some (.int .i64 v.c) ∧ w'.cell? ⟨N, 2, none⟩ = some (.slice v.a v.l v.k)) (first | go_keep | exact ⟨z3, y0, y1, y2⟩) (fail)
        have e2 := HB3.out.cell 2
        have f2 := HB3.out.frozen 2
        simp only [talC, List.getElem?_toArray, List.getElem?_cons_zero, List.getElem?_cons_succ] at e2
        obtain ⟨w4, hw4⟩ : ∃ w4, w4 = w3.setCell ⟨t, 2, none⟩ (.int .i64 (cnt x + 1)) := ⟨_, rfl⟩
        have HB4 : Hid (Box w4 t 153 (talC a cap b (putS x s v))) := by
          rw [hw4]
          have := HB3.out.set 2 (.int .i64 (cnt x + 1))
          unfold talC at this ⊢
          rw [hM.out.2.2]
          exact this
        have HK4 : Hid (Kept (Tb2 t b) w0 w4) := by
          rw [hw4]
          exact ((HK2.out.drew).trans HK3.out (fun _ e => e.elim) (fun _ _ e => .inr e)).setCell (p := ⟨t, 2, none⟩) (fun _ => .inl rfl) _
        have HT4 : Hid (Tal 153 ansB w4 t b a cap (putS x s v)) := by
          refine ⟨HB4.out, ?_, ?_, HT.out.nd, HT.out.len, HT.out.ty⟩
          · have := HM3.out
            rw [HS.out] at this
            rw [hw4]
            exact this.kept ((Kept.refl (Only t) w3).setCell (p := ⟨t, 2, none⟩) (fun _ => rfl) _) (fun e => HT.out.ne e.symm)
          · exact HT.out.row.kept HK4.out (fun k hk e => by
              obtain ⟨h1, h2⟩ := HT.out.off hk
              rcases e with e | e
              · exact h1 e
              · exact h2 e)
        clear HM3 HB4 d3 z3 hrun
        go_wp2_with (first
          | (go_at_call 81
             rw [← hw4]
             refine Calls.mono (enough_anyB t b cap a (putS x s v) w4 HT4.out) ?_
             rintro e w5 ⟨rfl, ⟨n5, hw5⟩⟩
             have HK5 : Hid (Kept (Tb2 t b) w w5) := by rw [hw5]; exact HK0.out.of_no.then (HK4.out.drewN n5)
             have HT5 : Hid (Tal 153 ansB w5 t b a cap (putS x s v)) := by rw [hw5]; exact HT4.out.no (Kept.no_drewN _ _)
             clear hw5 hw4))
        go_ret
        exact ⟨ret_bool hM.out.1.symm, by rw [hM.out.2.1]; exact HT5.out, HK5.out⟩
  · have hN' : Hid (takeB x s = false ∧ takeS x s v = x) := takeNo (by unfold mayB; simp [hs])
    have HL : Hid _ := look_noB hs
    clear h hs
    go_enter Try.func83, Try.ntmps83
    go_wp2_with (refine wp_lookupV rfl _ _ 151 155 true rfl b s rfl rfl (by rw [← hw0]; exact HT.out.map) Try.und151 (Try.zero155 _) _ HL.out ?_)
    go_ret
    rw [← hw0]
    have hk := (Kept.refl No w0).alloc (.cells #[.bool false, .int .i64 0, .int .i64 0, .slice none 0 0] 155)
    exact ⟨ret_bool hN'.out.1.symm, by rw [hN'.out.2]; exact HT.out.no hk, (HK0.out.then hk).of_no⟩

end Go.Proofs.Ytgiokkcdgoloaab
