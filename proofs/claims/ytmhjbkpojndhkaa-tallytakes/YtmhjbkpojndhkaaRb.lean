import Derived.Test.YtmhjbkpojndhkaaRa
namespace Go.Proofs.Ytmhjbkpojndhkaa
open Go.RowKit
set_option linter.unusedVariables false
set_option linter.unusedSimpArgs false

theorem own_ne {W : World} {t t' c c' b b' n n' cap cap' : Nat} {a a' : Option Addr} {vs vs' : List Value} (h : Own t c W b a cap n vs) (h' : Own t' c' W b' a' cap' n' vs') (htt : t ≠ t') {k : Nat} (hk : At a k) : ¬ At a' k := by
  rintro ⟨ad', rfl, e'⟩
  obtain ⟨ad, rfl, e⟩ := hk
  rcases h.2 with ⟨e1, _⟩ | ⟨g, _, cur, e1, _, hg, _⟩
  · cases e1
  · rcases h'.2 with ⟨e2, _⟩ | ⟨g', _, cur', e2, _, hg', _⟩
    · cases e2
    · cases e1; cases e2
      have : g = g' := by have := e.trans e'.symm; exact this
      rw [this, hg'] at hg
      simp at hg
      exact htt hg.2.symm

theorem Own.setAt {t : TypeId} {w : World} {base g cap n : Nat} {vs : List Value} (h : Own t 1 w base (some ⟨g, 0, none⟩) cap n vs) (i : Nat) (v : Value) (hi : i < n) : Own t 1 (w.setCell ⟨g, i, none⟩ v) base (some ⟨g, 0, none⟩) cap n (vs.set i v) := by
  refine ⟨by rw [List.length_set]; exact h.1, ?_⟩
  rcases h.2 with ⟨e, _⟩ | ⟨g', cap', cur, e, hb, hg, hle, hm, hs, ht⟩
  · cases e
  · cases e
    refine .inr ⟨g, cap, cur.setIfInBounds i v, rfl, hb, heap_setCell_same w g i _ t v hg, hle, hm, by simpa using hs, ?_⟩
    rw [← ht]
    simp [List.take_set]

theorem map_set {g : List Int} {f f' : Int → Value} {s : Int} {k : Nat} (hn : g.Nodup) (hk : k < g.length) (hs : g[k]?.getD 0 = s) (hf : ∀ m, m ≠ s → f' m = f m) : g.map f' = (g.map f).set k (f' s) := by
  apply List.ext_getElem?
  intro i
  rw [List.getElem?_map, List.getElem?_set, List.getElem?_map, List.length_map]
  by_cases e : k = i
  · subst e
    rw [if_pos rfl, if_pos hk, List.getElem?_eq_getElem hk]
    rw [List.getElem?_eq_getElem hk] at hs
    simp at hs
    simp [hs]
  · rw [if_neg e]
    by_cases hi : i < g.length
    · rw [List.getElem?_eq_getElem hi]
      have hne : g[i] ≠ s := by
        intro e2
        rw [List.getElem?_eq_getElem hk] at hs
        simp at hs
        exact e ((List.getElem_inj hn).1 (hs.trans e2.symm))
      simp [hf _ hne]
    · rw [List.getElem?_eq_none (by omega)]; rfl
theorem hRow_put {x : TS} {s v : Int} {k : Nat} (hn : x.g.Nodup) (hk : k < x.g.length) (hs : x.g[k]?.getD 0 = s) : hRow (putS x s v) = (hRow x).set k (.bool true) := by
  have := map_set (f := fun m => Value.bool (x.v m).isSome) (f' := fun m => Value.bool ((putS x s v).v m).isSome) hn hk hs (fun m hm => by simp [putS, hm])
  unfold hRow
  show x.g.map _ = _
  rw [this]
  simp [putS]
theorem vRow_put {x : TS} {s v : Int} {k : Nat} (hn : x.g.Nodup) (hk : k < x.g.length) (hs : x.g[k]?.getD 0 = s) : vRow (putS x s v) = (vRow x).set k (.int .i64 v) := by
  have := map_set (f := fun m => Value.int .i64 ((x.v m).getD 0)) (f' := fun m => Value.int .i64 (((putS x s v).v m).getD 0)) hn hk hs (fun m hm => by simp [putS, hm])
  unfold vRow
  show x.g.map _ = _
  rw [this]
  simp [putS]

theorem Rf.off {w : World} {r cg cv ch : Nat} {ag av ah : Option Addr} {x : TS} (h : Rf w r ag cg av cv ah ch x) : (∀ k, At ah k → k ≠ r ∧ ¬ At ag k ∧ ¬ At av k) ∧ (∀ k, At av k → k ≠ r ∧ ¬ At ag k ∧ ¬ At ah k) :=
  ⟨fun k hk => ⟨box_row h.box (by decide) h.hr hk, own_ne h.hr h.gr (by decide) hk, own_ne h.hr h.vr (by decide) hk⟩,
   fun k hk => ⟨box_row h.box (by decide) h.vr hk, fun e => h.gv k e hk, own_ne h.vr h.hr (by decide) hk⟩⟩

theorem Rf.put {w : World} {r cg cv ch hb vb : Nat} {ag : Option Addr} {x : TS} {s v : Int} {k : Nat} (h : Rf w r ag cg (some ⟨vb, 0, none⟩) cv (some ⟨hb, 0, none⟩) ch x) (hk : k < x.g.length) (hs : x.g[k]?.getD 0 = s) :
    Rf ((w.setCell ⟨hb, k, none⟩ (.bool true)).setCell ⟨vb, k, none⟩ (.int .i64 v)) r ag cg (some ⟨vb, 0, none⟩) cv (some ⟨hb, 0, none⟩) ch (putS x s v) := by
  obtain ⟨o1, o2⟩ := h.off
  have k1 : Kept (Only hb) w (w.setCell ⟨hb, k, none⟩ (.bool true)) := (Kept.refl (Only hb) w).setCell (p := ⟨hb, k, none⟩) (fun _ => rfl) _
  have k2 : Kept (Only vb) (w.setCell ⟨hb, k, none⟩ (.bool true)) ((w.setCell ⟨hb, k, none⟩ (.bool true)).setCell ⟨vb, k, none⟩ (.int .i64 v)) := (Kept.refl (Only vb) _).setCell (p := ⟨vb, k, none⟩) (fun _ => rfl) _
  have ahb : At (some ⟨hb, 0, none⟩) hb := ⟨_, rfl, rfl⟩
  have avb : At (some ⟨vb, 0, none⟩) vb := ⟨_, rfl, rfl⟩
  refine ⟨?_, ?_, ?_, ?_, h.gv, h.nd, h.len⟩
  · exact (h.box.kept k1 (fun e => (o1 hb ahb).1 (Eq.symm e))).kept k2 (fun e => (o2 vb avb).1 (Eq.symm e))
  · exact (h.gr.kept k1 (fun q hq e => (o1 hb ahb).2.1 (e ▸ hq))).kept k2 (fun q hq e => (o2 vb avb).2.1 (e ▸ hq))
  · rw [vRow_put h.nd hk hs]
    exact (h.vr.kept k1 (fun q hq e => (o1 hb ahb).2.2 (e ▸ hq))).setAt k _ hk
  · rw [hRow_put h.nd hk hs]
    exact (h.hr.setAt k _ hk).kept k2 (fun q hq e => (o2 vb avb).2.2 (e ▸ hq))

def RTake (w : World) (r cg cv ch : Nat) (ag av ah : Option Addr) (x : TS) (s v : Int) (e : Ending) (w' : World) : Prop :=
  e = .returned (.bool (takeB x s)) ∧ Rf w' r ag cg av cv ah ch (takeS x s v) ∧ Kept (Rw2 av ah) w w'

set_option maxHeartbeats 2000000 in
theorem rtake_any (r cg cv ch : Nat) (ag av ah : Option Addr) (x : TS) (s v : Int) (w : World) (h : Rf w r ag cg av cv ah ch x) :
    Calls Try.prog 15 #[.pointer (some ⟨r, 0, none⟩), .int .i64 s, .int .i64 v] w (RTake w r cg cv ch ag av ah x s v) := by
  have HR : Hid (Rf w r ag cg av cv ah ch x) := h
  obtain ⟨c0, c1, c2, c3⟩ := h.cells
  have HP : Hid (Calls Try.prog 32 #[.slice ag x.g.length cg, .int .i64 s] w (PlaceOut w x.g s)) := place_any ag x.g.length cg x.g s w rfl (by have := h.len; omega) (h.gr.nums rfl)
  have hlen := h.len
  by_cases hs : s ∈ x.g
  · obtain ⟨k, hk, hks⟩ : ∃ k : Nat, k < x.g.length ∧ x.g[k]?.getD 0 = s := by
      obtain ⟨k, hk, e⟩ := List.getElem_of_mem hs
      exact ⟨k, hk, by rw [List.getElem?_eq_getElem hk]; exact e⟩
    have HPk : Hid (Calls Try.prog 32 #[.slice ag x.g.length cg, .int .i64 s] w fun e w' => e = .returned (.int .i64 k) ∧ w' = w) := Calls.mono HP.out (fun e w' ⟨hh, hw⟩ => by
      refine ⟨?_, hw⟩
      rcases hh with ⟨hn, _⟩ | ⟨j, hj, hv, he⟩
      · exact absurd hs hn
      · have : j = k := by
          rw [List.getElem?_eq_getElem hj] at hv
          rw [List.getElem?_eq_getElem hk] at hks
          exact (List.getElem_inj h.nd).1 (by simpa using hv.trans hks.symm)
        rw [← this]; exact he)
    obtain ⟨hb, rfl, d1, f1⟩ := h.has hk
    obtain ⟨vb, rfl, d2, f2⟩ := h.val hk
    rw [hks] at d1 d2
    have hk' : (k : Int) < (x.g.length : Int) := by omega
    have hk0 : ¬ ((k : Int) < 0) := by omega
    have hkz : (0 : Int) ≤ (k : Int) := by omega
    cases hv : x.v s with
    | some u =>
      have hN : Hid (takeB x s = false ∧ takeS x s v = x) := takeNo (by unfold mayB; simp [hv])
      rw [hv] at d1
      simp only [Option.isSome_some] at d1
      clear h hs hv HP d2 f2 f1
      go_enter Try.func15, Try.ntmps15
      go_wp2_with (go_at_call 32
                   refine Calls.mono HPk.out ?_
                   rintro e w2 ⟨rfl, hw2⟩
                   rw [hw2]
                   clear hw2)
      go_ret
      exact ⟨ret_bool hN.out.1.symm, by rw [hN.out.2]; exact HR.out, Kept.refl _ _⟩
    | none =>
      rw [hv] at d1
      simp only [Option.isSome_none] at d1
      have HEn : Hid (Calls Try.prog 33 #[.pointer (some ⟨r, 0, none⟩)] w fun e w' => e = .returned (.bool (enB x)) ∧ Kept No w w') := renough_any r cg cv ch ag _ _ x w h
      by_cases hE : enB x = true
      · have hN : Hid (takeB x s = false ∧ takeS x s v = x) := takeNo (by unfold mayB; simp [hE])
        rw [hE] at HEn
        clear h hs hv HP d2 f2 f1 hE
        go_enter Try.func15, Try.ntmps15
        go_wp2_with (first
          | (go_at_call 32
             refine Calls.mono HPk.out ?_
             rintro e w2 ⟨rfl, hw2⟩
             rw [hw2]
             clear hw2)
          | (go_at_call 33
             refine Calls.mono HEn.out ?_
             rintro e w3 ⟨rfl, hk3⟩
             have HK3 : Hid (Kept No w w3) := hk3
             clear hk3))
        go_ret
        exact ⟨ret_bool hN.out.1.symm, by rw [hN.out.2]; exact HR.out.no HK3.out, HK3.out.of_no⟩
      · have hE' : enB x = false := by cases h : enB x; rfl; exact absurd h hE
        rw [hE'] at HEn
        have hM : Hid (takeB x s = enB (putS x s v) ∧ takeS x s v = putS x s v) := by
          have hm : mayB x s = true := by unfold mayB; simp [hs, hv, hE']
          have hc := cnt_put (v := v) h.nd hs hv
          refine ⟨?_, by unfold takeS; rw [if_pos hm]⟩
          unfold takeB enB
          rw [hm, hc, Bool.true_and]
          exact decide_eq_decide.2 (by simp only [putS]; omega)
        have HKk : Hid (k < x.g.length ∧ x.g[k]?.getD 0 = s) := ⟨hk, hks⟩
        clear h hs hv HP hE hE'
        have TA : True := trivial
        go_enter Try.func15, Try.ntmps15
        go_wp2_with (first
          | (go_at_call 32
             refine Calls.mono HPk.out ?_
             rintro e w2 ⟨rfl, hw2⟩
             rw [hw2]
             clear hw2)
          | (go_at_call 33
             have htok := TA
             refine Calls.mono HEn.out ?_
             rintro e w3 ⟨rfl, hk3⟩
             have HK3 : Hid (Kept No w w3) := hk3
             have HR3 : Hid (Rf w3 r ag cg (some ⟨vb, 0, none⟩) cv (some ⟨hb, 0, none⟩) ch x) := HR.out.no hk3
             obtain ⟨_, hbe, d1', f1'⟩ := HR3.out.has HKk.out.1
             cases hbe
             obtain ⟨b0, b1, b2, b3⟩ := HR3.out.cells
             obtain ⟨w4, hw4⟩ : ∃ w4, w4 = w3.setCell ⟨hb, k, none⟩ (.bool true) := ⟨_, rfl⟩
             have HK4 : Hid (Kept (Only hb) w3 w4) := by rw [hw4]; exact (Kept.refl (Only hb) w3).setCell (p := ⟨hb, k, none⟩) (fun _ => rfl) _
             have ahb : At (some ⟨hb, 0, none⟩) hb := ⟨_, rfl, rfl⟩
             obtain ⟨o1, o2⟩ := HR3.out.off
             have HB4 : Hid (Box w4 r 67 #[.slice ag x.g.length cg, .slice (some ⟨vb, 0, none⟩) x.g.length cv, .slice (some ⟨hb, 0, none⟩) x.g.length ch, .int .i64 x.need]) := HR3.out.box.kept HK4.out (fun e => (o1 hb ahb).1 (Eq.symm e))
             have HV4 : Hid (Own 3 1 w4 0 (some ⟨vb, 0, none⟩) cv x.g.length (vRow x)) := HR3.out.vr.kept HK4.out (fun q hq e => (o1 hb ahb).2.2 (e ▸ hq))
             have b1' := HB4.out.cell 1
             simp only [List.getElem?_toArray, List.getElem?_cons_zero, List.getElem?_cons_succ] at b1'
             obtain ⟨_, v4, hve, _, d4, f4⟩ := Own.at1 HV4.out HKk.out.1
             cases hve
             rw [hw4] at b1' d4 f4
             have HRp : Hid (Rf ((w3.setCell ⟨hb, k, none⟩ (.bool true)).setCell ⟨vb, k, none⟩ (.int .i64 v)) r ag cg (some ⟨vb, 0, none⟩) cv (some ⟨hb, 0, none⟩) ch (putS x s v)) := HR3.out.put HKk.out.1 HKk.out.2
             have HKp : Hid (Kept (Rw2 (some ⟨vb, 0, none⟩) (some ⟨hb, 0, none⟩)) w ((w3.setCell ⟨hb, k, none⟩ (.bool true)).setCell ⟨vb, k, none⟩ (.int .i64 v))) := (((HK3.out.of_no : Kept (Rw2 (some ⟨vb, 0, none⟩) (some ⟨hb, 0, none⟩)) w w3).setCell (p := ⟨hb, k, none⟩) (fun _ => .inr ⟨_, rfl, rfl⟩) _).setCell (p := ⟨vb, k, none⟩) (fun _ => .inl ⟨_, rfl, rfl⟩) _)
             clear hk3 o1 o2 HB4 HV4 HK4 htok TA ahb d1 d2 f1 f2 c0 c1 c2 c3 hw4)
          | (go_at_call 33
             refine Calls.mono (renough_any r cg cv ch ag _ _ (putS x s v) _ HRp.out) ?_
             rintro e w6 ⟨rfl, hk6⟩
             have HK6 : Hid (Kept (Rw2 (some ⟨vb, 0, none⟩) (some ⟨hb, 0, none⟩)) w w6) := HKp.out.then hk6.of_no
             have HR6 : Hid (Rf w6 r ag cg (some ⟨vb, 0, none⟩) cv (some ⟨hb, 0, none⟩) ch (putS x s v)) := HRp.out.no hk6
             clear hk6))
        go_ret
        exact ⟨ret_bool hM.out.1.symm, by rw [hM.out.2]; exact HR6.out, HK6.out⟩
  · have hN : Hid (takeB x s = false ∧ takeS x s v = x) := takeNo (by unfold mayB; simp [hs])
    have HPn : Hid (Calls Try.prog 32 #[.slice ag x.g.length cg, .int .i64 s] w fun e w' => e = .returned (.int .i64 (-1)) ∧ w' = w) := Calls.mono HP.out (fun e w' ⟨hh, hw⟩ => by
      refine ⟨?_, hw⟩
      rcases hh with ⟨_, he⟩ | ⟨j, hj, hv, he⟩
      · exact he
      · exact absurd (hv ▸ mem_at hj) hs)
    clear h hs HP
    go_enter Try.func15, Try.ntmps15
    go_wp2_with (go_at_call 32
                 refine Calls.mono HPn.out ?_
                 rintro e w2 ⟨rfl, hw2⟩
                 rw [hw2]
                 clear hw2)
    go_ret
    exact ⟨ret_bool hN.out.1.symm, by rw [hN.out.2]; exact HR.out, Kept.refl _ _⟩

end Go.Proofs.Ytmhjbkpojndhkaa
