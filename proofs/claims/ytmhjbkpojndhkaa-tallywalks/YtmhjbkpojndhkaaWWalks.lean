import Derived.Test.YtmhjbkpojndhkaaWk
import Derived.Test.YtmhjbkpojndhkaaBc
import Derived.StillTailTactics
import Derived.Deep.RegionHeld3
import Derived.Deep.Cut
import Derived.Deep.CutRange
namespace Go.Proofs.Ytmhjbkpojndhkaa
open Go.RowKit Go.Shelf
set_option linter.unusedVariables false
set_option linter.unusedSimpArgs false

attribute [local go_sem] Oper.semAt_some

theorem run_store_fn {P : Program} {w : World} {a : Addr} {m : Mode} (f : Fn) (r b : Array Value) : (store a (.func f r b) m).run P w = stored P w a (.func f r b) m := run_store P w a _ m rfl
attribute [local go_sem] run_store_fn

/-- Ahead of the sequence. -/
structure Wb (w : World) (vs : Value) (stop : Int) (b4 b5 b6 b7 t bm : Nat) (ax : Option Addr) (cx : Nat) (X : TS) (W : World) : Prop where
  v : Box W b4 23 #[vs]
  s : Box W b5 3 #[.int .i64 stop]
  r : Box W b6 4 #[.bool false]
  q : Box W b7 26 #[.pointer (some ⟨t, 0, none⟩)]
  tal : Tal W t bm ax cx X
  k : Kept No w W
theorem Wb.no {w : World} {vs : Value} {stop : Int} {b4 b5 b6 b7 t bm : Nat} {ax : Option Addr} {cx : Nat} {X : TS} {W W' : World} (h : Wb w vs stop b4 b5 b6 b7 t bm ax cx X W) (hk : Kept No W W') : Wb w vs stop b4 b5 b6 b7 t bm ax cx X W' :=
  ⟨h.v.kept hk (fun e => e), h.s.kept hk (fun e => e), h.r.kept hk (fun e => e), h.q.kept hk (fun e => e), h.tal.no hk, h.k.then hk⟩
theorem Wb.take {w : World} {vs : Value} {stop : Int} {b4 b5 b6 b7 t bm : Nat} {ax : Option Addr} {cx : Nat} {X Y : TS} {W W' : World} (h : Wb w vs stop b4 b5 b6 b7 t bm ax cx X W) (hk : Kept (Tb2 t bm) W W') (hT : Tal W' t bm ax cx Y) (h0 : w.heap.size ≤ b4) (h1 : b4 < b5 ∧ b5 < b6 ∧ b6 < bm ∧ bm ≤ t ∧ t < b7 ∧ bm < b7) : Wb w vs stop b4 b5 b6 b7 t bm ax cx Y W' := by
  have ne : ∀ k, k < bm ∨ b7 ≤ k → ¬ Tb2 t bm k := by
    intro k h e
    rcases e with rfl | rfl <;> omega
  exact ⟨h.v.kept hk (ne _ (by omega)), h.s.kept hk (ne _ (by omega)), h.r.kept hk (ne _ (by omega)), h.q.kept hk (ne _ (by omega)), hT, h.k.trans hk (fun _ e => e) (fun i hi e => ne i (by omega) e)⟩

set_option maxRecDepth 100000 in
set_option maxHeartbeats 8000000 in
theorem walksWalk (a0 : Option Addr) (n0 cap0 : Nat) (zs : List Int) (a1 : Option Addr) (n1 cap1 : Nat) (us : List Vo) (stop : Int) (w : World)
    (hz : zs.length = n0) (hn0 : n0 ≤ 17592186043904) (h0 : Nums .i64 w a0 zs) (hu : us.length = n1) (hn1 : n1 ≤ 5864062014634) (h1 : Vts w a1 us) :
    Calls Try.prog 8 #[.slice a0 n0 cap0, .slice a1 n1 cap1, .int .i64 stop] w fun e w' => e = .returned (.bool true) ∧ Below w.heap.size w w' := by
  have HZ : Hid (zs.length = n0) := hz
  have HUl : Hid (us.length = n1) := hu
  have H0 : Hid (Nums .i64 w a0 zs) := h0
  have H1 : Hid (Vts w a1 us) := h1
  have HKn : Hid (∀ w : World, Calls Try.prog 9 #[] w fun e w' => e = .returned (.bool true) ∧ Kept No w w') := known_any
  have HNw : Hid (∀ W, Kept No w W → Calls Try.prog 11 #[.slice a0 n0 cap0, .int .i64 ((n0 : Int) + 1)] W (NewOut W zs ((n0 : Int) + 1))) := fun W hk => new_any a0 n0 cap0 zs _ W hz hn0 (h0.no hk)
  clear hz h0 hu h1
  refine (callsIn_wide (n := 8)).1 ?_
  refine callsIn_of_wp_marks Try.func8 rfl trivial ?_ rfl
  refine wpIn_wide.2 ?_
  simp only [Try.ntmps8, List.size_toArray, List.length_cons, List.length_nil, Nat.reduceAdd, Nat.reduceSub, Array.replicate_succ, Array.replicate_zero, List.push_toArray, List.append_toArray, List.nil_append, List.cons_append]
  go_wp2_with (first
    | (go_at_call 9
       refine Calls.mono (HKn.out _) ?_
       rintro e w1 ⟨rfl, hk1⟩
       have HK1 : Hid _ := hk1
       clear hk1)
    | (go_at_call 11
       refine Calls.mono (HNw.out w1 ((((Kept.refl No w).alloc _).alloc _).alloc _ |>.then HK1.out)) ?_
       rintro e w2 ⟨ax, cx, rfl, hT, hF, hk⟩
       have HT2 : Hid (Tal w2 (w1.heap.size + 1) w1.heap.size ax cx (tNew zs ((n0 : Int) + 1))) := hT
       have HFx : Hid (∀ k, At ax k → w1.heap.size ≤ k) := hF
       have HK2 : Hid (Kept No w1 w2) := hk
       clear hT hF hk))
  obtain ⟨w3, hw3⟩ : ∃ w3, w3 = w2.alloc (.cells #[.pointer (some ⟨w1.heap.size + 1, 0, none⟩)] 26) := ⟨_, rfl⟩
  rw [← hw3]
  have HB3 : Hid (Wb w (.slice a1 n1 cap1) stop w.heap.size (w.heap.size + 1) (w.heap.size + 1 + 1) w2.heap.size (w1.heap.size + 1) w1.heap.size ax cx (tNew zs ((n0 : Int) + 1)) w3) := by
    have k13 := (HK1.out.then HK2.out).then (show Kept No w2 w3 by rw [hw3]; exact (Kept.refl No w2).alloc _)
    have x4 : Box (w.alloc (.cells #[.slice a1 n1 cap1] 23)) w.heap.size 23 #[.slice a1 n1 cap1] := Box.new _ _ _
    have x5 : Box ((w.alloc (.cells #[.slice a1 n1 cap1] 23)).alloc (.cells #[.int .i64 stop] 3)) (w.heap.size + 1) 3 #[.int .i64 stop] := by
      have := Box.new (w.alloc (.cells #[.slice a1 n1 cap1] 23)) 3 #[.int .i64 stop]; rwa [World.size_alloc] at this
    have x6 : Box (((w.alloc (.cells #[.slice a1 n1 cap1] 23)).alloc (.cells #[.int .i64 stop] 3)).alloc (.cells #[.bool false] 4)) (w.heap.size + 1 + 1) 4 #[.bool false] := by
      have := Box.new ((w.alloc (.cells #[.slice a1 n1 cap1] 23)).alloc (.cells #[.int .i64 stop] 3)) 4 #[.bool false]; rwa [World.size_alloc, World.size_alloc] at this
    refine ⟨((x4.alloc _).alloc _).kept k13 (fun e => e), (x5.alloc _).kept k13 (fun e => e), x6.kept k13 (fun e => e), ?_, ?_, ((((Kept.refl No w).alloc _).alloc _).alloc _).then k13⟩
    · rw [hw3]; exact Box.new _ _ _
    · rw [hw3]; exact HT2.out.no ((Kept.refl No w2).alloc _)
  have HLt : Hid (∀ k, TB (w1.heap.size + 1) w1.heap.size ax k → w1.heap.size ≤ k ∧ k < w2.heap.size) := fun k hk => by
    refine ⟨?_, HT2.out.lt hk⟩
    rcases hk with rfl | rfl | hk
    · omega
    · omega
    · exact HFx.out k hk
  have HO : Hid (w.heap.size + 1 + 1 < w1.heap.size) := by
    have := HK1.out.size
    simp only [World.size_alloc] at this
    show _ < _
    omega
  have HC0 : Hid (cnt (tNew zs ((n0 : Int) + 1)) ≤ 0) := by rw [cnt_new]; exact Nat.le_refl _
  have HV : Hid (∀ W, Kept No w W → Vts W a1 us) := fun W hk => H1.out.no hk
  clear hw3 HK1 HK2 HT2 HFx HNw HKn H0 H1
  generalize tNew zs ((n0 : Int) + 1) = T0 at HB3 HC0
  obtain ⟨b4, hb4⟩ : ∃ b4, b4 = w.heap.size := ⟨_, rfl⟩
  obtain ⟨b5, hb5⟩ : ∃ b5, b5 = b4 + 1 := ⟨_, rfl⟩
  obtain ⟨b6, hb6⟩ : ∃ b6, b6 = b5 + 1 := ⟨_, rfl⟩
  obtain ⟨t, ht⟩ : ∃ t, t = w1.heap.size + 1 := ⟨_, rfl⟩
  rw [← hb4, ← hb5, ← hb6, ← ht] at HB3
  rw [← hb4, ← hb5, ← hb6] at HO
  rw [← ht] at HLt
  rw [← hb4, ← hb5, ← hb6, ← ht]
  have HOr : Hid (w.heap.size ≤ b4 ∧ b4 < b5 ∧ b5 < b6 ∧ b6 < w1.heap.size ∧ w1.heap.size ≤ t ∧ t < w2.heap.size ∧ w1.heap.size < w2.heap.size) := ⟨by omega, by omega, by omega, HO.out, by omega, (HLt.out t (.inl rfl)).2, (HLt.out _ (.inr (.inl rfl))).2⟩
  clear hb4 hb5 hb6 ht HO
  generalize w1.heap.size = bm at HB3 HLt HOr
  generalize w2.heap.size = b7 at HB3 HLt HOr ⊢
  have hq1 : 0 ≤ (n1 : Int) / 2 := by omega
  have hq2 : (n1 : Int) / 2 ≤ 5864062014634 := by omega
  go_loopw [8] (fun vi wx => ∃ k : Nat, vi = .int .i64 k ∧ (k : Int) ≤ (n1 : Int) / 2 ∧ Hid (∃ X, Wb w (.slice a1 n1 cap1) stop b4 b5 b6 b7 t bm ax cx X wx ∧ cnt X ≤ k)) (fun i _ => n1 - (intOf i).toNat)
  case atStart => exact ⟨0, by go_num, by omega, ⟨T0, HB3.out, HC0.out⟩⟩
  case round =>
    obtain ⟨k, rfl, hk1, HI⟩ := hrel
    obtain ⟨X, hX, hXc⟩ := HI.out
    have HX : Hid (Wb w (.slice a1 n1 cap1) stop b4 b5 b6 b7 t bm ax cx X wr) := hX
    have HXc : Hid (cnt X ≤ k) := hXc
    have c4 := hX.v.cell 0
    have c7 := hX.q.cell 0
    simp only [List.getElem?_toArray, List.getElem?_cons_zero] at c4 c7
    clear hX hXc HI HB3 HC0
    by_cases hlt : (k : Int) < (n1 : Int) / 2
    · have hk0 : (0 : Int) ≤ (k : Int) := by omega
      have hkn : (k : Int) < (n1 : Int) := by omega
      go_upto_region 9 with fail
      have HX5 : Hid (Wb w (.slice a1 n1 cap1) stop b4 b5 b6 b7 t bm ax cx X wr.drew) := HX.out.no ((Kept.refl No wr).drew)
      have d4 := HX5.out.v.cell 0
      have d7 := HX5.out.q.cell 0
      simp only [List.getElem?_toArray, List.getElem?_cons_zero] at d4 d7
      obtain ⟨b, off, rfl, e1, e2, e3⟩ := (HV.out wr.drew HX5.out.k) k (by rw [HUl.out]; omega)
      generalize vAt us k = u at e1 e2 e3
      obtain ⟨s, v, lk⟩ := u
      simp only at e1 e2 e3
      clear e3
      have HTk : Hid (Calls Try.prog 14 #[.pointer (some ⟨t, 0, none⟩), .int .i64 s, .int .i64 v] wr.drew (TakeOut wr.drew t bm cx ax X s v)) := take_any _ _ _ _ X s v _ HX5.out.tal
      have HXt : Hid (cnt (takeS X s v) ≤ k + 1) := Nat.le_trans (take_cnt HX5.out.tal.nd) (Nat.succ_le_succ HXc.out)
      refine wp_region_still_tail 11 (by kernel_rfl) (by kernel_rfl) ?_
      simp only [List.take_succ_cons, List.take_zero, List.drop_succ_cons, List.drop_zero]
      change wpStill _ _ wr.drew _ _ _
      still_step
      still_step
      still_step
      still_step
      still_step
      still_step
      still_step
      still_step
      still_step
      still_step
      still_step
      refine wpStill_nil ?_
      clear e1 e2 c4 c7 d4 d7
      go_wp2_with (go_at_call 14
                   refine Calls.mono HTk.out ?_
                   rintro e w6 ⟨rfl, hT6, hk6⟩
                   have HX6 : Hid (Wb w (.slice (some ⟨b, off, none⟩) n1 cap1) stop b4 b5 b6 b7 t bm ax cx (takeS X s v) w6) := HX5.out.take hk6 hT6 HOr.out.1 HOr.out.2
                   clear hT6 hk6)
      go_roundw
      case rel => exact ⟨k + 1, by go_num, by omega, ⟨_, HX6.out, HXt.out⟩⟩
      case measure => simp [intOf]; omega
    · have HXb : Hid (cnt X ≤ 8796093022208) := by have := HXc.out; show _ ≤ _; omega
      have HGt : Hid (∀ W, Kept No wr W → Calls Try.prog 27 #[.pointer (some ⟨t, 0, none⟩)] W (GotsOut W (gotL X))) := fun W hk => got_any _ _ _ _ X W (HX.out.tal.no hk) HXb.out
      have HGg : Hid (∀ W, Kept No wr W → Calls Try.prog 29 #[.pointer (some ⟨t, 0, none⟩)] W (GotOut W (gotL X))) := fun W hk => gotten_any _ _ _ _ X W (HX.out.tal.no hk) HXb.out
      have HPl : Hid ((gotL X).length ≤ 8796093022208) := by rw [gotL_len]; exact HXb.out
      have HX7 : Hid (∀ W, Kept No wr W → W.cell? ⟨b7, 0, none⟩ = some (.pointer (some ⟨t, 0, none⟩))) := fun W hk => by
        have := (HX.out.no hk).q.cell 0
        simpa using this
      generalize gotL X = ps at HGt HGg HPl
      obtain ⟨m, hm⟩ : ∃ m, m = ps.length := ⟨_, rfl⟩
      have HM : Hid (ps.length = m) := hm.symm
      rw [← hm] at HPl
      have hfn := fn_nil
      clear HXb HXc hk1
      go_upto_region 11 with (go_at_call 27
                              refine Calls.mono (HGt.out wr (Kept.refl _ _)) ?_
                              rintro e w4 ⟨ra, ca, rb, cb, rfl, ho1, ho2, hk4, hd⟩
                              rw [← hm] at ho1 ho2
                              have HR1 : Hid (Own 3 1 w4 wr.heap.size ra ca m ((ps.map Prod.fst).map (Value.int .i64))) := ho1
                              have HR2 : Hid (Own 3 1 w4 wr.heap.size rb cb m ((ps.map Prod.snd).map (Value.int .i64))) := ho2
                              have HK4 : Hid (Kept No wr w4) := hk4
                              rw [← hm]
                              clear ho1 ho2 hk4 hd)
      obtain ⟨w5, hw5⟩ : ∃ w5, w5 = (w4.alloc (.cells #[.slice ra m ca] 22)).alloc (.cells #[.slice rb m cb] 22) := ⟨_, rfl⟩
      first | rw [← hw5] | (rw [← hm, ← hw5])
      have HK5 : Hid (Kept No wr w5) := by rw [hw5]; exact (HK4.out.alloc _).alloc _
      have d7 := HX7.out w5 HK5.out
      have h45 : Hid (w5.heap.size = w4.heap.size + 1 + 1) := by rw [hw5]; simp [Hid]
      have HB9 : Hid (Box w5 w4.heap.size 22 #[.slice ra m ca]) := by rw [hw5]; exact (Box.new _ _ _).alloc _
      have HB10 : Hid (Box w5 (w4.heap.size + 1) 22 #[.slice rb m cb]) := by
        have := Box.new (w4.alloc (.cells #[.slice ra m ca] 22)) 22 #[.slice rb m cb]
        rw [World.size_alloc] at this
        rw [hw5]; exact this
      have HRa : Hid (Own 3 1 w5 wr.heap.size ra ca m ((ps.map Prod.fst).map (Value.int .i64))) := by rw [hw5]; exact HR1.out.no (((Kept.refl No w4).alloc _).alloc _)
      have HRb : Hid (Own 3 1 w5 wr.heap.size rb cb m ((ps.map Prod.snd).map (Value.int .i64))) := by rw [hw5]; exact HR2.out.no (((Kept.refl No w4).alloc _).alloc _)
      have HRl : Hid (∀ k, At ra k ∨ At rb k → k < w4.heap.size) := by
        have gen : ∀ (a : Option Addr) c (l : List Int), l.length = m → Own 3 1 w4 wr.heap.size a c m (l.map (Value.int .i64)) → ∀ k, At a k → k < w4.heap.size := by
          intro a c l hl ho k hk
          rcases ho.cases (by rw [List.length_map, hl]; omega) with ⟨rfl, _⟩ | ⟨g, rfl, _, hlt, _⟩
          · exact absurd hk At.none
          · obtain ⟨ad, e, rfl⟩ := hk
            cases e; exact hlt
        rintro k (hk | hk)
        · exact gen ra ca _ (by rw [List.length_map, hm]) HR1.out k hk
        · exact gen rb cb _ (by rw [List.length_map, hm]) HR2.out k hk
      clear HR1 HR2 hw5 HGt
      go_upto_region 12 with (go_at_call 29
                              refine Calls.mono (HGg.out w5 HK5.out) ?_
                              rintro e w6 ⟨sa, sc, rfl, hb6, ho6, hk6⟩
                              have HS6 : Hid (SeqAt w6 w5.heap.size sa sc ps) := ⟨hb6, Own.lower ho6 (Nat.zero_le _)⟩
                              have HS6b : Hid (∀ k, SB w5.heap.size sa k → w5.heap.size ≤ k) := fun k hk => by
                                rcases hk with rfl | hk
                                · exact Nat.le_refl _
                                · exact ho6.base hk
                              have HK6 : Hid (Kept No w5 w6) := hk6
                              clear hb6 ho6 hk6)
      obtain ⟨w7, hw7⟩ : ∃ w7, w7 = w6.alloc (.cells #[.func (.func 37) #[] #[.pointer (some ⟨w5.heap.size, 0, none⟩)]] 56) := ⟨_, rfl⟩
      rw [← hw7]
      have HK7 : Hid (Kept No w6 w7) := by rw [hw7]; exact (Kept.refl No w6).alloc _
      have HB12 : Hid (Box w7 w6.heap.size 56 #[.func (.func 37) #[] #[.pointer (some ⟨w5.heap.size, 0, none⟩)]]) := by rw [hw7]; exact Box.new _ _ _
      have h67 : Hid (w7.heap.size = w6.heap.size + 1) := by rw [hw7]; simp [Hid]
      have d12 := HB12.out.cell 0
      simp only [List.getElem?_toArray, List.getElem?_cons_zero] at d12
      clear hw7 d7 c4 c7
      go_upto_region 15 with fail
      obtain ⟨w8, hw8⟩ : ∃ w8, w8 = w7.alloc (.cells #[.int .i64 0] 3) := ⟨_, rfl⟩
      rw [← hw8]
      -- PART2
      have K58 : Kept No w5 w8 := by rw [hw8]; exact (HK6.out.then HK7.out).alloc _
      have K78 : Kept No w7 w8 := by rw [hw8]; exact (Kept.refl No w7).alloc _
      have HX8 := HX.out.no (HK5.out.then K58)
      have HB13 : Box w8 w7.heap.size 3 #[.int .i64 0] := by rw [hw8]; exact Box.new _ _ _
      have h78 : w7.heap.size < w8.heap.size := by rw [hw8]; simp
      have HD : Hid (Wd ⟨w, .slice a1 n1 cap1, stop, b4, b5, b6, b7, w4.heap.size, w4.heap.size + 1, w6.heap.size, w7.heap.size, t, bm, ax, cx, ra, ca, rb, cb, w5.heap.size, sa, sc, m, ps⟩) := by
        have q1 := HX.out.q.lt
        have q2 := HK4.out.size
        have q3 := h45.out
        have q4 := h67.out
        have q5 := HOr.out
        refine ⟨q5.1, q5.2.1, q5.2.2.1, q5.2.2.2.1, HLt.out, fun k hk => ⟨?_, HRl.out k hk⟩, (show b7 < w4.heap.size by omega), (show w4.heap.size < w4.heap.size + 1 by omega), fun k hk => ⟨?_, HS6.out.lt hk⟩, (show w6.heap.size < w7.heap.size by omega), HM.out, HPl.out⟩
        · rcases hk with hk | hk
          · have := HRa.out.base hk; show b7 < k; omega
          · have := HRb.out.base hk; show b7 < k; omega
        · have := HS6b.out k hk; show w4.heap.size + 1 < k; omega
      have HA : Hid (Wa ⟨w, .slice a1 n1 cap1, stop, b4, b5, b6, b7, w4.heap.size, w4.heap.size + 1, w6.heap.size, w7.heap.size, t, bm, ax, cx, ra, ca, rb, cb, w5.heap.size, sa, sc, m, ps⟩ 0 w8) := ⟨HX8.v, HX8.s, HX8.r, HX8.q, HB9.out.kept K58 (fun e => e), HB10.out.kept K58 (fun e => e), HB12.out.kept K78 (fun e => e), HB13, (HRa.out.no K58).nums (by rw [List.length_map, hm]), (HRb.out.no K58).nums (by rw [List.length_map, hm]), HS6.out.kept (HK7.out.then K78) (fun _ _ e => e), ⟨X, HX8.tal⟩, HX8.k⟩
      have H13 : Hid (w7.heap.size < w8.heap.size) := h78
      clear hw8 K58 K78 HX8 HB13 h78 HB9 HB10 HB12 HRa HRb HRl HS6 HS6b HK4 HK5 HK6 HK7 h45 h67 HX HX7 HGg HLt HOr d12 hm HM
      generalize w4.heap.size + 1 = b10 at HD HA ⊢
      generalize w4.heap.size = b9 at HD HA ⊢
      generalize w5.heap.size = lb at HD HA ⊢
      generalize w6.heap.size = b12 at HD HA ⊢
      generalize w7.heap.size = b13 at HD HA H13 ⊢
      obtain ⟨⟨c4, c5⟩, ⟨c6, f6⟩, c7, ⟨c9, c10⟩, c12, c13, f13⟩ := HA.out.cells
      clear c4 c5 c6 f6 c7 c9 c10 c13 f13
      go_wp2
      have hm44 := HPl.out
      refine (wpIn_wide (n := 8)).1 ?_
      refine' rf_H (F := Fence.wide) rfl (by omega) (gf := 37) (lb := #[.pointer (some ⟨lb, 0, none⟩)]) rfl trivial (enters_of Try.func37 (by kernel_rfl) rfl)
        (seq_stops Fence.wide (8 - 1) trivial rfl (by omega) lb sc m sa ps hm44 HD.out.len w8 HA.out.sq) nb_t (nb_b HA.out.sq (Nat.le_refl _)) (Below.refl _ _) (fun _ => rfl)
        (fun pre W => Wa ⟨w, .slice a1 n1 cap1, stop, b4, b5, b6, b7, b9, b10, b12, b13, t, bm, ax, cx, ra, ca, rb, cb, lb, sa, sc, m, ps⟩ (pre.length : Int) W)
        (fun c pre _ => c = .ret ∧ ¬ pre <+: ps)
        (wa_own HD.out H13.out _)
        (fun c => ownFrom_pure _ _)
        HA.out
        (fun W => Kept.refl _ W)
        _ ?assign ?body ?done ?stop
      case assign =>
        intro l x W K hK
        gi_wp2
        exact hK
      case stop =>
        rintro D c pre W hD hpre ⟨_, hn⟩ _
        exact absurd hpre hn
      case body =>
        rintro l pre ⟨x1, x2⟩ W hl ⟨r, hr⟩ hI hlen
        have HI : Hid (Wa ⟨w, .slice a1 n1 cap1, stop, b4, b5, b6, b7, b9, b10, b12, b13, t, bm, ax, cx, ra, ca, rb, cb, lb, sa, sc, m, ps⟩ (pre.length : Int) W) := hI
        obtain ⟨ga, oa, gb, ob, y1, y2, ea, eb, ya, yb, hps⟩ := hI.row HD.out.len hlen
        have ea : ra = some ⟨ga, oa, none⟩ := ea
        have eb : rb = some ⟨gb, ob, none⟩ := eb
        have hps : ps[pre.length]? = some (y1, y2) := hps
        subst ea
        subst eb
        have HN : Hid (¬ (x1 = y1 ∧ x2 = y2) → ¬ pre ++ [(x1, x2)] <+: ps) := fun h hp => h (by have := pre_next hp; rw [hps] at this; cases this; exact ⟨rfl, rfl⟩)
        have HL : Hid (((pre ++ [(x1, x2)]).length : Int) = (pre.length : Int) + 1) := by show _ = _; simp
        obtain ⟨j, hj⟩ : ∃ j, j = pre.length := ⟨_, rfl⟩
        have hlenI : (j : Int) < (m : Int) := by omega
        have hmI : (m : Int) ≤ 8796093022208 := by omega
        have hj0 : (0 : Int) ≤ (j : Int) := by omega
        rw [← hj] at HI HL ya yb
        obtain ⟨⟨c4, c5⟩, ⟨c6, f6⟩, c7, ⟨c9, c10⟩, c12, c13, f13⟩ := HI.out.cells
        have HKW : Hid (Kept No W (W.alloc (.cells #[.int .i64 0] 3))) := (Kept.refl No W).alloc _
        have g12 := (HI.out.no HD.out HKW.out).cells.2.2.2.2.1
        have HR : Hid (W.heap[l]? = some (.loop r)) := hr
        clear hI hr hps hlen hj
        simp only
        by_cases e1 : x1 = y1
        · by_cases e2 : x2 = y2
          · subst e1
            subst e2
            gi_wp2
            clear c4 c5 c6 f6 c7 c9 c10 c12 c13 f13 g12 ya yb
            obtain ⟨W1, hW1⟩ : ∃ W1, W1 = W.alloc (.cells #[.int .i64 0] 3) := ⟨_, rfl⟩
            rw [← hW1]
            rw [← hW1] at HKW
            have HI1 : Hid (Wa ⟨w, .slice a1 n1 cap1, stop, b4, b5, b6, b7, b9, b10, b12, b13, t, bm, ax, cx, some ⟨ga, oa, none⟩, ca, some ⟨gb, ob, none⟩, cb, lb, sa, sc, m, ps⟩ (j : Int) W1) := HI.out.no HD.out HKW.out
            have hBm : Box W1 W.heap.size 3 #[.int .i64 0] := by rw [hW1]; exact Box.new _ _ _
            have HKo : Hid (KeepsFrom w8.heap.size W W1) := by rw [hW1]; exact (KeepsOthers.alloc _ _).from _
            have hr1 : W1.heap[l]? = some (.loop r) := by rw [hW1]; exact (Below.heap_alloc W _ l (Array.getElem?_eq_some_iff.1 HR.out).1).trans HR.out
            have H16 : Hid (b13 < W.heap.size ∧ W.heap.size < W1.heap.size) := ⟨HI.out.n.lt, hBm.lt⟩
            have HSz : Hid (W.heap.size ≤ W1.heap.size) := HKW.out.size
            have HSb : Hid (∀ k, SB lb sa k → k < b13) := fun k hk => by have h1 := HD.out.o7 k hk; have h2 := HD.out.o8; exact Nat.lt_trans h1.2 h2
            have HTb : Hid (∀ k, Tb2 t bm k → k < w8.heap.size ∧ ¬ SB lb sa k) := fun k e => by
              have h1 : k < b7 := by
                rcases e with rfl | rfl
                · exact HD.out.nt.2
                · exact HD.out.n7
              have h2 : b7 < b9 := HD.out.o5'
              have h3 : b9 < b10 := HD.out.o6
              have h4 : b10 < b12 := HD.out.n12
              have h5 : b12 < b13 := HD.out.o8
              have h6 := H13.out
              refine ⟨by omega, fun hk => ?_⟩
              have : b10 < k := (HD.out.o7 k hk).1
              omega
            clear hW1 HR
            generalize W.heap.size = b16 at hBm H16 ⊢
            refine' rf_N (F := Fence.wide.inRound l) (l₀ := l) (r₀ := r) rfl hr1 (by omega) (gf := 37) (lb := #[.pointer (some ⟨lb, 0, none⟩)]) rfl trivial (enters_of Try.func37 (by kernel_rfl) rfl)
              ((seq_stops Fence.wide (6 - 1) trivial rfl (by omega) lb sc m sa ps hm44 HD.out.len W1 HI1.out.sq).inRound l) nb_t (nb_b HI1.out.sq (Nat.le_refl _)) (Below.refl _ _) (fun _ => rfl)
              (fun pre' W' => (Wa ⟨w, .slice a1 n1 cap1, stop, b4, b5, b6, b7, b9, b10, b12, b13, t, bm, ax, cx, some ⟨ga, oa, none⟩, ca, some ⟨gb, ob, none⟩, cb, lb, sa, sc, m, ps⟩ (j : Int) W' ∧ Box W' b16 3 #[.int .i64 (pre'.length : Int)]) ∧ (Kept (NB lb sa) W W' ∧ KeepsFrom w8.heap.size W W'))
              (fun c pre' W' => (c = .ret ∧ ¬ pre' <+: ps) ∨ (c = .exit 4 ∧ Wa ⟨w, .slice a1 n1 cap1, stop, b4, b5, b6, b7, b9, b10, b12, b13, t, bm, ax, cx, some ⟨ga, oa, none⟩, ca, some ⟨gb, ob, none⟩, cb, lb, sa, sc, m, ps⟩ (j : Int) W' ∧ (Kept (NB lb sa) W W' ∧ KeepsFrom w8.heap.size W W')))
              (OwnFrom.and (OwnFrom.and (wa_own HD.out (Nat.lt_trans H16.out.1 H16.out.2) _) (box_own H16.out.2 _)) (OwnFrom.and (kept_own HSz.out) (ownFrom_keepsFrom HSz.out)))
              (fun c pre' A B row hs hg hrr => hs.imp id (fun ⟨e, h⟩ => ⟨e, (OwnFrom.and (wa_own HD.out (Nat.lt_trans H16.out.1 H16.out.2) (fun _ : List (Int × Int) => (j : Int))) (OwnFrom.and (kept_own HSz.out) (ownFrom_keepsFrom HSz.out))) pre' A B row h hg hrr⟩))
              ⟨⟨HI1.out, hBm⟩, HKW.out.of_no, HKo.out⟩
              (fun W => Kept.refl _ W)
              _ ?assign2 ?body2 ?done2 ?stop2
            case assign2 =>
              intro l x W K hK
              gi_wp2
              exact hK
            case body2 =>
              rintro l2 pre' ⟨z1, z2⟩ W' hl2 hr2 ⟨⟨hI', hBm'⟩, hKK, hKF⟩ hlen'
              have HI' : Hid (Wa ⟨w, .slice a1 n1 cap1, stop, b4, b5, b6, b7, b9, b10, b12, b13, t, bm, ax, cx, some ⟨ga, oa, none⟩, ca, some ⟨gb, ob, none⟩, cb, lb, sa, sc, m, ps⟩ (j : Int) W') := hI'
              obtain ⟨ga', oa', gb', ob', y1', y2', ea', eb', ya, yb, hps⟩ := hI'.row HD.out.len hlen'
              have ea' : (some ⟨ga, oa, none⟩ : Option Addr) = some ⟨ga', oa', none⟩ := ea'
              have eb' : (some ⟨gb, ob, none⟩ : Option Addr) = some ⟨gb', ob', none⟩ := eb'
              cases ea'
              cases eb'
              have hps : ps[pre'.length]? = some (y1', y2') := hps
              have HN' : Hid (¬ (z1 = y1' ∧ z2 = y2') → ¬ pre' ++ [(z1, z2)] <+: ps) := fun h hp => h (by have := pre_next hp; rw [hps] at this; cases this; exact ⟨rfl, rfl⟩)
              have HL' : Hid (((pre' ++ [(z1, z2)]).length : Int) = (pre'.length : Int) + 1) := by show _ = _; simp
              obtain ⟨i, hi⟩ : ∃ i, i = pre'.length := ⟨_, rfl⟩
              have hiI : (i : Int) < (m : Int) := by have hlen' : pre'.length < m := hlen'; omega
              have hi0 : (0 : Int) ≤ (i : Int) := by omega
              rw [← hi] at HL' ya yb hBm'
              obtain ⟨⟨c4, c5⟩, ⟨c6, f6⟩, c7, ⟨c9, c10⟩, c12, c13, f13⟩ := HI'.out.cells
              have cm := hBm'.cell 0
              have fm := hBm'.frozen 0
              simp only [List.getElem?_toArray, List.getElem?_cons_zero] at cm
              have HB2 : Hid (Box (W'.setCell ⟨b16, 0, none⟩ (.int .i64 ((i : Int) + 1))) b16 3 #[.int .i64 ((i : Int) + 1)]) := hBm'.set 0 _
              have HI2 : Hid (Wa ⟨w, .slice a1 n1 cap1, stop, b4, b5, b6, b7, b9, b10, b12, b13, t, bm, ax, cx, some ⟨ga, oa, none⟩, ca, some ⟨gb, ob, none⟩, cb, lb, sa, sc, m, ps⟩ (j : Int) (W'.setCell ⟨b16, 0, none⟩ (.int .i64 ((i : Int) + 1)))) := HI'.out.above HD.out (B := b16) H16.out.1 ((Kept.refl _ W').setCell (p := ⟨b16, 0, none⟩) (fun _ => Nat.le_refl _) _)
              have HNB : Hid (Kept (NB lb sa) W' (W'.setCell ⟨b16, 0, none⟩ (.int .i64 ((i : Int) + 1)))) := (Kept.refl (NB lb sa) W').setCell (p := ⟨b16, 0, none⟩) (fun _ e => by have h1 := HSb.out _ e; have h2 := H16.out.1; exact absurd h1 (by simp; omega)) _
              have HKF : Hid (KeepsFrom w8.heap.size W' (W'.setCell ⟨b16, 0, none⟩ (.int .i64 ((i : Int) + 1)))) := (KeepsOthers.setCell _ _ _).from _
              have HK1 : Hid (Kept (NB lb sa) W W' ∧ KeepsFrom w8.heap.size W W') := ⟨hKK, hKF⟩
              have g5 := HI2.out.cells.1.2
              have g16 := HB2.out.cell 0
              simp only [List.getElem?_toArray, List.getElem?_cons_zero] at g16
              clear hI' hps hlen' hi hBm' hKK hKF hr2 hl2
              simp only
              by_cases e1 : z1 = y1'
              · by_cases e2 : z2 = y2'
                · subst e1
                  subst e2
                  by_cases hs : stop < (i : Int) + 1
                  · gi_wp2
                    exact ⟨(KeepsOthers.setCell _ _ _).from _, .inr ⟨rfl, HI2.out, HK1.out.1.then HNB.out, HK1.out.2.trans HKF.out⟩⟩
                  · gi_wp2
                    exact ⟨(KeepsOthers.setCell _ _ _).from _, HNB.out, ⟨⟨HI2.out, by rw [HL'.out]; exact HB2.out⟩, HK1.out.1.then HNB.out, HK1.out.2.trans HKF.out⟩⟩
                · subst e1
                  have e2' : (z2 != y2') = true := by simp [e2]
                  gi_wp2
                  exact ⟨(KeepsOthers.setCell _ _ _).from _, .inl ⟨rfl, HN'.out (fun h => e2 h.2)⟩⟩
              · have e1' : (z1 != y1') = true := by simp [e1]
                gi_wp2
                exact ⟨(KeepsOthers.setCell _ _ _).from _, .inl ⟨rfl, HN'.out (fun h => e1 h.1)⟩⟩
            case done2 =>
              rintro xs W' _ ⟨⟨hI', hBm'⟩, hKK, hKF⟩
              have HI' : Hid (Wa ⟨w, .slice a1 n1 cap1, stop, b4, b5, b6, b7, b9, b10, b12, b13, t, bm, ax, cx, some ⟨ga, oa, none⟩, ca, some ⟨gb, ob, none⟩, cb, lb, sa, sc, m, ps⟩ (j : Int) W') := hI'
              have HKK : Hid (Kept (NB lb sa) W W' ∧ KeepsFrom w8.heap.size W W') := ⟨hKK, hKF⟩
              obtain ⟨⟨c4, c5⟩, ⟨c6, f6⟩, c7, ⟨c9, c10⟩, c12, c13, f13⟩ := HI'.out.cells
              clear hI' hKK hKF
              by_cases h28 : (j : Int) < (n1 : Int) - (n1 : Int) / 2
              · obtain ⟨X', hX'⟩ := HI'.out.tal
                have HXX : Hid (Tal W' t bm ax cx X') := hX'
                obtain ⟨i, hi⟩ : ∃ i : Nat, (n1 : Int) / 2 + (j : Int) = (i : Int) := ⟨n1 / 2 + j, by omega⟩
                have hin : (i : Int) < (n1 : Int) := by omega
                obtain ⟨vb, vo, ea1, v1, v2, v3⟩ := (HV.out W' HI'.out.k) i (by rw [HUl.out]; omega)
                subst ea1
                generalize vAt us i = u at v1 v2 v3
                obtain ⟨s, v, lk⟩ := u
                simp only at v1 v2 v3
                clear hX'
                have HKx : Hid (Kept No W' (W'.alloc (.cells #[.int .i64 s, .int .i64 v, .bool lk] 33))) := (Kept.refl No W').alloc _
                have HIx : Hid (Wa ⟨w, .slice (some ⟨vb, vo, none⟩) n1 cap1, stop, b4, b5, b6, b7, b9, b10, b12, b13, t, bm, ax, cx, some ⟨ga, oa, none⟩, ca, some ⟨gb, ob, none⟩, cb, lb, sa, sc, m, ps⟩ (j : Int) (W'.alloc (.cells #[.int .i64 s, .int .i64 v, .bool lk] 33))) := HI'.out.no HD.out HKx.out
                have HTk : Hid (Calls Try.prog 14 #[.pointer (some ⟨t, 0, none⟩), .int .i64 s, .int .i64 v] (W'.alloc (.cells #[.int .i64 s, .int .i64 v, .bool lk] 33)) (TakeOut (W'.alloc (.cells #[.int .i64 s, .int .i64 v, .bool lk] 33)) t bm cx ax X' s v)) := take_any _ _ _ _ X' s v _ (HXX.out.no HKx.out)
                have g7 := HIx.out.cells.2.2.1
                gi_wp2_with (refine ⟨trivial, ?_⟩
                             gi_at_call 14
                             refine (CallsIn.inRound l (callsIn_wide.2 HTk.out)).mono ?_
                             rintro e w9 ⟨rfl, hT9, hk9⟩
                             have HI9 : Hid (Wa ⟨w, .slice (some ⟨vb, vo, none⟩) n1 cap1, stop, b4, b5, b6, b7, b9, b10, b12, b13, t, bm, ax, cx, some ⟨ga, oa, none⟩, ca, some ⟨gb, ob, none⟩, cb, lb, sa, sc, m, ps⟩ (j : Int) w9) := HIx.out.take HD.out hk9 hT9
                             have HK9 : Hid (Kept (Tb2 t bm) (W'.alloc (.cells #[.int .i64 s, .int .i64 v, .bool lk] 33)) w9) := hk9
                             obtain ⟨_, _, _, _, _, d13, d13f⟩ := HI9.out.cells
                             clear hT9 hk9)
                have HI10 := HI9.out.num HD.out ((j : Int) + 1)
                have q1 : Kept (NB lb sa) W' (w9.setCell ⟨b13, 0, none⟩ (.int .i64 ((j : Int) + 1))) := ((HKx.out.of_no : Kept (NB lb sa) _ _).then (HK9.out.mono (fun i _ e => (HTb.out i e).2))).setCell (p := ⟨b13, 0, none⟩) (fun _ e => Nat.lt_irrefl _ (HSb.out _ e)) _
                have q2 : KeepsFrom w8.heap.size W' (w9.setCell ⟨b13, 0, none⟩ (.int .i64 ((j : Int) + 1))) := (((KeepsOthers.alloc _ _).from _).trans (kf_kept HK9.out (fun i e => (HTb.out i e).1))).trans ((KeepsOthers.setCell _ _ _).from _)
                exact ⟨HKK.out.2.trans q2, HKK.out.1.then q1, by show Wa ⟨w, .slice (some ⟨vb, vo, none⟩) n1 cap1, stop, b4, b5, b6, b7, b9, b10, b12, b13, t, bm, ax, cx, some ⟨ga, oa, none⟩, ca, some ⟨gb, ob, none⟩, cb, lb, sa, sc, m, ps⟩ ((pre ++ [(x1, x2)]).length : Int) _; rw [HL.out]; exact HI10⟩
              · gi_wp2
                have HI10 := HI'.out.num HD.out ((j : Int) + 1)
                have q1 : Kept (NB lb sa) W' (W'.setCell ⟨b13, 0, none⟩ (.int .i64 ((j : Int) + 1))) := (Kept.refl _ W').setCell (p := ⟨b13, 0, none⟩) (fun _ e => Nat.lt_irrefl _ (HSb.out _ e)) _
                exact ⟨HKK.out.2.trans ((KeepsOthers.setCell _ _ _).from _), HKK.out.1.then q1, by show Wa ⟨w, .slice a1 n1 cap1, stop, b4, b5, b6, b7, b9, b10, b12, b13, t, bm, ax, cx, some ⟨ga, oa, none⟩, ca, some ⟨gb, ob, none⟩, cb, lb, sa, sc, m, ps⟩ ((pre ++ [(x1, x2)]).length : Int) _; rw [HL.out]; exact HI10⟩
            case stop2 =>
              rintro c pre' W' hpre (⟨_, hn⟩ | ⟨rfl, hI', hKK, hKF⟩)
              · exact absurd hpre hn
              · have HI' : Hid (Wa ⟨w, .slice a1 n1 cap1, stop, b4, b5, b6, b7, b9, b10, b12, b13, t, bm, ax, cx, some ⟨ga, oa, none⟩, ca, some ⟨gb, ob, none⟩, cb, lb, sa, sc, m, ps⟩ (j : Int) W') := hI'
                have HKK : Hid (Kept (NB lb sa) W W' ∧ KeepsFrom w8.heap.size W W') := ⟨hKK, hKF⟩
                obtain ⟨⟨c4, c5⟩, ⟨c6, f6⟩, c7, ⟨c9, c10⟩, c12, c13, f13⟩ := HI'.out.cells
                clear hI' hKK hKF
                by_cases h28 : (j : Int) < (n1 : Int) - (n1 : Int) / 2
                · obtain ⟨X', hX'⟩ := HI'.out.tal
                  have HXX : Hid (Tal W' t bm ax cx X') := hX'
                  obtain ⟨i, hi⟩ : ∃ i : Nat, (n1 : Int) / 2 + (j : Int) = (i : Int) := ⟨n1 / 2 + j, by omega⟩
                  have hin : (i : Int) < (n1 : Int) := by omega
                  obtain ⟨vb, vo, ea1, v1, v2, v3⟩ := (HV.out W' HI'.out.k) i (by rw [HUl.out]; omega)
                  subst ea1
                  generalize vAt us i = u at v1 v2 v3
                  obtain ⟨s, v, lk⟩ := u
                  simp only at v1 v2 v3
                  clear hX'
                  have HKx : Hid (Kept No W' (W'.alloc (.cells #[.int .i64 s, .int .i64 v, .bool lk] 33))) := (Kept.refl No W').alloc _
                  have HIx : Hid (Wa ⟨w, .slice (some ⟨vb, vo, none⟩) n1 cap1, stop, b4, b5, b6, b7, b9, b10, b12, b13, t, bm, ax, cx, some ⟨ga, oa, none⟩, ca, some ⟨gb, ob, none⟩, cb, lb, sa, sc, m, ps⟩ (j : Int) (W'.alloc (.cells #[.int .i64 s, .int .i64 v, .bool lk] 33))) := HI'.out.no HD.out HKx.out
                  have HTk : Hid (Calls Try.prog 14 #[.pointer (some ⟨t, 0, none⟩), .int .i64 s, .int .i64 v] (W'.alloc (.cells #[.int .i64 s, .int .i64 v, .bool lk] 33)) (TakeOut (W'.alloc (.cells #[.int .i64 s, .int .i64 v, .bool lk] 33)) t bm cx ax X' s v)) := take_any _ _ _ _ X' s v _ (HXX.out.no HKx.out)
                  have g7 := HIx.out.cells.2.2.1
                  gi_wp2_with (refine ⟨trivial, ?_⟩
                               gi_at_call 14
                               refine (CallsIn.inRound l (callsIn_wide.2 HTk.out)).mono ?_
                               rintro e w9 ⟨rfl, hT9, hk9⟩
                               have HI9 : Hid (Wa ⟨w, .slice (some ⟨vb, vo, none⟩) n1 cap1, stop, b4, b5, b6, b7, b9, b10, b12, b13, t, bm, ax, cx, some ⟨ga, oa, none⟩, ca, some ⟨gb, ob, none⟩, cb, lb, sa, sc, m, ps⟩ (j : Int) w9) := HIx.out.take HD.out hk9 hT9
                               have HK9 : Hid (Kept (Tb2 t bm) (W'.alloc (.cells #[.int .i64 s, .int .i64 v, .bool lk] 33)) w9) := hk9
                               obtain ⟨_, _, _, _, _, d13, d13f⟩ := HI9.out.cells
                               clear hT9 hk9)
                  have HI10 := HI9.out.num HD.out ((j : Int) + 1)
                  have q1 : Kept (NB lb sa) W' (w9.setCell ⟨b13, 0, none⟩ (.int .i64 ((j : Int) + 1))) := ((HKx.out.of_no : Kept (NB lb sa) _ _).then (HK9.out.mono (fun i _ e => (HTb.out i e).2))).setCell (p := ⟨b13, 0, none⟩) (fun _ e => Nat.lt_irrefl _ (HSb.out _ e)) _
                  have q2 : KeepsFrom w8.heap.size W' (w9.setCell ⟨b13, 0, none⟩ (.int .i64 ((j : Int) + 1))) := (((KeepsOthers.alloc _ _).from _).trans (kf_kept HK9.out (fun i e => (HTb.out i e).1))).trans ((KeepsOthers.setCell _ _ _).from _)
                  exact ⟨HKK.out.2.trans q2, HKK.out.1.then q1, by show Wa ⟨w, .slice (some ⟨vb, vo, none⟩) n1 cap1, stop, b4, b5, b6, b7, b9, b10, b12, b13, t, bm, ax, cx, some ⟨ga, oa, none⟩, ca, some ⟨gb, ob, none⟩, cb, lb, sa, sc, m, ps⟩ ((pre ++ [(x1, x2)]).length : Int) _; rw [HL.out]; exact HI10⟩
                · gi_wp2
                  have HI10 := HI'.out.num HD.out ((j : Int) + 1)
                  have q1 : Kept (NB lb sa) W' (W'.setCell ⟨b13, 0, none⟩ (.int .i64 ((j : Int) + 1))) := (Kept.refl _ W').setCell (p := ⟨b13, 0, none⟩) (fun _ e => Nat.lt_irrefl _ (HSb.out _ e)) _
                  exact ⟨HKK.out.2.trans ((KeepsOthers.setCell _ _ _).from _), HKK.out.1.then q1, by show Wa ⟨w, .slice a1 n1 cap1, stop, b4, b5, b6, b7, b9, b10, b12, b13, t, bm, ax, cx, some ⟨ga, oa, none⟩, ca, some ⟨gb, ob, none⟩, cb, lb, sa, sc, m, ps⟩ ((pre ++ [(x1, x2)]).length : Int) _; rw [HL.out]; exact HI10⟩
          · subst e1
            have e2' : (x2 != y2) = true := by simp [e2]
            gi_wp2
            exact ⟨(KeepsOthers.setCell _ _ _).from _, rfl, HN.out (fun h => e2 h.2)⟩
        · have e1' : (x1 != y1) = true := by simp [e1]
          gi_wp2
          exact ⟨(KeepsOthers.setCell _ _ _).from _, rfl, HN.out (fun h => e1 h.1)⟩
      case done =>
        rintro D xs W hD hxs hI hK
        have HI : Hid (Wa ⟨w, .slice a1 n1 cap1, stop, b4, b5, b6, b7, b9, b10, b12, b13, t, bm, ax, cx, ra, ca, rb, cb, lb, sa, sc, m, ps⟩ (m : Int) W) := by
          have e : (xs.length : Int) = (m : Int) := by
            have h1 : xs.length = ps.length := by rw [hxs]
            have h2 : ps.length = m := HD.out.len
            omega
          have hI : Wa ⟨w, .slice a1 n1 cap1, stop, b4, b5, b6, b7, b9, b10, b12, b13, t, bm, ax, cx, ra, ca, rb, cb, lb, sa, sc, m, ps⟩ (xs.length : Int) W := hI
          rw [e] at hI
          exact hI
        have HKD : Hid (W.heap[D]? = some (.deferred (some []))) := hK
        obtain ⟨⟨c4, c5⟩, ⟨c6, f6⟩, c7, ⟨c9, c10⟩, e12, c13, f13⟩ := HI.out.cells
        have HI2 : Hid (Wa ⟨w, .slice a1 n1 cap1, stop, b4, b5, b6, b7, b9, b10, b12, b13, t, bm, ax, cx, ra, ca, rb, cb, lb, sa, sc, m, ps⟩ 0 (W.setCell ⟨b13, 0, none⟩ (.int .i64 0))) := HI.out.num HD.out 0
        have HK2 : Hid ((W.setCell ⟨b13, 0, none⟩ (.int .i64 0)).heap[D]? = some (.deferred (some []))) := (KeepsOthers.setCell W ⟨b13, 0, none⟩ (.int .i64 0)).same D _ hK rfl
        have g12 := HI2.out.cells.2.2.2.2.1
        clear hI hK hxs c12
        go_wp2
        obtain ⟨W2, hW2⟩ : ∃ W2, W2 = W.setCell ⟨b13, 0, none⟩ (.int .i64 0) := ⟨_, rfl⟩
        rw [← hW2] at HI2 HK2 ⊢
        have hD2 : D < W2.heap.size := (Array.getElem?_eq_some_iff.1 HK2.out).1
        have H13' : Hid (b13 < W2.heap.size) := HI2.out.n.lt
        have HDw : Hid (w.heap.size ≤ D) := by
          have h1 := HA.out.k.size
          show _ ≤ _
          have h1 : w.heap.size ≤ w8.heap.size := h1
          omega
        have HSb : Hid (∀ k, SB lb sa k → k < b13) := fun k hk => by have h1 := HD.out.o7 k hk; have h2 := HD.out.o8; exact Nat.lt_trans h1.2 h2
        clear hW2 c4 c5 c6 f6 c7 c9 c10 e12 c13 f13 g12 HI HKD HA H13 hD
        refine (wpIn_wide (n := 8)).1 ?_
        refine' rf_H (F := Fence.wide) rfl (by omega) (gf := 37) (lb := #[.pointer (some ⟨lb, 0, none⟩)]) rfl trivial (enters_of Try.func37 (by kernel_rfl) rfl)
          (seq_stops Fence.wide (8 - 1) trivial rfl (by omega) lb sc m sa ps hm44 HD.out.len W2 HI2.out.sq) nb_t (nb_b HI2.out.sq (Nat.le_refl _)) (Below.refl _ _) (fun _ => rfl)
          (fun pre W => Wa ⟨w, .slice a1 n1 cap1, stop, b4, b5, b6, b7, b9, b10, b12, b13, t, bm, ax, cx, ra, ca, rb, cb, lb, sa, sc, m, ps⟩ (pre.length : Int) W ∧ W.heap[D]? = some (.deferred (some [])))
          (fun c pre _ => c = .ret ∧ ¬ pre <+: ps)
          (OwnFrom.and (wa_own HD.out H13'.out _) (obj_own hD2))
          (fun c => ownFrom_pure _ _)
          ⟨HI2.out, HK2.out⟩
          (fun W => Kept.refl _ W)
          _ ?assign3 ?body3 ?done3 ?stop3
        case assign3 =>
          intro l x W K hK
          gi_wp2
          exact hK
        case stop3 =>
          rintro D c pre W hD hpre ⟨_, hn⟩ _
          exact absurd hpre hn
        case body3 =>
          rintro l pre ⟨x1, x2⟩ W hl _ ⟨hI, hKd⟩ hlen
          have HI : Hid (Wa ⟨w, .slice a1 n1 cap1, stop, b4, b5, b6, b7, b9, b10, b12, b13, t, bm, ax, cx, ra, ca, rb, cb, lb, sa, sc, m, ps⟩ (pre.length : Int) W) := hI
          obtain ⟨ga, oa, gb, ob, y1, y2, ea, eb, ya, yb, hps⟩ := hI.row HD.out.len hlen
          have ea : ra = some ⟨ga, oa, none⟩ := ea
          have eb : rb = some ⟨gb, ob, none⟩ := eb
          have hps : ps[pre.length]? = some (y1, y2) := hps
          subst ea
          subst eb
          have HN : Hid (¬ (x1 = y1 ∧ x2 = y2) → ¬ pre ++ [(x1, x2)] <+: ps) := fun h hp => h (by have := pre_next hp; rw [hps] at this; cases this; exact ⟨rfl, rfl⟩)
          have HL : Hid (((pre ++ [(x1, x2)]).length : Int) = (pre.length : Int) + 1) := by show _ = _; simp
          have HKd : Hid (W.heap[D]? = some (.deferred (some []))) := hKd
          obtain ⟨j, hj⟩ : ∃ j, j = pre.length := ⟨_, rfl⟩
          have hlenI : (j : Int) < (m : Int) := by omega
          have hmI : (m : Int) ≤ 8796093022208 := by omega
          have hj0 : (0 : Int) ≤ (j : Int) := by omega
          rw [← hj] at HI HL ya yb
          obtain ⟨⟨c4, c5⟩, ⟨c6, f6⟩, c7, ⟨c9, c10⟩, c12, c13, f13⟩ := HI.out.cells
          clear hI hps hlen hj hKd
          simp only
          by_cases e1 : x1 = y1
          · by_cases e2 : x2 = y2
            · subst e1
              subst e2
              gi_wp2
              have HI10 := HI.out.num HD.out ((j : Int) + 1)
              have q1 : Kept (NB lb sa) W (W.setCell ⟨b13, 0, none⟩ (.int .i64 ((j : Int) + 1))) := (Kept.refl _ W).setCell (p := ⟨b13, 0, none⟩) (fun _ e => Nat.lt_irrefl _ (HSb.out _ e)) _
              exact ⟨(KeepsOthers.setCell _ _ _).from _, q1, by show Wa ⟨w, .slice a1 n1 cap1, stop, b4, b5, b6, b7, b9, b10, b12, b13, t, bm, ax, cx, some ⟨ga, oa, none⟩, ca, some ⟨gb, ob, none⟩, cb, lb, sa, sc, m, ps⟩ ((pre ++ [(x1, x2)]).length : Int) _; rw [HL.out]; exact HI10, (KeepsOthers.setCell W ⟨b13, 0, none⟩ _).same D _ HKd.out rfl⟩
            · subst e1
              have e2' : (x2 != y2) = true := by simp [e2]
              gi_wp2
              exact ⟨(KeepsOthers.setCell _ _ _).from _, rfl, HN.out (fun h => e2 h.2)⟩
          · have e1' : (x1 != y1) = true := by simp [e1]
            gi_wp2
            exact ⟨(KeepsOthers.setCell _ _ _).from _, rfl, HN.out (fun h => e1 h.1)⟩
        case done3 =>
          rintro D2 xs W3 hD3 hxs ⟨hI, hKd⟩ hK
          have HI : Hid (Wa ⟨w, .slice a1 n1 cap1, stop, b4, b5, b6, b7, b9, b10, b12, b13, t, bm, ax, cx, ra, ca, rb, cb, lb, sa, sc, m, ps⟩ (m : Int) W3) := by
            have e : (xs.length : Int) = (m : Int) := by
              have h1 : xs.length = ps.length := by rw [hxs]
              have h2 : ps.length = m := HD.out.len
              omega
            have hI : Wa ⟨w, .slice a1 n1 cap1, stop, b4, b5, b6, b7, b9, b10, b12, b13, t, bm, ax, cx, ra, ca, rb, cb, lb, sa, sc, m, ps⟩ (xs.length : Int) W3 := hI
            rw [e] at hI
            exact hI
          have HKd : Hid (W3.heap[D]? = some (.deferred (some []))) := hKd
          have HKe : Hid (W3.heap[D2]? = some (.deferred (some []))) := hK
          obtain ⟨⟨c4, c5⟩, ⟨c6, f6⟩, c7, ⟨c9, c10⟩, e12, c13, f13⟩ := HI.out.cells
          clear hI hKd hK hxs c4 c5 c7 c10 e12 f13
          go_wp2
          have k6 : w.heap.size ≤ b6 := by
            have a0 : w.heap.size ≤ b4 := HD.out.o0
            have a1 : b4 < b5 := HD.out.o1
            have a2 : b5 < b6 := HD.out.o2
            omega
          have hDw := HDw.out
          have x6 : Box (W3.setCell ⟨b6, 0, none⟩ (.bool true)) b6 4 #[.bool true] := HI.out.r.set 0 _
          have t1 : (W3.setCell ⟨b6, 0, none⟩ (.bool true)).heap[D2]? = some (.deferred (some [])) := (KeepsOthers.setCell W3 ⟨b6, 0, none⟩ (.bool true)).same D2 _ HKe.out rfl
          have t2 : (W3.setCell ⟨b6, 0, none⟩ (.bool true)).heap[D]? = some (.deferred (some [])) := (KeepsOthers.setCell W3 ⟨b6, 0, none⟩ (.bool true)).same D _ HKd.out rfl
          have kw : Kept No w (W3.setCell ⟨b6, 0, none⟩ (.bool true)) := HI.out.k.setCell (p := ⟨b6, 0, none⟩) (fun e => absurd e (Nat.not_lt.2 k6)) _
          obtain ⟨W4, hW4⟩ : ∃ W4, W4 = W3.setCell ⟨b6, 0, none⟩ (.bool true) := ⟨_, rfl⟩
          rw [← hW4] at x6 t1 t2 kw ⊢
          have t3 : (W4.putObj D2 (.deferred none)).heap[D]? = some (.deferred (some [])) := (World.putObj_heap_other (by omega)).trans t2
          have x7 := box_cells x6 (grownBy_putObj' W4 D2 (.deferred none)) (fun r e => by cases e; exact ⟨_, t1, rfl⟩)
          have x8 := box_cells x7 (grownBy_putObj' (W4.putObj D2 (.deferred none)) D (.deferred none)) (fun r e => by cases e; exact ⟨_, t3, rfl⟩)
          have kz : Kept No w ((W4.putObj D2 (.deferred none)).putObj D (.deferred none)) := (kw.grown (grownBy_putObj' W4 D2 (.deferred none)) (fun k e hk => by cases e; omega)).grown (grownBy_putObj' _ D (.deferred none)) (fun k e hk => by cases e; omega)
          have cz := x8.cell 0
          simp only [List.getElem?_toArray, List.getElem?_cons_zero] at cz
          refine ⟨by simp, .inl ⟨_, _, rfl, run_takeDeferred t1, ?_⟩⟩
          refine ⟨by simp, .inl ⟨_, _, rfl, run_takeDeferred t3, ?_⟩⟩
          refine ⟨.bool true, ?_, rfl, kz.below (Nat.le_refl _) (fun k e => e.elim)⟩
          simp [results, Try.results8, go_sem, cz]

end Go.Proofs.Ytmhjbkpojndhkaa
