import Derived.Test.YthnecaejhnojfaaHb
import Derived.Test.YthnecaejhnojfaaHl
namespace Go.Proofs.Ythnecaejhnojfaa
open Go.RowKit
set_option linter.unusedVariables false
set_option linter.unusedSimpArgs false

set_option maxRecDepth 100000 in
set_option maxHeartbeats 4000000 in
theorem best1 (a : Option Addr) (ps : List Bk) (w : World) (hs : ps.length = 1) (h : Sts w a ps) :
    Calls Try.prog 89 #[.func (.func 87) #[] #[], .slice a 1 1] w (BestOutP w ps) := by
  have HS : Hid (ps.length = 1) := hs
  have H1 : Hid (Sts w a ps) := h
  obtain ⟨b, off, rfl, _⟩ := h 0 (by omega)
  clear hs h
  have HC : Hid (∀ wr, Kept No w wr → ∀ i, i < 1 → wr.cell? ⟨b, off + i * 3, none⟩ = some (.int .i64 (pAt ps i).n) ∧ wr.cell? ⟨b, off + i * 3 + 1, none⟩ = some (.int .i64 (pAt ps i).c) ∧ wr.cell? ⟨b, off + i * 3 + 2, none⟩ = some (.slice (pAt ps i).a (pAt ps i).l (pAt ps i).k)) := fun wr hk i hi => by
    obtain ⟨b', o', e, hc⟩ := (H1.out.no hk) i (by rw [HS.out]; exact hi)
    cases e; exact hc
  obtain ⟨w0, hw0⟩ : ∃ w0, w0 = w.alloc (.cells #[.int .i64 0, .int .i64 0, .slice none 0 0] 144) := ⟨_, rfl⟩
  have HK0 : Hid (Kept No w w0) := by rw [hw0]; exact (Kept.refl No w).alloc _
  obtain ⟨c0, c1, c2⟩ := HC.out w0 HK0.out 0 (by omega)
  rw [Nat.zero_mul, Nat.add_zero] at c0 c1 c2
  rw [hw0] at c0 c1 c2
  have HE : Hid (bestP ps = pAt ps 0) := by show pAt ps (bi (ltP ps) (ps.length - 1)) = _; rw [HS.out]; rfl
  generalize pAt ps 0 = xx at c0 c1 c2 HE
  obtain ⟨x0, x1, x2, x3, x4⟩ := xx
  simp only at c0 c1 c2
  go_enter Try.func89, Try.ntmps89
  go_wp2
  obtain ⟨w1, hw1⟩ : ∃ w1, w1 = (w.alloc (.cells #[.int .i64 0, .int .i64 0, .slice none 0 0] 144)).alloc (.cells #[.int .i64 x0, .int .i64 x1, .slice x2 x3 x4] 144) := ⟨_, rfl⟩
  rw [← hw1]
  have HK1 : Hid (Kept No w w1) := by rw [hw1]; exact ((Kept.refl No w).alloc _).alloc _
  have HB1 : Hid (Box w1 w.heap.size 144 #[.int .i64 0, .int .i64 0, .slice none 0 0]) := by rw [hw1]; exact (Box.new _ _ _).alloc _
  have HB2 : Hid (Box w1 (w.heap.size + 1) 144 #[.int .i64 x0, .int .i64 x1, .slice x2 x3 x4]) := by
    have h1 : (w.alloc (.cells #[.int .i64 0, .int .i64 0, .slice none 0 0] 144)).heap.size = w.heap.size + 1 := by simp
    rw [hw1, ← h1]; exact Box.new _ _ _
  clear hw1 hw0 c0 c1 c2
  go_loopw [20] (fun vi wr => vi = .int .i64 0 ∧ Hid (Box wr w.heap.size 144 #[.int .i64 0, .int .i64 0, .slice none 0 0]) ∧ Hid (Box wr (w.heap.size + 1) 144 #[.int .i64 x0, .int .i64 x1, .slice x2 x3 x4]) ∧ Hid (Kept No w wr)) (fun i _ => 0)
  case atStart => exact ⟨by go_num, HB1, HB2, HK1⟩
  case round =>
    obtain ⟨rfl, HA, HB, HK⟩ := hrel
    clear HB1 HB2 HK1 HK0
    have d0 := HB.out.cell 0
    have d1 := HB.out.cell 1
    have d2 := HB.out.cell 2
    have a0 := HA.out.cell 0
    have a1 := HA.out.cell 1
    have a2 := HA.out.cell 2
    simp only [List.getElem?_toArray, List.getElem?_cons_zero, List.getElem?_cons_succ] at d0 d1 d2 a0 a1 a2
    have f0 := HA.out.frozen 0
    have f1 := HA.out.frozen 1
    have f2 := HA.out.frozen 2
    go_wp2
    obtain ⟨hF, hKs⟩ := set3 HA.out (.int .i64 x0) (.int .i64 x1) (.slice x2 x3 x4)
    refine bodyPost_ret (results_row_tmp (by rfl) _ _ w.heap.size #[.int .i64 x0, .int .i64 x1, .slice x2 x3 x4] (by rfl) (load57_run hF rfl)) rfl ⟨by rw [HE.out]; rfl, ?_⟩
    exact HK.out.trans hKs (fun _ e => e) (fun i hi e => by have : i = w.heap.size := e; omega)
theorem bestX (a : Option Addr) (n cap : Nat) (ps : List Bk) (w : World) (hs : ps.length = n + 1) (hn : n + 1 ≤ 8796093021952) (hcap : n + 1 ≤ cap) (hm : cap ≤ 9223372036854775807) (h : Sts w a ps) :
    Calls Try.prog 89 #[.func (.func 87) #[] #[], .slice a (n + 1) cap] w (BestOutP w ps) := by
  by_cases hc : cap = 1
  · subst hc
    obtain rfl : n = 0 := by omega
    exact best1 a ps w hs h
  · exact bestP_any a n cap ps w hs hn hcap hc hm h
attribute [local go_sem] Oper.semAt_some
set_option maxRecDepth 100000 in
set_option maxHeartbeats 4000000 in
theorem greatestX (t b cap : Nat) (a : Option Addr) (x : TS Bk) (w : World) (h : Tal 149 ansB w t b a cap x) (hc : cnt x ≤ 2000000000000) (h2 : 1 ≤ cnt x) :
    Calls Try.prog 84 #[.pointer (some ⟨t, 0, none⟩)] w (GreatOut w ((gotL x).map Prod.snd)) := by
  obtain ⟨w1, hw1⟩ : ∃ w1, w1 = (w.alloc (.cells #[.int .i64 0, .int .i64 0, .slice none 0 0] 144)).alloc (.cells #[.slice none 0 0] 162) := ⟨_, rfl⟩
  obtain ⟨N, hN⟩ : ∃ N, N = w.heap.size := ⟨_, rfl⟩
  have HNN : Hid (N = w.heap.size) := hN
  have HK1 : Hid (Kept No w w1) := by rw [hw1]; exact ((Kept.refl No w).alloc _).alloc _
  have hs1 : w1.heap.size = N + 1 + 1 := by rw [hw1, hN]; simp
  have HS1 : Hid (w1.heap.size = N + 1 + 1) := hs1
  have HX0 : Hid (Box w1 N 144 #[.int .i64 0, .int .i64 0, .slice none 0 0]) := by rw [hw1, hN]; exact (Box.new _ _ _).alloc _
  have HX1 : Hid (Box w1 (N + 1) 162 #[.slice none 0 0]) := by
    have h := Box.new (w.alloc (.cells #[.int .i64 0, .int .i64 0, .slice none 0 0] 144)) 162 #[.slice none 0 0]
    have e : (w.alloc (.cells #[.int .i64 0, .int .i64 0, .slice none 0 0] 144)).heap.size = w.heap.size + 1 := by simp
    rw [e] at h
    rw [hw1, hN]
    exact h
  have hL : (gotL x).length ≤ 2000000000000 := by rw [gotL_len]; exact hc
  have hL2 : 1 ≤ (gotL x).length := by rw [gotL_len]; exact h2
  have HG : Hid (Calls Try.prog 86 #[.pointer (some ⟨t, 0, none⟩)] w1 (GotOut w1 (gotL x))) := gotten_anyB t b cap a x w1 (h.no HK1.out) hc
  generalize gotL x = ps at hL hL2 HG ⊢
  have HL : Hid (ps.length ≤ 2000000000000) := hL
  have HL2 : Hid (1 ≤ ps.length) := hL2
  clear h hc hL h2 hL2 hs1
  refine (callsIn_wide (n := 3)).1 ?_
  refine callsIn_of_wp_marks Try.func84 rfl trivial ?_ rfl
  simp only [Try.ntmps84, List.size_toArray, List.length_cons, List.length_nil, Nat.reduceAdd, Nat.reduceSub, Array.replicate_succ, Array.replicate_zero, List.push_toArray, List.append_toArray, List.nil_append, List.cons_append]
  gi_wp2_with (refine ⟨trivial, ?_⟩
               gi_at_call 86
               rw [← hw1]
               refine (callsIn_wide.2 HG.out).mono ?_
               rintro e w2 ⟨sa, sc, rfl, hb2, ho2, hk2⟩
               have HB2 : Hid (Box w2 w1.heap.size 170 #[.slice sa ps.length sc]) := hb2
               have HO2 : Hid (Own 172 4 w2 w1.heap.size sa sc ps.length (prs ps)) := ho2
               have HK2 : Hid (Kept No w1 w2) := hk2
               generalize w1.heap.size = S at HB2 HO2 HS1 ⊢
               clear hb2 ho2 hk2 hw1)
  rw [← hN]
  clear hN
  have HSq : Hid (SeqAt w2 S sa sc ps) := ⟨HB2.out, Own.lower HO2.out (Nat.zero_le _)⟩
  have HLt : Hid (∀ k, SB S sa k → k < w2.heap.size ∧ N + 1 < k) := fun k hk => by
    refine ⟨HSq.out.lt hk, ?_⟩
    have := HS1.out
    rcases hk with rfl | hk
    · omega
    · have := HO2.out.base hk; omega
  have HKw2 : Hid (Kept No w w2) := HK1.out.then HK2.out
  have HY0 : Hid (Box w2 N 144 #[.int .i64 0, .int .i64 0, .slice none 0 0]) := HX0.out.kept HK2.out (fun e => e)
  have HY1 : Hid (Box w2 (N + 1) 162 #[.slice none 0 0]) := HX1.out.kept HK2.out (fun e => e)
  obtain ⟨m, hm⟩ : ∃ m, m = ps.length := ⟨_, rfl⟩
  have HM : Hid (ps.length = m) := hm.symm
  rw [← hm] at HL HL2
  clear hm HB2 HO2 HG HX0 HX1
  have hm' := HL.out
  have HlS : Hid (S < w2.heap.size ∧ S = N + 1 + 1) := ⟨(HLt.out S (.inl rfl)).1, HS1.out⟩
  obtain ⟨B0, hB0⟩ : ∃ B0, B0 = w2.heap.size := ⟨_, rfl⟩
  have HB0 : Hid (B0 = w2.heap.size) := hB0
  clear hB0
  refine' wpIn_rangeFunc_ownH (F := Fence.wide) rfl (by omega) (gf := 92) (lb := #[.pointer (some ⟨S, 0, none⟩)]) rfl trivial (enters_of Try.func92 (by kernel_rfl) rfl)
    (seq_stops Fence.wide (3 - 1) trivial rfl (by omega) S sc m sa ps hm' HM.out w2 HSq.out) nb_t (nb_b HSq.out (Nat.le_refl _)) (Below.refl _ _) (fun _ => rfl)
    (fun pre W => One B0 (N + 1) (pre.map Prod.snd) W ∧ Box W N 144 #[.int .i64 0, .int .i64 0, .slice none 0 0] ∧ Kept No w W)
    (fun _ _ _ => False)
    ?own (fun _ _ _ _ _ hs _ _ => hs)
    ⟨⟨none, 0, HY1.out, Own.nil _ _ _ _⟩, HY0.out, HKw2.out⟩
    (fun x a' W => ∃ vb, a' = ⟨#[.pointer (some ⟨t, 0, none⟩), undef, .pointer (some ⟨N, 0, none⟩), .bool false, .pointer (some ⟨N + 1, 0, none⟩), undef, .pointer (some ⟨vb, 0, none⟩), undef, undef, undef, undef, .pointer (some ⟨t, 0, none⟩), .func (.func 92) #[] #[.pointer (some ⟨S, 0, none⟩)], .int .i64 x.1, .agg #[.int .i64 x.2.n, .int .i64 x.2.c, .slice x.2.a x.2.l x.2.k], undef, undef, undef, undef, undef, undef, undef, undef, undef, undef, undef, undef, undef, undef, undef, undef], []⟩ ∧ Box W vb 144 #[.int .i64 x.2.n, .int .i64 x.2.c, .slice x.2.a x.2.l x.2.k]) ?ax ?assign ?body ?done ?stop
  case own =>
    rintro pre A B row ⟨⟨a1, c1, h1, h2⟩, h3, h4⟩ hg hr
    have hr' : ∀ r, row = some r → ∃ o : Obj, A.heap[r]? = some o ∧ o.isCells = false := fun r e => by
      obtain ⟨_, o, h⟩ := hr r e
      exact ⟨o, h.1, by first | exact h.2 | exact h.2.1⟩
    exact ⟨⟨a1, c1, box_cells h1 hg hr', own_cells h2 hg hr'⟩, box_cells h3 hg hr', h4.grown hg (fun k e hk => by have := (hr k e).1; have := HKw2.out.size; omega)⟩
  case ax =>
    rintro x a' u A B row ⟨vb, h1, h2⟩ hg hr
    have hr' : ∀ r, row = some r → ∃ o : Obj, A.heap[r]? = some o ∧ o.isCells = false := fun r e => by
      obtain ⟨_, o, h⟩ := hr r e
      exact ⟨o, h.1, by first | exact h.2 | exact h.2.1⟩
    exact ⟨vb, h1, box_cells h2 hg hr'⟩
  case assign =>
    rintro l pre ⟨x1, x2, x3, x4, x5, x6⟩ W K ⟨⟨a1, c1, h1, h2⟩, h3, h4⟩ hK
    simp only at hK
    gi_wp2
    exact hK _ _ ((KeepsOthers.alloc W _).from _) ((Kept.refl _ W).alloc _) ⟨⟨a1, c1, h1.alloc _, h2.no ((Kept.refl No W).alloc _)⟩, h3.alloc _, h4.alloc _⟩ ⟨W.heap.size, rfl, Box.new _ _ _⟩
  case body =>
    rintro l pre ⟨x1, x2, x3, x4, x5, x6⟩ a' W hl hlo ⟨⟨a1, c1, hb1, ho1⟩, hb0, hk⟩ ⟨vb, rfl, hbv⟩ hlen
    have HA : Hid ((pre.map Prod.snd).length = pre.length) := by show _ = _; simp
    have HF : Hid ((pre ++ [(x1, (⟨x2, x3, x4, x5, x6⟩ : Bk))]).map Prod.snd = pre.map Prod.snd ++ [⟨x2, x3, x4, x5, x6⟩]) := by show _ = _; simp
    have HP : Hid ((pre.map Prod.snd).length < 2000000000000) := by show _ < _; rw [HA.out]; omega
    generalize pre.map Prod.snd = xs at hb1 ho1 HA HF HP
    have H1 : Hid (Box W (N + 1) 162 #[.slice a1 xs.length c1]) := hb1
    have O1 : Hid (Own 144 3 W B0 a1 c1 xs.length (bkL xs)) := ho1
    have H0 : Hid (Box W N 144 #[.int .i64 0, .int .i64 0, .slice none 0 0]) := hb0
    have HKW : Hid (Kept No w W) := hk
    have HlW : Hid (w2.heap.size ≤ W.heap.size) := by
      obtain ⟨r, hr⟩ := hlo
      have := (Array.getElem?_eq_some_iff.1 hr).1
      show _ ≤ _
      omega
    have e1 := hb1.cell 0
    have v0 := hbv.cell 0
    have v1 := hbv.cell 1
    have v2 := hbv.cell 2
    simp only [List.getElem?_toArray, List.getElem?_cons_zero, List.getElem?_cons_succ] at e1 v0 v1 v2
    clear hb1 ho1 hb0 hk hbv hlo hlen
    simp only
    gi_wp2_with (first
      | (gi_at_builtin
         refine wpIn_appV rfl _ _ 162 144 3 40 (.agg #[.int .i64 0, .int .i64 0, .slice none 0 0]) Try.und58' Try.info57 rfl (by omega) rfl B0 _ c1 a1 _ rfl (O1.out.no ((Kept.refl No W).alloc _)) ⟨W.heap.size, 0, none⟩ 1 1 [.int .i64 x2, .int .i64 x3, .slice x4 x5 x6] rfl rfl (cell_newL _ _ _) (by simp [Value.oneCell']) (by have := HP.out; omega) (by have := HP.out; omega) (by omega) (by have := HlW.out; have := HB0.out; simp; omega) (xs.length + 1) rfl ?_
         intro g1 d1 w4 HO4 HK4 HKo4 HAt4
         have HK14 : Hid (Kept (At a1) W w4) := ((((Kept.refl No W).alloc (.cells #[.int .i64 x2, .int .i64 x3, .slice x4 x5 x6] 144))).of_no : Kept (At a1) W _).then HK4.out
         have hoff : ∀ k, At a1 k → k ≠ N + 1 := fun k hk => box_row H1.out (by decide) O1.out hk
         have HB4 : Hid (Box w4 (N + 1) 162 #[.slice a1 xs.length c1]) := H1.out.kept HK14.out (fun e => hoff _ e rfl)
         have HZ4 : Hid (Box w4 N 144 #[.int .i64 0, .int .i64 0, .slice none 0 0]) := H0.out.kept HK14.out (fun e => by have := O1.out.base e; have := HB0.out; have := HlS.out.1; have := HlS.out.2; omega)
         have f1 := HB4.out.frozen 0
         have e1' := HB4.out.cell 0
         simp only [List.getElem?_toArray, List.getElem?_cons_zero] at e1'
         clear hoff e1 v0 v1 v2))
    obtain ⟨W7, hW7⟩ : ∃ W7, W7 = w4.setCell ⟨N + 1, 0, none⟩ (.slice (some ⟨g1, 0, none⟩) (xs.length + 1) d1) := ⟨_, rfl⟩
    have hke : Kept (fun k => k = N + 1 ∨ B0 ≤ k) W W7 := by
      rw [hW7]
      exact (HK14.out.mono (fun i _ e => .inr (O1.out.base e))).setCell (p := ⟨N + 1, 0, none⟩) (fun _ => .inl rfl) _
    have hko : KeepsOthers W W7 := by
      rw [hW7]
      exact ((KeepsOthers.alloc W _).trans HKo4.out).trans (KeepsOthers.setCell _ _ _)
    have hks : Kept (Only (N + 1)) w4 W7 := by
      rw [hW7]
      exact (Kept.refl (Only (N + 1)) w4).setCell (p := ⟨N + 1, 0, none⟩) (fun _ => rfl) _
    have hbx : Box W7 (N + 1) 162 #[.slice (some ⟨g1, 0, none⟩) (xs.length + 1) d1] := by
      rw [hW7]
      exact HB4.out.set 0 _
    have hb0 := HB0.out
    have hlS := HlS.out
    have hnn := HNN.out
    rw [← hW7]
    refine ⟨hko.from _, hke.mono (fun i _ e f => by have := HLt.out i f; omega), ⟨some ⟨g1, 0, none⟩, d1, ?_, ?_⟩, HZ4.out.kept hks (fun e => by have : N = N + 1 := e; omega), HKW.out.trans hke (fun _ e => e) (fun i hi e => by omega)⟩
    · rw [HF.out]
      simpa using hbx
    · rw [HF.out, bkL_snoc]
      have := HO4.out.kept hks (fun k hk e => box_row HB4.out (by decide) HO4.out hk e)
      simpa using this
  case done =>
    rintro D ys W hD rfl ⟨⟨a1, c1, hb1, ho1⟩, hb0, hk⟩ hK
    rename_i hcont
    refine hcont _ _ ?_
    refine wpIn_wide.2 ?_
    obtain ⟨bs, hbs⟩ : ∃ bs, bs = ys.map Prod.snd := ⟨_, rfl⟩
    have HBL : Hid (bs.length = m) := by show _ = _; rw [hbs, List.length_map]; exact HM.out
    rw [← hbs] at hb1 ho1
    have HBS : Hid (bs = ys.map Prod.snd) := hbs
    rw [HBL.out] at hb1
    obtain ⟨hcap1, hcap2⟩ := own_cap ho1
    rw [HBL.out] at hcap1
    have e1 := hb1.cell 0
    simp only [List.getElem?_toArray, List.getElem?_cons_zero, List.length_map] at e1
    have HSt : Hid (Sts W a1 bs) := bkL_sts ho1
    have H1 : Hid (Box W (N + 1) 162 #[.slice a1 m c1]) := hb1
    have H0 : Hid (Box W N 144 #[.int .i64 0, .int .i64 0, .slice none 0 0]) := hb0
    have HKW : Hid (Kept No w W) := hk
    have HD : Hid (W.heap[D]? = some (.deferred (some [])) ∧ w2.heap.size ≤ D) := ⟨hK, hD⟩
    obtain ⟨n, rfl⟩ : ∃ n, m = n + 1 := ⟨m - 1, by have := HL2.out; omega⟩
    have HBt : Hid (Calls Try.prog 89 #[.func (.func 87) #[] #[], .slice a1 (n + 1) c1] W (BestOutP W bs)) := bestX a1 n c1 bs W HBL.out (by omega) hcap1 hcap2 (bkL_sts ho1)
    clear hb1 ho1 hb0 hk hK hD hcap1 hcap2 hbs HBL
    clear HSq HLt HKw2 HY0 HY1
    obtain ⟨g, hg⟩ : ∃ g, g = bestP bs := ⟨_, rfl⟩
    have HGd : Hid (g = bestP bs) := hg
    unfold BestOutP at HBt
    rw [← hg] at HBt
    clear hg
    obtain ⟨g1, g2, g3, g4, g5⟩ := g
    unfold bkV at HBt
    simp only at HBt
    go_upto_region 8 with (first
      | (go_at_call 89
         refine Calls.mono HBt.out ?_
         rintro e w3 ⟨rfl, hk3⟩
         have HK3 : Hid (Kept No W w3) := hk3
         clear hk3))
    obtain ⟨w4, hw4⟩ : ∃ w4, w4 = w3.alloc (.cells #[.int .i64 g1, .int .i64 g2, .slice g3 g4 g5] 144) := ⟨_, rfl⟩
    rw [← hw4]
    have HK4 : Hid (Kept No W w4) := by rw [hw4]; exact HK3.out.alloc _
    have HG4 : Hid (Box w4 w3.heap.size 144 #[.int .i64 g1, .int .i64 g2, .slice g3 g4 g5]) := by rw [hw4]; exact Box.new _ _ _
    have HGs : Hid (W.heap.size ≤ w3.heap.size) := HK3.out.size
    generalize w3.heap.size = G at HG4 HGs ⊢
    clear hw4 e1
    have HXc : Hid (∀ wr, Kept No w4 wr → wr.cell? ⟨G, 0, none⟩ = some (.int .i64 g1) ∧ wr.cell? ⟨G, 1, none⟩ = some (.int .i64 g2) ∧ wr.cell? ⟨G, 2, none⟩ = some (.slice g3 g4 g5) ∧ wr.cell? ⟨N + 1, 0, none⟩ = some (.slice a1 (n + 1) c1)) := fun wr hk => by
      have h := HG4.out.kept hk (fun e => e)
      have h' := H1.out.kept (HK4.out.then hk) (fun e => e)
      exact ⟨h.cell 0, h.cell 1, h.cell 2, h'.cell 0⟩
    obtain ⟨x0, x1, x2, x3⟩ := HXc.out w4 (Kept.refl _ _)
    have HKr : Hid (Kept No w4 w4.drew) := (Kept.refl No w4).drew
    have hN1 := H1.out.lt
    have n1 : N ≠ G := by have := HGs.out; omega
    have n2 : G ≠ N := n1.symm
    have n3 : N ≠ N + 1 := by omega
    have n4 : N + 1 ≠ N := by omega
    clear hN1
    have HLn : Hid (bs.length = n + 1) := by show _ = _; rw [HBS.out, List.length_map]; exact HM.out
    go_region_held3 (fun w' => w'.cell? ⟨G, 0, none⟩ = some (.int .i64 g1) ∧ w'.cell? ⟨G, 1, none⟩ = some (.int .i64 g2) ∧ w'.cell? ⟨G, 2, none⟩ = some (.slice g3 g4 g5) ∧ w'.cell? ⟨N + 1, 0, none⟩ = some (.slice a1 (n + 1) c1)) (go_keep) (first
      | (go_at_call 91
         refine Calls.mono (contains_any a1 (n + 1) c1 G bs ⟨g1, g2, g3, g4, g5⟩ w4.drew HLn.out hm' (HSt.out.no (HK4.out.then HKr.out)) (HG4.out.kept HKr.out (fun e => e))) ?_
         rintro e w5 ⟨rfl, hk5⟩
         have HK5 : Hid (Kept No w4 w5) := HKr.out.then hk5
         obtain ⟨y0, y1, y2, y3⟩ := HXc.out w5 HK5.out
         have HZ5 : Hid (Box w5 N 144 #[.int .i64 0, .int .i64 0, .slice none 0 0]) := H0.out.kept (HK4.out.then HK5.out) (fun e => e)
         have b0 := HZ5.out.cell 0
         have b1 := HZ5.out.cell 1
         have b2 := HZ5.out.cell 2
         have f0 := HZ5.out.frozen 0
         have f1 := HZ5.out.frozen 1
         have f2 := HZ5.out.frozen 2
         simp only [List.getElem?_toArray, List.getElem?_cons_zero, List.getElem?_cons_succ] at b0 b1 b2
         clear hk5))
    obtain ⟨hF, hKs⟩ := set3 HZ5.out (.int .i64 g1) (.int .i64 g2) (.slice g3 g4 g5)
    have HF : Hid _ := hF
    have HKs : Hid _ := hKs
    clear hF hKs
    generalize (((w5.setCell ⟨N, 0, none⟩ (.int .i64 g1)).setCell ⟨N, 1, none⟩ (.int .i64 g2)).setCell ⟨N, 2, none⟩ (.slice g3 g4 g5)) = w6 at HF HKs ⊢
    clear b0 b1 b2 f0 f1 f2
    go_wp2
    have hDl := (Array.getElem?_eq_some_iff.1 HD.out.1).1
    have hND : D ≠ N := fun e => by
      have h1 := H0.out
      unfold Box at h1
      have h2 := HD.out.1
      rw [e, h1] at h2
      cases h2
    have hKall : Kept (Only N) W w6 := ((HK4.out.then HK5.out).of_no).then HKs.out
    have hK' : w6.heap[D]? = some (.deferred (some [])) := (hKall.block D hDl hND).trans HD.out.1
    have hgr := grownBy_putObj' w6 D (.deferred none)
    have hrw : ∀ r, some D = some r → ∃ o : Obj, w6.heap[r]? = some o ∧ o.isCells = false := fun r e => by cases e; exact ⟨_, hK', rfl⟩
    have hF' := box_cells HF.out hgr hrw
    have hnn := HNN.out
    have hDw := HD.out.2
    have hSn := HlS.out
    refine ⟨by simp, .inl ⟨_, _, rfl, run_takeDeferred hK', ?_⟩⟩
    refine ⟨.tuple #[.agg #[.int .i64 g1, .int .i64 g2, .slice g3 g4 g5], .bool (!bs.any (otherB ⟨g1, g2, g3, g4, g5⟩))], ?_, ?_, ?_⟩
    · refine (results_row_tmp (fn := Try.f84) (p := 2) (u := 3) (t := 144) rfl _ _ N #[.int .i64 g1, .int .i64 g2, .slice g3 g4 g5] rfl (load57_run hF' rfl)).trans ?_
      rfl
    · rw [← HBS.out, ← HGd.out]
      rfl
    · exact (HKW.out.trans hKall (fun _ e => e) (fun i hi e => by have : i = N := e; omega)).grown hgr (fun k e hk => by cases e; omega)
  case stop =>
    rintro D c pre W hD hpre h _
    exact h.elim

end Go.Proofs.Ythnecaejhnojfaa
