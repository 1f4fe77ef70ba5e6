import Derived.Test.YtphiokehcgbldaaRd
import Derived.LoopN
import Derived.Laws.EntriesVeiled
import Derived.Deep.CutBlock
import Derived.Sort.CutIn
namespace Go.Proofs.Ytphiokehcgbldaa
open Go.RowKit Go.Shelf
set_option linter.unusedVariables false
set_option linter.unusedSimpArgs false

attribute [local go_sem] Oper.semAt_some
set_option maxRecDepth 100000 in
set_option maxHeartbeats 16000000 in
theorem seqsWalk (a0 : Option Addr) (m c0 : Nat) (xs : List St) (a1 : Option Addr) (m1 c1 : Nat) (xs1 : List St) (stop : Int) (w0 : World) (hm : xs.length = m) (hml : m ≤ 140737488351232) (hX : Sts w0 a0 xs) (hok : ∀ x ∈ xs, StOk w0 x)
    (hm1 : xs1.length = m1) (hml1 : m1 ≤ 140737488351232) (hX1 : Sts w0 a1 xs1) (hok1 : ∀ x ∈ xs1, StOk w0 x) :
    Calls Try.prog 5 #[.slice a0 m c0, .slice a1 m1 c1, .int .i64 stop] w0 (fun e w' => e = .returned (.bool true) ∧ Kept No w0 w') := by
  obtain ⟨C, hC⟩ : ∃ C : Ending → World → Prop, C = (fun e w' => e = .returned (.bool true) ∧ Kept No w0 w') := ⟨_, rfl⟩
  have HC : Hid (C = (fun e w' => e = .returned (.bool true) ∧ Kept No w0 w')) := hC
  rw [← hC]
  clear hC
  have HM : Hid (xs.length = m ∧ xs1.length = m1) := ⟨hm, hm1⟩
  have HXs : Hid (Sts w0 a0 xs ∧ (∀ x ∈ xs, StOk w0 x) ∧ Sts w0 a1 xs1 ∧ (∀ x ∈ xs1, StOk w0 x)) := ⟨hX, hok, hX1, hok1⟩
  clear hm hX hok hm1 hX1 hok1
  refine (callsIn_wide (n := 8)).1 ?_
  refine callsIn_of_wp_marks Try.func5 rfl trivial ?_ rfl
  refine wpIn_wide.2 ?_
  simp only [Try.ntmps5, List.size_toArray, List.length_cons, List.length_nil, Nat.reduceAdd, Nat.reduceSub, Array.replicate_succ, Array.replicate_zero, List.push_toArray, List.append_toArray, List.nil_append, List.cons_append]
  go_upto_region 1 with fail
  obtain ⟨wb, hwb⟩ : ∃ wb, wb = ((w0.alloc (.cells #[.slice a1 m1 c1] 22)).alloc (.cells #[.int .i64 stop] 3)).alloc (.cells #[.bool false] 4) := ⟨_, rfl⟩
  rw [← hwb]
  obtain ⟨bM, hbM⟩ : ∃ b, b = w0.heap.size := ⟨_, rfl⟩
  obtain ⟨bS, hbS⟩ : ∃ b, b = w0.heap.size + 1 := ⟨_, rfl⟩
  obtain ⟨bR, hbR⟩ : ∃ b, b = w0.heap.size + 2 := ⟨_, rfl⟩
  rw [← hbR, ← hbS, ← hbM]
  have H0 : Hid (Box wb bM 22 #[.slice a1 m1 c1] ∧ Box wb bS 3 #[.int .i64 stop] ∧ Box wb bR 4 #[.bool false] ∧ Kept No w0 wb ∧ w0.heap.size ≤ bM ∧ w0.heap.size ≤ bS ∧ w0.heap.size ≤ bR ∧ wb.heap.size ≤ w0.heap.size + 3) := by
    have h2 := two w0 22 3 #[.slice a1 m1 c1] #[.int .i64 stop]
    have h3 := Box.new ((w0.alloc (.cells #[.slice a1 m1 c1] 22)).alloc (.cells #[.int .i64 stop] 3)) 4 #[.bool false]
    rw [World.size_alloc, World.size_alloc] at h3
    refine ⟨?_, ?_, ?_, ?_, by omega, by omega, by omega, ?_⟩
    · rw [hwb, hbM]; exact h2.1.alloc _
    · rw [hwb, hbS]; exact h2.2.1.alloc _
    · rw [hwb, hbR]; exact h3
    · rw [hwb]; exact h2.2.2.alloc _
    · rw [hwb]; simp
  clear hwb hbM hbS hbR
  go_upto_region 2 with (go_at_call 8; refine (new_net wb).mono ?_; rintro e w1 ⟨rfl, hN, hk⟩; have H1 : Hid (NetM w1 wb.heap.size ns0 (fun k => k = wb.heap.size) ∧ Kept No wb w1) := ⟨hN, hk⟩; clear hN hk)
  obtain ⟨n, hn⟩ : ∃ n, n = wb.heap.size := ⟨_, rfl⟩
  obtain ⟨r, hr⟩ : ∃ r, r = w1.heap.size := ⟨_, rfl⟩
  obtain ⟨bW, hbW⟩ : ∃ b, b = w1.heap.size + 1 := ⟨_, rfl⟩
  rw [← hbW, ← hr, ← hn]
  obtain ⟨w3, hw3⟩ : ∃ w3, w3 = (w1.alloc (.cells #[.slice none 0 0, .slice none 0 0] 29)).alloc (.cells #[.pointer (some ⟨n, 0, none⟩), .pointer (some ⟨r, 0, none⟩)] 31) := ⟨_, rfl⟩
  rw [← hw3]
  have H3 : Hid (Sc w0 w3 n r bM bS bR bW (.slice a1 m1 c1) stop 0) := by
    have h2 := two w1 29 31 #[.slice none 0 0, .slice none 0 0] #[.pointer (some ⟨n, 0, none⟩), .pointer (some ⟨r, 0, none⟩)]
    rw [← hbW, ← hr, ← hw3] at h2
    have hs := H1.out.2.size
    have hs0 := H0.out.2.2.2.1.size
    have hs3 := h2.2.2.size
    have hnl : n < w1.heap.size := by
      rw [hn]
      rcases H1.out.1 with ⟨_, h, _⟩ | ⟨_, _, _, _, h⟩
      · exact h.lt
      · exact h.box.lt
    have hk13 := H1.out.2.then h2.2.2
    have hlM := H0.out.1.lt
    have hlS := H0.out.2.1.lt
    have hlR := H0.out.2.2.1.lt
    have hlW := h2.2.1.lt
    have hb := H0.out.2.2.2.2
    refine ⟨H0.out.1.kept hk13 (fun e => e), H0.out.2.1.kept hk13 (fun e => e), H0.out.2.2.1.kept hk13 (fun e => e), h2.2.1, ns0, [], [], fun k => k = n ∨ k = r, wd_new (by rw [hn]; exact H1.out.1) (H0.out.2.2.2.1.then H1.out.2) (by omega) h2.1 h2.2.2 (by omega), fun k e f => ?_, Nat.le_refl _, Nat.le_refl _, fun k f => ?_⟩
    · rcases e with e | e <;> rcases f with f | f | f | f <;> omega
    · rcases f with f | f | f | f <;> omega
  clear hw3 hbW hr hn H1 H0
  have v0 : w3.cell? ⟨bW, 0, none⟩ = some (.pointer (some ⟨n, 0, none⟩)) := H3.out.fw.cell 0
  go_upto_block 0 with fail
  clear v0
  go_cut [8] from 23 to 39 (fun _ wc => Hid (Sc w0 wc n r bM bS bR bW (.slice a1 m1 c1) stop 21000))
  case first =>
    go_wp2
    go_loopw [8] (fun iv wr => ∃ i : Nat, i ≤ m ∧ i ≤ 300 ∧ iv = .int .i64 (i : Int) ∧ Hid (Sc w0 wr n r bM bS bR bW (.slice a1 m1 c1) stop (70 * i))) (fun iv _ => m - (intOf iv).toNat)
    case atStart => exact ⟨0, by omega, by omega, rfl, H3⟩
    case round =>
      clear H3
      obtain ⟨i, him, hi3, rfl, HI⟩ := hrel
      by_cases hlt : i < m ∧ i < 300
      · obtain ⟨x, hx⟩ : ∃ x, xs[i]? = some x := ⟨_, List.getElem?_eq_getElem (by rw [HM.out.1]; exact hlt.1)⟩
        have h1 : (i : Int) < (m : Int) := by omega
        have h2 : (i : Int) < 300 := by omega
        obtain ⟨D, off, rfl, hc⟩ := HXs.out.1 i x hx
        have HXk : Hid (StOk w0 x ∧ w0.rangeAt D (off + i * 7) x.cs) := ⟨HXs.out.2.1 x (List.mem_of_getElem? hx), hc⟩
        have him' : i < m := hlt.1
        clear hc hx hlt
        go_upto_region 7 with fail
        refine s7 _ bW n r D off m c0 i x (fun W w' => Sc w0 w' n r bM bS bR bW (.slice a1 m1 c1) stop (70 * i + 70)) wr _ rfl rfl rfl rfl HI.out.fw (fun j v hv => HI.out.we.kept0.cell (HXk.out.2 j v hv) (fun e => e)) him' (HI.out.step HXk.out.1 (by omega) HXk.out.2) ?_
        intro wo hR
        have HR : Hid (Sc w0 wo n r bM bS bR bW (.slice a1 m1 c1) stop (70 * (i + 1))) := hR
        clear hR
        simp only [Wa.pA, Wa.pB, Wa.p1, Wa.p2, Wa.p3]
        go_wp2
        go_roundw
        case rel => exact ⟨i + 1, by omega, by omega, by go_num, HR⟩
        case measure => simp [intOf]; omega
      · have HE : Hid (Sc w0 wr n r bM bS bR bW (.slice a1 m1 c1) stop 21000) := by
          obtain ⟨s, ys, ss, X, h1, h2, h3, h4, h5⟩ := HI.out.we
          exact ⟨HI.out.fm, HI.out.fs, HI.out.fr, HI.out.fw, s, ys, ss, X, h1, h2, by omega, by omega, h5⟩
        by_cases h1 : i < m
        · have h1' : (i : Int) < (m : Int) := by omega
          have h2' : ¬ (i : Int) < 300 := by omega
          clear hlt
          go_wp2
          go_meet
          case rel => exact HE
        · have h1' : ¬ (i : Int) < (m : Int) := by omega
          clear hlt
          go_wp2
          go_meet
          case rel => exact HE
  clear H3
  revert wc
  intro wq hcut
  have HQ := hcut
  clear hcut
  obtain ⟨s, ys, ss, X, hwd, hX4, hcm, hsl, hlow⟩ := HQ.out.we
  obtain ⟨I, la, lc, sa, sc, hN, hR, hIX, hBX⟩ := hwd.net
  have hyl : ys.length ≤ 21001 := by have := hwd.len; omega
  have HW : Hid (Wd w0 wq n r s ys ss X ∧ (∀ k, X k → ¬ O4 bM bS bR bW k) ∧ s.came ≤ 21000 ∧ ss.length ≤ 21000 ∧ (∀ k, O4 bM bS bR bW k → k < wq.heap.size ∧ w0.heap.size ≤ k) ∧ NetM wq n s I ∧ RfM wq r ys ss la lc sa sc w0.heap.size) := ⟨hwd, hX4, hcm, hsl, hlow, hN, hR⟩
  clear hwd hX4 hcm hsl hlow hN hR hIX hBX
  go_upto_region 9 with fail
  go_cut [9] from 40 to 46 (fun v9 wv => ∃ (bV : Nat) (wa : Option Addr) (wcp : Nat), v9 = .pointer (some ⟨bV, 0, none⟩) ∧ Hid (Kept No wq wv ∧ Box wv bV 26 #[.slice wa ys.length wcp] ∧ Own 44 6 wv wq.heap.size wa wcp ys.length (ys.flatMap pkL) ∧ wq.heap.size ≤ bV))
  case first =>
    obtain ⟨W1, hW1⟩ : ∃ W1, W1 = wq.alloc (.cells #[] 44) := ⟨_, rfl⟩
    have H1 : Hid (Kept No wq W1 ∧ Own 44 6 W1 wq.heap.size (some ⟨wq.heap.size, 0, none⟩) 0 0 []) := by
      rw [hW1]; exact ⟨(Kept.refl No wq).alloc _, World.ownsRow_made wq #[] 0 (Nat.le_refl _) (Nat.zero_le _) rfl⟩
    have v7 : (wq.alloc (.cells #[] 44)).cell? ⟨bW, 1, none⟩ = some (.pointer (some ⟨r, 0, none⟩)) := by rw [← hW1]; exact (HQ.out.fw.kept H1.out.1 (fun e => e)).cell 1
    have v8 : (wq.alloc (.cells #[] 44)).cell? ⟨r, 0, none⟩ = some (.slice la ys.length lc) := by rw [← hW1]; exact (HW.out.2.2.2.2.2.2.box.kept H1.out.1 (fun e => e)).cell 0
    rw [hW1] at H1
    clear hW1 W1
    cases la with
    | none =>
      have h0 : ys.length = 0 ∧ lc = 0 := by
        rcases HW.out.2.2.2.2.2.2.row.2 with ⟨hv, h0⟩ | ⟨g, cap', cur, hv, _⟩
        · simp only [Value.slice.injEq] at hv; exact ⟨h0, hv.2.2⟩
        · simp at hv
      have hy0 : ys = [] := List.eq_nil_of_length_eq_zero h0.1
      subst hy0
      rw [h0.2] at v8
      obtain ⟨i44, hi44⟩ : ∃ i, Try.prog.info? 44 = some i := by
        have := info44
        cases h : Try.prog.info? 44 with
        | none => rw [h] at this; cases this
        | some i => exact ⟨i, rfl⟩
      go_upto_region 10 with (at_builtin; refine wpList_append_own_none rfl _ _ 26 rfl wq.heap.size 44 i44 6 und26 hi44 _ 0 [] rfl H1.out.2 rfl ?_)
      have h2 := two wq 44 26 #[] #[.slice (some ⟨wq.heap.size, 0, none⟩) 0 0]
      go_meet
      case rel => exact ⟨wq.heap.size + 1, some ⟨wq.heap.size, 0, none⟩, 0, rfl, h2.2.2, h2.2.1, H1.out.2.no ((Kept.refl No _).alloc _), by omega⟩
    | some ad =>
      go_upto_region 10 with (at_builtin; refine wp_appG rfl _ _ 26 44 6 64 _ und26 info44 rfl (by omega) rfl wq.heap.size 0 0 _ [] rfl H1.out.2 ad ys.length lc (ys.flatMap pkL) rfl (fl_len ys) (own_cellA (HW.out.2.2.2.2.2.2.row.no H1.out.1)) (fl_one ys) (by omega) (by omega) (by have := H1.out.1.size; omega) ys.length (by omega) ?_; intro a5 cap5 w5 HO5 HK5 HA5)
      have hk5 : Kept No wq w5 := H1.out.1.trans HK5.out (fun _ e => e) (fun i hi e => by have := Own.base H1.out.2 e; omega)
      have hka : Kept No w5 (w5.alloc (.cells #[.slice a5 ys.length cap5] 26)) := (Kept.refl No w5).alloc _
      go_meet
      case rel => exact ⟨w5.heap.size, a5, cap5, rfl, hk5.then hka, Box.new _ _ _, Own.no (by simpa using HO5.out) hka, hk5.size⟩
  revert wc
  intro wv hcut
  obtain ⟨bV, wa, wcp, hv9, HV⟩ := hcut
  subst hv9
  have v0 : wv.cell? ⟨bW, 0, none⟩ = some (.pointer (some ⟨n, 0, none⟩)) := (HQ.out.fw.kept HV.out.1 (fun e => e)).cell 0
  go_upto_region 11 with (go_at_call 21; refine (under_any (s := s) (I := I) _ (HW.out.2.2.2.2.2.1.no HV.out.1) (by have := HW.out.2.2.1; omega)).mono ?_; intro e w2 hu; obtain ⟨lb, qa, rc, P, rfl, hsq, hlb, hra, hk⟩ := hu; have HU : Hid (SeqN w2 lb qa rc s.L P s.L ∧ wv.heap.size ≤ lb ∧ (∀ k, At qa k → wv.heap.size ≤ k) ∧ Kept No wv w2) := ⟨hsq, hlb, hra, hk⟩; clear hsq hlb hra hk)
  clear v0
  obtain ⟨w3', hw3⟩ : ∃ w3, w3 = w2.alloc (.cells #[.func (.func 39) #[] #[.pointer (some ⟨lb, 0, none⟩)]] 53) := ⟨_, rfl⟩
  obtain ⟨bF, hbF⟩ : ∃ b, b = w2.heap.size := ⟨_, rfl⟩
  rw [← hw3, ← hbF]
  have HF : Hid (Box w3' bF 53 #[.func (.func 39) #[] #[.pointer (some ⟨lb, 0, none⟩)]] ∧ Kept No w2 w3' ∧ w2.heap.size ≤ bF ∧ bF < w3'.heap.size) := by
    rw [hw3, hbF]; exact ⟨Box.new _ _ _, (Kept.refl No w2).alloc _, Nat.le_refl _, by simp⟩
  clear hw3 hbF
  have heq := eqFn lb w3'
  have v1 : w3'.cell? ⟨bF, 0, none⟩ = some (.func (.func 39) #[] #[.pointer (some ⟨lb, 0, none⟩)]) := HF.out.1.cell 0
  go_upto_block 2 with fail
  clear heq v1
  obtain ⟨w4, hw4⟩ : ∃ w4, w4 = w3'.alloc (.cells #[.int .i64 0] 3) := ⟨_, rfl⟩
  obtain ⟨bT, hbT⟩ : ∃ b, b = w3'.heap.size := ⟨_, rfl⟩
  rw [← hw4, ← hbT]
  have HT : Hid (Box w4 bT 3 #[.int .i64 0] ∧ Kept No w3' w4 ∧ w3'.heap.size ≤ bT ∧ bT < w4.heap.size) := by
    rw [hw4, hbT]; exact ⟨Box.new _ _ _, (Kept.refl No w3').alloc _, Nat.le_refl _, by simp⟩
  clear hw4 hbT
  go_wp2
  refine wp_loop_rounds (2 + 1) ?_
  rw [rounds_succ]
  have t0 : w4.cell? ⟨bT, 0, none⟩ = some (.int .i64 0) := HT.out.1.cell 0
  go_upto_region 17 with fail
  clear t0
  obtain ⟨w5, hw5⟩ : ∃ w5, w5 = w4.alloc (.cells #[.int .i64 0] 3) := ⟨_, rfl⟩
  obtain ⟨bN, hbN⟩ : ∃ b, b = w4.heap.size := ⟨_, rfl⟩
  rw [← hw5, ← hbN]
  have HN5 : Hid (Box w5 bN 3 #[.int .i64 0] ∧ Kept No w4 w5 ∧ w4.heap.size ≤ bN ∧ bN < w5.heap.size) := by
    rw [hw5, hbN]; exact ⟨Box.new _ _ _, (Kept.refl No w4).alloc _, Nat.le_refl _, by simp⟩
  clear hw5 hbN
  have hk35 := HT.out.2.1.then HN5.out.2.1
  have hk25 := HF.out.2.1.then hk35
  have hkv5 := HU.out.2.2.2.then hk25
  have HTn : Hid (Tn w0 w5 (Wh.mk bM bS bR bW bV bF lb qa wa wcp) n r (.slice a1 m1 c1) stop ys (fun k => k = bT ∨ k = bN) bT 0 bN 0 21000) := by
    have z1 := HV.out.1.size
    have z2 := HU.out.2.2.2.size
    have z3 := HF.out.2.1.size
    have z4 := HV.out.2.1.lt
    have z5 := HU.out.1.box.lt
    have z6 := HU.out.2.1
    have z7 := HF.out.2.2
    have z8 := HT.out.2.2
    have z9 := HN5.out.2.2
    have za := HV.out.2.2.2
    refine Tn.make (q := w3'.heap.size) HQ.out HW.out.1 HW.out.2.1 HW.out.2.2.2.2.1 HW.out.2.2.1 HW.out.2.2.2.1 (HV.out.1.then hkv5) (HV.out.2.1.kept hkv5 (fun e => e)) (HV.out.2.2.1.no hkv5) (HF.out.1.kept hk35 (fun e => e)) ⟨za, by omega, by omega, fun k e => by have := HU.out.2.2.1 k e; omega⟩ ⟨by omega, by omega, by omega, fun k e => by have := Own.ltA HU.out.1.row e; omega, fun k e => by have := Own.ltA HV.out.2.2.1 e; omega⟩ ⟨by omega, by omega, by omega⟩ (HT.out.1.kept HN5.out.2.1 (fun e => e)) HN5.out.1
  have hbTN : bT < bN ∧ bN < w5.heap.size := by have := HT.out.2.2; have := HN5.out.2.2; omega
  have HS5 : Hid (SeqN w5 lb qa rc s.L P s.L) := HU.out.1.no hk25
  have HZ : Hid ((∀ q ∈ s.L, q.zs.length ≤ 140737488355328) ∧ ∀ k, SqB lb qa s.L k → k < bT) := ⟨HW.out.1.zs, fun k e => by have := HU.out.1.lt e; have := HF.out.2.1.size; have := HT.out.2.2; omega⟩
  have hLl : s.L.length ≤ 21001 := by rw [← HW.out.1.eq, List.length_map]; exact hyl
  have hbR : bR < bT := by have := HQ.out.fr.lt; have := HV.out.1.size; have := HU.out.2.2.2.size; have := HF.out.2.1.size; have := HT.out.2.2; omega
  have hLy : s.L.length = ys.length := by rw [← HW.out.1.eq, List.length_map]
  clear hk35 hk25 hkv5
  have g0 : w5.cell? ⟨bF, 0, none⟩ = some (.func (.func 39) #[] #[.pointer (some ⟨lb, 0, none⟩)]) := HTn.out.wk.ff.cell 0
  go_upto_block 4 with fail
  clear g0
  obtain ⟨BB, hBB⟩ : ∃ B, B = w5.heap.size := ⟨_, rfl⟩
  have HBB : Hid (BB = w5.heap.size) := hBB
  have hbB : bT < BB ∧ bN < BB ∧ bT < bN := by omega
  clear hBB hbTN
  refine cut_defer (fun D W => W.heap[D]? = some (.deferred (some [])) ∧ BB ≤ D ∧ D ≤ BB ∧ SeqN W lb qa rc s.L P s.L ∧ ∃ c : Nat, Tn w0 W (Wh.mk bM bS bR bW bV bF lb qa wa wcp) n r (.slice a1 m1 c1) stop ys (EB bT bN BB W) bT 0 bN c 1500000) ?_ ?_
  · go_wp2
    refine (wpIn_wide (n := 8)).1 ?_
    refine' rf_net (by omega) (lb := lb) rfl HS5.out (by omega) HZ.out.1 (fun pre W => Tn w0 W (Wh.mk bM bS bR bW bV bF lb qa wa wcp) n r (.slice a1 m1 c1) stop ys (EB bT bN BB W) bT 0 bN pre.length (21000 + 70 * pre.length) ∧ SeqN W lb qa rc s.L P s.L) (fun c pre W => c = .exit 4 ∧ pre.length ≤ 21001 ∧ Tn w0 W (Wh.mk bM bS bR bW bV bF lb qa wa wcp) n r (.slice a1 m1 c1) stop ys (EB bT bN BB W) bT 0 bN pre.length (21000 + 70 * pre.length) ∧ SeqN W lb qa rc s.L P s.L) ⟨by rw [HBB.out]; exact HTn.out.re0 (Nat.le_refl _), HS5.out⟩ ?hI ?hIx ?round ?done ?stop
    case hI =>
      intro xs W W' hi hk
      rw [← HBB.out] at hk
      exact ⟨hi.1.bk hk ⟨hbB.1, hbB.2.1⟩, hi.2.kept hk (fun k e f => by have f : k = BB ∨ k = BB + 1 := f; have := HZ.out.2 k e; omega)⟩
    case hIx =>
      intro c xs W W' hi hk
      rw [← HBB.out] at hk
      exact ⟨hi.1, hi.2.1, hi.2.2.1.bk hk ⟨hbB.1, hbB.2.1⟩, hi.2.2.2.kept hk (fun k e f => by have f : k = BB ∨ k = BB + 1 := f; have := HZ.out.2 k e; omega)⟩
    case done =>
      intro xs W hxs hi hD
      have hl : xs.length = ys.length := by rw [← hLy, ← hxs, List.length_map]
      refine ⟨rfl, w5.heap.size, rfl, hD, by rw [HBB.out]; exact Nat.le_refl _, by rw [HBB.out]; exact Nat.le_refl _, hi.2, _, hi.1.mono (by omega)⟩
    case stop =>
      intro c pre W hi hD
      obtain ⟨rfl, hpl, hi⟩ := hi
      gi_wp2
      refine ⟨rfl, w5.heap.size, rfl, hD, by rw [HBB.out]; exact Nat.le_refl _, by rw [HBB.out]; exact Nat.le_refl _, hi.2, _, hi.1.mono (by omega)⟩
    case round =>
      rw [← HBB.out]
      intro pre x W0 W1 hi hk01 hO hp hl0 hsq hlo
      obtain ⟨y, hy, hyq⟩ := y_of HW.out.1.eq hp
      have hpl : pre.length < ys.length := (List.getElem?_eq_some_iff.1 hy).1
      have HD : Hid (Bytes w0 y.a y.q.zs ∧ y.q.zs.length ≤ 140737488351232 ∧ ys[pre.length]? = some y ∧ y.q = x.q) := ⟨(HW.out.1.dat y (List.mem_of_getElem? hy)).1, (HW.out.1.dat y (List.mem_of_getElem? hy)).2, hy, hyq⟩
      have HI1 : Hid (Tn w0 W1 (Wh.mk bM bS bR bW bV bF lb qa wa wcp) n r (.slice a1 m1 c1) stop ys (EB bT bN BB W1) bT 0 bN pre.length (21000 + 70 * pre.length) ∧ SeqN W1 lb qa rc s.L P s.L ∧ OwnB W1 W0.heap.size x.a x.c x.q.zs) := ⟨hi.1.bk hk01.of_no ⟨hbB.1, hbB.2.1⟩, hsq, hO⟩
      have hl1 : BB + 1 < W1.heap.size := Nat.lt_of_lt_of_le hl0 hk01.size
      have HL0 : Hid (BB + 1 < W0.heap.size) := hl0
      clear hi hk01 hO hp hl0 hsq hlo hy hyq
      simp only [tdV]
      gi_wp2
      refine ⟨(Kept.refl _ W1).alloc _, fun Wb hkb hlo' => ?_⟩
      have hkA : Kept No W1 (W1.alloc (.cells #[.bool x.q.nm.1.1, .int .i64 x.q.nm.1.2, .int .i64 x.q.nm.2, .bool x.q.to'.1, .int .i64 x.q.to'.2, .slice x.a x.q.zs.length x.c] 44)) := (Kept.refl No W1).alloc _
      have hkB : Kept (Bk2 BB) W1 Wb := hkA.of_no.then (hkb.mono (fun k _ e => .inr e))
      have HIb : Hid (Tn w0 Wb (Wh.mk bM bS bR bW bV bF lb qa wa wcp) n r (.slice a1 m1 c1) stop ys (EB bT bN BB Wb) bT 0 bN pre.length (21000 + 70 * pre.length) ∧ SeqN Wb lb qa rc s.L P s.L ∧ OwnB Wb W0.heap.size x.a x.c x.q.zs ∧ Box Wb W1.heap.size 44 #[.bool x.q.nm.1.1, .int .i64 x.q.nm.1.2, .int .i64 x.q.nm.2, .bool x.q.to'.1, .int .i64 x.q.to'.2, .slice x.a x.q.zs.length x.c]) :=
        ⟨HI1.out.1.bk hkB ⟨hbB.1, hbB.2.1⟩, HI1.out.2.1.kept hkB (fun k e f => by have f : k = BB ∨ k = BB + 1 := f; have := HZ.out.2 k e; omega), (Own.no HI1.out.2.2 hkA).kept hkb (fun k e f => by have f : k = BB + 1 := f; have := Own.base HI1.out.2.2 e; have := HL0.out; omega), (Box.new W1 44 _).kept hkb (fun e => by have e : W1.heap.size = BB + 1 := e; omega)⟩
      have HLb : Hid (∃ r, Wb.heap[BB + 1]? = some (.loop r)) := hlo'
      have hlb : BB + 1 < Wb.heap.size := Nat.lt_of_lt_of_le hl1 hkB.size
      clear HI1 hkA hkb hkB hlo'
      obtain ⟨pg, CS, ewa, hbg, hpart⟩ := own_box HIb.out.1.wk.row HD.out.2.2.1
      have HG : Hid (Box Wb bV 26 #[.slice (some ⟨pg, 0, none⟩) ys.length wcp] ∧ Box Wb pg 44 CS.toArray ∧ Wa.Part CS (pre.length * 6) (pkL y)) := ⟨by have e := HIb.out.1.wk.fv; have ewa : wa = some ⟨pg, 0, none⟩ := ewa; simp only [ewa] at e; exact e, hbg, hpart⟩
      clear ewa hbg hpart
      refine wpIn_block (wpIn_seq (wpIn_seq ?_))
      refine r19 _ bV bN W1.heap.size pg pre.length ys.length wcp CS y x.q.nm.1.1 x.q.to'.1 x.q.nm.1.2 x.q.nm.2 x.q.to'.2 x.a x.q.zs.length x.c Wb _ _ _ rfl rfl rfl rfl HIb.out.1.bn HG.out.1 HIb.out.2.2.2 HG.out.2.1 hpl HG.out.2.2 (fun W hk => pk_call HD.out.1 HD.out.2.1 HD.out.2.2.2 (HIb.out.1.we.kept0.then hk) (Own.no HIb.out.2.2.1 hk)) ?_
      intro wo hko
      have HIo : Hid (Tn w0 wo (Wh.mk bM bS bR bW bV bF lb qa wa wcp) n r (.slice a1 m1 c1) stop ys (EB bT bN BB wo) bT 0 bN pre.length (21000 + 70 * pre.length) ∧ Kept No Wb wo) := ⟨HIb.out.1.bk hko.of_no ⟨hbB.1, hbB.2.1⟩, hko⟩
      have HSo : Hid (SeqN wo lb qa rc s.L P s.L) := HIb.out.2.1.no hko
      have HLo : Hid (∃ r, wo.heap[BB + 1]? = some (.loop r)) := by
        obtain ⟨r', hr'⟩ := HLb.out
        exact ⟨r', (hko.block _ hlb (fun e => e)).trans hr'⟩
      have hlo1 : BB + 1 < wo.heap.size := Nat.lt_of_lt_of_le hlb hko.size
      have HSb : Hid (SeqN Wb lb qa rc s.L P s.L) := HIb.out.2.1
      clear hko HG HLb HIb
      simp only [Wa.pA, Wa.pB, Wa.p1, Wa.p2, Wa.p3]
      have g0 : wo.cell? ⟨bF, 0, none⟩ = some (.func (.func 39) #[] #[.pointer (some ⟨lb, 0, none⟩)]) := (HIo.out.1.wk).ff.cell 0
      gi_upto_region 22 with fail
      obtain ⟨W6, hW6⟩ : ∃ W6, W6 = wo.alloc (.cells #[.int .i64 0] 3) := ⟨_, rfl⟩
      obtain ⟨bI, hbI⟩ : ∃ b, b = wo.heap.size := ⟨_, rfl⟩
      rw [← hW6, ← hbI]
      have H6 : Hid (Box W6 bI 3 #[.int .i64 0] ∧ Kept No wo W6 ∧ wo.heap.size ≤ bI ∧ bI < W6.heap.size) := by
        rw [hW6, hbI]; exact ⟨Box.new _ _ _, (Kept.refl No wo).alloc _, Nat.le_refl _, by simp⟩
      clear hW6 hbI g0
      have g0 : W6.cell? ⟨bF, 0, none⟩ = some (.func (.func 39) #[] #[.pointer (some ⟨lb, 0, none⟩)]) := (((HIo.out.1.wk).no H6.out.2.1).ff.cell 0)
      gi_wp2
      clear g0
      have hbI1 : wo.heap.size ≤ bI ∧ bI < W6.heap.size := H6.out.2.2
      have hsz6 : wo.heap.size < W6.heap.size := by omega
      have HS6 : Hid (SeqN W6 lb qa rc s.L P s.L) := HSo.out.no H6.out.2.1
      obtain ⟨r6, hr6⟩ := HLo.out
      have HR6 : Hid (W6.heap[BB + 1]? = some (.loop r6)) := (H6.out.2.1.block _ (Array.getElem?_eq_some_iff.1 hr6).1 (fun e => e)).trans hr6
      clear hr6
      refine cut_blk (fun W => Kept No wo W) ?_ ?_
      · refine' rf_netN (l₀ := BB + 1) (r₀ := r6) (by omega) HR6.out (lb := lb) rfl HS6.out (by omega) HZ.out.1 (fun pre2 W => Kept No wo W ∧ Box W bI 3 #[.int .i64 (pre2.length : Nat)] ∧ pre2.length ≤ 2) (fun c _ W => c = .exit 6 ∧ Kept No wo W) ⟨H6.out.2.1, by simpa using H6.out.1, by simp⟩ ?hI2 ?hIx2 ?round2 ?done2 ?stop2
        case hI2 =>
          intro xs2 W W' hi hk
          exact ⟨hi.1.trans hk (fun _ e => e) (fun i h e => by have e : i = W6.heap.size := e; omega), hi.2.1.kept hk (fun e => by have e : bI = W6.heap.size := e; omega), hi.2.2⟩
        case hIx2 =>
          intro c xs2 W W' hi hk
          exact ⟨hi.1, hi.2.trans hk (fun _ e => e) (fun i h e => by have e : i = W6.heap.size := e; omega)⟩
        case done2 =>
          intro xs2 W hxs hi
          exact ⟨rfl, rfl, hi.1⟩
        case stop2 =>
          intro c pre2 W hi
          obtain ⟨rfl, hi⟩ := hi
          gi_wp2
          exact ⟨rfl, rfl, hi⟩
        case round2 =>
          intro pre2 x2 V0 V1 hi hk01 hO hp hl0 hsq hlo
          obtain ⟨y2, hy2, hyq2⟩ := y_of HW.out.1.eq hp
          have hpl2 : pre2.length < ys.length := (List.getElem?_eq_some_iff.1 hy2).1
          have HD2 : Hid (Bytes w0 y2.a y2.q.zs ∧ y2.q.zs.length ≤ 140737488351232 ∧ ys[pre2.length]? = some y2 ∧ y2.q = x2.q) := ⟨(HW.out.1.dat y2 (List.mem_of_getElem? hy2)).1, (HW.out.1.dat y2 (List.mem_of_getElem? hy2)).2, hy2, hyq2⟩
          have HI2 : Hid ((Kept No wo V1 ∧ Box V1 bI 3 #[.int .i64 (pre2.length : Nat)]) ∧ pre2.length ≤ 2) := ⟨⟨hi.1.then hk01, hi.2.1.kept hk01 (fun e => e)⟩, hi.2.2⟩
          have HO2 : Hid (OwnB V1 V0.heap.size x2.a x2.c x2.q.zs) := hO
          have hl1 : W6.heap.size < V1.heap.size := Nat.lt_of_lt_of_le hl0 hk01.size
          have HL2 : Hid (W6.heap.size < V0.heap.size) := hl0
          have hp2 : pre2.length ≤ 2 := hi.2.2
          clear hi hk01 hO hp hl0 hsq hlo hy2 hyq2
          simp only [tdV]
          gi_wp2
          refine ⟨(Kept.refl _ V1).alloc _, fun Vb hkb hlo' => ?_⟩
          have hkA : Kept No V1 (V1.alloc (.cells #[.bool x2.q.nm.1.1, .int .i64 x2.q.nm.1.2, .int .i64 x2.q.nm.2, .bool x2.q.to'.1, .int .i64 x2.q.to'.2, .slice x2.a x2.q.zs.length x2.c] 44)) := (Kept.refl No V1).alloc _
          have HV2 : Hid (Kept No wo Vb ∧ Box Vb bI 3 #[.int .i64 (pre2.length : Nat)] ∧ Box Vb V1.heap.size 44 #[.bool x2.q.nm.1.1, .int .i64 x2.q.nm.1.2, .int .i64 x2.q.nm.2, .bool x2.q.to'.1, .int .i64 x2.q.to'.2, .slice x2.a x2.q.zs.length x2.c] ∧ OwnB Vb V0.heap.size x2.a x2.c x2.q.zs) :=
            ⟨(HI2.out.1.1.then hkA).trans hkb (fun _ e => e) (fun i h e => by have e : i = W6.heap.size := e; omega), (HI2.out.1.2.kept hkA (fun e => e)).kept hkb (fun e => by have e : bI = W6.heap.size := e; omega), (Box.new V1 44 _).kept hkb (fun e => by have e : V1.heap.size = W6.heap.size := e; omega), (Own.no HO2.out hkA).kept hkb (fun k e f => by have f : k = W6.heap.size := f; have := Own.base HO2.out e; have := HL2.out; omega)⟩
          clear hkA hkb hlo' HI2 HO2
          obtain ⟨pg2, CS2, ewa2, hbg2, hpart2⟩ := own_box ((HIo.out.1.wk).no HV2.out.1).row HD2.out.2.2.1
          have HG2 : Hid (Box Vb bV 26 #[.slice (some ⟨pg2, 0, none⟩) ys.length wcp] ∧ Box Vb pg2 44 CS2.toArray ∧ Wa.Part CS2 (pre2.length * 6) (pkL y2)) := ⟨by rw [← ewa2]; exact ((HIo.out.1.wk).no HV2.out.1).fv, hbg2, hpart2⟩
          clear ewa2 hbg2 hpart2
          refine wpIn_block (wpIn_seq (wpIn_seq ?_))
          refine r24 _ bV bI V1.heap.size pg2 pre2.length ys.length wcp CS2 y2 x2.q.nm.1.1 x2.q.to'.1 x2.q.nm.1.2 x2.q.nm.2 x2.q.to'.2 x2.a x2.q.zs.length x2.c Vb _ _ _ rfl rfl rfl rfl HV2.out.2.1 HG2.out.1 HV2.out.2.2.1 HG2.out.2.1 hpl2 HG2.out.2.2 (fun W hk => pk_call HD2.out.1 HD2.out.2.1 HD2.out.2.2.2 ((HIo.out.1.we.kept0.then HV2.out.1).then hk) (Own.no HV2.out.2.2.2 hk)) ?_
          intro vo hvo
          have HVo : Hid (Kept No wo vo ∧ Box vo bI 3 #[.int .i64 (pre2.length : Nat)] ∧ Kept No Vb vo) := ⟨HV2.out.1.then hvo, HV2.out.2.1.kept hvo (fun e => e), hvo⟩
          clear hvo HV2 HG2
          simp only [Wa.pA, Wa.pB, Wa.p1, Wa.p2, Wa.p3]
          have e1 : vo.cell? ⟨bI, 0, none⟩ = some (.int .i64 (pre2.length : Nat)) := HVo.out.2.1.cell 0
          have f1 := HVo.out.2.1.frozen 0
          gi_upto_region 27 with fail
          obtain ⟨vn, hvn⟩ : ∃ vn, vn = vo.setCell ⟨bI, 0, none⟩ (.int .i64 ((pre2.length : Int) + 1)) := ⟨_, rfl⟩
          rw [← hvn]
          have HVn : Hid (Kept No wo vn ∧ Box vn bI 3 #[.int .i64 ((pre2.length : Int) + 1)] ∧ Kept (Only bI) Vb vn) := by
            have hks : Kept (Only bI) vo vn := by rw [hvn]; exact (Kept.refl (Only bI) vo).setCell (p := ⟨bI, 0, none⟩) (fun _ => rfl) _
            have hbx := HVo.out.2.1.set 0 (.int .i64 ((pre2.length : Int) + 1))
            refine ⟨HVo.out.1.trans hks (fun _ e => e) (fun i h e => by have e : i = bI := e; omega), ?_, HVo.out.2.2.of_no.then hks⟩
            rw [hvn]; simpa using hbx
          clear hvn e1 f1 HVo
          have e2 : vn.cell? ⟨bI, 0, none⟩ = some (.int .i64 ((pre2.length : Int) + 1)) := HVn.out.2.1.cell 0
          have hl2 : (pre2 ++ [x2]).length = pre2.length + 1 := by simp
          have hne : ∀ k, k = bI → ¬ (SqB lb qa s.L k ∨ k = W6.heap.size) := fun k e f => by
            rcases f with f | f
            · have := HZ.out.2 k f; omega
            · omega
          by_cases h2 : pre2.length = 2
          · have h2' : (pre2.length : Int) + 1 > 2 := by omega
            gi_wp2
            exact ⟨HVn.out.2.2.mono (fun k _ e f => by have e : k = bI := e; omega), rfl, HVn.out.1⟩
          · have h2' : ¬ (pre2.length : Int) + 1 > 2 := by omega
            gi_wp2
            refine ⟨HVn.out.2.2.mono (fun k _ e => hne k e), HVn.out.1, ?_, by rw [hl2]; omega⟩
            rw [hl2]
            simpa using HVn.out.2.1
      intro W7 hk7
      have HI7 : Hid (Tn w0 W7 (Wh.mk bM bS bR bW bV bF lb qa wa wcp) n r (.slice a1 m1 c1) stop ys (EB bT bN BB W7) bT 0 bN pre.length (21000 + 70 * pre.length) ∧ Kept No Wb W7 ∧ SeqN W7 lb qa rc s.L P s.L) := ⟨HIo.out.1.bk hk7.of_no ⟨hbB.1, hbB.2.1⟩, HIo.out.2.then hk7, HSo.out.no hk7⟩
      have hl7 : BB + 1 < W7.heap.size := Nat.lt_of_lt_of_le hlb HI7.out.2.1.size
      clear hk7 HIo HSo HLo H6 hbI1 hsz6 HS6 HR6
      have ht0 : Box W7 bT 3 #[.int .i64 0] := by have := HI7.out.1.bt; simpa using this
      have HT0 : Hid (Box W7 bT 3 #[.int .i64 0]) := ht0
      clear ht0
      by_cases hkm : pre.length < m1
      · obtain ⟨z, hz⟩ : ∃ z, xs1[pre.length]? = some z := ⟨_, List.getElem?_eq_getElem (by rw [HM.out.2]; exact hkm)⟩
        obtain ⟨D, off, ea1, hc⟩ := HXs.out.2.2.1 pre.length z hz
        have HXk : Hid (StOk w0 z ∧ w0.rangeAt D (off + pre.length * 7) z.cs ∧ a1 = some ⟨D, off, none⟩) := ⟨HXs.out.2.2.2 z (List.mem_of_getElem? hz), hc, ea1⟩
        have hbM0 : Box W7 bM 22 #[.slice (some ⟨D, off, none⟩) m1 c1] := by have e := HI7.out.1.wk.fm; rw [ea1] at e; exact e
        have HBM : Hid (Box W7 bM 22 #[.slice (some ⟨D, off, none⟩) m1 c1]) := hbM0
        clear hc hz ea1 hbM0
        gi_upto_region 28 with fail
        refine r28a _ bT bN bM bW n r pre.length m1 c1 none D off z (fun W w' => Tn w0 w' (Wh.mk bM bS bR bW bV bF lb qa wa wcp) n r (.slice a1 m1 c1) stop ys (EB bT bN BB w') bT 0 bN pre.length (21000 + 70 * pre.length + 70) ∧ Kept (Zq BB lb qa s.L) W w') W7 _ _ _ rfl rfl rfl rfl rfl HT0.out HI7.out.1.bn HBM.out HI7.out.1.wk.fw (fun j v hv => HI7.out.1.we.kept0.cell (HXk.out.2.1 j v hv) (fun e => e)) hkm ?_ ?_
        · intro W hW
          have hkW : Kept No W7 W := by rw [hW]; exact (Kept.refl No W7).drew
          have hT := HI7.out.1.bk hkW.of_no ⟨hbB.1, hbB.2.1⟩
          have hS := HI7.out.2.2.no hkW
          have hlW : BB + 1 < W.heap.size := Nat.lt_of_lt_of_le hl7 hkW.size
          refine (hT.step (by omega) HXk.out.1).mono ?_
          rintro e w' ⟨rfl, hT', hk'⟩
          have hbM' := hT'.wk.fm
          have hbT' := hT'.bt
          refine ⟨rfl, ⟨hT'.re hk'.size hlW, hk'.mono (fun k _ e => wst_zq hS hlW rfl rfl e)⟩, by simpa using hbT', hT'.bn, ?_, hT'.wk.fw, fun j v hv => hT'.we.kept0.cell (HXk.out.2.1 j v hv) (fun e => e)⟩
          have e := hT'.wk.fm
          rw [HXk.out.2.2] at e
          exact e
        · intro wp hR
          have HP : Hid (Tn w0 wp (Wh.mk bM bS bR bW bV bF lb qa wa wcp) n r (.slice a1 m1 c1) stop ys (EB bT bN BB wp) bT 0 bN pre.length (21000 + 70 * pre.length + 70) ∧ Kept (Zq BB lb qa s.L) Wb wp ∧ BB + 1 < wp.heap.size) := ⟨hR.1, (HI7.out.2.1.of_no.then ((Kept.refl No W7).drew.of_no)).then hR.2, Nat.lt_of_lt_of_le hl7 (Nat.le_trans ((Kept.refl No W7).drew).size hR.2.size)⟩
          clear hR HBM HT0 HI7 HXk
          simp only [Wa.pA, Wa.pB, Wa.p1, Wa.p2, Wa.p3]
          have e1 : wp.cell? ⟨bN, 0, none⟩ = some (.int .i64 (pre.length : Nat)) := HP.out.1.bn.cell 0
          have f1 := HP.out.1.bn.frozen 0
          gi_upto_region 31 with fail
          obtain ⟨wn, hwn⟩ : ∃ wn, wn = wp.setCell ⟨bN, 0, none⟩ (.int .i64 ((pre.length : Int) + 1)) := ⟨_, rfl⟩
          rw [← hwn]
          have HNn : Hid (Tn w0 wn (Wh.mk bM bS bR bW bV bF lb qa wa wcp) n r (.slice a1 m1 c1) stop ys (EB bT bN BB wn) bT 0 bN (pre.length + 1) (21000 + 70 * (pre.length + 1)) ∧ Kept (Zq BB lb qa s.L) Wb wn) := by
            have hc := HP.out.1.cnt
            rw [← hwn] at hc
            refine ⟨(hc.1.re hc.2.size HP.out.2.2).mono (by omega), HP.out.2.1.then (hc.2.mono (fun k _ e => ?_))⟩
            intro f
            have e : k = bN := e
            rcases f with f | f
            · have := HZ.out.2 k f; omega
            · have f : k = BB ∨ k = BB + 1 := f; omega
          have HSn : Hid (SeqN wn lb qa rc s.L P s.L) := HSb.out.kept HNn.out.2 (fun k e f => f (.inl e))
          clear hwn e1 f1 HP
          have e2 : wn.cell? ⟨bT, 0, none⟩ = some (.int .i64 0) := by have := HNn.out.1.bt.cell 0; simpa using this
          have e3 : wn.cell? ⟨bN, 0, none⟩ = some (.int .i64 ((pre.length : Int) + 1)) := by have := HNn.out.1.bn.cell 0; simpa using this
          have e4 : wn.cell? ⟨bS, 0, none⟩ = some (.int .i64 stop) := HNn.out.1.wk.fs.cell 0
          have hl2 : (pre ++ [x]).length = pre.length + 1 := by simp
          by_cases hst : (pre.length : Int) + 1 = stop
          · gi_wp2
            refine ⟨HNn.out.2.mono (fun k _ e f => e (.inr f)), rfl, by rw [hl2]; omega, ?_⟩
            rw [hl2]
            exact ⟨HNn.out.1, HSn.out⟩
          · gi_wp2
            refine ⟨HNn.out.2, ?_⟩
            show Tn w0 wn (Wh.mk bM bS bR bW bV bF lb qa wa wcp) n r (.slice a1 m1 c1) stop ys (EB bT bN BB wn) bT 0 bN (pre ++ [x]).length (21000 + 70 * (pre ++ [x]).length) ∧ SeqN wn lb qa rc s.L P s.L
            rw [hl2]
            exact ⟨HNn.out.1, HSn.out⟩
      · gi_upto_region 28 with fail
        refine r28b _ bT bN bM bW n r pre.length m1 c1 a1 W7 _ _ _ rfl rfl rfl rfl rfl HT0.out HI7.out.1.bn HI7.out.1.wk.fm HI7.out.1.wk.fw hkm ?_
        intro wp hR
        have HP : Hid (Tn w0 wp (Wh.mk bM bS bR bW bV bF lb qa wa wcp) n r (.slice a1 m1 c1) stop ys (EB bT bN BB wp) bT 0 bN pre.length (21000 + 70 * pre.length + 70) ∧ Kept (Zq BB lb qa s.L) Wb wp ∧ BB + 1 < wp.heap.size) := ⟨(HI7.out.1.bk hR.of_no ⟨hbB.1, hbB.2.1⟩).mono (by omega), HI7.out.2.1.of_no.then hR.of_no, Nat.lt_of_lt_of_le hl7 hR.size⟩
        clear hR HT0 HI7
        simp only [Wa.pA, Wa.pB, Wa.p1, Wa.p2, Wa.p3]
        have e1 : wp.cell? ⟨bN, 0, none⟩ = some (.int .i64 (pre.length : Nat)) := HP.out.1.bn.cell 0
        have f1 := HP.out.1.bn.frozen 0
        gi_upto_region 31 with fail
        obtain ⟨wn, hwn⟩ : ∃ wn, wn = wp.setCell ⟨bN, 0, none⟩ (.int .i64 ((pre.length : Int) + 1)) := ⟨_, rfl⟩
        rw [← hwn]
        have HNn : Hid (Tn w0 wn (Wh.mk bM bS bR bW bV bF lb qa wa wcp) n r (.slice a1 m1 c1) stop ys (EB bT bN BB wn) bT 0 bN (pre.length + 1) (21000 + 70 * (pre.length + 1)) ∧ Kept (Zq BB lb qa s.L) Wb wn) := by
          have hc := HP.out.1.cnt
          rw [← hwn] at hc
          refine ⟨(hc.1.re hc.2.size HP.out.2.2).mono (by omega), HP.out.2.1.then (hc.2.mono (fun k _ e => ?_))⟩
          intro f
          have e : k = bN := e
          rcases f with f | f
          · have := HZ.out.2 k f; omega
          · have f : k = BB ∨ k = BB + 1 := f; omega
        have HSn : Hid (SeqN wn lb qa rc s.L P s.L) := HSb.out.kept HNn.out.2 (fun k e f => f (.inl e))
        clear hwn e1 f1 HP
        have e2 : wn.cell? ⟨bT, 0, none⟩ = some (.int .i64 0) := by have := HNn.out.1.bt.cell 0; simpa using this
        have e3 : wn.cell? ⟨bN, 0, none⟩ = some (.int .i64 ((pre.length : Int) + 1)) := by have := HNn.out.1.bn.cell 0; simpa using this
        have e4 : wn.cell? ⟨bS, 0, none⟩ = some (.int .i64 stop) := HNn.out.1.wk.fs.cell 0
        have hl2 : (pre ++ [x]).length = pre.length + 1 := by simp
        by_cases hst : (pre.length : Int) + 1 = stop
        · gi_wp2
          refine ⟨HNn.out.2.mono (fun k _ e f => e (.inr f)), rfl, by rw [hl2]; omega, ?_⟩
          rw [hl2]
          exact ⟨HNn.out.1, HSn.out⟩
        · gi_wp2
          refine ⟨HNn.out.2, ?_⟩
          show Tn w0 wn (Wh.mk bM bS bR bW bV bF lb qa wa wcp) n r (.slice a1 m1 c1) stop ys (EB bT bN BB wn) bT 0 bN (pre ++ [x]).length (21000 + 70 * (pre ++ [x]).length) ∧ SeqN wn lb qa rc s.L P s.L
          rw [hl2]
          exact ⟨HNn.out.1, HSn.out⟩
  · intro D0 Wt hJ
    obtain ⟨hD0, hB1, hB2, hSt, c, hTt⟩ := hJ
    have HTt : Hid (Wt.heap[D0]? = some (.deferred (some [])) ∧ Tn w0 Wt (Wh.mk bM bS bR bW bV bF lb qa wa wcp) n r (.slice a1 m1 c1) stop ys (EB bT bN BB Wt) bT 0 bN c 1500000) := ⟨hD0, hTt⟩
    have HSt : Hid (SeqN Wt lb qa rc s.L P s.L) := hSt
    have hDt : BB ≤ D0 ∧ D0 < Wt.heap.size := ⟨hB1, (Array.getElem?_eq_some_iff.1 hD0).1⟩
    clear hD0 hSt hTt HTn HS5 hB1 hB2
    have t0 : Wt.cell? ⟨bT, 0, none⟩ = some (.int .i64 0) := by have := HTt.out.2.bt.cell 0; simpa using this
    go_upto_region 15 with fail
    clear t0
    obtain ⟨W8, hW8⟩ : ∃ W8, W8 = Wt.alloc (.cells #[.int .i64 0] 3) := ⟨_, rfl⟩
    obtain ⟨bT2, hbT2⟩ : ∃ b, b = Wt.heap.size := ⟨_, rfl⟩
    rw [← hW8, ← hbT2]
    have H8 : Hid (Box W8 bT2 3 #[.int .i64 0] ∧ Kept No Wt W8 ∧ Wt.heap.size ≤ bT2 ∧ bT2 < W8.heap.size) := by
      rw [hW8, hbT2]; exact ⟨Box.new _ _ _, (Kept.refl No Wt).alloc _, Nat.le_refl _, by simp⟩
    clear hW8 hbT2
    have e1 : W8.cell? ⟨bT2, 0, none⟩ = some (.int .i64 0) := H8.out.1.cell 0
    have f1 := H8.out.1.frozen 0
    go_wp2
    show Code.rounds Try.prog _ _ (1 + 1) _ _
    rw [rounds_succ]
    obtain ⟨W9, hW9⟩ : ∃ W9, W9 = W8.setCell ⟨bT2, 0, none⟩ (.int .i64 1) := ⟨_, rfl⟩
    rw [← hW9]
    have H9 : Hid (Box W9 bT2 3 #[.int .i64 1] ∧ Kept No Wt W9 ∧ Wt.heap.size ≤ bT2 ∧ bT2 < W9.heap.size) := by
      have hks : Kept (Only bT2) W8 W9 := by rw [hW9]; exact (Kept.refl (Only bT2) W8).setCell (p := ⟨bT2, 0, none⟩) (fun _ => rfl) _
      have hbx := H8.out.1.set 0 (.int .i64 1)
      refine ⟨by rw [hW9]; simpa using hbx, H8.out.2.1.trans hks (fun _ e => e) (fun i h e => by have e : i = bT2 := e; have := H8.out.2.2; omega), H8.out.2.2.1, Nat.lt_of_lt_of_le H8.out.2.2.2 hks.size⟩
    clear hW9 e1 f1 H8
    have t1 : W9.cell? ⟨bT2, 0, none⟩ = some (.int .i64 1) := H9.out.1.cell 0
    go_upto_region 17 with fail
    clear t1
    obtain ⟨W10, hW10⟩ : ∃ W10, W10 = W9.alloc (.cells #[.int .i64 0] 3) := ⟨_, rfl⟩
    obtain ⟨bN2, hbN2⟩ : ∃ b, b = W9.heap.size := ⟨_, rfl⟩
    rw [← hW10, ← hbN2]
    have H10 : Hid (Box W10 bN2 3 #[.int .i64 0] ∧ Box W10 bT2 3 #[.int .i64 1] ∧ Kept No Wt W10) := by
      rw [hW10, hbN2]; exact ⟨Box.new _ _ _, H9.out.1.alloc _, H9.out.2.1.alloc _⟩
    have hb10 : Wt.heap.size ≤ bT2 ∧ bT2 < bN2 ∧ bN2 < W10.heap.size := by
      have h1 := H9.out.2.2
      have h2 := H10.out.1.lt
      omega
    clear hW10 hbN2 H9
    have g0 : W10.cell? ⟨bF, 0, none⟩ = some (.func (.func 39) #[] #[.pointer (some ⟨lb, 0, none⟩)]) := (HTt.out.2.wk.no H10.out.2.2).ff.cell 0
    go_upto_block 4 with fail
    clear g0
    obtain ⟨BC, hBC⟩ : ∃ B, B = W10.heap.size := ⟨_, rfl⟩
    have HBC : Hid (BC = W10.heap.size) := hBC
    have hbC : Wt.heap.size ≤ bT2 ∧ bT2 < bN2 ∧ bN2 < BC := by omega
    clear hBC hb10
    have HTn : Hid (Kept No Wt W10 ∧ SeqN W10 lb qa rc s.L P s.L) := ⟨H10.out.2.2, HSt.out.no H10.out.2.2⟩
    refine cut_defer (fun D W => W.heap[D]? = some (.deferred (some [])) ∧ BC ≤ D ∧ Kept No Wt W ∧ Box W bN2 3 #[.int .i64 (ys.length : Nat)] ∧ Box W bT2 3 #[.int .i64 1]) ?_ ?_
    · go_wp2
      refine (wpIn_wide (n := 8)).1 ?_
      refine' rf_net (by omega) (lb := lb) rfl HTn.out.2 (by omega) HZ.out.1 (fun pre W => Kept No Wt W ∧ Box W bN2 3 #[.int .i64 (pre.length : Nat)] ∧ Box W bT2 3 #[.int .i64 1]) (fun _ _ _ => False) ⟨H10.out.2.2, by simpa using H10.out.1, H10.out.2.1⟩ ?hI (fun _ _ _ _ h _ => h) ?round ?done ?stop
      case hI =>
        intro xs W W' hi hk
        rw [← HBC.out] at hk
        exact ⟨hi.1.trans hk (fun _ e => e) (fun i h e => by have e : i = BC ∨ i = BC + 1 := e; omega), hi.2.1.kept hk (fun e => by have e : bN2 = BC ∨ bN2 = BC + 1 := e; omega), hi.2.2.kept hk (fun e => by have e : bT2 = BC ∨ bT2 = BC + 1 := e; omega)⟩
      case stop => exact fun _ _ _ h => h.elim
      case done =>
        intro xs W hxs hi hD
        have hl : xs.length = ys.length := by rw [← hLy, ← hxs, List.length_map]
        exact ⟨rfl, W10.heap.size, rfl, hD, by rw [HBC.out]; exact Nat.le_refl _, hi.1, by have h := hi.2.1; rw [hl] at h; exact h, hi.2.2⟩
      case round =>
        rw [← HBC.out]
        intro pre x W0 W1 hi hk01 hO hp hl0 hsq hlo
        obtain ⟨y, hy, hyq⟩ := y_of HW.out.1.eq hp
        have hpl : pre.length < ys.length := (List.getElem?_eq_some_iff.1 hy).1
        have HD : Hid (Bytes w0 y.a y.q.zs ∧ y.q.zs.length ≤ 140737488351232 ∧ ys[pre.length]? = some y ∧ y.q = x.q) := ⟨(HW.out.1.dat y (List.mem_of_getElem? hy)).1, (HW.out.1.dat y (List.mem_of_getElem? hy)).2, hy, hyq⟩
        have HI1 : Hid ((Kept No Wt W1 ∧ Box W1 bN2 3 #[.int .i64 (pre.length : Nat)] ∧ Box W1 bT2 3 #[.int .i64 1]) ∧ OwnB W1 W0.heap.size x.a x.c x.q.zs) := ⟨⟨hi.1.then hk01, hi.2.1.kept hk01 (fun e => e), hi.2.2.kept hk01 (fun e => e)⟩, hO⟩
        have hl1 : BC + 1 < W1.heap.size := Nat.lt_of_lt_of_le hl0 hk01.size
        have HL0 : Hid (BC + 1 < W0.heap.size) := hl0
        clear hi hk01 hO hp hl0 hsq hlo hy hyq
        simp only [tdV]
        gi_wp2
        refine ⟨(Kept.refl _ W1).alloc _, fun Wb hkb hlo' => ?_⟩
        have hkA : Kept No W1 (W1.alloc (.cells #[.bool x.q.nm.1.1, .int .i64 x.q.nm.1.2, .int .i64 x.q.nm.2, .bool x.q.to'.1, .int .i64 x.q.to'.2, .slice x.a x.q.zs.length x.c] 44)) := (Kept.refl No W1).alloc _
        have HIb : Hid ((Kept No Wt Wb ∧ Box Wb bN2 3 #[.int .i64 (pre.length : Nat)] ∧ Box Wb bT2 3 #[.int .i64 1]) ∧ OwnB Wb W0.heap.size x.a x.c x.q.zs ∧ Box Wb W1.heap.size 44 #[.bool x.q.nm.1.1, .int .i64 x.q.nm.1.2, .int .i64 x.q.nm.2, .bool x.q.to'.1, .int .i64 x.q.to'.2, .slice x.a x.q.zs.length x.c]) :=
          ⟨⟨(HI1.out.1.1.then hkA).trans hkb (fun _ e => e) (fun i h e => by have e : i = BC + 1 := e; omega), (HI1.out.1.2.1.kept hkA (fun e => e)).kept hkb (fun e => by have e : bN2 = BC + 1 := e; omega), (HI1.out.1.2.2.kept hkA (fun e => e)).kept hkb (fun e => by have e : bT2 = BC + 1 := e; omega)⟩, (Own.no HI1.out.2 hkA).kept hkb (fun k e f => by have f : k = BC + 1 := f; have := Own.base HI1.out.2 e; have := HL0.out; omega), (Box.new W1 44 _).kept hkb (fun e => by have e : W1.heap.size = BC + 1 := e; omega)⟩
        have HLb : Hid (∃ r, Wb.heap[BC + 1]? = some (.loop r)) := hlo'
        have hlb : BC + 1 < Wb.heap.size := Nat.lt_of_lt_of_le hl1 (Nat.le_trans hkA.size hkb.size)
        clear HI1 hkA hkb hlo'
        obtain ⟨pg, CS, ewa, hbg, hpart⟩ := own_box (HTt.out.2.wk.no HIb.out.1.1).row HD.out.2.2.1
        have HG : Hid (Box Wb bV 26 #[.slice (some ⟨pg, 0, none⟩) ys.length wcp] ∧ Box Wb pg 44 CS.toArray ∧ Wa.Part CS (pre.length * 6) (pkL y)) := ⟨by have e := (HTt.out.2.wk.no HIb.out.1.1).fv; have ewa : wa = some ⟨pg, 0, none⟩ := ewa; simp only [ewa] at e; exact e, hbg, hpart⟩
        clear ewa hbg hpart
        refine wpIn_block (wpIn_seq (wpIn_seq ?_))
        refine r19 _ bV bN2 W1.heap.size pg pre.length ys.length wcp CS y x.q.nm.1.1 x.q.to'.1 x.q.nm.1.2 x.q.nm.2 x.q.to'.2 x.a x.q.zs.length x.c Wb _ _ _ rfl rfl rfl rfl HIb.out.1.2.1 HG.out.1 HIb.out.2.2 HG.out.2.1 hpl HG.out.2.2 (fun W hk => pk_call HD.out.1 HD.out.2.1 HD.out.2.2.2 ((HTt.out.2.we.kept0.then HIb.out.1.1).then hk) (Own.no HIb.out.2.1 hk)) ?_
        intro wo hko
        have HIo : Hid (Kept No Wt wo ∧ Box wo bN2 3 #[.int .i64 (pre.length : Nat)] ∧ Box wo bT2 3 #[.int .i64 1] ∧ Kept No Wb wo) := ⟨HIb.out.1.1.then hko, HIb.out.1.2.1.kept hko (fun e => e), HIb.out.1.2.2.kept hko (fun e => e), hko⟩
        have HSo : Hid (SeqN wo lb qa rc s.L P s.L) := HSt.out.no HIo.out.1
        have HLo : Hid (∃ r, wo.heap[BC + 1]? = some (.loop r)) := by
          obtain ⟨r', hr'⟩ := HLb.out
          exact ⟨r', (hko.block _ hlb (fun e => e)).trans hr'⟩
        have hlo1 : BC + 1 < wo.heap.size := Nat.lt_of_lt_of_le hlb hko.size
        clear hko HG HLb HIb
        simp only [Wa.pA, Wa.pB, Wa.p1, Wa.p2, Wa.p3]
        have g0 : wo.cell? ⟨bF, 0, none⟩ = some (.func (.func 39) #[] #[.pointer (some ⟨lb, 0, none⟩)]) := (HTt.out.2.wk.no HIo.out.1).ff.cell 0
        gi_upto_region 22 with fail
        obtain ⟨W6, hW6⟩ : ∃ W6, W6 = wo.alloc (.cells #[.int .i64 0] 3) := ⟨_, rfl⟩
        obtain ⟨bI, hbI⟩ : ∃ b, b = wo.heap.size := ⟨_, rfl⟩
        rw [← hW6, ← hbI]
        have H6 : Hid (Box W6 bI 3 #[.int .i64 0] ∧ Kept No wo W6 ∧ wo.heap.size ≤ bI ∧ bI < W6.heap.size) := by
          rw [hW6, hbI]; exact ⟨Box.new _ _ _, (Kept.refl No wo).alloc _, Nat.le_refl _, by simp⟩
        clear hW6 hbI g0
        have g0 : W6.cell? ⟨bF, 0, none⟩ = some (.func (.func 39) #[] #[.pointer (some ⟨lb, 0, none⟩)]) := (((HTt.out.2.wk.no HIo.out.1).no H6.out.2.1).ff.cell 0)
        gi_wp2
        clear g0
        have hbI1 : wo.heap.size ≤ bI ∧ bI < W6.heap.size := H6.out.2.2
        have hsz6 : wo.heap.size < W6.heap.size := by omega
        have HS6 : Hid (SeqN W6 lb qa rc s.L P s.L) := HSo.out.no H6.out.2.1
        obtain ⟨r6, hr6⟩ := HLo.out
        have HR6 : Hid (W6.heap[BC + 1]? = some (.loop r6)) := (H6.out.2.1.block _ (Array.getElem?_eq_some_iff.1 hr6).1 (fun e => e)).trans hr6
        clear hr6
        refine cut_blk (fun W => Kept No wo W) ?_ ?_
        · refine' rf_netN (l₀ := BC + 1) (r₀ := r6) (by omega) HR6.out (lb := lb) rfl HS6.out (by omega) HZ.out.1 (fun pre2 W => Kept No wo W ∧ Box W bI 3 #[.int .i64 (pre2.length : Nat)] ∧ pre2.length ≤ 2) (fun c _ W => c = .exit 6 ∧ Kept No wo W) ⟨H6.out.2.1, by simpa using H6.out.1, by simp⟩ ?hI2 ?hIx2 ?round2 ?done2 ?stop2
          case hI2 =>
            intro xs2 W W' hi hk
            exact ⟨hi.1.trans hk (fun _ e => e) (fun i h e => by have e : i = W6.heap.size := e; omega), hi.2.1.kept hk (fun e => by have e : bI = W6.heap.size := e; omega), hi.2.2⟩
          case hIx2 =>
            intro c xs2 W W' hi hk
            exact ⟨hi.1, hi.2.trans hk (fun _ e => e) (fun i h e => by have e : i = W6.heap.size := e; omega)⟩
          case done2 =>
            intro xs2 W hxs hi
            exact ⟨rfl, rfl, hi.1⟩
          case stop2 =>
            intro c pre2 W hi
            obtain ⟨rfl, hi⟩ := hi
            gi_wp2
            exact ⟨rfl, rfl, hi⟩
          case round2 =>
            intro pre2 x2 V0 V1 hi hk01 hO hp hl0 hsq hlo
            obtain ⟨y2, hy2, hyq2⟩ := y_of HW.out.1.eq hp
            have hpl2 : pre2.length < ys.length := (List.getElem?_eq_some_iff.1 hy2).1
            have HD2 : Hid (Bytes w0 y2.a y2.q.zs ∧ y2.q.zs.length ≤ 140737488351232 ∧ ys[pre2.length]? = some y2 ∧ y2.q = x2.q) := ⟨(HW.out.1.dat y2 (List.mem_of_getElem? hy2)).1, (HW.out.1.dat y2 (List.mem_of_getElem? hy2)).2, hy2, hyq2⟩
            have HI2 : Hid ((Kept No wo V1 ∧ Box V1 bI 3 #[.int .i64 (pre2.length : Nat)]) ∧ pre2.length ≤ 2) := ⟨⟨hi.1.then hk01, hi.2.1.kept hk01 (fun e => e)⟩, hi.2.2⟩
            have HO2 : Hid (OwnB V1 V0.heap.size x2.a x2.c x2.q.zs) := hO
            have hl1 : W6.heap.size < V1.heap.size := Nat.lt_of_lt_of_le hl0 hk01.size
            have HL2 : Hid (W6.heap.size < V0.heap.size) := hl0
            have hp2 : pre2.length ≤ 2 := hi.2.2
            clear hi hk01 hO hp hl0 hsq hlo hy2 hyq2
            simp only [tdV]
            gi_wp2
            refine ⟨(Kept.refl _ V1).alloc _, fun Vb hkb hlo' => ?_⟩
            have hkA : Kept No V1 (V1.alloc (.cells #[.bool x2.q.nm.1.1, .int .i64 x2.q.nm.1.2, .int .i64 x2.q.nm.2, .bool x2.q.to'.1, .int .i64 x2.q.to'.2, .slice x2.a x2.q.zs.length x2.c] 44)) := (Kept.refl No V1).alloc _
            have HV2 : Hid (Kept No wo Vb ∧ Box Vb bI 3 #[.int .i64 (pre2.length : Nat)] ∧ Box Vb V1.heap.size 44 #[.bool x2.q.nm.1.1, .int .i64 x2.q.nm.1.2, .int .i64 x2.q.nm.2, .bool x2.q.to'.1, .int .i64 x2.q.to'.2, .slice x2.a x2.q.zs.length x2.c] ∧ OwnB Vb V0.heap.size x2.a x2.c x2.q.zs) :=
              ⟨(HI2.out.1.1.then hkA).trans hkb (fun _ e => e) (fun i h e => by have e : i = W6.heap.size := e; omega), (HI2.out.1.2.kept hkA (fun e => e)).kept hkb (fun e => by have e : bI = W6.heap.size := e; omega), (Box.new V1 44 _).kept hkb (fun e => by have e : V1.heap.size = W6.heap.size := e; omega), (Own.no HO2.out hkA).kept hkb (fun k e f => by have f : k = W6.heap.size := f; have := Own.base HO2.out e; have := HL2.out; omega)⟩
            clear hkA hkb hlo' HI2 HO2
            obtain ⟨pg2, CS2, ewa2, hbg2, hpart2⟩ := own_box ((HTt.out.2.wk.no HIo.out.1).no HV2.out.1).row HD2.out.2.2.1
            have HG2 : Hid (Box Vb bV 26 #[.slice (some ⟨pg2, 0, none⟩) ys.length wcp] ∧ Box Vb pg2 44 CS2.toArray ∧ Wa.Part CS2 (pre2.length * 6) (pkL y2)) := ⟨by rw [← ewa2]; exact ((HTt.out.2.wk.no HIo.out.1).no HV2.out.1).fv, hbg2, hpart2⟩
            clear ewa2 hbg2 hpart2
            refine wpIn_block (wpIn_seq (wpIn_seq ?_))
            refine r24 _ bV bI V1.heap.size pg2 pre2.length ys.length wcp CS2 y2 x2.q.nm.1.1 x2.q.to'.1 x2.q.nm.1.2 x2.q.nm.2 x2.q.to'.2 x2.a x2.q.zs.length x2.c Vb _ _ _ rfl rfl rfl rfl HV2.out.2.1 HG2.out.1 HV2.out.2.2.1 HG2.out.2.1 hpl2 HG2.out.2.2 (fun W hk => pk_call HD2.out.1 HD2.out.2.1 HD2.out.2.2.2 (((HTt.out.2.we.kept0.then HIo.out.1).then HV2.out.1).then hk) (Own.no HV2.out.2.2.2 hk)) ?_
            intro vo hvo
            have HVo : Hid (Kept No wo vo ∧ Box vo bI 3 #[.int .i64 (pre2.length : Nat)] ∧ Kept No Vb vo) := ⟨HV2.out.1.then hvo, HV2.out.2.1.kept hvo (fun e => e), hvo⟩
            clear hvo HV2 HG2
            simp only [Wa.pA, Wa.pB, Wa.p1, Wa.p2, Wa.p3]
            have e1 : vo.cell? ⟨bI, 0, none⟩ = some (.int .i64 (pre2.length : Nat)) := HVo.out.2.1.cell 0
            have f1 := HVo.out.2.1.frozen 0
            gi_upto_region 27 with fail
            obtain ⟨vn, hvn⟩ : ∃ vn, vn = vo.setCell ⟨bI, 0, none⟩ (.int .i64 ((pre2.length : Int) + 1)) := ⟨_, rfl⟩
            rw [← hvn]
            have HVn : Hid (Kept No wo vn ∧ Box vn bI 3 #[.int .i64 ((pre2.length : Int) + 1)] ∧ Kept (Only bI) Vb vn) := by
              have hks : Kept (Only bI) vo vn := by rw [hvn]; exact (Kept.refl (Only bI) vo).setCell (p := ⟨bI, 0, none⟩) (fun _ => rfl) _
              have hbx := HVo.out.2.1.set 0 (.int .i64 ((pre2.length : Int) + 1))
              refine ⟨HVo.out.1.trans hks (fun _ e => e) (fun i h e => by have e : i = bI := e; omega), ?_, HVo.out.2.2.of_no.then hks⟩
              rw [hvn]; simpa using hbx
            clear hvn e1 f1 HVo
            have e2 : vn.cell? ⟨bI, 0, none⟩ = some (.int .i64 ((pre2.length : Int) + 1)) := HVn.out.2.1.cell 0
            have hl2 : (pre2 ++ [x2]).length = pre2.length + 1 := by simp
            have hne : ∀ k, k = bI → ¬ (SqB lb qa s.L k ∨ k = W6.heap.size) := fun k e f => by
              rcases f with f | f
              · have := HZ.out.2 k f; omega
              · omega
            by_cases h2 : pre2.length = 2
            · have h2' : (pre2.length : Int) + 1 > 2 := by omega
              gi_wp2
              exact ⟨HVn.out.2.2.mono (fun k _ e f => by have e : k = bI := e; omega), rfl, HVn.out.1⟩
            · have h2' : ¬ (pre2.length : Int) + 1 > 2 := by omega
              gi_wp2
              refine ⟨HVn.out.2.2.mono (fun k _ e => hne k e), HVn.out.1, ?_, by rw [hl2]; omega⟩
              rw [hl2]
              simpa using HVn.out.2.1
        intro W7 hk7
        have HI7 : Hid (Kept No Wt W7 ∧ Box W7 bN2 3 #[.int .i64 (pre.length : Nat)] ∧ Box W7 bT2 3 #[.int .i64 1] ∧ Kept No Wb W7) := ⟨HIo.out.1.then hk7, HIo.out.2.1.kept hk7 (fun e => e), HIo.out.2.2.1.kept hk7 (fun e => e), HIo.out.2.2.2.then hk7⟩
        clear hk7 HIo HSo HLo H6 hbI1 hsz6 HS6 HR6
        gi_upto_region 28 with fail
        refine r28c _ bT2 bN2 bM bW n r pre.length m1 c1 a1 W7 _ _ _ rfl rfl rfl rfl rfl HI7.out.2.2.1 HI7.out.2.1 (HTt.out.2.wk.no HI7.out.1).fm (HTt.out.2.wk.no HI7.out.1).fw ?_
        intro wp hR
        have HP : Hid (Kept No Wt wp ∧ Box wp bN2 3 #[.int .i64 (pre.length : Nat)] ∧ Box wp bT2 3 #[.int .i64 1] ∧ Kept No Wb wp) := ⟨HI7.out.1.then hR, HI7.out.2.1.kept hR (fun e => e), HI7.out.2.2.1.kept hR (fun e => e), HI7.out.2.2.2.then hR⟩
        clear hR HI7
        simp only [Wa.pA, Wa.pB, Wa.p1, Wa.p2, Wa.p3]
        have e1 : wp.cell? ⟨bN2, 0, none⟩ = some (.int .i64 (pre.length : Nat)) := HP.out.2.1.cell 0
        have f1 := HP.out.2.1.frozen 0
        gi_upto_region 31 with fail
        obtain ⟨wn, hwn⟩ : ∃ wn, wn = wp.setCell ⟨bN2, 0, none⟩ (.int .i64 ((pre.length : Int) + 1)) := ⟨_, rfl⟩
        rw [← hwn]
        have HNn : Hid (Kept No Wt wn ∧ Box wn bN2 3 #[.int .i64 ((pre.length : Int) + 1)] ∧ Box wn bT2 3 #[.int .i64 1] ∧ Kept (Only bN2) Wb wn) := by
          have hks : Kept (Only bN2) wp wn := by rw [hwn]; exact (Kept.refl (Only bN2) wp).setCell (p := ⟨bN2, 0, none⟩) (fun _ => rfl) _
          have hbx := HP.out.2.1.set 0 (.int .i64 ((pre.length : Int) + 1))
          refine ⟨HP.out.1.trans hks (fun _ e => e) (fun i h e => by have e : i = bN2 := e; omega), ?_, HP.out.2.2.1.kept hks (fun e => by have e : bT2 = bN2 := e; omega), HP.out.2.2.2.of_no.then hks⟩
          rw [hwn]; simpa using hbx
        clear hwn e1 f1 HP
        have e2 : wn.cell? ⟨bT2, 0, none⟩ = some (.int .i64 1) := HNn.out.2.2.1.cell 0
        have hl2 : (pre ++ [x]).length = pre.length + 1 := by simp
        gi_wp2
        refine ⟨HNn.out.2.2.2.mono (fun k _ e f => ?_), HNn.out.1, ?_, HNn.out.2.2.1⟩
        · have e : k = bN2 := e
          rcases f with f | f
          · have := HZ.out.2 k f; omega
          · have f : k = BC ∨ k = BC + 1 := f; omega
        · rw [hl2]; simpa using HNn.out.2.1
    · intro D1 Wu hJ
      obtain ⟨hD1, hB1, hku, hbn, hbt⟩ := hJ
      have HUu : Hid (Wu.heap[D1]? = some (.deferred (some [])) ∧ Kept No Wt Wu ∧ Box Wu bN2 3 #[.int .i64 (ys.length : Nat)] ∧ Box Wu bT2 3 #[.int .i64 1]) := ⟨hD1, hku, hbn, hbt⟩
      have hD1' : BC ≤ D1 ∧ D1 < Wu.heap.size := ⟨hB1, (Array.getElem?_eq_some_iff.1 hD1).1⟩
      clear hD1 hku hbn hbt hB1 HTn H10
      have t1 : Wu.cell? ⟨bT2, 0, none⟩ = some (.int .i64 1) := HUu.out.2.2.2.cell 0
      have t2 : Wu.cell? ⟨bN2, 0, none⟩ = some (.int .i64 (ys.length : Nat)) := HUu.out.2.2.1.cell 0
      have t3 : Wu.cell? ⟨bV, 0, none⟩ = some (.slice wa ys.length wcp) := (HTt.out.2.wk.no HUu.out.2.1).fv.cell 0
      go_upto_region 15 with fail
      clear t1 t2 t3
      obtain ⟨W8, hW8⟩ : ∃ W8, W8 = Wu.alloc (.cells #[.int .i64 1] 3) := ⟨_, rfl⟩
      obtain ⟨bT3, hbT3⟩ : ∃ b, b = Wu.heap.size := ⟨_, rfl⟩
      rw [← hW8, ← hbT3]
      have H8 : Hid (Box W8 bT3 3 #[.int .i64 1] ∧ Kept No Wu W8 ∧ Wu.heap.size ≤ bT3 ∧ bT3 < W8.heap.size) := by
        rw [hW8, hbT3]; exact ⟨Box.new _ _ _, (Kept.refl No Wu).alloc _, Nat.le_refl _, by simp⟩
      clear hW8 hbT3
      have e1 : W8.cell? ⟨bT3, 0, none⟩ = some (.int .i64 1) := H8.out.1.cell 0
      have f1 := H8.out.1.frozen 0
      go_wp2
      show Code.rounds Try.prog _ _ (0 + 1) _ _
      rw [rounds_succ]
      obtain ⟨W9, hW9⟩ : ∃ W9, W9 = W8.setCell ⟨bT3, 0, none⟩ (.int .i64 2) := ⟨_, rfl⟩
      rw [← hW9]
      have H9 : Hid (Box W9 bT3 3 #[.int .i64 2] ∧ Kept No Wu W9) := by
        have hks : Kept (Only bT3) W8 W9 := by rw [hW9]; exact (Kept.refl (Only bT3) W8).setCell (p := ⟨bT3, 0, none⟩) (fun _ => rfl) _
        have hbx := H8.out.1.set 0 (.int .i64 2)
        refine ⟨by rw [hW9]; simpa using hbx, H8.out.2.1.trans hks (fun _ e => e) (fun i h e => by have e : i = bT3 := e; have := H8.out.2.2; omega)⟩
      clear hW9 e1 f1 H8
      have t1 : W9.cell? ⟨bT3, 0, none⟩ = some (.int .i64 2) := H9.out.1.cell 0
      have hk9 : Kept No Wt W9 := HUu.out.2.1.then H9.out.2
      have HT9 : Hid (Tn w0 W9 (Wh.mk bM bS bR bW bV bF lb qa wa wcp) n r (.slice a1 m1 c1) stop ys (EB bT bN BB Wt) bT 0 bN c 1500000 ∧ Kept No Wt W9) := ⟨HTt.out.2.no hk9, hk9⟩
      clear hk9
      go_upto_region 36 with fail
      have v0 : W9.cell? ⟨bW, 0, none⟩ = some (.pointer (some ⟨n, 0, none⟩)) := HT9.out.1.wk.fw.cell 0
      have v1 : W9.cell? ⟨bW, 1, none⟩ = some (.pointer (some ⟨r, 0, none⟩)) := HT9.out.1.wk.fw.cell 1
      go_wp2_with (first
        | (go_at_call 10; refine (HT9.out.1.we.under (by omega)).mono ?_; rintro e wn ⟨rfl, hkn⟩; have HK2 : Hid (Kept No W9 wn) := hkn; clear hkn)
        | (go_at_call 11; refine (head_any wn).mono ?_; rintro e wh ⟨rfl, hkh⟩; have HK3 : Hid (Kept No W9 wh) := HK2.out.then hkh; have rb : wh.cell? ⟨bR, 0, none⟩ = some (.bool false) := (HT9.out.1.wk.no HK3.out).fr.cell 0; have rf := (HT9.out.1.wk.no HK3.out).fr.frozen 0; clear hkh))
      rw [HC.out]
      have hkU : Kept No Wu wh := H9.out.2.then HK3.out
      have hkT : Kept No Wt wh := HUu.out.2.1.then hkU
      have hks : Kept (Only bR) wh (wh.setCell ⟨bR, 0, none⟩ (.bool true)) := (Kept.refl (Only bR) wh).setCell (p := ⟨bR, 0, none⟩) (fun _ => rfl) _
      have hbx := (HT9.out.1.wk.no HK3.out).fr.set 0 (.bool true)
      have hbx' : Box (wh.setCell ⟨bR, 0, none⟩ (.bool true)) bR 4 #[.bool true] := by simpa using hbx
      generalize wh.setCell ⟨bR, 0, none⟩ (.bool true) = wz at hks hbx' ⊢
      have hlR := (HTt.out.2.we.lt (k := bR) (.inl (.inr (.inr (.inl rfl))))).2
      have hd1 : wz.heap[D1]? = some (.deferred (some [])) := (hks.block _ (Nat.lt_of_lt_of_le hD1'.2 hkU.size) (fun e => by have e : D1 = bR := e; omega)).trans ((hkU.block _ hD1'.2 (fun e => e)).trans HUu.out.1)
      have hkp : Kept (Only D1) wz (wz.putObj D1 (.deferred none)) := kept_put (Kept.refl _ wz) (.inl rfl)
      have hd0w : D0 < wz.heap.size := Nat.lt_of_lt_of_le hDt.2 (Nat.le_trans hkT.size hks.size)
      have hd0 : (wz.putObj D1 (.deferred none)).heap[D0]? = some (.deferred (some [])) := (hkp.block _ hd0w (fun e => by have e : D0 = D1 := e; omega)).trans ((hks.block _ (Nat.lt_of_lt_of_le hDt.2 hkT.size) (fun e => by have e : D0 = bR := e; omega)).trans ((hkT.block _ hDt.2 (fun e => e)).trans HTt.out.1))
      refine ⟨by simp, .inl ⟨_, _, rfl, run_takeDeferred hd1, ?_⟩⟩
      refine ⟨by simp, .inl ⟨_, _, rfl, run_takeDeferred hd0, ?_⟩⟩
      have hkq : Kept (Only D0) (wz.putObj D1 (.deferred none)) ((wz.putObj D1 (.deferred none)).putObj D0 (.deferred none)) := kept_put (Kept.refl _ _) (.inl rfl)
      refine ⟨.bool true, results_c1 (fn := Try.f5) rfl _ _ bR (.bool true) rfl (Wa.load_one (((hbx'.kept hkp (fun e => by have e : bR = D1 := e; omega)).kept hkq (fun e => by have e : bR = D0 := e; omega)).cell 0) Try.underlying4 rfl), rfl, ?_⟩
      have h0 := HTt.out.2.we.kept0
      have h0s := h0.size
      have hD0b : w0.heap.size ≤ D0 := by omega
      refine (((h0.then hkT).trans hks (fun _ e => e) (fun i hi e => by have e : i = bR := e; omega)).trans hkp (fun _ e => e) (fun i hi e => by have e : i = D1 := e; omega)).trans hkq (fun _ e => e) (fun i hi e => by have e : i = D0 := e; omega)
end Go.Proofs.Ytphiokehcgbldaa
