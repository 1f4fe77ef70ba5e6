import Derived.Test.YtphiokehcgbldaaOb
namespace Go.Proofs.Ytphiokehcgbldaa
open Go.RowKit Go.Shelf
set_option linter.unusedVariables false
set_option linter.unusedSimpArgs false

set_option maxRecDepth 100000 in
set_option maxHeartbeats 16000000 in
theorem countsWalk (a0 : Option Addr) (m c0 : Nat) (xs : List St) (w0 : World) (hm : xs.length = m) (hml : m ≤ 140737488351232) (hX : Sts w0 a0 xs) (hok : ∀ x ∈ xs, StOk w0 x) :
    Calls Try.prog 4 #[.slice a0 m c0] w0 (fun e w' => e = .returned (.bool true) ∧ Kept No w0 w') := by
  have HM : Hid (xs.length = m) := hm
  have HXs : Hid (Sts w0 a0 xs ∧ ∀ x ∈ xs, StOk w0 x) := ⟨hX, hok⟩
  clear hm hX hok
  go_enter Try.func4, Try.ntmps4
  go_wp2_with (go_at_call 8; refine (new_net w0).mono ?_; rintro e w1 ⟨rfl, hN, hk⟩; have H1 : Hid (NetM w1 w0.heap.size ns0 (fun k => k = w0.heap.size) ∧ Kept No w0 w1) := ⟨hN, hk⟩; clear hN hk)
  obtain ⟨n, hn⟩ : ∃ n, n = w0.heap.size := ⟨_, rfl⟩
  rw [← hn]
  have HC : Hid (Cn w0 w1 n ns0 [] none 0) := ⟨⟨_, by rw [hn]; exact H1.out.1, fun k e => ⟨by have e : k = w0.heap.size := e; omega, fun f => At.none f⟩⟩, Own.nil _ _ _ _, H1.out.2, fun q hq => by simp [ns0] at hq⟩
  clear hn H1
  go_loopw [4, 5, 6] (fun sv tv iv wr => ∃ (i : Nat) (sa : Option Addr) (sc : Nat) (s : Ns) (ss : List Ad), i ≤ m ∧ i ≤ 300 ∧ iv = .int .i64 (i : Int) ∧ sv = .slice sa ss.length sc ∧ tv = .int .i64 ((s.L.length : Nat) : Int) ∧ Hid (Cn w0 wr n s ss sa sc ∧ (∀ f, s.sent f = ss.count f) ∧ s.came ≤ i ∧ ss.length ≤ i)) (fun _ _ iv _ => m - (intOf iv).toNat)
  case atStart => exact ⟨0, none, 0, ns0, [], by omega, by omega, rfl, rfl, rfl, HC.out, fun f => rfl, Nat.le_refl _, Nat.le_refl _⟩
  case round =>
    obtain ⟨i, sa, sc, s, ss, him, hi3, rfl, rfl, rfl, HI⟩ := hrel
    have hend : (i : Int) < (m : Int) → (i : Int) < 300 → i < m ∧ i < 300 := fun h1 h2 => by omega
    by_cases hlt : i < m ∧ i < 300
    · obtain ⟨x, hx⟩ : ∃ x, xs[i]? = some x := ⟨_, List.getElem?_eq_getElem (by rw [HM.out]; exact hlt.1)⟩
      have h1 : (i : Int) < (m : Int) := by omega
      have h2 : (i : Int) < 300 := by omega
      obtain ⟨b, off, rfl, hc⟩ := HXs.out.1.no HI.out.1.kept i x hx
      have c0 := hc 0 _ rfl
      have c1 := hc 1 _ rfl
      have c2 := hc 2 _ rfl
      have c3 := hc 3 _ rfl
      have c4 := hc 4 _ rfl
      have c5 := hc 5 _ rfl
      have c6 := hc 6 _ rfl
      simp only [Nat.add_zero] at c0 c1 c2 c3 c4 c5 c6
      have HXk : Hid (StOk w0 x) := HXs.out.2 x (List.mem_of_getElem? hx)
      clear hc hx hend hlt
      obtain ⟨xk, ⟨fc, fi⟩, ⟨tc, ti⟩, cc, da, dl, dcp, zs⟩ := x
      simp only at c0 c1 c2 c3 c4 c5 c6
      go_upto_region 10 with fail
      obtain ⟨w2, hw2⟩ : ∃ w2, w2 = wr.alloc (.cells #[.int .i64 xk, .bool fc, .int .i64 fi, .bool tc, .int .i64 ti, .int .i64 cc, .slice da dl dcp] 37) := ⟨_, rfl⟩
      rw [← hw2]
      obtain ⟨I, hN, hI⟩ := HI.out.1.use
      have hk2 : Kept No wr w2 := by rw [hw2]; exact (Kept.refl No wr).alloc _
      have H2 : Hid (Box w2 wr.heap.size 37 (St.cs ⟨xk, (fc, fi), (tc, ti), cc, da, dl, dcp, zs⟩).toArray ∧ Cn w0 w2 n s ss sa sc ∧ NetM w2 n s I ∧ (∀ k, I k → w0.heap.size ≤ k ∧ ¬ At sa k ∧ k < wr.heap.size) ∧ wr.heap.size < w2.heap.size) := by
        refine ⟨?_, HI.out.1.no hk2, hN.no hk2, hI, ?_⟩
        · rw [hw2]; exact Box.new _ _ _
        · rw [hw2]; simp
      have HP : Hid ((∀ f, s.sent f = ss.count f) ∧ s.came ≤ i ∧ ss.length ≤ i ∧ ∀ q ∈ s.L, q.zs.length ≤ 140737488355328) := ⟨HI.out.2.1, HI.out.2.2.1, HI.out.2.2.2, HI.out.1.len⟩
      clear hw2 hk2 hN hI HI c0 c1 c2 c3 c4 c5 c6
      generalize wr.heap.size = xb at H2 ⊢
      have hcm : s.came ≤ i := HP.out.2.1
      have hsl : ss.length ≤ i := HP.out.2.2.1
      obtain ⟨x0, x1, x2, x3, x4, x5, x6⟩ := Box.stAt H2.out.1
      simp only at x0 x1 x2 x3 x4 x5 x6
      have hLl : s.L.length ≤ 301 := by have := len_came H2.out.2.2.1.ok; omega
      by_cases k1 : xk = 1
      · subst k1
        obtain ⟨cn, hcn⟩ : ∃ cn, cnP s.L ((fc, fi), (tc, ti)) = cn := ⟨_, rfl⟩
        obtain ⟨sf, hsf⟩ : ∃ sf, s.sent (fc, fi) = sf := ⟨_, rfl⟩
        have hcb : cn ≤ 64 := by rw [← hcn]; exact H2.out.2.2.1.ok.way _
        have hsb : sf ≤ i := by
          rw [← hsf, HP.out.1]
          exact Nat.le_trans List.count_le_length hsl
        obtain ⟨sl, hsle⟩ : ∃ sl, ss.length = sl := ⟨_, rfl⟩
        obtain ⟨l0, hl0⟩ : ∃ l0, s.L.length = l0 := ⟨_, rfl⟩
        have HG : Hid (cnP s.L ((fc, fi), (tc, ti)) = cn ∧ s.sent (fc, fi) = sf ∧ ss.length = sl ∧ s.L.length = l0) := ⟨hcn, hsf, hsle, hl0⟩
        have HCt : Hid ((ss ++ [(fc, fi)]).count (fc, fi) = sf + 1 ∧ (ss ++ [(fc, fi)]).length = sl + 1) := by
          refine ⟨?_, by rw [List.length_append, hsle]; rfl⟩
          rw [List.count_append, ← HP.out.1, hsf]
          simp
        have HSt : Hid (∀ f, (sentS s (fc, fi)).sent f = (ss ++ [(fc, fi)]).count f) := fun f => by
          rw [List.count_append, ← HP.out.1]
          unfold sentS
          by_cases e : f = (fc, fi)
          · simp [e]
          · have e' : ¬ (fc, fi) = f := fun h => e h.symm
            simp [e, e']
        rw [hsle] at hsl ⊢
        rw [hl0] at hLl ⊢
        clear hcn hsf hsle hl0
        go_upto_region 13 with (go_at_call 12; refine (pair3 w2 H2.out.2.2.1 (fc, fi) (tc, ti) fc tc fi ti rfl rfl).mono ?_; rintro e w3 ⟨rfl, hk⟩; rw [HG.out.1]; have H3 : Hid (Kept No w2 w3) := hk; clear hk)
        obtain ⟨y0, y1, y2, y3, y4, y5, y6⟩ := Box.stAt (H2.out.1.kept H3.out (fun e => e))
        simp only at y0 y1 y2 y3 y4 y5 y6
        clear x0 x1 x2 x3 x4 x5 x6
        obtain ⟨bb, hbb⟩ : ∃ bb, decide (cn < 64) = bb := ⟨_, rfl⟩
        have HZl : Hid (zs.length = dl ∧ dl ≤ 140737488351232) := ⟨HXk.out.len, HXk.out.big⟩
        have HBb : Hid (decide (cn < 64) = bb) := hbb
        go_upto_region 14 with (go_at_call 13; refine (send_r fc tc fi ti 0 da dl dcp zs w3 (H2.out.2.2.1.no H3.out) HZl.out.1 (by have := HZl.out.2; omega) (HXk.out.nums.no (H2.out.2.1.kept.then H3.out)) (fun h0 k hk => by have h1 := Nums.block HXk.out.nums h0 hk; have h2 := (H2.out.2.1.kept.then H3.out).size; exact ⟨fun hI => by have := (H2.out.2.2.2.1 k hI).1; omega, by omega⟩) (by omega) sf cn bb HG.out.2.1 HG.out.1 HBb.out (by omega)).mono ?_; rintro e w4 ⟨ra, rc, rfl, hk, hN⟩; have H4 : Hid (Cn w0 w4 n (addS (sentS s (fc, fi)) ⟨((fc, fi), ((sf + 1 : Nat) : Int)), (tc, ti), ra, rc, zs, s.came + 1⟩) ss sa sc ∧ Box w4 xb 37 (St.cs ⟨1, (fc, fi), (tc, ti), cc, da, dl, dcp, zs⟩).toArray) := ⟨Cn.step (H2.out.2.1.no H3.out) (fun k e => ⟨(H2.out.2.2.2.1 k e).1, (H2.out.2.2.2.1 k e).2.1⟩) hk hN (fun k e => e) (add_mem HP.out.2.2.2 (by show zs.length ≤ 140737488355328; have := HZl.out; omega)), (H2.out.1.kept H3.out (fun e => e)).kept hk (fun e => by have := (H2.out.2.2.2.1 _ e).2.2; omega)⟩; clear hk hN)
        obtain ⟨x0, x1, x2, x3, x4, x5, x6⟩ := Box.stAt H4.out.2
        simp only at x0 x1 x2 x3 x4 x5 x6
        clear y0 y1 y2 y3 y4 y5 y6
        go_upto_region 15 with (at_builtin; refine wp_appV rfl _ _ 27 34 2 16 _ und27 info34 rfl (by omega) rfl w0.heap.size sl sc sa (ss.flatMap adC) rfl (by rw [← HG.out.2.2.1]; exact H4.out.1.own.no ((Kept.refl No w4).alloc _)) ⟨w4.heap.size, 0, none⟩ 1 1 [.bool fc, .int .i64 fi] rfl rfl (cell_newC _ _ _) (by simp [Value.oneCell']) (by omega) (by omega) (by omega) (by have := H4.out.1.kept.size; simp; omega) (sl + 1) rfl ?_; intro g' cap' w5 HO5 HK5)
        have H5 : Hid (Cn w0 w5 n (addS (sentS s (fc, fi)) ⟨((fc, fi), ((sf + 1 : Nat) : Int)), (tc, ti), ra, rc, zs, s.came + 1⟩) (ss ++ [(fc, fi)]) (some ⟨g', 0, none⟩) cap' ∧ Box w5 xb 37 (St.cs ⟨1, (fc, fi), (tc, ti), cc, da, dl, dcp, zs⟩).toArray) := by
          have hk45 : Kept (At sa) w4 w5 := (((Kept.refl No w4).alloc _).of_no).then HK5.out
          refine ⟨H4.out.1.app hk45 ?_, H4.out.2.kept hk45 (Own.neBox H4.out.1.own H4.out.2 (by decide))⟩
          rw [HCt.out.2, List.flatMap_append]
          simpa [adC] using HO5.out
        clear HO5 HK5 x0 x1 x2 x3 x4 x5 x6
        obtain ⟨y0, y1, y2, y3, y4, y5, y6⟩ := Box.stAt H5.out.2
        simp only at y0 y1 y2 y3 y4 y5 y6
        obtain ⟨I5, hN5, hI5⟩ := H5.out.1.net
        have HN5 : Hid (NetM w5 n (addS (sentS s (fc, fi)) ⟨((fc, fi), ((sf + 1 : Nat) : Int)), (tc, ti), ra, rc, zs, s.came + 1⟩) I5) := hN5
        clear hN5 hI5
        by_cases hw : cn < 64
        · have hbt : bb = true := by rw [← hbb]; simpa using hw
          subst hbt
          have hw' : (cn : Int) < 64 := by omega
          have HL1 : Hid ((addS (sentS s (fc, fi)) ⟨((fc, fi), ((sf + 1 : Nat) : Int)), (tc, ti), ra, rc, zs, s.came + 1⟩).L.length = l0 + 1 ∧ (addS (sentS s (fc, fi)) ⟨((fc, fi), ((sf + 1 : Nat) : Int)), (tc, ti), ra, rc, zs, s.came + 1⟩).came = s.came + 1 ∧ (addS (sentS s (fc, fi)) ⟨((fc, fi), ((sf + 1 : Nat) : Int)), (tc, ti), ra, rc, zs, s.came + 1⟩).sent = (sentS s (fc, fi)).sent) := by
            have hn : ¬ 64 ≤ cnP (sentS s (fc, fi)).L ((fc, fi), (tc, ti)) := by show ¬ 64 ≤ cnP s.L _; rw [HG.out.1]; omega
            rw [addS, if_neg hn]
            refine ⟨?_, rfl, rfl⟩
            show (s.L ++ _).length = _
            rw [List.length_append, HG.out.2.2.2]; rfl
          clear hbb hw
          go_wp2_with (first
            | (go_at_call 14; refine (counted_r _ _ _ _ (ss ++ [(fc, fi)]) fc fi w5 H5.out.1.own (by rw [HCt.out.2]; omega) HCt.out.2 (sf + 1) HCt.out.1).mono ?_; rintro e w6 ⟨rfl, hk⟩; have H6 : Hid (Kept No w5 w6) := hk; clear hk)
            | (go_at_call 17; refine (many_r _ (HN5.out.no H6.out) ⟨by rw [HL1.out.2.1]; omega, H5.out.1.len⟩ (l0 + 1) HL1.out.1).mono ?_; rintro e wm ⟨rfl, hkm⟩; have HMm : Hid (Kept No w5 wm) := H6.out.then hkm; clear hkm))
          go_roundw
          case rel => exact ⟨i + 1, some ⟨g', 0, none⟩, cap', _, ss ++ [(fc, fi)], by omega, by omega, by go_num, by rw [HCt.out.2], by rw [HL1.out.1]; go_num, H5.out.1.no HMm.out, fun f => by rw [HL1.out.2.2]; exact HSt.out f, by rw [HL1.out.2.1]; omega, by rw [HCt.out.2]; omega⟩
          case measure => simp [intOf]; omega
        · have hbt : bb = false := by rw [← hbb]; simpa using hw
          subst hbt
          have hw' : ¬ (cn : Int) < 64 := by omega
          have HL1 : Hid ((addS (sentS s (fc, fi)) ⟨((fc, fi), ((sf + 1 : Nat) : Int)), (tc, ti), ra, rc, zs, s.came + 1⟩) = sentS s (fc, fi)) := by
            have hn : 64 ≤ cnP (sentS s (fc, fi)).L ((fc, fi), (tc, ti)) := by show 64 ≤ cnP s.L _; rw [HG.out.1]; omega
            show _ = _
            rw [addS, if_pos hn]
          clear hbb hw
          go_wp2_with (first
            | (go_at_call 14; refine (counted_r _ _ _ _ (ss ++ [(fc, fi)]) fc fi w5 H5.out.1.own (by rw [HCt.out.2]; omega) HCt.out.2 (sf + 1) HCt.out.1).mono ?_; rintro e w6 ⟨rfl, hk⟩; have H6 : Hid (Kept No w5 w6) := hk; clear hk)
            | (go_at_call 17; refine (many_r _ (HN5.out.no H6.out) ⟨by rw [HL1.out]; show s.came < _; omega, H5.out.1.len⟩ l0 (by rw [HL1.out]; exact HG.out.2.2.2)).mono ?_; rintro e wm ⟨rfl, hkm⟩; have HMm : Hid (Kept No w5 wm) := H6.out.then hkm; clear hkm))
          go_roundw
          case rel => exact ⟨i + 1, some ⟨g', 0, none⟩, cap', _, ss ++ [(fc, fi)], by omega, by omega, by go_num, by rw [HCt.out.2], by rw [HL1.out]; show _ = Value.int _ ((s.L.length : Nat) : Int); rw [HG.out.2.2.2], H5.out.1.no HMm.out, fun f => by rw [HL1.out]; exact HSt.out f, by rw [HL1.out]; show s.came ≤ _; omega, by rw [HCt.out.2]; omega⟩
          case measure => simp [intOf]; omega
      by_cases k2 : xk = 2
      · subst k2
        cases hf : s.L.find? (isN ((fc, fi), cc)) with
        | none =>
          go_wp2_with (first
            | (go_at_call 15; refine (deliver_no fc fi cc w2 H2.out.2.2.1 HP.out.2.2.2 hf).mono ?_; rintro e w3 ⟨rfl, hk⟩; have H3 : Hid (Kept No w2 w3) := hk; obtain ⟨y0, y1, y2, y3, y4, y5, y6⟩ := Box.stAt (H2.out.1.kept hk (fun e => e)); simp only at y0 y1 y2 y3 y4 y5 y6; clear x0 x1 x2 x3 x4 x5 x6; clear hk)
            | (go_at_call 17; refine (many_r (s := s) _ ((H2.out.2.2.1.no H3.out).no ((Kept.refl No w3).alloc _)) ⟨by omega, HP.out.2.2.2⟩ _ rfl).mono ?_; rintro e wm ⟨rfl, hkm⟩; have HMm : Hid (Kept No w3 wm) := ((Kept.refl No w3).alloc _).then hkm; clear hkm))
          go_roundw
          case rel => exact ⟨i + 1, sa, sc, s, ss, by omega, by omega, by go_num, rfl, rfl, (H2.out.2.1.no H3.out).no HMm.out, HP.out.1, by omega, by omega⟩
          case measure => simp [intOf]; omega
        | some q =>
          have hrl := rm_len s.L hf
          obtain ⟨r, hr⟩ : ∃ r, (rmN ((fc, fi), cc) s.L).length = r := ⟨_, rfl⟩
          rw [hr] at hrl
          have HR : Hid ((rmN ((fc, fi), cc) s.L).length = r) := hr
          rw [← hrl]
          have hrb : r ≤ 301 := by omega
          clear hr
          have e1 : ∀ W, (binOp .neq 34 (.agg #[.bool fc, .int .i64 fi]) (.agg #[.bool fc, .int .i64 fi])).run Try.prog W = .ok (.bool false) W := fun W => by rw [bne34]; simp
          go_upto_region 21 with (go_at_call 15; refine (deliver_yes fc fi cc w2 H2.out.2.2.1 HP.out.2.2.2 hf).mono ?_; rintro e w3 ⟨ra, rc, rfl, hO, hk, hN⟩; have H3 : Hid (Cn w0 w3 n ⟨s.sent, rmN ((fc, fi), cc) s.L, s.came⟩ ss sa sc ∧ NetM w3 n ⟨s.sent, rmN ((fc, fi), cc) s.L, s.came⟩ (fun j => (I j ∨ w2.heap.size ≤ j) ∧ ¬ At ra j)) := ⟨Cn.step H2.out.2.1 (fun k e => ⟨(H2.out.2.2.2.1 k e).1, (H2.out.2.2.2.1 k e).2.1⟩) hk hN (fun k e => e.1) (rm_mem HP.out.2.2.2), hN⟩; have HX3 : Hid (Box w3 xb 37 (St.cs ⟨2, (fc, fi), (tc, ti), cc, da, dl, dcp, zs⟩).toArray) := H2.out.1.kept hk (fun e => by have := (H2.out.2.2.2.1 _ e).2.2; omega); clear x0 x1 x2 x3 x4 x5 x6; clear hk hN hO hrl)
          obtain ⟨w4, hw4⟩ : ∃ w4, w4 = w3.alloc (.cells #[.bool fc, .int .i64 fi, .int .i64 cc, .bool q.to'.1, .int .i64 q.to'.2, .slice ra q.zs.length rc] 44) := ⟨_, rfl⟩
          rw [← hw4]
          have H4 : Hid (Kept No w3 w4 ∧ Box w4 w3.heap.size 44 #[.bool fc, .int .i64 fi, .int .i64 cc, .bool q.to'.1, .int .i64 q.to'.2, .slice ra q.zs.length rc]) := by rw [hw4]; exact ⟨(Kept.refl No w3).alloc _, Box.new _ _ _⟩
          clear hw4
          generalize w3.heap.size = pb at H4 ⊢
          have p0 : w4.cell? ⟨pb, 0, none⟩ = some (.bool fc) := H4.out.2.cell 0
          have p1 : w4.cell? ⟨pb, 1, none⟩ = some (.int .i64 fi) := H4.out.2.cell 1
          have p2 : w4.cell? ⟨pb, 2, none⟩ = some (.int .i64 cc) := H4.out.2.cell 2
          obtain ⟨y0, y1, y2, y3, y4, y5, y6⟩ := Box.stAt (HX3.out.kept H4.out.1 (fun e => e))
          simp only at y0 y1 y2 y3 y4 y5 y6
          go_wp2_with (go_at_call 17; refine (many_r (s := ⟨s.sent, rmN ((fc, fi), cc) s.L, s.came⟩) _ (H3.out.2.no H4.out.1) ⟨by show s.came < 1000000000000; omega, rm_mem HP.out.2.2.2⟩ r HR.out).mono ?_; rintro e wm ⟨rfl, hkm⟩; have HMm : Hid (Kept No w3 wm) := H4.out.1.then hkm; clear hkm)
          go_roundw
          case rel => exact ⟨i + 1, sa, sc, ⟨s.sent, rmN ((fc, fi), cc) s.L, s.came⟩, ss, by omega, by omega, by go_num, rfl, by rw [HR.out], H3.out.1.no HMm.out, HP.out.1, by show s.came ≤ i + 1; omega, by omega⟩
          case measure => simp [intOf]; omega
      by_cases k3 : xk = 3
      · subst k3
        cases hf : s.L.find? (isN ((fc, fi), cc)) with
        | none =>
          go_wp2_with (first
            | (go_at_call 16; refine (lose_no fc fi cc w2 H2.out.2.2.1 hf).mono ?_; rintro e w3 ⟨rfl, hk⟩; have H3 : Hid (Kept No w2 w3) := hk; clear hk)
            | (go_at_call 17; refine (many_any (s := s) _ (H2.out.2.2.1.no H3.out) ⟨by omega, HP.out.2.2.2⟩).mono ?_; rintro e wm ⟨rfl, hkm⟩; have HMm : Hid (Kept No w3 wm) := hkm; clear hkm))
          go_roundw
          case rel => exact ⟨i + 1, sa, sc, s, ss, by omega, by omega, by go_num, rfl, rfl, (H2.out.2.1.no H3.out).no HMm.out, HP.out.1, by omega, by omega⟩
          case measure => simp [intOf]; omega
        | some q =>
          have hrl := rm_len s.L hf
          obtain ⟨r, hr⟩ : ∃ r, (rmN ((fc, fi), cc) s.L).length = r := ⟨_, rfl⟩
          rw [hr] at hrl
          have HR : Hid ((rmN ((fc, fi), cc) s.L).length = r) := hr
          rw [← hrl]
          have hrb : r ≤ 301 := by omega
          clear hr
          go_wp2_with (first
            | (go_at_call 16; refine (lose_yes fc fi cc w2 H2.out.2.2.1 hf).mono ?_; rintro e w3 ⟨rfl, hk, hN⟩; have H3 : Hid (Cn w0 w3 n ⟨s.sent, rmN ((fc, fi), cc) s.L, s.came⟩ ss sa sc ∧ NetM w3 n ⟨s.sent, rmN ((fc, fi), cc) s.L, s.came⟩ (fun j => I j ∨ w2.heap.size ≤ j)) := ⟨Cn.step H2.out.2.1 (fun k e => ⟨(H2.out.2.2.2.1 k e).1, (H2.out.2.2.2.1 k e).2.1⟩) hk hN (fun k e => e) (rm_mem HP.out.2.2.2), hN⟩; clear hk hN hrl)
            | (go_at_call 17; refine (many_r (s := ⟨s.sent, rmN ((fc, fi), cc) s.L, s.came⟩) _ H3.out.2 ⟨by show s.came < 1000000000000; omega, rm_mem HP.out.2.2.2⟩ r HR.out).mono ?_; rintro e wm ⟨rfl, hkm⟩; have HMm : Hid (Kept No w3 wm) := hkm; clear hkm))
          go_roundw
          case rel => exact ⟨i + 1, sa, sc, ⟨s.sent, rmN ((fc, fi), cc) s.L, s.came⟩, ss, by omega, by omega, by go_num, rfl, by rw [HR.out], H3.out.1.no HMm.out, HP.out.1, by show s.came ≤ i + 1; omega, by omega⟩
          case measure => simp [intOf]; omega
      by_cases k4 : xk = 4
      · subst k4
        cases hf : s.L.find? (isN ((fc, fi), cc)) with
        | none =>
          obtain ⟨l0, hl0⟩ : ∃ l0, s.L.length = l0 := ⟨_, rfl⟩
          have HL0 : Hid (s.L.length = l0) := hl0
          rw [hl0] at hLl ⊢
          clear hl0
          go_upto_region 30 with ((go_at_call 17; refine (many_r (s := s) _ H2.out.2.2.1 ⟨by omega, HP.out.2.2.2⟩ l0 HL0.out).mono ?_; rintro e wa ⟨rfl, hkm⟩; have HMa : Hid (Kept No w2 wa) := hkm; clear hkm))
          obtain ⟨y0, y1, y2, y3, y4, y5, y6⟩ := Box.stAt (H2.out.1.kept HMa.out (fun e => e))
          simp only at y0 y1 y2 y3 y4 y5 y6
          clear x0 x1 x2 x3 x4 x5 x6
          go_upto_region 31 with (go_at_call 18; refine (double_no fc fi cc wa (H2.out.2.2.1.no HMa.out) (by omega) hf).mono ?_; rintro e w3 ⟨rfl, hk⟩; have H3 : Hid (Kept No w2 w3) := HMa.out.then hk; clear hk)
          go_upto_region 32 with ((go_at_call 17; refine (many_r (s := s) _ (H2.out.2.2.1.no H3.out) ⟨by omega, HP.out.2.2.2⟩ l0 HL0.out).mono ?_; rintro e wb ⟨rfl, hkm⟩; have HMb : Hid (Kept No w3 wb) := hkm; clear hkm))
          go_wp2_with ((go_at_call 17; refine (many_r (s := s) _ ((H2.out.2.2.1.no H3.out).no HMb.out) ⟨by omega, HP.out.2.2.2⟩ l0 HL0.out).mono ?_; rintro e wm ⟨rfl, hkm⟩; have HMm : Hid (Kept No wb wm) := hkm; clear hkm))
          go_roundw
          case rel => exact ⟨i + 1, sa, sc, s, ss, by omega, by omega, by go_num, rfl, by rw [HL0.out], ((H2.out.2.1.no H3.out).no HMb.out).no HMm.out, HP.out.1, by omega, by omega⟩
          case measure => simp [intOf]; omega
        | some q =>
          obtain ⟨l0, hl0⟩ : ∃ l0, s.L.length = l0 := ⟨_, rfl⟩
          have HL0 : Hid (s.L.length = l0) := hl0
          rw [hl0] at hLl ⊢
          clear hl0
          have hql : q.zs.length ≤ 140737488355328 := HP.out.2.2.2 q (find_mem hf).1
          go_upto_region 30 with ((go_at_call 17; refine (many_r (s := s) _ H2.out.2.2.1 ⟨by omega, HP.out.2.2.2⟩ l0 HL0.out).mono ?_; rintro e wa ⟨rfl, hkm⟩; have HMa : Hid (Kept No w2 wa) := hkm; clear hkm))
          obtain ⟨y0, y1, y2, y3, y4, y5, y6⟩ := Box.stAt (H2.out.1.kept HMa.out (fun e => e))
          simp only at y0 y1 y2 y3 y4 y5 y6
          clear x0 x1 x2 x3 x4 x5 x6
          by_cases hw : 64 ≤ cnP s.L (q.nm.1, q.to')
          · go_upto_region 31 with (go_at_call 18; refine (double_yes fc fi cc wa (H2.out.2.2.1.no HMa.out) (by omega) hf).mono ?_; rintro e w3 ⟨rfl, hk, hN⟩; rw [addS, if_pos (by exact hw)] at hN; have H3 : Hid (Cn w0 w3 n s ss sa sc ∧ NetM w3 n s (fun j => I j ∨ wa.heap.size ≤ j)) := ⟨Cn.step (H2.out.2.1.no HMa.out) (fun k e => ⟨(H2.out.2.2.2.1 k e).1, (H2.out.2.2.2.1 k e).2.1⟩) hk hN (fun k e => e) HP.out.2.2.2, hN⟩; clear hk hN)
            go_upto_region 32 with ((go_at_call 17; refine (many_r (s := s) _ H3.out.2 ⟨by omega, HP.out.2.2.2⟩ l0 HL0.out).mono ?_; rintro e wb ⟨rfl, hkm⟩; have HMb : Hid (Kept No w3 wb) := hkm; clear hkm))
            go_wp2_with ((go_at_call 17; refine (many_r (s := s) _ (H3.out.2.no HMb.out) ⟨by omega, HP.out.2.2.2⟩ l0 HL0.out).mono ?_; rintro e wm ⟨rfl, hkm⟩; have HMm : Hid (Kept No wb wm) := hkm; clear hkm))
            go_roundw
            case rel => exact ⟨i + 1, sa, sc, s, ss, by omega, by omega, by go_num, rfl, by rw [HL0.out], (H3.out.1.no HMb.out).no HMm.out, HP.out.1, by omega, by omega⟩
            case measure => simp [intOf]; omega
          · have HL1 : Hid ((s.L ++ [{ q with pl := s.came + 1 }]).length = l0 + 1) := by show _ = _; rw [List.length_append, HL0.out]; rfl
            have HZ1 : Hid (∀ p ∈ s.L ++ [{ q with pl := s.came + 1 }], p.zs.length ≤ 140737488355328) := fun p hp => by
              rcases List.mem_append.1 hp with hp | hp
              · exact HP.out.2.2.2 p hp
              · rw [List.mem_singleton.1 hp]; exact hql
            go_upto_region 31 with (go_at_call 18; refine (double_yes fc fi cc wa (H2.out.2.2.1.no HMa.out) (by omega) hf).mono ?_; rintro e w3 ⟨rfl, hk, hN⟩; rw [addS, if_neg (by exact hw)] at hN; have H3 : Hid (Cn w0 w3 n ⟨s.sent, s.L ++ [{ q with pl := s.came + 1 }], s.came + 1⟩ ss sa sc ∧ NetM w3 n ⟨s.sent, s.L ++ [{ q with pl := s.came + 1 }], s.came + 1⟩ (fun j => I j ∨ wa.heap.size ≤ j)) := ⟨Cn.step (H2.out.2.1.no HMa.out) (fun k e => ⟨(H2.out.2.2.2.1 k e).1, (H2.out.2.2.2.1 k e).2.1⟩) hk hN (fun k e => e) HZ1.out, hN⟩; clear hk hN)
            go_upto_region 32 with ((go_at_call 17; refine (many_r (s := ⟨s.sent, s.L ++ [{ q with pl := s.came + 1 }], s.came + 1⟩) _ H3.out.2 ⟨by show s.came + 1 < 1000000000000; omega, HZ1.out⟩ (l0 + 1) HL1.out).mono ?_; rintro e wb ⟨rfl, hkm⟩; have HMb : Hid (Kept No w3 wb) := hkm; clear hkm))
            go_wp2_with ((go_at_call 17; refine (many_r (s := ⟨s.sent, s.L ++ [{ q with pl := s.came + 1 }], s.came + 1⟩) _ (H3.out.2.no HMb.out) ⟨by show s.came + 1 < 1000000000000; omega, HZ1.out⟩ (l0 + 1) HL1.out).mono ?_; rintro e wm ⟨rfl, hkm⟩; have HMm : Hid (Kept No wb wm) := hkm; clear hkm))
            go_roundw
            case rel => exact ⟨i + 1, sa, sc, ⟨s.sent, s.L ++ [{ q with pl := s.came + 1 }], s.came + 1⟩, ss, by omega, by omega, by go_num, rfl, by rw [HL1.out]; go_num, (H3.out.1.no HMb.out).no HMm.out, HP.out.1, by show s.came + 1 ≤ i + 1; omega, by omega⟩
            case measure => simp [intOf]; omega
      by_cases k7 : xk = 7
      · subst k7
        go_wp2_with (first
          | (go_at_call 19; refine (clear_any w2 H2.out.2.2.1).mono ?_; rintro e w3 ⟨rfl, hk, hN⟩; have H3 : Hid (Cn w0 w3 n ⟨s.sent, [], s.came⟩ ss sa sc ∧ NetM w3 n ⟨s.sent, [], s.came⟩ I) := ⟨Cn.step H2.out.2.1 (fun k e => ⟨(H2.out.2.2.2.1 k e).1, (H2.out.2.2.2.1 k e).2.1⟩) hk hN (fun k e => .inl e) (by simp), hN⟩; clear hk hN)
          | (go_at_call 17; refine (many_any (s := ⟨s.sent, [], s.came⟩) _ H3.out.2 ⟨by show s.came < 1000000000000; omega, by simp⟩).mono ?_; rintro e wm ⟨rfl, hkm⟩; have HMm : Hid (Kept No w3 wm) := hkm; clear hkm))
        go_roundw
        case rel => exact ⟨i + 1, sa, sc, ⟨s.sent, [], s.came⟩, ss, by omega, by omega, by go_num, rfl, rfl, H3.out.1.no HMm.out, HP.out.1, by show s.came ≤ i + 1; omega, by omega⟩
        case measure => simp [intOf]; omega
      go_wp2_with (go_at_call 17; refine (many_any (s := s) (I := I) _ H2.out.2.2.1 ⟨by omega, HP.out.2.2.2⟩).mono ?_; rintro e wm ⟨rfl, hkm⟩; have HMm : Hid (Kept No w2 wm) := hkm; clear hkm)
      go_roundw
      case rel => exact ⟨i + 1, sa, sc, s, ss, by omega, by omega, by go_num, rfl, rfl, H2.out.2.1.no HMm.out, HP.out.1, by omega, by omega⟩
      case measure => simp [intOf]; omega
    · by_cases h1 : i < m
      · have h1' : (i : Int) < (m : Int) := by omega
        have h2' : ¬ (i : Int) < 300 := by omega
        clear hend hlt
        go_wp2_with (first
          | (go_at_call 20; refine (names_any (s := s) _ HI.out.1.net.choose_spec.1 ⟨by have := HI.out.2.2.1; omega, HI.out.1.len⟩).mono ?_; rintro e wn ⟨rfl, hkn⟩; have HK2 : Hid (Kept No w0 wn) := HI.out.1.kept.then hkn; clear hkn)
          | (go_at_call 11; refine (head_any wn).mono ?_; rintro e wh ⟨rfl, hkh⟩; have HK3 : Hid (Kept No w0 wh) := HK2.out.then hkh; clear hkh))
        go_ret
        exact ⟨rfl, HK3.out⟩
      · have h1' : ¬ (i : Int) < (m : Int) := by omega
        clear hend hlt
        go_wp2_with (first
          | (go_at_call 20; refine (names_any (s := s) _ HI.out.1.net.choose_spec.1 ⟨by have := HI.out.2.2.1; omega, HI.out.1.len⟩).mono ?_; rintro e wn ⟨rfl, hkn⟩; have HK2 : Hid (Kept No w0 wn) := HI.out.1.kept.then hkn; clear hkn)
          | (go_at_call 11; refine (head_any wn).mono ?_; rintro e wh ⟨rfl, hkh⟩; have HK3 : Hid (Kept No w0 wh) := HK2.out.then hkh; clear hkh))
        go_ret
        exact ⟨rfl, HK3.out⟩
end Go.Proofs.Ytphiokehcgbldaa
