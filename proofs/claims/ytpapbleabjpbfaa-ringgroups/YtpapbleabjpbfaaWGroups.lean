import Derived.Test.YtpapbleabjpbfaaGp
namespace Go.Proofs.Ytpapbleabjpbfaa
open Go.RowKit
set_option linter.unusedVariables false

theorem pts_rising (zs : List Int) (p : Nat) : Rising (sortP (ptsOf zs p)) := by
  have h : (sortP (ptsOf zs p)).Pairwise (fun x y => x.1 ≤ y.1) := by
    have := List.pairwise_mergeSort (le := fun x y : Int × Int => !ltP y x) (by intro a b c; simp only [ltP_eq]; simp; omega) (by intro a b; simp only [ltP_eq]; simp; omega) (ptsOf zs p)
    refine this.imp ?_
    intro x y h
    simp only [ltP_eq] at h
    simp at h
    omega
  intro a b hab hb
  by_cases e : a = b
  · subst e; exact Int.le_refl _
  · have := List.pairwise_iff_getElem.1 h a b (by omega) hb (by omega)
    rw [List.getElem?_eq_getElem hb, List.getElem?_eq_getElem (by omega)]
    exact this
theorem pts_srvI {zs : List Int} {f : Int} {p : Nat} {bu bl ro : Int} (hc : cfgB zs f p bu bl ro = true) : SrvI (sortP (ptsOf (sortI zs) p)) := by
  intro i
  rcases h : (sortP (ptsOf (sortI zs) p))[i]? with _ | x
  · simp [I64]
  · have hx : x ∈ ptsOf (sortI zs) p := (List.mergeSort_perm _ _).subset (List.mem_of_getElem? h)
    simp only [Option.getD_some]
    unfold ptsOf at hx
    obtain ⟨l, hl, hx⟩ := List.mem_flatten.1 hx
    obtain ⟨z, hz, rfl⟩ := List.mem_map.1 hl
    obtain ⟨n, _, rfl⟩ := List.mem_map.1 hx
    have hz' : z ∈ zs := (List.mergeSort_perm _ _).subset hz
    obtain ⟨j, hj, rfl⟩ := List.mem_iff_getElem.1 hz'
    have := ((cfgB_true hc).2.1 j hj).1
    rw [List.getElem?_eq_getElem hj, Option.getD_some] at this
    show I64 (zs[j])
    unfold I64
    omega

set_option maxRecDepth 100000 in
set_option maxHeartbeats 4000000 in
theorem groupsWalk (x : Cfg) (a1 : Option Addr) (n1 c1 : Nat) (ks : List Ky) (w : World) (hx : CfgOk w x) (h1 : ks.length = n1) (hk : Keys w a1 ks) (hb1 : n1 ≤ 140737488355328) :
    Calls Try.prog 5 #[cfgV (.slice x.a x.n x.c) x.f x.p x.bu x.bl x.ro, .slice a1 n1 c1] w fun e w' => e = .returned (.bool true) ∧ Below w.heap.size w w' := by
  have HX : Hid (∀ W, Kept No w W → Calls Try.prog 9 #[cfgV (.slice x.a x.n x.c) x.f x.p x.bu x.bl x.ro] W fun e w' => ∃ ra rb, e = .returned (.tuple #[.pointer ra, .pointer rb, .bool true]) ∧ BothP w' W.heap.size ra rb ∧ Kept No W w') := fun W hk => bothP_any x W (hx.no hk)
  have HL1 : Hid (ks.length = n1) := h1
  have HKs : Hid (Keys w a1 ks) := hk
  clear hx hk h1
  obtain ⟨xa, xn, xc, zs, f, p, bu, bl, ro⟩ := x
  simp only at HX ⊢
  go_enter Try.func5, Try.ntmps5
  go_wp2_with fail
  refine Calls.mono (HX.out _ ((Kept.refl No w).alloc _)) ?_
  rintro e w1 ⟨ra, rb, rfl, hv1, hk1⟩
  have HK1 : Hid (Kept No w w1) := ((Kept.refl No w).alloc _).then hk1
  clear hk1 HX
  rcases hv1 with ⟨rfl, rfl⟩ | ⟨r, q, ys, yf, yp, ybu, ybl, yro, rfl, rfl, hR, hQ, hc⟩
  · go_wp2_with (go_at_call 12; refine (known_any _).mono ?_; rintro e w2 ⟨rfl, hk2⟩; have HK12 : Hid (Kept No w1 w2) := hk2; clear hk2)
    go_ret
    exact ⟨rfl, (HK1.out.then HK12.out).below (Nat.le_refl _) (fun _ e => e.elim)⟩
  · obtain ⟨hp1, hp2⟩ := pts_pos hc
    have HRi : Hid (Rising (sortP (ptsOf (sortI ys) yp))) := pts_rising _ _
    have HSI : Hid (SrvI (sortP (ptsOf (sortI ys) yp))) := pts_srvI hc
    obtain ⟨⟨hf0, hf3, _⟩, _, _, ⟨hb3, hb4⟩, _⟩ := cfgB_true hc
    obtain ⟨wn, hwn⟩ := Int.eq_ofNat_of_zero_le (show 0 ≤ 2 * yf + 1 by omega)
    have hwn' : (wn : Int) = 2 * yf + 1 := hwn.symm
    obtain ⟨sa, sn, sc, pg, pc, m, hRv⟩ := hR.v
    obtain ⟨qa, qc, qg, qpc, mq, hQv, hqn⟩ := hQ.v hp1
    obtain rfl : m = mq := by rw [← hRv.len, hQv.len]
    have hm : m ≤ 4096 := by rw [← hRv.len]; exact hp2
    have hm1 : 1 ≤ m := by rw [← hRv.len]; exact hp1
    have HRv : Hid (RingV w1 r sa sn sc yf yp ybu ybl yro pg pc m (sortP (ptsOf (sortI ys) yp))) := hRv
    have HQv : Hid (RefV w1 q (.slice qa (sortI ys).length qc) yf yp ybu ybl yro qg qpc m (sortP (ptsOf (sortI ys) yp))) := hQv
    clear hR hQ hc hp1 hp2 hRv hQv hqn hwn
    generalize sortP (ptsOf (sortI ys) yp) = ps at HRi HSI HRv HQv
    generalize (sortI ys).length = sl at HQv
    have HGy : Hid (∀ W kd a b c, Kept No w1 W → keyB kd a b c ybu = true → Calls Try.prog 14 #[.pointer (some ⟨r, 0, none⟩), keyV kd a b c] W fun e w' => GrpR W w' e (grp ps (homeH kd a b c) wn)) := fun W kd a b c hk hkb =>
      (groupYes_any r sa sn sc yf yp ybu ybl yro pg pc m wn ps kd a b c W (HRv.out.no hk) (by omega) (by omega) hkb (by omega) (by omega) HRi.out HSI.out (by omega) (by omega) hwn').mono (by
        rintro e w' ⟨g, hg, rfl, ho, hk'⟩
        exact ⟨_, _, rfl, Own.nums ho rfl, hk'⟩)
    have HQy : Hid (∀ W kd a b c, Kept No w1 W → keyB kd a b c ybu = true → Calls Try.prog 15 #[.pointer (some ⟨q, 0, none⟩), keyV kd a b c] W fun e w' => GrpR W w' e (grp ps (homeH kd a b c) wn)) := fun W kd a b c hk hkb =>
      refGroupYes_any q qa sl qc yf yp ybu ybl yro qg qpc m wn ps kd a b c W (HQv.out.no hk) (by omega) (by omega) hkb hm1 hm HRi.out hf0 hf3 hwn'
    have HGn : Hid (∀ W kd a b c, Kept No w1 W → keyB kd a b c ybu = false → Calls Try.prog 14 #[.pointer (some ⟨r, 0, none⟩), keyV kd a b c] W fun e w' => e = .returned (.tuple #[.slice none 0 0, .int .i64 21]) ∧ Kept No W w') := fun W kd a b c hk hkb =>
      groupNo_any r sa sn sc yf yp ybu ybl yro pg pc m ps kd a b c W (HRv.out.no hk) (by omega) (by omega) hkb
    have HQn : Hid (∀ W kd a b c, Kept No w1 W → keyB kd a b c ybu = false → Calls Try.prog 15 #[.pointer (some ⟨q, 0, none⟩), keyV kd a b c] W fun e w' => e = .returned (.tuple #[.slice none 0 0, .int .i64 21]) ∧ Kept No W w') := fun W kd a b c hk hkb =>
      refGroupNo_any q qa sl qc yf yp ybu ybl yro qg qpc m ps kd a b c W (HQv.out.no hk) (by omega) (by omega) hkb
    have HGl : Hid (∀ h, (grp ps h wn).length ≤ 1000) := fun h => by have := grpN_le ps (firstN ps h) wn ps.length; show (grpN ps (firstN ps h) wn ps.length).length ≤ 1000; omega
    clear HRv HQv HRi HSI hf0 hf3 hwn' hm hm1 hb3 hb4
    go_wp2_with (go_at_call 12; refine (known_any _).mono ?_; rintro e w2 ⟨rfl, hk2⟩; have HK12 : Hid (Kept No w1 w2) := hk2; clear hk2)
    go_loopw [8] (fun i wr => ∃ k : Nat, k ≤ n1 ∧ i = .int .i64 k ∧ Hid (Kept No w1 wr)) (fun i _ => n1 - (intOf i).toNat)
    case atStart => exact ⟨0, Nat.zero_le _, rfl, HK12⟩
    case round =>
      obtain ⟨k, hk, rfl, HK⟩ := hrel
      clear HK12
      by_cases hlt : k < n1
      · obtain ⟨y, hyk⟩ : ∃ y, ks[k]? = some y := ⟨_, List.getElem?_eq_getElem (by rw [HL1.out]; exact hlt)⟩
        obtain ⟨kb, koff, rfl, y0, y1, y2, y3⟩ := (HKs.out.no (HK1.out.then HK.out)) k y hyk
        have hk1 : (k : Int) < (n1 : Int) := by omega
        have HKy : Hid (∀ W, Kept No wr W → W.cell? ⟨kb, koff + k * 4, none⟩ = some (.int .i64 y.kd) ∧ W.cell? ⟨kb, koff + k * 4 + 1, none⟩ = some (.int .i64 y.a) ∧ W.cell? ⟨kb, koff + k * 4 + 2, none⟩ = some (.int .i64 y.b) ∧ W.cell? ⟨kb, koff + k * 4 + 3, none⟩ = some (.int .i64 y.c)) := fun W hk => ⟨hk.cell y0 id, hk.cell y1 id, hk.cell y2 id, hk.cell y3 id⟩
        clear hyk
        by_cases hkb : keyB y.kd y.a y.b y.c ybu = true
        · have HKb : Hid (keyB y.kd y.a y.b y.c ybu = true) := hkb
          clear hkb
          go_wp2_with (first
            | (go_at_call 14
               refine Calls.mono (HGy.out _ _ _ _ _ HK.out HKb.out) ?_
               rintro e w3 ⟨ga, gc, rfl, hn3, hk3⟩
               have HN3 : Hid (Nums .i64 w3 ga (grp ps (homeH y.kd y.a y.b y.c) wn)) := hn3
               have HK3 : Hid (Kept No wr w3) := hk3
               clear y0 y1 y2 y3
               obtain ⟨y0, y1, y2, y3⟩ := HKy.out w3 hk3
               clear hn3 hk3)
            | (go_at_call 15
               refine Calls.mono (HQy.out _ _ _ _ _ (HK.out.then HK3.out) HKb.out) ?_
               rintro e w4 ⟨gb, gd, rfl, hn4, hk4⟩
               have HN4 : Hid (Nums .i64 w4 gb (grp ps (homeH y.kd y.a y.b y.c) wn)) := hn4
               have HK4 : Hid (Kept No wr w4) := HK3.out.then hk4
               have HN5 : Hid (Nums .i64 w4 ga (grp ps (homeH y.kd y.a y.b y.c) wn)) := HN3.out.no hk4
               have HL5 : Hid ((grp ps (homeH y.kd y.a y.b y.c) wn).length ≤ 1000) := HGl.out _
               clear hn4 hk4)
            | (go_at_call 16
               refine (sameInts_any ga gb gc gd (grp ps (homeH y.kd y.a y.b y.c) wn) (grp ps (homeH y.kd y.a y.b y.c) wn) w4 (by have := HL5.out; omega) (by have := HL5.out; omega) HN5.out HN4.out).mono ?_
               rintro e w5 ⟨rfl, nn, hw5⟩
               rw [eqB_refl, hw5]
               clear hw5 w5)
            | fail)
          go_roundw
          case rel => exact ⟨k + 1, by omega, by go_num, (HK.out.then HK4.out).drewN _⟩
          case measure => simp [intOf]; omega
        · have HKb : Hid (keyB y.kd y.a y.b y.c ybu = false) := by simpa [Hid] using hkb
          clear hkb
          go_wp2_with (first
            | (go_at_call 14
               refine Calls.mono (HGn.out _ _ _ _ _ HK.out HKb.out) ?_
               rintro e w3 ⟨rfl, hk3⟩
               have HK3 : Hid (Kept No wr w3) := hk3
               clear y0 y1 y2 y3
               obtain ⟨y0, y1, y2, y3⟩ := HKy.out w3 hk3
               clear hk3)
            | (go_at_call 15
               refine Calls.mono (HQn.out _ _ _ _ _ (HK.out.then HK3.out) HKb.out) ?_
               rintro e w4 ⟨rfl, hk4⟩
               have HK4 : Hid (Kept No wr w4) := HK3.out.then hk4
               clear hk4)
            | (go_at_call 16
               refine (sameInts_any none none 0 0 [] [] w4 (by simp) (by simp) (Nums.nil _ _ _) (Nums.nil _ _ _)).mono ?_
               rintro e w5 ⟨rfl, nn, hw5⟩
               rw [eqB_refl, hw5]
               clear hw5 w5)
            | fail)
          go_roundw
          case rel => exact ⟨k + 1, by omega, by go_num, (HK.out.then HK4.out).drewN _⟩
          case measure => simp [intOf]; omega
      · have hk1 : ¬ (k : Int) < (n1 : Int) := by omega
        go_wp2
        go_ret
        exact ⟨rfl, (HK1.out.then HK.out).below (Nat.le_refl _) (fun _ e => e.elim)⟩

end Go.Proofs.Ytpapbleabjpbfaa
