import Derived.Test.YtphiokehcgbldaaWPlays
namespace Go.Proofs.Ytphiokehcgbldaa
open Go.RowKit Go.Shelf
set_option linter.unusedVariables false
set_option linter.unusedSimpArgs false

/-- Two pairs of nets side by side, each with the struct that holds it. -/
def Ap (w0 w : World) (n r bA n2 r2 bB d : Nat) : Prop :=
  ∃ s ys ss s2 ys2 ss2 XA XB, Wd w0 w n r s ys ss XA ∧ Wd w0 w n2 r2 s2 ys2 ss2 XB ∧ Box w bA 31 #[.pointer (some ⟨n, 0, none⟩), .pointer (some ⟨r, 0, none⟩)] ∧ Box w bB 31 #[.pointer (some ⟨n2, 0, none⟩), .pointer (some ⟨r2, 0, none⟩)] ∧
    (∀ k, XA k → ¬ XB k) ∧ (∀ k, XA k → k < w.heap.size ∧ k ≠ bA ∧ k ≠ bB) ∧ (∀ k, XB k → k < w.heap.size ∧ k ≠ bA ∧ k ≠ bB) ∧ s.came ≤ d ∧ ss.length ≤ d ∧ s2.came ≤ d ∧ ss2.length ≤ d
section
variable {w0 w w' : World} {n r bA n2 r2 bB d d' : Nat}
theorem Ap.swap (h : Ap w0 w n r bA n2 r2 bB d) : Ap w0 w n2 r2 bB n r bA d := by
  obtain ⟨s, ys, ss, s2, ys2, ss2, XA, XB, h1, h2, h3, h4, h5, h6, h7, h8, h9, h10, h11⟩ := h
  exact ⟨s2, ys2, ss2, s, ys, ss, XB, XA, h2, h1, h4, h3, fun k e f => h5 k f e, fun k e => ⟨(h7 k e).1, (h7 k e).2.2, (h7 k e).2.1⟩, fun k e => ⟨(h6 k e).1, (h6 k e).2.2, (h6 k e).2.1⟩, h10, h11, h8, h9⟩
theorem Ap.no (h : Ap w0 w n r bA n2 r2 bB d) (hk : Kept No w w') (hd : d ≤ d') : Ap w0 w' n r bA n2 r2 bB d' := by
  obtain ⟨s, ys, ss, s2, ys2, ss2, XA, XB, h1, h2, h3, h4, h5, h6, h7, h8, h9, h10, h11⟩ := h
  exact ⟨s, ys, ss, s2, ys2, ss2, XA, XB, h1.no hk, h2.no hk, h3.kept hk (fun e => e), h4.kept hk (fun e => e), h5, fun k e => ⟨Nat.lt_of_lt_of_le (h6 k e).1 hk.size, (h6 k e).2⟩, fun k e => ⟨Nat.lt_of_lt_of_le (h7 k e).1 hk.size, (h7 k e).2⟩, by omega, by omega, by omega, by omega⟩
theorem Ap.boxA (h : Ap w0 w n r bA n2 r2 bB d) : Box w bA 31 #[.pointer (some ⟨n, 0, none⟩), .pointer (some ⟨r, 0, none⟩)] := by
  obtain ⟨_, _, _, _, _, _, _, _, _, _, h3, _⟩ := h; exact h3
theorem Ap.kept0 (h : Ap w0 w n r bA n2 r2 bB d) : Kept No w0 w := by
  obtain ⟨_, _, _, _, _, _, _, _, h1, _⟩ := h; exact h1.kept
/-- The first of the two makes a step. -/
theorem Ap.step (h : Ap w0 w n r bA n2 r2 bB d) {x : St} (hx : StOk w0 x) (hd : d ≤ 800000000) {D p : Nat} (hr : w0.rangeAt D p x.cs) (W : World) (hW : W = w.drew) :
    Calls Try.prog 9 #[.agg #[.pointer (some ⟨n, 0, none⟩), .pointer (some ⟨r, 0, none⟩)], .agg x.cs.toArray] W (fun e w' => e = .returned (.bool true) ∧ Ap w0 w' n r bA n2 r2 bB (d + 70) ∧ Box w' bA 31 #[.pointer (some ⟨n, 0, none⟩), .pointer (some ⟨r, 0, none⟩)] ∧ w'.rangeAt D p x.cs) := by
  have hk : Kept No w W := by rw [hW]; exact (Kept.refl No w).drew
  obtain ⟨s, ys, ss, s2, ys2, ss2, XA, XB, h1, h2, h3, h4, h5, h6, h7, h8, h9, h10, h11⟩ := h
  refine (wstep_any x W (h1.no hk) hx (by omega) (by omega)).mono ?_
  rintro e w' ⟨rfl, s', ys', ss', g1, g2, g3, g4⟩
  have hA : Box w' bA 31 #[.pointer (some ⟨n, 0, none⟩), .pointer (some ⟨r, 0, none⟩)] := (h3.kept hk (fun e => e)).kept g2 (fun e => (h6 bA e.1).2.1 rfl)
  refine ⟨rfl, ⟨s', ys', ss', s2, ys2, ss2, _, XB, g1.cut, (h2.no hk).kept' g2 (fun k e _ => ⟨fun f => h5 k f.1 e, e⟩) (fun k e f => by have := h1.low k f.1; omega) h2.low, hA, (h4.kept hk (fun e => e)).kept g2 (fun e => (h6 bB e.1).2.2 rfl), fun k e f => ?_, fun k e => ?_, fun k e => ⟨Nat.lt_of_lt_of_le (h7 k e).1 (Nat.le_trans hk.size g2.size), (h7 k e).2⟩, by omega, by omega, by omega, by omega⟩, hA, fun j v hv => g1.kept.cell (hr j v hv) (fun e => e)⟩
  · rcases e.1 with e | e
    · exact h5 k e f
    · have := (h7 k f).1; have := hk.size; omega
  · refine ⟨e.2, ?_⟩
    rcases e.1 with e | e
    · exact (h6 k e).2
    · have := h3.lt; have := h4.lt; have := hk.size; omega
theorem Ap.under (h : Ap w0 w n r bA n2 r2 bB d) (hd : d ≤ 800000000) : Calls Try.prog 10 #[.agg #[.pointer (some ⟨n, 0, none⟩), .pointer (some ⟨r, 0, none⟩)]] w (fun e w' => e = .returned (.bool true) ∧ Kept No w w') := by
  obtain ⟨s, ys, ss, s2, ys2, ss2, XA, XB, h1, _, _, _, _, _, _, h8, _⟩ := h
  exact wunder_any w h1 (by omega)
end

set_option maxRecDepth 100000 in
set_option maxHeartbeats 16000000 in
theorem apartWalk (a0 : Option Addr) (m c0 : Nat) (xs : List St) (a1 : Option Addr) (m1 c1 : Nat) (xs1 : List St) (ta : Option Addr) (tm tc : Nat) (ts : List Int) (w0 : World) (hm : xs.length = m) (hml : m ≤ 140737488351232) (hX : Sts w0 a0 xs) (hok : ∀ x ∈ xs, StOk w0 x)
    (hm1 : xs1.length = m1) (hml1 : m1 ≤ 140737488351232) (hX1 : Sts w0 a1 xs1) (hok1 : ∀ x ∈ xs1, StOk w0 x) (ht : ts.length = tm) (htl : tm ≤ 17592186043904) (hT : Nums .i64 w0 ta ts) :
    Calls Try.prog 6 #[.slice a0 m c0, .slice a1 m1 c1, .slice ta tm tc] w0 (fun e w' => e = .returned (.bool true) ∧ Kept No w0 w') := by
  have HM : Hid (xs.length = m ∧ xs1.length = m1 ∧ ts.length = tm) := ⟨hm, hm1, ht⟩
  have HXs : Hid (Sts w0 a0 xs ∧ (∀ x ∈ xs, StOk w0 x) ∧ Sts w0 a1 xs1 ∧ (∀ x ∈ xs1, StOk w0 x) ∧ Nums .i64 w0 ta ts) := ⟨hX, hok, hX1, hok1, hT⟩
  clear hm hX hok hm1 hX1 hok1 ht hT
  go_enter Try.func6, Try.ntmps6
  go_upto_region 2 with (go_at_call 8; refine (new_net w0).mono ?_; rintro e w1 ⟨rfl, hN, hk⟩; have H1 : Hid (NetM w1 w0.heap.size ns0 (fun k => k = w0.heap.size) ∧ Kept No w0 w1) := ⟨hN, hk⟩; clear hN hk)
  obtain ⟨n, hn⟩ : ∃ n, n = w0.heap.size := ⟨_, rfl⟩
  obtain ⟨r, hr⟩ : ∃ r, r = w1.heap.size := ⟨_, rfl⟩
  obtain ⟨bA, hbA⟩ : ∃ b, b = w1.heap.size + 1 := ⟨_, rfl⟩
  rw [← hbA, ← hr, ← hn]
  obtain ⟨w3, hw3⟩ : ∃ w3, w3 = (w1.alloc (.cells #[.slice none 0 0, .slice none 0 0] 29)).alloc (.cells #[.pointer (some ⟨n, 0, none⟩), .pointer (some ⟨r, 0, none⟩)] 31) := ⟨_, rfl⟩
  rw [← hw3]
  have H3 : Hid (Wd w0 w3 n r ns0 [] [] (fun k => k = n ∨ k = r) ∧ Box w3 bA 31 #[.pointer (some ⟨n, 0, none⟩), .pointer (some ⟨r, 0, none⟩)] ∧ bA ≠ n ∧ bA ≠ r ∧ bA < w3.heap.size ∧ n < w3.heap.size ∧ r < w3.heap.size) := by
    have h2 := two w1 29 31 #[.slice none 0 0, .slice none 0 0] #[.pointer (some ⟨n, 0, none⟩), .pointer (some ⟨r, 0, none⟩)]
    rw [← hbA, ← hr, ← hw3] at h2
    have hs := H1.out.2.size
    have hs3 := h2.2.2.size
    have hnl : n < w1.heap.size := by
      rw [hn]
      rcases H1.out.1 with ⟨_, h, _⟩ | ⟨_, _, _, _, h⟩
      · exact h.lt
      · exact h.box.lt
    exact ⟨wd_new (by rw [hn]; exact H1.out.1) H1.out.2 (by omega) h2.1 h2.2.2 (by omega), h2.2.1, by omega, by omega, h2.2.1.lt, by omega, h2.1.lt⟩
  clear hw3 hbA hr hn H1
  go_upto_region 3 with (go_at_call 8; refine (new_net w3).mono ?_; rintro e w4 ⟨rfl, hN, hk⟩; have H4 : Hid (NetM w4 w3.heap.size ns0 (fun k => k = w3.heap.size) ∧ Kept No w3 w4) := ⟨hN, hk⟩; clear hN hk)
  obtain ⟨n2, hn⟩ : ∃ n, n = w3.heap.size := ⟨_, rfl⟩
  obtain ⟨r2, hr⟩ : ∃ r, r = w4.heap.size := ⟨_, rfl⟩
  obtain ⟨bB, hbB⟩ : ∃ b, b = w4.heap.size + 1 := ⟨_, rfl⟩
  rw [← hbB, ← hr, ← hn]
  obtain ⟨w6, hw6⟩ : ∃ w6, w6 = (w4.alloc (.cells #[.slice none 0 0, .slice none 0 0] 29)).alloc (.cells #[.pointer (some ⟨n2, 0, none⟩), .pointer (some ⟨r2, 0, none⟩)] 31) := ⟨_, rfl⟩
  rw [← hw6]
  have HA : Hid (Ap w0 w6 n r bA n2 r2 bB 0) := by
    have h2 := two w4 29 31 #[.slice none 0 0, .slice none 0 0] #[.pointer (some ⟨n2, 0, none⟩), .pointer (some ⟨r2, 0, none⟩)]
    rw [← hbB, ← hr, ← hw6] at h2
    have hs := H4.out.2.size
    have hs6 := h2.2.2.size
    have hnl : n2 < w4.heap.size := by
      rw [hn]
      rcases H4.out.1 with ⟨_, h, _⟩ | ⟨_, _, _, _, h⟩
      · exact h.lt
      · exact h.box.lt
    have hk36 := H4.out.2.then h2.2.2
    have hb := H3.out.2.2
    have hrl := h2.1.lt
    have hbl := h2.2.1.lt
    refine ⟨ns0, [], [], ns0, [], [], fun k => k = n ∨ k = r, fun k => k = n2 ∨ k = r2, H3.out.1.no hk36, wd_new (by rw [hn]; exact H4.out.1) (H3.out.1.kept.then H4.out.2) (by rw [hn]; exact H3.out.1.kept.size) h2.1 h2.2.2 (by omega), H3.out.2.1.kept hk36 (fun e => e), h2.2.1, fun k e f => ?_, fun k e => ?_, fun k e => ?_, Nat.le_refl _, Nat.le_refl _, Nat.le_refl _, Nat.le_refl _⟩
    · rcases e with e | e <;> rcases f with f | f <;> omega
    · rcases e with e | e <;> omega
    · rcases e with e | e <;> omega
  clear hw6 hbB hr hn H4 H3
  have v0 : w6.cell? ⟨bA, 0, none⟩ = some (.pointer (some ⟨n, 0, none⟩)) := HA.out.boxA.cell 0
  have v1 : w6.cell? ⟨bB, 0, none⟩ = some (.pointer (some ⟨n2, 0, none⟩)) := HA.out.swap.boxA.cell 0
  go_wp2
  clear v0 v1
  go_loopw [9, 10, 11] (fun iv jv nv wr => ∃ i j k : Nat, i ≤ m ∧ j ≤ m1 ∧ k ≤ 300 ∧ iv = .int .i64 (i : Int) ∧ jv = .int .i64 (j : Int) ∧ nv = .int .i64 (k : Int) ∧ Hid (Ap w0 wr n r bA n2 r2 bB (70 * k))) (fun _ _ nv _ => 300 - (intOf nv).toNat)
  case atStart => exact ⟨0, 0, 0, by omega, by omega, by omega, rfl, rfl, rfl, HA.out⟩
  case round =>
    obtain ⟨i, j, k, him, hjm, hk3, rfl, rfl, rfl, HI⟩ := hrel
    by_cases hk : k < 300
    · have hk' : (k : Int) < 300 := by omega
      by_cases hin : i < m ∨ j < m1
      · by_cases hi : i < m
        · by_cases hj : j < m1
          · have hi' : (i : Int) < (m : Int) := by omega
            have hj' : (j : Int) < (m1 : Int) := by omega
            go_upto_region 9 with fail
            obtain ⟨b, hb⟩ : ∃ b : Bool, b = (if tm = 0 then false else decide (¬ ((ts[k % tm]?.getD 0).tmod 2 = 0))) := ⟨_, rfl⟩
            go_cut [12] from 45 to 58 (fun v wc => v = .bool b ∧ wc = wr)
            case first =>
              by_cases htm : tm = 0
              · have hgt : ¬ (tm : Int) > 0 := by omega
                have HBv : Hid (b = false) := by show _ = _; rw [hb, if_pos htm]
                subst htm
                clear hb
                go_wp2
                go_meet
                case rel => exact ⟨by rw [HBv.out], rfl⟩
              · have hgt : (tm : Int) > 0 := by omega
                have hkm : k % tm < tm := Nat.mod_lt _ (by omega)
                obtain ⟨tb, toff, eta, htc⟩ := HXs.out.2.2.2.2 (k % tm) (by rw [HM.out.2.2]; exact hkm)
                subst eta
                obtain ⟨tv, htv⟩ : ∃ tv, tv = ts[k % tm]?.getD 0 := ⟨_, rfl⟩
                rw [← htv] at htc hb
                rw [if_neg htm] at hb
                have htw : wr.cell? ⟨tb, toff + k % tm, none⟩ = some (.int .i64 tv) := HI.out.kept0.cell htc (fun e => e)
                clear htc htv
                by_cases hp : tv.tmod 2 = 0
                · have HBv : Hid (b = false) := by show _ = _; rw [hb]; simp [hp]
                  clear hb
                  go_wp2
                  go_meet
                  case rel => exact ⟨by rw [HBv.out], rfl⟩
                · have HBv : Hid (b = true) := by show _ = _; rw [hb]; simp [hp]
                  clear hb
                  go_wp2
                  go_meet
                  case rel => exact ⟨by rw [HBv.out]; simp [hp], rfl⟩
            obtain ⟨hv, hwc⟩ := hcut
            subst hv
            have hwc' := hwc.symm
            clear hwc
            subst hwc'
            clear hb
            cases b
            · obtain ⟨x, hx⟩ : ∃ x, xs[i]? = some x := ⟨_, List.getElem?_eq_getElem (by rw [HM.out.1]; assumption)⟩
              obtain ⟨D, off, ea, hc⟩ := HXs.out.1 i x hx
              subst ea
              have HXk : Hid (StOk w0 x ∧ w0.rangeAt D (off + i * 7) x.cs) := ⟨HXs.out.2.1 x (List.mem_of_getElem? hx), hc⟩
              clear hc hx
              go_upto_region 14 with fail
              refine a14 _ bA n r D off m c0 i x (fun W w' => Ap w0 w' n r bA n2 r2 bB (70 * k + 70)) wr _ rfl rfl rfl rfl HI.out.boxA (fun jj v hv => HI.out.kept0.cell (HXk.out.2 jj v hv) (fun e => e)) (by assumption) (fun W hW => (HI.out.step HXk.out.1 (by omega) HXk.out.2 W hW)) ?_
              intro wo hR
              have HR : Hid (Ap w0 wo n r bA n2 r2 bB (70 * k + 70)) := hR
              clear hR
              simp only [Wa.pA, Wa.pB, Wa.p1, Wa.p2, Wa.p3]
              go_wp2
              go_roundw
              case rel => exact ⟨i + 1, j, k + 1, by omega, by omega, by omega, by go_num, by go_num, by go_num, HR.out⟩
              case measure => simp [intOf]; omega
            · obtain ⟨x, hx⟩ : ∃ x, xs1[j]? = some x := ⟨_, List.getElem?_eq_getElem (by rw [HM.out.2.1]; assumption)⟩
              obtain ⟨D, off, ea, hc⟩ := HXs.out.2.2.1 j x hx
              subst ea
              have HXk : Hid (StOk w0 x ∧ w0.rangeAt D (off + j * 7) x.cs) := ⟨HXs.out.2.2.2.1 x (List.mem_of_getElem? hx), hc⟩
              clear hc hx
              go_upto_region 11 with fail
              refine a11 _ bB n2 r2 D off m1 c1 j x (fun W w' => Ap w0 w' n2 r2 bB n r bA (70 * k + 70)) wr _ rfl rfl rfl rfl HI.out.swap.boxA (fun jj v hv => HI.out.kept0.cell (HXk.out.2 jj v hv) (fun e => e)) (by assumption) (fun W hW => (HI.out.swap.step HXk.out.1 (by omega) HXk.out.2 W hW)) ?_
              intro wo hR
              have HR : Hid (Ap w0 wo n r bA n2 r2 bB (70 * k + 70)) := hR.swap
              clear hR
              simp only [Wa.pA, Wa.pB, Wa.p1, Wa.p2, Wa.p3]
              go_wp2
              go_roundw
              case rel => exact ⟨i, j + 1, k + 1, by omega, by omega, by omega, by go_num, by go_num, by go_num, HR.out⟩
              case measure => simp [intOf]; omega
          · have hi' : (i : Int) < (m : Int) := by omega
            have hj' : ¬ (j : Int) < (m1 : Int) := by omega
            go_upto_region 9 with fail
            obtain ⟨b, hb⟩ : ∃ b : Bool, b = (if tm = 0 then false else decide (¬ ((ts[k % tm]?.getD 0).tmod 2 = 0))) := ⟨_, rfl⟩
            go_cut [12] from 45 to 58 (fun v wc => v = .bool b ∧ wc = wr)
            case first =>
              by_cases htm : tm = 0
              · have hgt : ¬ (tm : Int) > 0 := by omega
                have HBv : Hid (b = false) := by show _ = _; rw [hb, if_pos htm]
                subst htm
                clear hb
                go_wp2
                go_meet
                case rel => exact ⟨by rw [HBv.out], rfl⟩
              · have hgt : (tm : Int) > 0 := by omega
                have hkm : k % tm < tm := Nat.mod_lt _ (by omega)
                obtain ⟨tb, toff, eta, htc⟩ := HXs.out.2.2.2.2 (k % tm) (by rw [HM.out.2.2]; exact hkm)
                subst eta
                obtain ⟨tv, htv⟩ : ∃ tv, tv = ts[k % tm]?.getD 0 := ⟨_, rfl⟩
                rw [← htv] at htc hb
                rw [if_neg htm] at hb
                have htw : wr.cell? ⟨tb, toff + k % tm, none⟩ = some (.int .i64 tv) := HI.out.kept0.cell htc (fun e => e)
                clear htc htv
                by_cases hp : tv.tmod 2 = 0
                · have HBv : Hid (b = false) := by show _ = _; rw [hb]; simp [hp]
                  clear hb
                  go_wp2
                  go_meet
                  case rel => exact ⟨by rw [HBv.out], rfl⟩
                · have HBv : Hid (b = true) := by show _ = _; rw [hb]; simp [hp]
                  clear hb
                  go_wp2
                  go_meet
                  case rel => exact ⟨by rw [HBv.out]; simp [hp], rfl⟩
            obtain ⟨hv, hwc⟩ := hcut
            subst hv
            have hwc' := hwc.symm
            clear hwc
            subst hwc'
            clear hb
            cases b
            · obtain ⟨x, hx⟩ : ∃ x, xs[i]? = some x := ⟨_, List.getElem?_eq_getElem (by rw [HM.out.1]; assumption)⟩
              obtain ⟨D, off, ea, hc⟩ := HXs.out.1 i x hx
              subst ea
              have HXk : Hid (StOk w0 x ∧ w0.rangeAt D (off + i * 7) x.cs) := ⟨HXs.out.2.1 x (List.mem_of_getElem? hx), hc⟩
              clear hc hx
              go_upto_region 14 with fail
              refine a14 _ bA n r D off m c0 i x (fun W w' => Ap w0 w' n r bA n2 r2 bB (70 * k + 70)) wr _ rfl rfl rfl rfl HI.out.boxA (fun jj v hv => HI.out.kept0.cell (HXk.out.2 jj v hv) (fun e => e)) (by assumption) (fun W hW => (HI.out.step HXk.out.1 (by omega) HXk.out.2 W hW)) ?_
              intro wo hR
              have HR : Hid (Ap w0 wo n r bA n2 r2 bB (70 * k + 70)) := hR
              clear hR
              simp only [Wa.pA, Wa.pB, Wa.p1, Wa.p2, Wa.p3]
              go_wp2
              go_roundw
              case rel => exact ⟨i + 1, j, k + 1, by omega, by omega, by omega, by go_num, by go_num, by go_num, HR.out⟩
              case measure => simp [intOf]; omega
            · obtain ⟨x, hx⟩ : ∃ x, xs[i]? = some x := ⟨_, List.getElem?_eq_getElem (by rw [HM.out.1]; assumption)⟩
              obtain ⟨D, off, ea, hc⟩ := HXs.out.1 i x hx
              subst ea
              have HXk : Hid (StOk w0 x ∧ w0.rangeAt D (off + i * 7) x.cs) := ⟨HXs.out.2.1 x (List.mem_of_getElem? hx), hc⟩
              clear hc hx
              go_upto_region 14 with fail
              refine a14 _ bA n r D off m c0 i x (fun W w' => Ap w0 w' n r bA n2 r2 bB (70 * k + 70)) wr _ rfl rfl rfl rfl HI.out.boxA (fun jj v hv => HI.out.kept0.cell (HXk.out.2 jj v hv) (fun e => e)) (by assumption) (fun W hW => (HI.out.step HXk.out.1 (by omega) HXk.out.2 W hW)) ?_
              intro wo hR
              have HR : Hid (Ap w0 wo n r bA n2 r2 bB (70 * k + 70)) := hR
              clear hR
              simp only [Wa.pA, Wa.pB, Wa.p1, Wa.p2, Wa.p3]
              go_wp2
              go_roundw
              case rel => exact ⟨i + 1, j, k + 1, by omega, by omega, by omega, by go_num, by go_num, by go_num, HR.out⟩
              case measure => simp [intOf]; omega
        · by_cases hj : j < m1
          · have hi' : ¬ (i : Int) < (m : Int) := by omega
            have hj' : (j : Int) < (m1 : Int) := by omega
            go_upto_region 9 with fail
            obtain ⟨b, hb⟩ : ∃ b : Bool, b = (if tm = 0 then false else decide (¬ ((ts[k % tm]?.getD 0).tmod 2 = 0))) := ⟨_, rfl⟩
            go_cut [12] from 45 to 58 (fun v wc => v = .bool b ∧ wc = wr)
            case first =>
              by_cases htm : tm = 0
              · have hgt : ¬ (tm : Int) > 0 := by omega
                have HBv : Hid (b = false) := by show _ = _; rw [hb, if_pos htm]
                subst htm
                clear hb
                go_wp2
                go_meet
                case rel => exact ⟨by rw [HBv.out], rfl⟩
              · have hgt : (tm : Int) > 0 := by omega
                have hkm : k % tm < tm := Nat.mod_lt _ (by omega)
                obtain ⟨tb, toff, eta, htc⟩ := HXs.out.2.2.2.2 (k % tm) (by rw [HM.out.2.2]; exact hkm)
                subst eta
                obtain ⟨tv, htv⟩ : ∃ tv, tv = ts[k % tm]?.getD 0 := ⟨_, rfl⟩
                rw [← htv] at htc hb
                rw [if_neg htm] at hb
                have htw : wr.cell? ⟨tb, toff + k % tm, none⟩ = some (.int .i64 tv) := HI.out.kept0.cell htc (fun e => e)
                clear htc htv
                by_cases hp : tv.tmod 2 = 0
                · have HBv : Hid (b = false) := by show _ = _; rw [hb]; simp [hp]
                  clear hb
                  go_wp2
                  go_meet
                  case rel => exact ⟨by rw [HBv.out], rfl⟩
                · have HBv : Hid (b = true) := by show _ = _; rw [hb]; simp [hp]
                  clear hb
                  go_wp2
                  go_meet
                  case rel => exact ⟨by rw [HBv.out]; simp [hp], rfl⟩
            obtain ⟨hv, hwc⟩ := hcut
            subst hv
            have hwc' := hwc.symm
            clear hwc
            subst hwc'
            clear hb
            cases b
            · obtain ⟨x, hx⟩ : ∃ x, xs1[j]? = some x := ⟨_, List.getElem?_eq_getElem (by rw [HM.out.2.1]; assumption)⟩
              obtain ⟨D, off, ea, hc⟩ := HXs.out.2.2.1 j x hx
              subst ea
              have HXk : Hid (StOk w0 x ∧ w0.rangeAt D (off + j * 7) x.cs) := ⟨HXs.out.2.2.2.1 x (List.mem_of_getElem? hx), hc⟩
              clear hc hx
              go_upto_region 11 with fail
              refine a11 _ bB n2 r2 D off m1 c1 j x (fun W w' => Ap w0 w' n2 r2 bB n r bA (70 * k + 70)) wr _ rfl rfl rfl rfl HI.out.swap.boxA (fun jj v hv => HI.out.kept0.cell (HXk.out.2 jj v hv) (fun e => e)) (by assumption) (fun W hW => (HI.out.swap.step HXk.out.1 (by omega) HXk.out.2 W hW)) ?_
              intro wo hR
              have HR : Hid (Ap w0 wo n r bA n2 r2 bB (70 * k + 70)) := hR.swap
              clear hR
              simp only [Wa.pA, Wa.pB, Wa.p1, Wa.p2, Wa.p3]
              go_wp2
              go_roundw
              case rel => exact ⟨i, j + 1, k + 1, by omega, by omega, by omega, by go_num, by go_num, by go_num, HR.out⟩
              case measure => simp [intOf]; omega
            · obtain ⟨x, hx⟩ : ∃ x, xs1[j]? = some x := ⟨_, List.getElem?_eq_getElem (by rw [HM.out.2.1]; assumption)⟩
              obtain ⟨D, off, ea, hc⟩ := HXs.out.2.2.1 j x hx
              subst ea
              have HXk : Hid (StOk w0 x ∧ w0.rangeAt D (off + j * 7) x.cs) := ⟨HXs.out.2.2.2.1 x (List.mem_of_getElem? hx), hc⟩
              clear hc hx
              go_upto_region 11 with fail
              refine a11 _ bB n2 r2 D off m1 c1 j x (fun W w' => Ap w0 w' n2 r2 bB n r bA (70 * k + 70)) wr _ rfl rfl rfl rfl HI.out.swap.boxA (fun jj v hv => HI.out.kept0.cell (HXk.out.2 jj v hv) (fun e => e)) (by assumption) (fun W hW => (HI.out.swap.step HXk.out.1 (by omega) HXk.out.2 W hW)) ?_
              intro wo hR
              have HR : Hid (Ap w0 wo n r bA n2 r2 bB (70 * k + 70)) := hR.swap
              clear hR
              simp only [Wa.pA, Wa.pB, Wa.p1, Wa.p2, Wa.p3]
              go_wp2
              go_roundw
              case rel => exact ⟨i, j + 1, k + 1, by omega, by omega, by omega, by go_num, by go_num, by go_num, HR.out⟩
              case measure => simp [intOf]; omega
          · exact absurd hin (by omega)
      · have hi' : ¬ (i : Int) < (m : Int) := by omega
        have hj' : ¬ (j : Int) < (m1 : Int) := by omega
        have v0 : wr.cell? ⟨bA, 0, none⟩ = some (.pointer (some ⟨n, 0, none⟩)) := HI.out.boxA.cell 0
        have v1 : wr.cell? ⟨bA, 1, none⟩ = some (.pointer (some ⟨r, 0, none⟩)) := HI.out.boxA.cell 1
        have u0 : wr.cell? ⟨bB, 0, none⟩ = some (.pointer (some ⟨n2, 0, none⟩)) := HI.out.swap.boxA.cell 0
        have u1 : wr.cell? ⟨bB, 1, none⟩ = some (.pointer (some ⟨r2, 0, none⟩)) := HI.out.swap.boxA.cell 1
        go_wp2_with (first
          | (go_at_call 11; refine (head_any wo).mono ?_; rintro e wh ⟨rfl, hkh⟩; have HK3 : Hid (Kept No w0 wh) := HKo.out.then hkh; clear hkh)
          | (go_at_call 10; refine ((HI.out.no HKn.out.1 (Nat.le_refl _)).swap.under (by omega)).mono ?_; rintro e wo ⟨rfl, hko⟩; have HKo : Hid (Kept No w0 wo) := HKn.out.2.then hko; clear hko)
          | (go_at_call 10; refine (HI.out.under (by omega)).mono ?_; rintro e wn ⟨rfl, hkn⟩; have HKn : Hid (Kept No wr wn ∧ Kept No w0 wn) := ⟨hkn, HI.out.kept0.then hkn⟩; have u0' : wn.cell? ⟨bB, 0, none⟩ = some (.pointer (some ⟨n2, 0, none⟩)) := (HI.out.swap.boxA.kept hkn (fun e => e)).cell 0; have u1' : wn.cell? ⟨bB, 1, none⟩ = some (.pointer (some ⟨r2, 0, none⟩)) := (HI.out.swap.boxA.kept hkn (fun e => e)).cell 1; clear hkn u0 u1 v0 v1))
        go_ret
        exact ⟨rfl, HK3.out⟩
    · have hk' : ¬ (k : Int) < 300 := by omega
      have v0 : wr.cell? ⟨bA, 0, none⟩ = some (.pointer (some ⟨n, 0, none⟩)) := HI.out.boxA.cell 0
      have v1 : wr.cell? ⟨bA, 1, none⟩ = some (.pointer (some ⟨r, 0, none⟩)) := HI.out.boxA.cell 1
      have u0 : wr.cell? ⟨bB, 0, none⟩ = some (.pointer (some ⟨n2, 0, none⟩)) := HI.out.swap.boxA.cell 0
      have u1 : wr.cell? ⟨bB, 1, none⟩ = some (.pointer (some ⟨r2, 0, none⟩)) := HI.out.swap.boxA.cell 1
      go_wp2_with (first
        | (go_at_call 11; refine (head_any wo).mono ?_; rintro e wh ⟨rfl, hkh⟩; have HK3 : Hid (Kept No w0 wh) := HKo.out.then hkh; clear hkh)
        | (go_at_call 10; refine ((HI.out.no HKn.out.1 (Nat.le_refl _)).swap.under (by omega)).mono ?_; rintro e wo ⟨rfl, hko⟩; have HKo : Hid (Kept No w0 wo) := HKn.out.2.then hko; clear hko)
        | (go_at_call 10; refine (HI.out.under (by omega)).mono ?_; rintro e wn ⟨rfl, hkn⟩; have HKn : Hid (Kept No wr wn ∧ Kept No w0 wn) := ⟨hkn, HI.out.kept0.then hkn⟩; have u0' : wn.cell? ⟨bB, 0, none⟩ = some (.pointer (some ⟨n2, 0, none⟩)) := (HI.out.swap.boxA.kept hkn (fun e => e)).cell 0; have u1' : wn.cell? ⟨bB, 1, none⟩ = some (.pointer (some ⟨r2, 0, none⟩)) := (HI.out.swap.boxA.kept hkn (fun e => e)).cell 1; clear hkn u0 u1 v0 v1))
      go_ret
      exact ⟨rfl, HK3.out⟩
end Go.Proofs.Ytphiokehcgbldaa
