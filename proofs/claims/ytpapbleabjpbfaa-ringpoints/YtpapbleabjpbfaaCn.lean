import Derived.Test.YtpapbleabjpbfaaBo
import Derived.Test.YtpapbleabjpbfaaSs
namespace Go.Proofs.Ytpapbleabjpbfaa
open Go.RowKit
set_option linter.unusedVariables false

/-- A ring of the document's, as its points are read. -/
structure RefV (w : World) (q : Nat) (sv : Value) (f p bu bl ro : Int) (pg pc m : Nat) (ps : List (Int × Int)) : Prop where
  box : Box w q 34 #[sv, .int .i64 f, .int .i64 p, .int .i64 bu, .int .i64 bl, .int .i64 ro, .slice (some ⟨pg, 0, none⟩) m pc]
  cell : ∀ i, i < m → w.cell? ⟨pg, i * 3, none⟩ = some (.int .i64 (ps[i]?.getD (0, 0)).1) ∧ w.cell? ⟨pg, i * 3 + 1, none⟩ = some (.int .i64 (ps[i]?.getD (0, 0)).2) ∧ ∃ x, w.cell? ⟨pg, i * 3 + 2, none⟩ = some (.int .i64 x)
  len : ps.length = m
theorem RefV.no {w w' : World} {q : Nat} {sv : Value} {f p bu bl ro : Int} {pg pc m : Nat} {ps : List (Int × Int)} (h : RefV w q sv f p bu bl ro pg pc m ps) (hk : Kept No w w') : RefV w' q sv f p bu bl ro pg pc m ps :=
  ⟨h.box.kept hk (fun e => e), fun i hi => ⟨hk.cell (h.cell i hi).1 id, hk.cell (h.cell i hi).2.1 id, let ⟨x, hx⟩ := (h.cell i hi).2.2; ⟨x, hk.cell hx id⟩⟩, h.len⟩
theorem RefAt.v {w : World} {base q : Nat} {zs : List Int} {f : Int} {p : Nat} {bu bl ro : Int} {ps : List (Int × Int)} (h : RefAt w base q zs f p bu bl ro ps) (hm : 1 ≤ ps.length) : ∃ sa sc pg pc m, RefV w q (.slice sa zs.length sc) f p bu bl ro pg pc m ps ∧ Nums .i64 w sa zs := by
  obtain ⟨sv, v, L, hb, hs, ho, hL, _⟩ := h
  obtain ⟨sa, sc, rfl⟩ := owns_slice hs
  have hl : L.length = ps.length := by rw [← hL, List.length_map]
  obtain ⟨m, hmm⟩ : ∃ m, L.length = m + 1 := ⟨L.length - 1, by omega⟩
  rw [hmm] at ho
  obtain ⟨g, cap, sp, rfl, _, _, ht, _⟩ := owns_tri ho hmm
  refine ⟨sa, sc, g, cap, m + 1, ⟨hb, ?_, by omega⟩, Own.nums (t := 3) hs rfl⟩
  intro i hi
  have hi' : i < L.length := by omega
  have e : ps[i]?.getD (0, 0) = pr (L[i]?.getD (0, 0, 0)) := by
    rw [← hL, List.getElem?_map, List.getElem?_eq_getElem hi']; rfl
  have hc := ht.cell i hi' rfl
  rw [e]
  exact ⟨hc.1, hc.2.1, _, hc.2.2⟩

theorem cntN_bd' {ps : List (Int × Int)} (h : HashI ps) (s : Int) (k : Nat) : -(4294967296 * 2 * (k : Int)) ≤ cntN ps s k ∧ cntN ps s k ≤ 4294967296 * 2 * (k : Int) := by
  induction k with
  | zero => simp [cntN]
  | succ k ih =>
    have := spanOf_bd h k
    unfold cntN
    split <;> omega

set_option maxRecDepth 100000 in
set_option maxHeartbeats 2000000 in
theorem count_any (q : Nat) (sv : Value) (f p bu bl ro : Int) (pg pc m : Nat) (ps : List (Int × Int)) (s : Int) (w : World) (hr : RefV w q sv f p bu bl ro pg pc m ps) (hm : m ≤ 4096) (hH : HashI ps) :
    Calls Try.prog 30 #[.pointer (some ⟨q, 0, none⟩), .int .i64 s] w fun e w' => e = .returned (.int .i64 (cntN ps s m)) ∧ Kept No w w' := by
  have HR : Hid (RefV w q sv f p bu bl ro pg pc m ps) := hr
  have HH : Hid (HashI ps) := hH
  have HL : Hid (ps.length = m) := hr.len
  clear hr hH
  go_enter Try.func30, Try.ntmps30
  go_wp2
  go_loopw [5, 6] (fun h i wr => ∃ k : Nat, k ≤ m ∧ i = .int .i64 k ∧ h = .int .i64 (cntN ps s k) ∧ Hid (Kept No w wr)) (fun _ i _ => m - (intOf i).toNat)
  case atStart => exact ⟨0, Nat.zero_le _, rfl, rfl, Kept.refl _ _⟩
  case round =>
    obtain ⟨k, hk, rfl, rfl, HK⟩ := hrel
    have hbd := cntN_bd' HH.out s k
    have hv := HR.out.no HK.out
    have c6 := hv.box.cell 6
    simp only [List.getElem?_toArray, List.getElem?_cons_zero, List.getElem?_cons_succ] at c6
    by_cases hlt : k < m
    · have ce := hv.cell k hlt
      have hsb := spanOf_bd HH.out k
      have HC : Hid (cntN ps s (k + 1) = if (ps[k]?.getD (0, 0)).2 = s then cntN ps s k + spanOf ps k else cntN ps s k) := rfl
      obtain ⟨ca, cb, cx, cc⟩ := ce
      have hx0 := HH.out k
      by_cases hy : (ps[k]?.getD (0, 0)).2 = s
      · have HC2 : Hid (cntN ps s (k + 1) = cntN ps s k + spanOf ps k) := by have := HC.out; rwa [if_pos hy] at this
        rw [hy] at cb
        clear HC hy
        have h1 : (k : Int) < (m : Int) := by omega
        by_cases h0 : 0 < k
        · obtain ⟨j, rfl⟩ : ∃ j, k = j + 1 := ⟨k - 1, by omega⟩
          have cd := (hv.cell j (by omega)).1
          have hy0 := HH.out j
          have HS : Hid (spanOf ps (j + 1) = (ps[j + 1]?.getD (0, 0)).1 - (ps[j]?.getD (0, 0)).1) := by
            show _ = _
            unfold spanOf; rw [if_pos (by omega)]; rfl
          rw [HS.out] at HC2
          clear hsb HS
          generalize (ps[j + 1]?.getD (0, 0)).1 = x at ca hx0 HC2
          generalize (ps[j]?.getD (0, 0)).1 = y at cd hy0 HC2
          generalize cntN ps s (j + 1) = cn at hbd HC2
          have hw1 : IntKind.i64.wrap (j : Int) = (j : Int) := by rw [IntKind.wrap_i64]; omega
          have hw2 : IntKind.i64.wrap (x - y) = x - y := by rw [IntKind.wrap_i64]; omega
          have hw3 : IntKind.i64.wrap (cn + (x - y)) = cn + (x - y) := by rw [IntKind.wrap_i64]; omega
          have q1 : (j : Int) < (m : Int) := by omega
          have q2 : (0 : Int) ≤ (j : Int) := by omega
          have q3 : (0 : Int) ≤ (j : Int) + 1 := by omega
          have q4 : (0 : Int) < (j : Int) + 1 := by omega
          clear hv
          go_wp2
          go_quiet (fail)
          go_wp2
          go_roundw
          case rel => exact ⟨j + 1 + 1, by omega, by go_num, by rw [HC2.out], HK.out.drewN _⟩
          case measure => simp [intOf]; omega
        · obtain rfl : k = 0 := by omega
          obtain ⟨j, hj⟩ : ∃ j, m = j + 1 := ⟨m - 1, by omega⟩
          have cd := (hv.cell j (by omega)).1
          have hy0 := HH.out j
          have HS : Hid (spanOf ps 0 = (ps[0]?.getD (0, 0)).1 + 4294967296 - (ps[j]?.getD (0, 0)).1) := by
            show _ = _
            unfold spanOf; rw [if_neg (by omega), HL.out, hj]; rfl
          rw [HS.out] at HC2
          have HC3 : Hid (cntN ps s 0 = 0) := rfl
          rw [HC3.out] at HC2
          rw [HC3.out]
          clear hsb HS hbd
          generalize (ps[0]?.getD (0, 0)).1 = x at ca hx0 HC2
          generalize (ps[j]?.getD (0, 0)).1 = y at cd hy0 HC2
          subst hj
          have hw1 : IntKind.i64.wrap (j : Int) = (j : Int) := by rw [IntKind.wrap_i64]; omega
          have hw2 : IntKind.i64.wrap (x + 4294967296) = x + 4294967296 := by rw [IntKind.wrap_i64]; omega
          have hw3 : IntKind.i64.wrap (x + 4294967296 - y) = x + 4294967296 - y := by rw [IntKind.wrap_i64]; omega
          have q1 : (j : Int) < (j : Int) + 1 := by omega
          have q2 : (0 : Int) ≤ (j : Int) := by omega
          have q3 : (0 : Int) < (j : Int) + 1 := by omega
          clear hv HC3
          go_wp2
          go_quiet (fail)
          go_wp2
          go_roundw
          case rel => exact ⟨0 + 1, by omega, by go_num, by rw [HC2.out, Int.zero_add], HK.out.drewN _⟩
          case measure => simp [intOf]
      · have HC2 : Hid (cntN ps s (k + 1) = cntN ps s k) := by have := HC.out; rwa [if_neg hy] at this
        have h1 : (k : Int) < (m : Int) := by omega
        generalize (ps[k]?.getD (0, 0)).2 = y at cb hy
        have hy' : (y == s) = false := by simpa using hy
        clear hv HC hy hsb hbd
        go_wp2
        go_roundw
        case rel => exact ⟨k + 1, by omega, by go_num, by rw [HC2.out], HK⟩
        case measure => simp [intOf]; omega
    · obtain rfl : k = m := by omega
      have h1 : ¬ (k : Int) < (k : Int) := by omega
      clear hv
      go_wp2
      go_ret
      exact ⟨rfl, HK.out⟩

/-- What both have told: rings of the same points, or nothing. -/
def BothP (w : World) (base : Nat) (ra rb : Option Addr) : Prop :=
  (ra = none ∧ rb = none) ∨ ∃ r q zs f p bu bl ro, ra = some ⟨r, 0, none⟩ ∧ rb = some ⟨q, 0, none⟩ ∧ RingAt w base r (sortI zs) f p bu bl ro (sortP (ptsOf (sortI zs) p)) ∧ RefAt w base q (sortI zs) f p bu bl ro (sortP (ptsOf (sortI zs) p)) ∧ cfgB zs f p bu bl ro = true
theorem BothP.no {w w' : World} {base : Nat} {ra rb : Option Addr} (h : BothP w base ra rb) (hk : Kept No w w') : BothP w' base ra rb := by
  rcases h with h | ⟨r, q, zs, f, p, bu, bl, ro, e1, e2, e3, e4, e5⟩
  · exact .inl h
  · exact .inr ⟨r, q, zs, f, p, bu, bl, ro, e1, e2, e3.no hk, e4.no hk, e5⟩

theorem bothP_any (x : Cfg) (w : World) (hx : CfgOk w x) :
    Calls Try.prog 9 #[cfgV (.slice x.a x.n x.c) x.f x.p x.bu x.bl x.ro] w fun e w' => ∃ ra rb, e = .returned (.tuple #[.pointer ra, .pointer rb, .bool true]) ∧ BothP w' w.heap.size ra rb ∧ Kept No w w' := by
  obtain ⟨xa, xn, xc, zs, f, p, bu, bl, ro⟩ := x
  have hl : zs.length = xn := hx.len
  subst hl
  by_cases hc : cfgB zs f p bu bl ro = true
  · obtain ⟨_, _, ⟨hp1, _⟩, _, _⟩ := cfgB_true hc
    obtain ⟨pn, hpn⟩ := Int.eq_ofNat_of_zero_le (show 0 ≤ p by omega)
    have hpn' : p = (pn : Int) := hpn
    subst hpn'
    refine (bothYes_any xa xc zs f pn bu bl ro w hx.nums hx.all hx.le hc).mono ?_
    rintro e w' ⟨r, q, rfl, hr, hq, hk⟩
    exact ⟨_, _, rfl, .inr ⟨r, q, _, f, pn, bu, bl, ro, rfl, rfl, hr, hq, hc⟩, hk⟩
  · refine (bothNo_any xa xc zs f p bu bl ro w hx.nums hx.all hx.le (by simpa using hc)).mono ?_
    rintro e w' ⟨rfl, hk⟩
    exact ⟨_, _, rfl, .inl ⟨rfl, rfl⟩, hk⟩

theorem pts_pos {zs : List Int} {f : Int} {p : Nat} {bu bl ro : Int} (hc : cfgB zs f p bu bl ro = true) : 1 ≤ (sortP (ptsOf (sortI zs) p)).length ∧ (sortP (ptsOf (sortI zs) p)).length ≤ 4096 := by
  have h := pts_le hc
  obtain ⟨⟨h0, _, h1, h64⟩, _, ⟨hp0, hp⟩, _⟩ := cfgB_true hc
  rw [sortP_len]
  refine ⟨?_, h⟩
  rw [ptsOf_len, sortI_len]
  have : 1 * 1 ≤ zs.length * p := Nat.mul_le_mul (by omega) (by omega)
  omega

end Go.Proofs.Ytpapbleabjpbfaa
