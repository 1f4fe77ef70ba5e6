import Derived.Test.YtpapbleabjpbfaaCn
namespace Go.Proofs.Ytpapbleabjpbfaa
open Go.RowKit
set_option linter.unusedVariables false

/-- What both have told: rings of the same points, or nothing. -/
def BothP (w : World) (base : Nat) (ra rb : Option Addr) : Prop :=
  (ra = none ∧ rb = none) ∨ ∃ r q zs f p bu bl ro, ra = some ⟨r, 0, none⟩ ∧ rb = some ⟨q, 0, none⟩ ∧ RingAt w base r (sortI zs) f p bu bl ro (sortP (ptsOf (sortI zs) p)) ∧ RefAt w base q (sortI zs) f p bu bl ro (sortP (ptsOf (sortI zs) p)) ∧ cfgB zs f p bu bl ro = true
theorem BothP.no {w w' : World} {base : Nat} {ra rb : Option Addr} (h : BothP w base ra rb) (hk : Kept No w w') : BothP w' base ra rb := by
  rcases h with h | ⟨r, q, zs, f, p, bu, bl, ro, e1, e2, e3, e4, e5⟩
  · exact .inl h
  · exact .inr ⟨r, q, zs, f, p, bu, bl, ro, e1, e2, e3.no hk, e4.no hk, e5⟩

theorem bothP_any (x : Cfg) (w : World) (hx : CfgOk w x) :
    Calls Try.prog 9 #[cfgV (.slice x.a x.n x.c) x.f x.p x.bu x.bl x.ro] w fun e w' => ∃ ra rb, e = .returned (.tuple #[.pointer ra, .pointer rb, .bool true]) ∧ BothP w' w.heap.size ra rb ∧ Kept No w w' := by
  obtain ⟨xa, xn, xc, zs, f, p, bu, bl, ro⟩ := x
  have hl : zs.length = xn := hx.len
  subst hl
  by_cases hc : cfgB zs f p bu bl ro = true
  · obtain ⟨_, _, ⟨hp1, _⟩, _, _⟩ := cfgB_true hc
    obtain ⟨pn, hpn⟩ := Int.eq_ofNat_of_zero_le (show 0 ≤ p by omega)
    have hpn' : p = (pn : Int) := hpn
    subst hpn'
    refine (bothYes_any xa xc zs f pn bu bl ro w hx.nums hx.all hx.le hc).mono ?_
    rintro e w' ⟨r, q, rfl, hr, hq, hk⟩
    exact ⟨_, _, rfl, .inr ⟨r, q, _, f, pn, bu, bl, ro, rfl, rfl, hr, hq, hc⟩, hk⟩
  · refine (bothNo_any xa xc zs f p bu bl ro w hx.nums hx.all hx.le (by simpa using hc)).mono ?_
    rintro e w' ⟨rfl, hk⟩
    exact ⟨_, _, rfl, .inl ⟨rfl, rfl⟩, hk⟩

theorem pts_pos {zs : List Int} {f : Int} {p : Nat} {bu bl ro : Int} (hc : cfgB zs f p bu bl ro = true) : 1 ≤ (sortP (ptsOf (sortI zs) p)).length ∧ (sortP (ptsOf (sortI zs) p)).length ≤ 4096 := by
  have h := pts_le hc
  obtain ⟨⟨h0, _, h1, h64⟩, _, ⟨hp0, hp⟩, _⟩ := cfgB_true hc
  rw [sortP_len]
  refine ⟨?_, h⟩
  rw [ptsOf_len, sortI_len]
  have : 1 * 1 ≤ zs.length * p := Nat.mul_le_mul (by omega) (by omega)
  omega

end Go.Proofs.Ytpapbleabjpbfaa
