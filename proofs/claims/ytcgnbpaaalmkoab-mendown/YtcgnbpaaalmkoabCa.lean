import Derived.Test.YtcgnbpaaalmkoabBj
namespace Go.Proofs.Ytcgnbpaaalmkoab
open Go.RowKit
set_option linter.unusedVariables false
set_option linter.unusedSimpArgs false

/-- A message in memory, and one that is lent. -/
structure MgAt (w : World) (m : Mg) (bs : List Int) (es : List En) (ls : List La) (cs : List Cm) : Prop where
  b : RdB w m.bl bs
  e : RdE w m.bk.e es
  l : RdL w m.bk.l ls
  c : RdC w m.cm cs
  nb : m.bl.l ≤ 140737488351232
  ne : m.bk.e.l ≤ 3518437208780
  nl : m.bk.l.l ≤ 2513169434843
  nc : m.cm.l ≤ 1759218604390
theorem MgAt.no {w w' : World} {m : Mg} {bs : List Int} {es : List En} {ls : List La} {cs : List Cm} (H : MgAt w m bs es ls cs) (hk : Kept No w w') : MgAt w' m bs es ls cs := ⟨H.b.no hk, H.e.no hk, H.l.no hk, H.c.no hk, H.nb, H.ne, H.nl, H.nc⟩
theorem RdC.src {w : World} {s : Sl} {cs : List Cm} (h : RdC w s cs) : ∀ (j : Nat) u, (cmL cs)[j]? = some u → ∃ ad, s.a = some ad ∧ w.cell? (ad.add j) = some u := by
  intro j u hj
  have hlt := (List.getElem?_eq_some_iff.1 hj).1
  rw [cmL_len] at hlt
  have hi : j / 9 < cs.length := by omega
  obtain ⟨b, off, e, hc⟩ := Cs.at h.row hi
  refine ⟨⟨b, off, none⟩, e, ?_⟩
  rw [addr_add]
  have h9 : j = j / 9 * 9 + j % 9 := by omega
  have hx : (cAt cs (j / 9)).cs[j % 9]? = some u := by
    have hl : (cAt cs (j / 9)).cs.length = 9 := rfl
    have h1 := flat_get 9 (cs.map Cm.cs) (cmL_c cs) (j / 9) (cAt cs (j / 9)).cs (by rw [List.getElem?_map, cAt_some hi]; rfl) (j % 9) _ (List.getElem?_eq_getElem (by rw [hl]; omega))
    rw [← h9] at h1
    rw [List.getElem?_eq_getElem (by rw [hl]; omega)]
    have h2 : (cmL cs)[j]? = _ := h1
    rw [hj] at h2
    exact h2.symm
  rw [show off + j = off + j / 9 * 9 + j % 9 by omega]
  exact hc _ _ hx
structure LmAt (W : World) (base : Nat) (m : Mg) (bs : List Int) (es : List En) (ls : List La) (cs : List Cm) (gb ge gl gc : Nat) : Prop where
  b : Box W gb 5 (u8L (tab (m.bl.l + 67) (lntB m.bl.l bs))).toArray
  e : Box W ge 91 (enL (tab (m.bk.e.l + 67) (lntE m.bk.e.l es))).toArray
  l : Box W gl 94 (laL (tab (m.bk.l.l + 67) (lntL m.bk.l.l ls))).toArray
  c : Box W gc 43 (cmL (tab (m.cm.l + 67) (lntC m.cm.l cs))).toArray
  lb : base ≤ gb
  le : base ≤ ge
  ll : base ≤ gl
  lc : base ≤ gc
theorem LmAt.no {W W' : World} {base : Nat} {m : Mg} {bs : List Int} {es : List En} {ls : List La} {cs : List Cm} {gb ge gl gc : Nat} (H : LmAt W base m bs es ls cs gb ge gl gc) (hk : Kept No W W') : LmAt W' base m bs es ls cs gb ge gl gc := ⟨H.b.no hk, H.e.no hk, H.l.no hk, H.c.no hk, H.lb, H.le, H.ll, H.lc⟩
end Go.Proofs.Ytcgnbpaaalmkoab
