import Derived.Test.YtfemlnfknebalabZa
namespace Go.Proofs.Ytfemlnfknebalab
open Go.RowKit
set_option linter.unusedVariables false
set_option linter.unusedSimpArgs false

theorem sliced_rd {w : World} {a : Option Addr} {n c : Nat} {es : List En} (h : RdE w ⟨a, n, c⟩ es) (lo hi : Nat) (h1 : lo ≤ hi) (h2 : hi ≤ n) (hc : n ≤ c) : ∃ xa xc, sliced a lo hi c 4 = .slice xa (hi - lo) xc ∧ RdE w ⟨xa, hi - lo, xc⟩ ((es.drop lo).take (hi - lo)) := by
  have hl : es.length = n := h.len
  refine ⟨_, _, rfl, ?_, ?_, ?_⟩
  · intro i it hit
    rw [List.getElem?_map] at hit
    cases hx : ((es.drop lo).take (hi - lo))[i]? with
    | none => rw [hx] at hit; cases hit
    | some x =>
      rw [hx] at hit
      have e : x.cs = it := by simpa using hit
      subst e
      rw [List.getElem?_take] at hx
      split at hx
      · rename_i hlt
        rw [List.getElem?_drop] at hx
        obtain ⟨b, off, e1, e2⟩ := h.row (lo + i) x.cs (by rw [List.getElem?_map, hx]; rfl)
        have e1 : a = some ⟨b, off, none⟩ := e1
        refine ⟨b, off + lo * 4, ?_, fun j v hv => ?_⟩
        · show (if c = lo then a else a.map (·.add (lo * 4))) = _
          rw [if_neg (by omega), e1]
          simp [addr_add]
        · have := e2 j v hv
          rw [show off + lo * 4 + i * 4 + j = off + (lo + i) * 4 + j by omega]
          exact this
      · cases hx
  · show ((es.drop lo).take (hi - lo)).length = hi - lo
    rw [List.length_take, List.length_drop]; omega
  · intro ha
    show c - lo = 0
    have ha : (if c = lo then a else a.map (·.add (lo * 4))) = none := ha
    split at ha
    · omega
    · have h3 : a = none := by simpa using ha
      have h4 : c = 0 := h.cap h3
      omega
end Go.Proofs.Ytfemlnfknebalab
