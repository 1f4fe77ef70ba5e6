import Derived.Test.YtcgnbpaaalmkoaaCe
namespace Go.Proofs.Ytcgnbpaaalmkoaa
open Go.RowKit
set_option linter.unusedVariables false
set_option linter.unusedSimpArgs false

theorem ret_b {a b : Bool} (h : a = b) : Ending.returned (.bool a) = .returned (.bool b) := by rw [h]
/-- Changes as they are told: without lists, and what the lists hold. -/
def scalC (x : Ch) : Ch := ⟨x.ky, ⟨x.b.s, slZ⟩, x.i, ⟨x.bk.up, slZ, slZ⟩⟩
def hAt (xs : List Ch) (i : Nat) : Ch := xs[i]?.getD chZ
structure ChRd (W : World) (x z : Ch) (bs : List Int) (es : List En) (ls : List La) : Prop where
 s : scalC x = z
 b : RdB W x.b.d bs
 e : RdE W x.bk.e es
 l : RdL W x.bk.l ls
theorem ChRd.no {W W' : World} {x z : Ch} {bs : List Int} {es : List En} {ls : List La} (h : ChRd W x z bs es ls) (hk : Kept No W W') : ChRd W' x z bs es ls := ⟨h.s, h.b.no hk, h.e.no hk, h.l.no hk⟩
structure TkRd (W : World) (s : Sl) (z : List Ch) (bs : List Int) (es : List En) (ls : List La) (X : List Ch) : Prop where
 len : X.length = s.l
 row : RowsAt 24 W s.a (X.map Ch.cs)
 zl : z.length = s.l
 el : ∀ i, i < s.l → ChRd W (hAt X i) (hAt z i) bs es ls
theorem TkRd.no {W W' : World} {s : Sl} {z : List Ch} {bs : List Int} {es : List En} {ls : List La} {X : List Ch} (h : TkRd W s z bs es ls X) (hk : Kept No W W') : TkRd W' s z bs es ls X := ⟨h.len, h.row.no hk, h.zl, fun i hi => (h.el i hi).no hk⟩
theorem TkRd.at {W : World} {s : Sl} {z : List Ch} {bs : List Int} {es : List En} {ls : List La} {X : List Ch} (h : TkRd W s z bs es ls X) {i : Nat} (hi : i < s.l) : ∃ b off, s.a = some ⟨b, off, none⟩ ∧ ∀ (j : Nat) v, (Ch.cs (hAt X i))[j]? = some v → W.cell? ⟨b, off + i * 24 + j, none⟩ = some v :=
 h.row i (Ch.cs (hAt X i)) (by rw [List.getElem?_map, List.getElem?_eq_getElem (by rw [h.len]; exact hi)]; unfold hAt; rw [List.getElem?_eq_getElem (by rw [h.len]; exact hi)]; rfl)
end Go.Proofs.Ytcgnbpaaalmkoaa
