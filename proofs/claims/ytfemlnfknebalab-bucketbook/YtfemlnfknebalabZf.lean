import Derived.Test.YtfemlnfknebalabZe
namespace Go.Proofs.Ytfemlnfknebalab
open Go.RowKit
set_option linter.unusedVariables false
set_option linter.unusedSimpArgs false
/-- A list that is what came in, or one's own. -/
structure OrE (w : World) (base : Nat) (s0 : Sl) (es0 : List En) (s : Sl) (es : List En) : Prop where
  out : (s = s0 ∧ es = es0) ∨ OwE w base s es
structure OrL (w : World) (base : Nat) (s0 : Sl) (es0 : List La) (s : Sl) (es : List La) : Prop where
  out : (s = s0 ∧ es = es0) ∨ OwL w base s es
theorem OrE.no {w w' : World} {base : Nat} {s0 s : Sl} {es0 es : List En} (h : OrE w base s0 es0 s es) (hk : Kept No w w') : OrE w' base s0 es0 s es := ⟨h.out.imp id (fun h => h.no hk)⟩
theorem OrL.no {w w' : World} {base : Nat} {s0 s : Sl} {es0 es : List La} (h : OrL w base s0 es0 s es) (hk : Kept No w w') : OrL w' base s0 es0 s es := ⟨h.out.imp id (fun h => h.no hk)⟩
theorem OrE.row {w : World} {base g : Nat} {s0 s : Sl} {es0 es : List En} {T : TypeId} {cs : Array Value} (h : OrE w base s0 es0 s es) (hb : Box w g T cs) (hT : 34 ≠ T) (cs' : Array Value) : OrE (w.setRow g cs') base s0 es0 s es := ⟨h.out.imp id (fun h => h.kept (Kept.setRow _ _ _) (fun k hk e => h.own.notBox hb hT ((show k = g from e) ▸ hk)))⟩
theorem OrL.row {w : World} {base g : Nat} {s0 s : Sl} {es0 es : List La} {T : TypeId} {cs : Array Value} (h : OrL w base s0 es0 s es) (hb : Box w g T cs) (hT : 67 ≠ T) (cs' : Array Value) : OrL (w.setRow g cs') base s0 es0 s es := ⟨h.out.imp id (fun h => h.kept (Kept.setRow _ _ _) (fun k hk e => h.own.notBox hb hT ((show k = g from e) ▸ hk)))⟩
theorem OrE.lower {w : World} {base base' : Nat} {s0 s : Sl} {es0 es : List En} (h : OrE w base s0 es0 s es) (hb : base' ≤ base) : OrE w base' s0 es0 s es := ⟨h.out.imp id (fun h => h.lower hb)⟩
theorem OrL.lower {w : World} {base base' : Nat} {s0 s : Sl} {es0 es : List La} (h : OrL w base s0 es0 s es) (hb : base' ≤ base) : OrL w base' s0 es0 s es := ⟨h.out.imp id (fun h => h.lower hb)⟩
theorem OrE.rd {w : World} {base : Nat} {s0 s : Sl} {es0 es : List En} (h : OrE w base s0 es0 s es) (he : RdE w s0 es0) : RdE w s es := h.out.elim (fun e => by rw [e.1, e.2]; exact he) (fun h => h.rd)
theorem OrL.rd {w : World} {base : Nat} {s0 s : Sl} {es0 es : List La} (h : OrL w base s0 es0 s es) (he : RdL w s0 es0) : RdL w s es := h.out.elim (fun e => by rw [e.1, e.2]; exact he) (fun h => h.rd)
end Go.Proofs.Ytfemlnfknebalab
