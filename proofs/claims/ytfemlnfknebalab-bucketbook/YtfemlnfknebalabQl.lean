import Derived.Test.YtfemlnfknebalabQk
import Derived.Test.YtfemlnfknebalabQi
import Derived.Test.YtfemlnfknebalabQd
import Derived.Test.YtfemlnfknebalabQe
import Derived.Test.YtfemlnfknebalabQf
namespace Go.Proofs.Ytfemlnfknebalab
open Go.RowKit
set_option linter.unusedVariables false
set_option linter.unusedSimpArgs false


theorem Gx.ErX.disj {α β : Type} {D : Gx.Kn α} {D' : Gx.Kn β} {w : World} {lo lo' : Nat} {K K' : List Sl} (h : Gx.ErX D w lo K) (h' : Gx.ErX D' w lo' K') (hne : D.E ≠ D'.E) : ∀ k, Gx.EB K k → ¬ Gx.EB K' k := fun k e f => by
  obtain ⟨_, _, c1, h1⟩ := h.at e
  obtain ⟨_, _, c2, h2⟩ := h'.at f
  exact box_ne h1 h2 hne rfl
theorem grownA_x (ra : Option Addr) (rn rc base lo : Nat) (K : List Sl) (w : World) (hR : Gx.Rw Gx.DA w base ra rc K) (hE : Gx.ErX Gx.DA w lo K) (hn : K.length = rn) (hm : rn ≤ 1000) (hlo : lo ≤ w.heap.size) (hbase : base ≤ w.heap.size) : Calls Try.prog 13 #[.slice ra rn rc] w fun e w' => e = .returned (.bool true) ∧ Kept (Gx.EB K) w w' := by
  obtain ⟨Z, hE⟩ := hE
  exact grownAnswers_any ra rn rc base lo K Z w hR hE hn hm hlo hbase (fun k e => Own.lt hR e)
theorem grownE_x (ra : Option Addr) (rn rc base lo : Nat) (K : List Sl) (w : World) (hR : Gx.Rw Gx.DE w base ra rc K) (hE : Gx.ErX Gx.DE w lo K) (hn : K.length = rn) (hm : rn ≤ 1000) (hlo : lo ≤ w.heap.size) (hbase : base ≤ w.heap.size) : Calls Try.prog 14 #[.slice ra rn rc] w fun e w' => e = .returned (.bool true) ∧ Kept (Gx.EB K) w w' := by
  obtain ⟨Z, hE⟩ := hE
  exact grownEntries_any ra rn rc base lo K Z w hR hE hn hm hlo hbase (fun k e => Own.lt hR e)
theorem grownL_x (ra : Option Addr) (rn rc base lo : Nat) (K : List Sl) (w : World) (hR : Gx.Rw Gx.DL w base ra rc K) (hE : Gx.ErX Gx.DL w lo K) (hn : K.length = rn) (hm : rn ≤ 1000) (hlo : lo ≤ w.heap.size) (hbase : base ≤ w.heap.size) : Calls Try.prog 15 #[.slice ra rn rc] w fun e w' => e = .returned (.bool true) ∧ Kept (Gx.EB K) w w' := by
  obtain ⟨Z, hE⟩ := hE
  exact grownLasts_any ra rn rc base lo K Z w hR hE hn hm hlo hbase (fun k e => Own.lt hR e)
theorem moved_any (up : Int) (va : Option Addr) (vn vc : Nat) (ua : Option Addr) (un uc : Nat) (es : List En) (ls : List La) (room : Int) (w : World) (he : RdE w ⟨va, vn, vc⟩ es) (hl : RdL w ⟨ua, un, uc⟩ ls) (hr : RiseE es) (hu : 0 ≤ up) (hu2 : up < 1048576) (hbe : vn ≤ 100000) (hbl : un ≤ 100000) :
    Calls Try.prog 16 #[.agg (Bv.cells ⟨up, ⟨va, vn, vc⟩, ⟨ua, un, uc⟩⟩), .int .i64 room] w (fun e w' => e = .returned (.bool true) ∧ Kept No w w') := by
  cases es with
  | nil =>
    have h0 : 0 = vn := he.len
    subst h0
    exact moved_no up va vc ⟨ua, un, uc⟩ room w
  | cons e t =>
    obtain ⟨b, off, ea, _⟩ := he.row.at (i := 0) (by simp)
    have ea : va = some ⟨b, off, none⟩ := ea
    subst ea
    exact moved_yes up b off vn vc ua un uc e t ls room w he hl hr hu hu2 hbe hbl

end Go.Proofs.Ytfemlnfknebalab
