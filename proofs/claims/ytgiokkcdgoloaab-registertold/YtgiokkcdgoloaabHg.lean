import Derived.Test.YtgiokkcdgoloaabHe
namespace Go.Proofs.Ytgiokkcdgoloaab
open Go.RowKit
set_option linter.unusedVariables false
set_option linter.unusedSimpArgs false

def TakeLay (w : World) (m : Nat) (a : Option Addr) (cap : Nat) (x : MS) (tb bb ct : Nat) (at' : Option Addr) (X : TS Bk) (fi kn kc : Int) (kz : List Int) (pn pc : Bk → Int) (pa : Bk → Option Addr) (pl pk : Bk → Nat) (sn sc : Bk → Int) (da : Bk → Option Addr) (dl dc : Bk → Nat) (pz : Bk → List Int) (e : Ending) (w' : World) : Prop :=
  ∃ (ka : Option Addr) (kk : Nat) (ub ubb ut : Nat) (ua : Option Addr) (a' : Option Addr) (cap' : Nat) (qs : List Qm) (b : Bk), b = ⟨kn, kc, ka, kz.length, kk⟩ ∧ e = .returned (.slice a' qs.length cap') ∧ qs.map Qm.sv = x.g ∧ Msgs w' w.heap.size a' cap' { x with rd := x.rd + 1 } ⟨2, pn b, pc b, pl b⟩ (pz b) qs ∧
    Mach w' m a cap { x with rd := x.rd + 1 } 163 (layV (pn b) (pc b) (pa b) (pl b) (pk b) 0 (sn b) (sc b) (da b) (dl b) (dc b) ub) ∧ Tal 117 ansU w' ub ubb ua ut (tNew Unit x.g (needI x)) ∧ Tal 153 ansB w' tb bb at' ct (takeS X fi b) ∧ OwnB w' w.heap.size ka kk kz ∧ (∀ k, TB ub ubb ua k → w.heap.size ≤ k) ∧ Kept (fun k => k = m ∨ Tb2 tb bb k) w w'
theorem al57_size (w : World) : (al57 w).heap.size = w.heap.size + 1 := by simp [al57]
theorem al90_size (w : World) : (al90 w).heap.size = w.heap.size + 1 := by simp [al90]
theorem fin2 {w4 W : World} {P R : Nat} (h1 : Is57 W P) (h2 : Is90 W R) (hk : Kept No w4 W) (hp : w4.heap.size ≤ P) (hr : w4.heap.size ≤ R) (c1 c2 : Array Value) :
    Box ((W.setRow P c1).setRow R c2) P 31 c1 ∧ Box ((W.setRow P c1).setRow R c2) R 39 c2 ∧ Kept No w4 ((W.setRow P c1).setRow R c2) := by
  have hne := box_ne h1 h2 (by decide)
  refine ⟨(Box.setRow h1 c1).kept (Kept.setRow _ _ _) (fun e => hne e), Box.setRow (h2.row h1 c1) c2, (hk.trans (Kept.setRow _ _ _) (fun _ e => e) (fun i hi e => ?_)).trans (Kept.setRow _ _ _) (fun _ e => e) (fun i hi e => ?_)⟩
  · have : i = P := e
    omega
  · have : i = R := e
    omega
theorem Mach.setRd {w : World} {m cap : Nat} {a : Option Addr} {x : MS} {t : TypeId} {v : Value} (h : Mach w m a cap x t v) (r : Int) : Mach (w.setCell ⟨m, 8, none⟩ (.int .i64 r)) m a cap { x with rd := r } t v := by
  refine ⟨?_, h.row.kept ((Kept.refl (Only m) w).setCell (p := ⟨m, 8, none⟩) (fun _ => rfl) _) (fun k hk e => h.off hk e), h.nd, h.len⟩
  have := h.box.set 8 (.int .i64 r)
  exact this
def loadR (x : Addr) := loadVar 39 x
theorem loadR_eq (x : Addr) : loadVar 39 x = loadR x := rfl

def TakeEnd (w : World) (m : Nat) (a : Option Addr) (cap : Nat) (x : MS) (tb bb ct : Nat) (at' : Option Addr) (X : TS Bk) (fi kn kc : Int) (kz : List Int) (sn sc : Bk → Int) (da : Bk → Option Addr) (dl dc : Bk → Nat) (e : Ending) (w' : World) : Prop :=
  ∃ (ka : Option Addr) (kk : Nat) (b : Bk), b = ⟨kn, kc, ka, kz.length, kk⟩ ∧ e = .returned (.slice none 0 0) ∧ Mach w' m a cap x 145 (endV 0 (sn b) (sc b) (da b) (dl b) (dc b)) ∧ Tal 153 ansB w' tb bb at' ct (takeS X fi b) ∧ OwnB w' w.heap.size ka kk kz ∧ Kept (fun k => k = m ∨ Tb2 tb bb k) w w'

end Go.Proofs.Ytgiokkcdgoloaab
