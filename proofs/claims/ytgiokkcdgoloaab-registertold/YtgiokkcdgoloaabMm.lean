import Derived.Test.YtgiokkcdgoloaabMl
namespace Go.Proofs.Ytgiokkcdgoloaab
open Go.RowKit
set_option linter.unusedVariables false
set_option linter.unusedSimpArgs false

theorem results_cct {fn : Func} {p q u : Tmp} {t s : TypeId} (h : fn.results = #[.cell p t, .cell q s, .tmp u]) (tmps : Array Value) (P : Program) (w : World) :
    (results fn tmps).run P w = ((asAddr (tmps.getD p undef)).run P w).andThen fun a w₁ => ((loadVar t a).run P w₁).andThen fun v w₂ => ((asAddr (tmps.getD q undef)).run P w₂).andThen fun b w₃ => ((loadVar s b).run P w₃).andThen fun v' w₄ => .ok (.tuple #[v, v', tmps.getD u undef]) w₄ := by
  simp only [results, h]
  simp [Sem.run_bind, Result.andThen]
theorem results_row2_tmp {fn : Func} {p q u : Tmp} {t s : TypeId} (h : fn.results = #[.cell p t, .cell q s, .tmp u]) (tmps : Array Value) (w : World) (g g' : Nat) (cs cs' : Array Value) (hp : tmps.getD p undef = .pointer (some ⟨g, 0, none⟩)) (hq : tmps.getD q undef = .pointer (some ⟨g', 0, none⟩)) (hrun : (loadVar t ⟨g, 0, none⟩).run Try.prog w = .ok (.agg cs) w) (hrun' : (loadVar s ⟨g', 0, none⟩).run Try.prog w = .ok (.agg cs') w) :
    (results fn tmps).run Try.prog w = .ok (.tuple #[.agg cs, .agg cs', tmps.getD u undef]) w := by
  rw [results_cct h, hp, hq]
  simp [asAddr, hrun, hrun', Result.andThen]

def storeR (x : Addr) (v : Value) := storeVar 39 x v
theorem storeR_eq (x : Addr) (v : Value) : storeVar 39 x v = storeR x v := rfl
theorem run_storeR (g : Nat) (w : World) (cs : Array Value) (hb : Box w g 39 (resC 0 0 0 none 0 0)) (hc : cs.size = 11) (h1 : cs.all (·.oneCell') = true) : Sem.run Try.prog (storeR ⟨g, 0, none⟩ (.agg cs)) w = .ok () (w.setRow g cs) :=
  run_storeVar_row w g 39 39 (resC 0 0 0 none 0 0) cs hb (by rw [hc]; exact Try.size39) (by rw [hc]; rfl) h1
theorem cell_setRow (w : World) (g : Nat) (cs : Array Value) (b i : Nat) (h : b ≠ g) : (w.setRow g cs).cell? ⟨b, i, none⟩ = w.cell? ⟨b, i, none⟩ := by
  unfold World.cell?
  simp only [setRow_other w g b cs h]
theorem frozen_setRow (w : World) (g : Nat) (cs : Array Value) (b i : Nat) (h : b ≠ g) : (w.setRow g cs).frozen? ⟨b, i, none⟩ = w.frozen? ⟨b, i, none⟩ := by
  unfold World.frozen?
  simp only [setRow_other w g b cs h]

def SettleOut (w : World) (n c : Int) (a : Option Addr) (l k : Nat) (err sn sc : Int) (da : Option Addr) (dl dc : Nat) (b : Bool) (e : Ending) (w' : World) : Prop :=
  e = .returned (.tuple #[.agg #[.int .i64 n, .int .i64 c, .slice a l k], .agg (resC err sn sc da dl dc), .bool b]) ∧ Kept No w w'

end Go.Proofs.Ytgiokkcdgoloaab
