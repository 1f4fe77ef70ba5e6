import Derived.Test.YtpapbleabjpbfabOc
namespace Go.Proofs.Ytpapbleabjpbfab
open Go.ChangeShapes Go.WideShapes Go.ChangeAt Go.RowKit
open Go.ChangeMaps (open_string shut_string)
set_option linter.unusedVariables false

set_option maxRecDepth 100000 in
/-- A configuration that came in by itself. -/
theorem opened_cfg (H : Type) (enc : TypeId × Value → H) (W : World) (b0 : Nat) (v : Value) (d0 : DataW H) (p0 : List MemPlace) (hv : Value.okWide Try.prog W .any b0 24 v)
    (h0 : DataW.Trod enc Try.prog W 0 (fun _ => true) true 24 v d0 p0)
    {ts : List TypeId} {ds : List (DataW H)} (hsz : (DataW.weightsEach Try.prog ts ds).all (· ≤ reachBytes) = true) {j : Nat} (ht : ts[j]? = some 24) (hd : ds[j]? = some d0) :
    ∃ x : Cfg, v = cfgV (.slice x.a x.n x.c) x.f x.p x.bu x.bl x.ro ∧ CfgOk W x := by
  obtain ⟨cs, rfl, _⟩ := okWide_struct Try.underlying24 hv
  obtain ⟨fuel, hf⟩ := h0
  have hw : ∀ n ∈ d0.weights Try.prog 24, n ≤ reachBytes := fun n hn => by
    have := List.all_eq_true.1 hsz _ (DataW.weights_mem_each ht hd n hn)
    simpa using this
  obtain ⟨it, hcs, hok⟩ := cfg_ok hf hw
  refine ⟨it, ?_, hok⟩
  simp only [Value.cells] at hcs
  have : cs = #[.slice it.a it.n it.c, .int .i64 it.f, .int .i64 it.p, .int .i64 it.bu, .int .i64 it.bl, .int .i64 it.ro] := by
    cases cs; simp_all
  rw [this]

/-- Numbers that came in by themselves. -/
theorem opened_ints (H : Type) (enc : TypeId × Value → H) (W : World) (a0 : Option Addr) (len0 cap0 : Nat) (d0 : DataW H) (p0 : List MemPlace)
    (h0 : DataW.Trod enc Try.prog W 0 (fun _ => true) true 22 (.slice a0 len0 cap0) d0 p0)
    {ts : List TypeId} {ds : List (DataW H)} (hsz : (DataW.weightsEach Try.prog ts ds).all (· ≤ reachBytes) = true) {j : Nat} (ht : ts[j]? = some 22) (hd : ds[j]? = some d0) :
    ∃ zs : List Int, zs.length = len0 ∧ len0 ≤ 17592186043904 ∧ Nums .i64 W a0 zs ∧ AllI zs ∧ (a0 = none → cap0 = 0) := by
  obtain ⟨fuel, hf⟩ := h0
  have hw : ∀ n ∈ d0.weights Try.prog 22, n ≤ reachBytes := fun n hn => by
    have := List.all_eq_true.1 hsz _ (DataW.weights_mem_each ht hd n hn)
    simpa using this
  have hcap : a0 = none → cap0 = 0 := by
    intro e
    rcases open_ints Try.underlying22 Try.underlying3 (by kernel_rfl) hf with ⟨hcs, _⟩ | ⟨y, l, cap, zs, hcs, _⟩
    · simp [Value.cells] at hcs; exact hcs.2.2
    · simp [Value.cells] at hcs; rw [e] at hcs; cases hcs.1
  obtain ⟨a, m, cap, zs, e, hl, hle, hnu, hal⟩ := ints_sl (c := .slice a0 len0 cap0) (by simpa [Value.cells] using hf) hw
  simp only [Value.slice.injEq] at e
  obtain ⟨rfl, rfl, rfl⟩ := e
  exact ⟨zs, hl, hle, hnu, hal, hcap⟩

end Go.Proofs.Ytpapbleabjpbfab
