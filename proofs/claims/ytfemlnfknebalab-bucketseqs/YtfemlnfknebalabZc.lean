import Derived.Test.YtfemlnfknebalabZb
namespace Go.Proofs.Ytfemlnfknebalab
open Go.RowKit
set_option linter.unusedVariables false
set_option linter.unusedSimpArgs false
/-- The reference's Lasts behind a command. -/
def noteS : List La → La → Bool → List La
  | [], x, dn => if dn then [] else [x]
  | y :: t, x, dn => (if !dn && decide (x.cl ≤ y.cl) then [x] else []) ++ ((if y.cl == x.cl then [] else [y]) ++ noteS t x (dn || decide (x.cl ≤ y.cl)))
theorem mul56 {t : Nat} (h : t ≤ 2513169434916) : t * 56 ≤ 140737488355328 := by omega
theorem app1L {w W : World} {sa : Option Addr} {n c : Nat} {out : List La} (hw : Kept No w W) (ho : OwL W w.heap.size ⟨sa, n, c⟩ out) (y : La) (hb : (n + 1) * 56 ≤ 140737488355328) :
    ∃ a' c' W2, (Builtin.append_ #[24, 24] 24 #[.slice sa n c, .slice (some ⟨W.heap.size, 0, none⟩) 1 1]).run Try.prog (W.alloc (.cells y.cells 67)) = .ok (.slice a' (n + 1) c') W2 ∧ OwL W2 w.heap.size ⟨a', n + 1, c'⟩ (out ++ [y]) ∧ Kept No w W2 := by
  have h1 : Kept No W (W.alloc (.cells y.cells 67)) := (Kept.refl No _).alloc _
  have ho1 := ho.no h1
  have hx := Box.new W 67 y.cells
  obtain ⟨a', c', W2, hrun, hO, hk, hA⟩ := run_appN (w := W.alloc (.cells y.cells 67)) 24 24 67 7 56 (.agg laZ.cells) Try.und23 Try.info64 rfl (by omega) w.heap.size n c sa (laL out) ho1.own (some ⟨W.heap.size, 0, none⟩) 1 1 y.cs rfl (fun e => by cases e) (fun j u hj => ⟨_, rfl, by rw [addr_add, Nat.zero_add, hx.cell]; show y.cs.toArray[j]? = _; rw [List.getElem?_toArray]; exact hj⟩) y.oneL (by omega) (by omega) (Nat.le_trans hw.size h1.size)
  have hol : out.length = n := ho.len
  exact ⟨a', c', W2, hrun, ⟨by rw [laL_app, laL_1]; exact hO, by show (out ++ [y]).length = n + 1; rw [List.length_append, hol]; rfl⟩, (hw.no h1).trans hk (fun _ e => e) (fun i hi e => by have := ho1.own.base e; omega)⟩
end Go.Proofs.Ytfemlnfknebalab
