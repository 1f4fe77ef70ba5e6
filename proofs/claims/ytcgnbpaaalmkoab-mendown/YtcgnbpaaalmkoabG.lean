import Derived.Test.YtcgnbpaaalmkoabF
import Derived.Lib.Overlaps
import Derived.Lib.AppendZerosOnto
namespace Go.Proofs.Ytcgnbpaaalmkoab
open Go.RowKit
set_option linter.unusedVariables false
set_option linter.unusedSimpArgs false

/-- Parts of slices, copies, what is cleared. -/
theorem sliced_in (g off l h m c : Nat) (hl : l < m) : sliced (some ⟨g, off, none⟩) l h m c = .slice (some ⟨g, off + l * c, none⟩) (h - l) (m - l) := by
  unfold sliced
  rw [if_neg (by omega)]
  simp [addr_add]
section
variable {o : Oper} {a : Act} {w : World}
theorem size_of {t : TypeId} {n : Nat} (h : (Try.prog.info? t).map (·.size) = some n) (w : World) : (sizeOf t).run Try.prog w = .ok n w := by
  cases hq : Try.prog.info? t with
  | none => simp [hq] at h
  | some i =>
    have : i.size = n := by simpa [hq] using h
    simp [sizeOf, typeInfo, hq, this]
theorem exec_slH (t : TypeId) (x hi : Operand) (ho : o.op = .slice t x none (some hi) none) (c : Nat) (ht : Try.prog.underlying t = some (.slice (Try.prog.elem t))) (hs : (Try.prog.info? (Try.prog.elem t)).map (·.size) = some c) (ad : Option Addr) (len cap l : Nat)
    (hx : a.eval x = .slice ad len cap) (hl : a.eval hi = .int .i64 (l : Int)) (h : l ≤ cap) : (execOp a.eval o).run Try.prog w = .ok (.value (sliced ad 0 l cap c)) w := by
  simp only [execOp, ho, hx, Option.map_some, Option.map_none, hl, Sem.run_bind, run_sliceAt_slice w t _ _ _ _ ht, run_slice_h w t ad len cap ht .i64 (l : Int) (by omega) (by omega), size_of hs, Result.andThen_ok, Sem.run_pure, Int.toNat_natCast]
theorem exec_copy {w' : World} {v : Value} (s x : Operand) (T T' : TypeId) (ho : o.op = .call { callee := Callee.builtin Builtin.copy, args := #[s, x], argTypes := #[T, T'] }) (vs vx : Value) (hs : a.eval s = vs) (hx : a.eval x = vx)
    (hrun : (Builtin.copy_ #[T, T'] o.type #[vs, vx]).run Try.prog w = .ok v w') : (execOp a.eval o).run Try.prog w = .ok (.value v) w' := by
  simp [execOp, ho, resolve, invoke, builtin, hs, hx, hrun, Result.andThen]
end
theorem run_copyN {w : World} (T ty E : TypeId) (c : Nat) (ht : Try.prog.underlying T = some (.slice E)) (hs : (Try.prog.info? E).map (·.size) = some c) {g off : Nat} {t : TypeId} {cur : List Value} (hb : Box w g t cur.toArray) (dl dc : Nat) (ad : Addr) (sl sc k : Nat) (hk : k = min sl dl) (cs : List Value) (hl : cs.length = k * c)
    (hsrc : ∀ j u, cs[j]? = some u → w.cell? (ad.add j) = some u) (hfit : off + cs.length ≤ cur.length) (h1 : ∀ u ∈ cs, u.oneCell' = true) :
    (Builtin.copy_ #[T, T] ty #[.slice (some ⟨g, off, none⟩) dl dc, .slice (some ad) sl sc]).run Try.prog w = .ok (goInt k) (w.setRow g (putL cur off cs).toArray) := by
  have hf := run_firstCells_some (P := Try.prog) w c k ad sl sc cs hl hsrc
  have hst := Go.Proofs.Ytcgnbpaaalmkoab.run_storeCells_at g off t cs 0 cur w hb (by simpa using hfit) h1
  simp only [Nat.add_zero] at hst
  have hk' : Nat.min sl dl = k := hk.symm
  simp [Builtin.copy_, run_underlying ht, Builtin.lenOf, size_of hs, hk', hf, hst]
/-- A row of one's own laid open, and shut. -/
theorem Own.op {t : TypeId} {c : Nat} {w : World} {base : Nat} {a : Option Addr} {cap n : Nat} {vs : List Value} (h : Own t c w base a cap n vs) (h0 : 0 < n) :
    ∃ g cur, a = some ⟨g, 0, none⟩ ∧ base ≤ g ∧ Box w g t (List.toArray cur) ∧ n ≤ cap ∧ cap ≤ 9223372036854775807 ∧ cur.length = cap * c ∧ cur.take (n * c) = vs := by
  rcases h.2 with ⟨hv, hn⟩ | ⟨g, cap', cur, hv, hb, hg, hle, hm, hs, ht⟩
  · omega
  · simp only [Value.slice.injEq] at hv
    obtain ⟨rfl, -, rfl⟩ := hv
    exact ⟨g, cur.toList, rfl, hb, by unfold Box; simpa using hg, hle, by unfold maxLen at hm; omega, by simpa using hs, ht⟩
theorem Own.shut {t : TypeId} {c : Nat} {w : World} {base g cap n : Nat} {cur vs : List Value} (hb : base ≤ g) (hg : Box w g t cur.toArray) (hle : n ≤ cap) (hm : cap ≤ 9223372036854775807) (hs : cur.length = cap * c) (ht : cur.take (n * c) = vs) : Own t c w base (some ⟨g, 0, none⟩) cap n vs := by
  refine ⟨?_, .inr ⟨g, cap, cur.toArray, rfl, hb, hg, hle, by unfold maxLen; omega, by simpa using hs, by simpa using ht⟩⟩
  rw [← ht, List.length_take, hs]
  have : n * c ≤ cap * c := Nat.mul_le_mul_right _ hle
  omega
end Go.Proofs.Ytcgnbpaaalmkoab
