import Derived.Test.YtfemlnfknebalabF
import Derived.Lib.Overlaps
import Derived.Lib.AppendZerosOnto
namespace Go.Proofs.Ytfemlnfknebalab
open Go.RowKit
set_option linter.unusedVariables false
set_option linter.unusedSimpArgs false

/-- Parts of slices, copies, what is cleared. -/
theorem sliced_in (g off l h m c : Nat) (hl : l < m) : sliced (some ⟨g, off, none⟩) l h m c = .slice (some ⟨g, off + l * c, none⟩) (h - l) (m - l) := by
  unfold sliced
  rw [if_neg (by omega)]
  simp [addr_add]
section
variable {o : Oper} {a : Act} {w : World}
theorem size_of {t : TypeId} {n : Nat} (h : (Try.prog.info? t).map (·.size) = some n) (w : World) : (sizeOf t).run Try.prog w = .ok n w := by
  cases hq : Try.prog.info? t with
  | none => simp [hq] at h
  | some i =>
    have : i.size = n := by simpa [hq] using h
    simp [sizeOf, typeInfo, hq, this]
theorem exec_slL (t : TypeId) (x lo : Operand) (ho : o.op = .slice t x (some lo) none none) (c : Nat) (ht : Try.prog.underlying t = some (.slice (Try.prog.elem t))) (hs : (Try.prog.info? (Try.prog.elem t)).map (·.size) = some c) (ad : Option Addr) (len cap l : Nat)
    (hx : a.eval x = .slice ad len cap) (hl : a.eval lo = .int .i64 (l : Int)) (h : l ≤ len) : (execOp a.eval o).run Try.prog w = .ok (.value (sliced ad l len cap c)) w := by
  simp only [execOp, ho, hx, Option.map_some, Option.map_none, hl, Sem.run_bind, run_sliceAt_slice w t _ _ _ _ ht, run_slice_l w t ad len cap ht .i64 (l : Int) (by omega) (by omega), size_of hs, Result.andThen_ok, Sem.run_pure, Int.toNat_natCast]
theorem exec_slH (t : TypeId) (x hi : Operand) (ho : o.op = .slice t x none (some hi) none) (c : Nat) (ht : Try.prog.underlying t = some (.slice (Try.prog.elem t))) (hs : (Try.prog.info? (Try.prog.elem t)).map (·.size) = some c) (ad : Option Addr) (len cap l : Nat)
    (hx : a.eval x = .slice ad len cap) (hl : a.eval hi = .int .i64 (l : Int)) (h : l ≤ cap) : (execOp a.eval o).run Try.prog w = .ok (.value (sliced ad 0 l cap c)) w := by
  simp only [execOp, ho, hx, Option.map_some, Option.map_none, hl, Sem.run_bind, run_sliceAt_slice w t _ _ _ _ ht, run_slice_h w t ad len cap ht .i64 (l : Int) (by omega) (by omega), size_of hs, Result.andThen_ok, Sem.run_pure, Int.toNat_natCast]
theorem exec_slLH (t : TypeId) (x lo hi : Operand) (ho : o.op = .slice t x (some lo) (some hi) none) (c : Nat) (ht : Try.prog.underlying t = some (.slice (Try.prog.elem t))) (hs : (Try.prog.info? (Try.prog.elem t)).map (·.size) = some c) (ad : Option Addr) (len cap l h : Nat)
    (hx : a.eval x = .slice ad len cap) (hl : a.eval lo = .int .i64 (l : Int)) (hh : a.eval hi = .int .i64 (h : Int)) (h1 : l ≤ h) (h2 : h ≤ cap) : (execOp a.eval o).run Try.prog w = .ok (.value (sliced ad l h cap c)) w := by
  simp only [execOp, ho, hx, Option.map_some, Option.map_none, hl, hh, Sem.run_bind, run_sliceAt_slice w t _ _ _ _ ht, run_slice_lh w t ad len cap ht .i64 .i64 (l : Int) (h : Int) (by omega) (by omega) (by omega), size_of hs, Result.andThen_ok, Sem.run_pure, Int.toNat_natCast]
theorem exec_slLHM (t : TypeId) (x lo hi mx : Operand) (ho : o.op = .slice t x (some lo) (some hi) (some mx)) (c : Nat) (ht : Try.prog.underlying t = some (.slice (Try.prog.elem t))) (hs : (Try.prog.info? (Try.prog.elem t)).map (·.size) = some c) (ad : Option Addr) (len cap l h m : Nat)
    (hx : a.eval x = .slice ad len cap) (hl : a.eval lo = .int .i64 (l : Int)) (hh : a.eval hi = .int .i64 (h : Int)) (hm : a.eval mx = .int .i64 (m : Int)) (h1 : l ≤ h) (h2 : h ≤ m) (h3 : m ≤ cap) : (execOp a.eval o).run Try.prog w = .ok (.value (sliced ad l h m c)) w := by
  simp only [execOp, ho, hx, Option.map_some, Option.map_none, hl, hh, hm, Sem.run_bind, run_sliceAt_slice w t _ _ _ _ ht, run_slice_lhm w t ad len cap ht .i64 .i64 .i64 (l : Int) (h : Int) (m : Int) (by omega) (by omega) (by omega) (by omega), size_of hs, Result.andThen_ok, Sem.run_pure, Int.toNat_natCast]
theorem exec_copy {w' : World} {v : Value} (s x : Operand) (T T' : TypeId) (ho : o.op = .call { callee := Callee.builtin Builtin.copy, args := #[s, x], argTypes := #[T, T'] }) (vs vx : Value) (hs : a.eval s = vs) (hx : a.eval x = vx)
    (hrun : (Builtin.copy_ #[T, T'] o.type #[vs, vx]).run Try.prog w = .ok v w') : (execOp a.eval o).run Try.prog w = .ok (.value v) w' := by
  simp [execOp, ho, resolve, invoke, builtin, hs, hx, hrun, Result.andThen]
theorem exec_clear {w' : World} {v : Value} (x : Operand) (T : TypeId) (ho : o.op = .call { callee := Callee.builtin Builtin.clear, args := #[x], argTypes := #[T] }) (vx : Value) (hx : a.eval x = vx)
    (hrun : (Builtin.clear_ #[T] o.type #[vx]).run Try.prog w = .ok v w') : (execOp a.eval o).run Try.prog w = .ok (.value v) w' := by
  simp [execOp, ho, resolve, invoke, builtin, hx, hrun, Result.andThen]
end
theorem run_copyN {w : World} (T ty E : TypeId) (c : Nat) (ht : Try.prog.underlying T = some (.slice E)) (hs : (Try.prog.info? E).map (·.size) = some c) {g off : Nat} {t : TypeId} {cur : List Value} (hb : Box w g t cur.toArray) (dl dc : Nat) (ad : Addr) (sl sc k : Nat) (hk : k = min sl dl) (cs : List Value) (hl : cs.length = k * c)
    (hsrc : ∀ j u, cs[j]? = some u → w.cell? (ad.add j) = some u) (hfit : off + cs.length ≤ cur.length) (h1 : ∀ u ∈ cs, u.oneCell' = true) :
    (Builtin.copy_ #[T, T] ty #[.slice (some ⟨g, off, none⟩) dl dc, .slice (some ad) sl sc]).run Try.prog w = .ok (goInt k) (w.setRow g (putL cur off cs).toArray) := by
  have hf := run_firstCells_some (P := Try.prog) w c k ad sl sc cs hl hsrc
  have hst := Go.Proofs.Ytfemlnfknebalab.run_storeCells_at g off t cs 0 cur w hb (by simpa using hfit) h1
  simp only [Nat.add_zero] at hst
  have hk' : Nat.min sl dl = k := hk.symm
  simp [Builtin.copy_, run_underlying ht, Builtin.lenOf, size_of hs, hk', hf, hst]
theorem run_clearN {w : World} (T ty E : TypeId) (z : List Value) (ht : Try.prog.underlying T = some (.slice E)) (hz : (Try.prog.info? E).bind (·.zero) = some (.agg z.toArray)) (hzc : (Builtin.zeroCells z.toArray 1).toList = z) {g off : Nat} {t : TypeId} {cur : List Value} (hb : Box w g t cur.toArray) (dc : Nat)
    (hfit : off + z.length ≤ cur.length) (h1 : ∀ u ∈ z, u.oneCell' = true) :
    (Builtin.clear_ #[T] ty #[.slice (some ⟨g, off, none⟩) 1 dc]).run Try.prog w = .ok (.tuple #[]) (w.setRow g (putL cur off z).toArray) := by
  have hst := Go.Proofs.Ytfemlnfknebalab.run_storeCells_at g off t z 0 cur w hb (by simpa using hfit) h1
  simp only [Nat.add_zero] at hst
  simp [Builtin.clear_, run_underlying ht, zero_of hz, Value.cells, hzc, hst]
/-- A row of one's own laid open, and shut. -/
theorem Own.op {t : TypeId} {c : Nat} {w : World} {base : Nat} {a : Option Addr} {cap n : Nat} {vs : List Value} (h : Own t c w base a cap n vs) (h0 : 0 < n) :
    ∃ g cur, a = some ⟨g, 0, none⟩ ∧ base ≤ g ∧ Box w g t (List.toArray cur) ∧ n ≤ cap ∧ cap ≤ 9223372036854775807 ∧ cur.length = cap * c ∧ cur.take (n * c) = vs := by
  rcases h.2 with ⟨hv, hn⟩ | ⟨g, cap', cur, hv, hb, hg, hle, hm, hs, ht⟩
  · omega
  · simp only [Value.slice.injEq] at hv
    obtain ⟨rfl, -, rfl⟩ := hv
    exact ⟨g, cur.toList, rfl, hb, by unfold Box; simpa using hg, hle, by unfold maxLen at hm; omega, by simpa using hs, ht⟩
theorem Own.shut {t : TypeId} {c : Nat} {w : World} {base g cap n : Nat} {cur vs : List Value} (hb : base ≤ g) (hg : Box w g t cur.toArray) (hle : n ≤ cap) (hm : cap ≤ 9223372036854775807) (hs : cur.length = cap * c) (ht : cur.take (n * c) = vs) : Own t c w base (some ⟨g, 0, none⟩) cap n vs := by
  refine ⟨?_, .inr ⟨g, cap, cur.toArray, rfl, hb, hg, hle, by unfold maxLen; omega, by simpa using hs, by simpa using ht⟩⟩
  rw [← ht, List.length_take, hs]
  have : n * c ≤ cap * c := Nat.mul_le_mul_right _ hle
  omega
theorem putL_len {l vs : List Value} {k : Nat} (h : k + vs.length ≤ l.length) : (putL l k vs).length = l.length := by
  unfold putL
  simp only [List.length_append, List.length_take, List.length_drop]
  omega
theorem take_putL {l vs : List Value} {k : Nat} (h : k + vs.length ≤ l.length) : (putL l k vs).take (k + vs.length) = l.take k ++ vs := by
  unfold putL
  rw [← List.append_assoc, List.take_append_of_le_length (by simp; omega)]
  exact List.take_of_length_le (by simp; omega)
theorem putL_take {l vs : List Value} {k m : Nat} (h : m ≤ k) (hk : k ≤ l.length) : (putL l k vs).take m = l.take m := by
  unfold putL
  rw [List.take_append_of_le_length (by simp; omega), List.take_take, Nat.min_eq_left h]
theorem putL_drop {l vs : List Value} {k m : Nat} (hm : m ≤ k) (hk : k ≤ l.length) : (putL l k vs).drop m = (l.drop m).take (k - m) ++ (vs ++ l.drop (k + vs.length)) := by
  unfold putL
  rw [List.drop_append_of_le_length (by simp; omega), List.drop_take]
/-- Up by one, then the new one: in place. -/
theorem ins_room (cur A X B : List Value) (c : Nat) (hX : X.length = c) (hf : A.length + c + B.length ≤ cur.length) (hA : cur.take A.length = A) : (putL (putL cur (A.length + c) B) A.length X).take (A.length + c + B.length) = A ++ (X ++ B) := by
  have e1 : (putL cur (A.length + c) B).take A.length = A := by rw [putL_take (by omega) (by omega), hA]
  have e2 : (putL cur (A.length + c) B).drop (A.length + c) = B ++ cur.drop (A.length + c + B.length) := by
    rw [putL_drop (by omega) (by omega)]; simp
  have e3 : putL (putL cur (A.length + c) B) A.length X = A ++ (X ++ (B ++ cur.drop (A.length + c + B.length))) := by
    rw [putL, e1, hX, e2]
  rw [e3, ← List.append_assoc, ← List.append_assoc, List.take_append_of_le_length (by simp; omega), List.append_assoc]
  exact List.take_of_length_le (by simp; omega)
/-- The new one, then the rest. -/
theorem ins_grow (cur A X B : List Value) (c : Nat) (hX : X.length = c) (hf : A.length + c + B.length ≤ cur.length) (hA : cur.take A.length = A) : (putL (putL cur A.length X) (A.length + c) B).take (A.length + c + B.length) = A ++ (X ++ B) := by
  have h1 : (putL cur A.length X).length = cur.length := putL_len (by omega)
  have e1 : (putL cur A.length X).take (A.length + c) = A ++ X := by
    have := take_putL (l := cur) (vs := X) (k := A.length) (by omega)
    rw [hX] at this
    rw [this, hA]
  have := take_putL (l := putL cur A.length X) (vs := B) (k := A.length + c) (by omega)
  rw [this, e1, List.append_assoc]
/-- Down by one, the last cleared. -/
theorem del_row (cur A X B Z : List Value) (c : Nat) (hX : X.length = c) (hf : A.length + c + B.length ≤ cur.length) (hZ : Z.length = c) (hA : cur.take (A.length + c + B.length) = A ++ (X ++ B)) : (putL (putL cur A.length B) (A.length + B.length) Z).take (A.length + B.length) = A ++ B := by
  have h1 : (putL cur A.length B).length = cur.length := putL_len (by omega)
  rw [putL_take (Nat.le_refl _) (by omega), take_putL (by omega)]
  congr 1
  have := congrArg (List.take A.length) hA
  rw [List.take_take, Nat.min_eq_left (by omega)] at this
  rw [this]; simp
theorem b_addN (x y k : Nat) (h : x + y = k) (hk : k ≤ 9223372036854775807) (w : World) : (binOp .add 3 (.int .i64 (x : Int)) (.int .i64 (y : Int))).run Try.prog w = .ok (.int .i64 (k : Int)) w := by
  have h1 : IntKind.i64.wrap ((x : Int) + (y : Int)) = (k : Int) := by rw [IntKind.wrap_i64]; omega
  have h0 : (binOp .add 3 (.int .i64 (x : Int)) (.int .i64 (y : Int))).run Try.prog w = .ok (.int .i64 (IntKind.i64.wrap ((x : Int) + (y : Int)))) w := by kernel_rfl
  rw [h0, h1]
theorem b_subN (x y k : Nat) (h : k + y = x) (hk : x ≤ 9223372036854775807) (w : World) : (binOp .sub 3 (.int .i64 (x : Int)) (.int .i64 (y : Int))).run Try.prog w = .ok (.int .i64 (k : Int)) w := by
  have h1 : IntKind.i64.wrap ((x : Int) - (y : Int)) = (k : Int) := by rw [IntKind.wrap_i64]; omega
  have h0 : (binOp .sub 3 (.int .i64 (x : Int)) (.int .i64 (y : Int))).run Try.prog w = .ok (.int .i64 (IntKind.i64.wrap ((x : Int) - (y : Int)))) w := by kernel_rfl
  rw [h0, h1]
theorem b_eqB (x y : Int) (b : Bool) (h : (x == y) = b) (w : World) : (binOp .eql 3 (.int .i64 x) (.int .i64 y)).run Try.prog w = .ok (.bool b) w := by rw [b_eql, h]
theorem b_gtB (x y : Int) (b : Bool) (h : decide (y < x) = b) (w : World) : (binOp .gtr 3 (.int .i64 x) (.int .i64 y)).run Try.prog w = .ok (.bool b) w := by rw [b_gtr, h]

end Go.Proofs.Ytfemlnfknebalab
