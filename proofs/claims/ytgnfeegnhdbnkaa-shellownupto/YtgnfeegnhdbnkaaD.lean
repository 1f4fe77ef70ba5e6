import Derived.Test.YtgnfeegnhdbnkaaB
import Derived.Lib.AppendStr
import Derived.Laws.IdiomStrings
import Derived.Laws.RangeAny
namespace Go.Proofs.Ytgnfeegnhdbnkaa
open Go.RowKit Go.Lib
set_option linter.unusedVariables false
set_option linter.unusedSimpArgs false

def bs (l : List UInt8) : ByteArray := ⟨l.toArray⟩
def strV (l : List UInt8) : Value := .string (bs l)
def u8V (b : UInt8) : Value := .int .u8 (b.toNat : Int)
theorem bs_size (l : List UInt8) : (bs l).size = l.length := by simp [bs, ByteArray.size]
theorem U22 : Try.prog.underlying 22 = some (.slice 9) := by kernel_rfl
theorem U30 : Try.prog.underlying 30 = some (.slice 5) := by kernel_rfl
theorem U35 : Try.prog.underlying 35 = some (.slice 22) := by kernel_rfl
theorem U33 : Try.prog.underlying 33 = some (.slice 30) := by kernel_rfl
theorem U9 : Try.prog.underlying 9 = some .string := by kernel_rfl
theorem U3 : Try.prog.underlying 3 = some (.int .i64) := by kernel_rfl
theorem U4 : Try.prog.underlying 4 = some .bool := by kernel_rfl
theorem U5 : Try.prog.underlying 5 = some (.int .u8) := by kernel_rfl
theorem U38 : Try.prog.underlying 38 = some (.int .i64) := by kernel_rfl
theorem I9 : (Try.prog.info? 9).map (fun i => (i.zero, i.size, i.bytes)) = some (some (.string ⟨#[]⟩), 1, 16) := by kernel_rfl
theorem I5 : (Try.prog.info? 5).map (fun i => (i.zero, i.size, i.bytes)) = some (some (.int .u8 0), 1, 1) := by kernel_rfl
theorem I22 : (Try.prog.info? 22).map (fun i => (i.zero, i.size, i.bytes)) = some (some (.slice none 0 0), 1, 24) := by kernel_rfl
theorem S22 : (Try.prog.info? 22).map (·.size) = some 1 := by kernel_rfl
theorem S30 : (Try.prog.info? 30).map (·.size) = some 1 := by kernel_rfl
theorem S9 : (Try.prog.info? 9).map (·.size) = some 1 := by kernel_rfl
theorem S3 : (Try.prog.info? 3).map (·.size) = some 1 := by kernel_rfl
theorem S4 : (Try.prog.info? 4).map (·.size) = some 1 := by kernel_rfl
theorem S5 : (Try.prog.info? 5).map (·.size) = some 1 := by kernel_rfl
theorem S38 : (Try.prog.info? 38).map (·.size) = some 1 := by kernel_rfl

theorem Own.typ {t : TypeId} {c : Nat} {w : World} {base : Nat} {a : Option Addr} {cap n : Nat} {vs : List Value} (h : Own t c w base a cap n vs) {k : Nat} (hk : At a k) : ∃ cur, w.heap[k]? = some (.cells cur t (0, 0)) := own_type h hk
theorem Own.notBox {t T : TypeId} {c : Nat} {w : World} {base : Nat} {a : Option Addr} {cap n : Nat} {vs : List Value} (h : Own t c w base a cap n vs) {g : Nat} {cs : Array Value} (hb : Box w g T cs) (ht : t ≠ T) : ∀ k, At a k → ¬ Only g k := by
  intro k hk e
  obtain ⟨cur, hc⟩ := h.typ hk
  have e' : k = g := e
  subst e'
  unfold Box at hb
  rw [hb] at hc
  simp only [Option.some.injEq, Obj.cells.injEq] at hc
  exact ht hc.2.1.symm
theorem Own.offBox {t T : TypeId} {c : Nat} {w : World} {base : Nat} {a : Option Addr} {cap n : Nat} {vs : List Value} (h : Own t c w base a cap n vs) {g : Nat} {cs : Array Value} (hb : Box w g T cs) (ht : t ≠ T) : ¬ At a g :=
  fun e => h.notBox hb ht g e rfl
theorem own_apart {t t' : TypeId} {c c' : Nat} {w : World} {base base' : Nat} {a a' : Option Addr} {cap n cap' n' : Nat} {vs vs' : List Value} (h : Own t c w base a cap n vs) (h' : Own t' c' w base' a' cap' n' vs') (ht : t ≠ t') : ∀ k, At a k → ¬ At a' k := by
  intro k hk hk'
  obtain ⟨cur, hc⟩ := h.typ hk
  obtain ⟨cur', hc'⟩ := h'.typ hk'
  rw [hc'] at hc
  simp only [Option.some.injEq, Obj.cells.injEq] at hc
  exact ht hc.2.1.symm

/-- append(s, x...): s the call's own. -/
theorem run_app (T E : TypeId) (by' : Nat) (z : Value) (ht : Try.prog.underlying T = some (.slice E)) (hinf : (Try.prog.info? E).map (fun i => (i.zero, i.size, i.bytes)) = some (some z, 1, by')) (hzc : z.cells.size = 1)
    {w : World} {base n cap : Nat} {sa : Option Addr} {vs : List Value} (hown : Own E 1 w base sa cap n vs) (ty : TypeId) (ad : Addr) (m cc : Nat) (news : List Value) (hl : news.length = m) (hnews : ∀ (j : Nat) u, news[j]? = some u → w.cell? (ad.add j) = some u) (h1 : ∀ u ∈ news, u.oneCell' = true) (hbd : (n + m) * by' ≤ 140737488355328) (hb63 : n + m ≤ 140737488355328) (hbase : base ≤ w.heap.size) :
    ∃ a' c' w', (Builtin.append_ #[T, T] ty #[.slice sa n cap, .slice (some ad) m cc]).run Try.prog w = .ok (.slice a' (n + m) c') w' ∧ Own E 1 w' base a' c' (n + m) (vs ++ news) ∧ Kept (At sa) w w' := by
  obtain ⟨i0, hi, hz0, hz1, hz2⟩ := info_parts hinf
  obtain ⟨v', w', hrun, r1, r2, _⟩ := run_append_own (P := Try.prog) w base T ty E i0 z 1 by' ht hi hz0 hz1 hz2 hzc (by decide) (.slice sa n cap) n vs hown ad m cc news (by rw [hl, Nat.mul_one]) hnews h1 (by unfold maxLen; omega) hbd hbase
  have hk : Kept (At sa) w w' := (Kept.refl (At sa) w).grown r2 (fun k e hk => by
    cases sa with
    | none => cases e
    | some ad' => simp only [Value.ownBlock, Option.some.injEq] at e; exact ⟨ad', rfl, e⟩)
  obtain ⟨a', c', rfl⟩ := own_slice r1
  exact ⟨a', c', w', hrun, r1, hk⟩
/-- append(s, x...): x a text. -/
theorem strCells_bs (l : List UInt8) : strCells (bs l) = l.map u8V := by
  simp [strCells, bs, u8V]
theorem run_appS {w : World} {base n cap : Nat} {sa : Option Addr} {vs : List Value} (hown : Own 5 1 w base sa cap n vs) (ty : TypeId) (l : List UInt8) (hb63 : n + l.length ≤ 140737488355328) (hbase : base ≤ w.heap.size) :
    ∃ a' c' w', (Builtin.append_ #[30, 9] ty #[.slice sa n cap, .string (bs l)]).run Try.prog w = .ok (.slice a' (n + l.length) c') w' ∧ Own 5 1 w' base a' c' (n + l.length) (vs ++ l.map u8V) ∧ Kept (At sa) w w' := by
  obtain ⟨i0, hi, hz0, hz1, hz2⟩ := info_parts I5
  obtain ⟨v', w', hrun, r1, r2, _⟩ := run_append_own_string (P := Try.prog) w base 30 9 ty 5 i0 U30 U9 hi hz0 hz1 hz2 (.slice sa n cap) n vs hown (bs l) (by rw [bs_size]; unfold maxLen; omega) (by rw [bs_size]; omega) hbase
  have hk : Kept (At sa) w w' := (Kept.refl (At sa) w).grown r2 (fun k e hk => by
    cases sa with
    | none => cases e
    | some ad' => simp only [Value.ownBlock, Option.some.injEq] at e; exact ⟨ad', rfl, e⟩)
  rw [bs_size, strCells_bs] at r1
  obtain ⟨a', c', rfl⟩ := own_slice r1
  exact ⟨a', c', w', hrun, r1, hk⟩
theorem exec_app {o : Oper} {a : Act} {w w' : World} (s x : Operand) (T U : TypeId) (ho : o.op = .call { callee := Callee.builtin Builtin.append, args := #[s, x], argTypes := #[T, U] }) (vs vx v : Value) (hs : a.eval s = vs) (hx : a.eval x = vx)
    (hrun : (Builtin.append_ #[T, U] o.type #[vs, vx]).run Try.prog w = .ok v w') : (execOp a.eval o).run Try.prog w = .ok (.value v) w' := by
  simp [execOp, ho, resolve, invoke, builtin, hs, hx, hrun, Result.andThen]
/-- string(b). -/
theorem run_conv {w : World} {base n cap : Nat} {sa : Option Addr} {l : List UInt8} (h : Own 5 1 w base sa cap n (l.map u8V)) (hl : l.length = n) : (convert 30 9 (.slice sa n cap)).run Try.prog w = .ok (.string (bs l)) w := by
  subst hl
  rcases h.cases (by simp) with ⟨rfl, _, h0⟩ | ⟨g, rfl, _, _, sp, hg, _⟩
  · have : l = [] := List.eq_nil_of_length_eq_zero h0
    subst this
    rw [run_convert_bytes_string w 30 9 5 none _ cap U30 U5 U9]
    rfl
  · refine run_convert_bytes_back w 30 9 5 _ cap l U30 U5 U9 (fun j hj => ?_)
    rw [addr_add, Nat.zero_add, cell_of_row w g j _ 5 (0, 0) hg]
    simp [List.getElem?_append_left, hj, u8V]
theorem exec_conv {o : Oper} {a : Act} {w : World} (x : Operand) (s t : TypeId) (ho : o.op = .convert s t x) (vx v : Value) (hx : a.eval x = vx) (hrun : (convert s t vx).run Try.prog w = .ok v w) : (execOp a.eval o).run Try.prog w = .ok (.value v) w := by
  simp [execOp, ho, hx, hrun, Result.andThen]
/-- s[i:j]. -/
theorem run_cut {w : World} (l : List UInt8) (i j : Nat) (hij : i ≤ j) (hj : j ≤ l.length) : (Instr.slice 9 (.string (bs l)) (some (.int .i64 (i : Int))) (some (.int .i64 (j : Int))) none).run Try.prog w = .ok (.string (bs ((l.drop i).take (j - i)))) w := by
  have := run_slice_string (P := Try.prog) w 9 (bs l) .i64 .i64 (i : Int) (j : Int) U9 (by omega) (by omega) (by rw [bs_size]; omega)
  rw [this]
  simp [bs, ByteArray.extract_mk]
theorem run_cutE {w : World} (l : List UInt8) (i : Nat) (hi : i ≤ l.length) : (Instr.slice 9 (.string (bs l)) (some (.int .i64 (i : Int))) none none).run Try.prog w = .ok (.string (bs (l.drop i))) w := by
  rw [run_slice_string_from_if w 9 (bs l) .i64 (i : Int) U9, if_pos ⟨by omega, by rw [bs_size]; omega⟩]
  simp only [bs_size, Int.toNat_natCast]
  simp [bs, ByteArray.extract_mk, List.take_of_length_le]
end Go.Proofs.Ytgnfeegnhdbnkaa
