import Derived.Test.YtphiokehcgbldaaMb
namespace Go.Proofs.Ytphiokehcgbldaa
open Go.RowKit
set_option linter.unusedVariables false
set_option linter.unusedSimpArgs false

theorem ev_ne {a : Act} {s t : Tmp} {v : Value} (h : t ≠ s) : (a.put (some s) v).eval (.tmp t) = a.eval (.tmp t) := by
  simp [Act.put, Act.eval, Array.getD_eq_getD_getElem?, Array.getElem?_setIfInBounds_ne (Ne.symm h)]
theorem ev_eq {a : Act} {s : Tmp} {v : Value} (h : s < a.tmps.size) : (a.put (some s) v).eval (.tmp s) = v := by
  simp [Act.put, Act.eval, Array.getD_eq_getD_getElem?, h]
theorem sz_put {a : Act} {s : Tmp} {v : Value} : (a.put (some s) v).tmps.size = a.tmps.size := by simp [Act.put]
theorem put_none {a : Act} {v : Value} : a.put none v = a := rfl
theorem put_comm {a : Act} (s t : Tmp) {v u : Value} (h : s ≠ t) : (a.put (some s) v).put (some t) u = (a.put (some t) u).put (some s) v := by
  simp [Act.put, Array.setIfInBounds_comm _ _ h]
theorem evc {a : Act} (v : Value) : a.eval (.const v) = v := rfl
section
variable {o : Oper} {a : Act} {w w' : World} {x y : Operand} {v : Value}
theorem exec_mv (ho : o.op = .move x) (hx : a.eval x = v) : (execOp a.eval o).run Try.prog w = .ok (.value v) w := by
  simp [execOp, ho, hx]
theorem exec_as (ho : o.op = .assign x) (hx : a.eval x = v) : (execOp a.eval o).run Try.prog w = .ok (.value v) w := by
  simp [execOp, ho, hx]
theorem exec_nil {p : Addr} (ho : o.op = .nilCheck x) (hx : a.eval x = .pointer (some p)) : (execOp a.eval o).run Try.prog w = .ok (.value (.pointer (some p))) w := by
  simp only [execOp, ho, hx]
  kernel_rfl
theorem exec_f69_0 {g : Nat} (ho : o.op = .fieldAddr 69 x 0) (hx : a.eval x = .pointer (some ⟨g, 0, none⟩)) : (execOp a.eval o).run Try.prog w = .ok (.value (.pointer (some ⟨g, 0, none⟩))) w := by
  simp only [execOp, ho, hx]; kernel_rfl
theorem exec_f69_1 {g : Nat} (ho : o.op = .fieldAddr 69 x 1) (hx : a.eval x = .pointer (some ⟨g, 0, none⟩)) : (execOp a.eval o).run Try.prog w = .ok (.value (.pointer (some ⟨g, 1, none⟩))) w := by
  simp only [execOp, ho, hx]; kernel_rfl
theorem exec_f69_2 {g : Nat} (ho : o.op = .fieldAddr 69 x 2) (hx : a.eval x = .pointer (some ⟨g, 0, none⟩)) : (execOp a.eval o).run Try.prog w = .ok (.value (.pointer (some ⟨g, 2, none⟩))) w := by
  simp only [execOp, ho, hx]; kernel_rfl
theorem exec_f69_3 {g : Nat} (ho : o.op = .fieldAddr 69 x 3) (hx : a.eval x = .pointer (some ⟨g, 0, none⟩)) : (execOp a.eval o).run Try.prog w = .ok (.value (.pointer (some ⟨g, 3, none⟩))) w := by
  simp only [execOp, ho, hx]; kernel_rfl
theorem exec_f44_0 {g : Nat} (ho : o.op = .fieldAddr 44 x 0) (hx : a.eval x = .pointer (some ⟨g, 0, none⟩)) : (execOp a.eval o).run Try.prog w = .ok (.value (.pointer (some ⟨g, 0, none⟩))) w := by
  simp only [execOp, ho, hx]; kernel_rfl
theorem exec_f44_2 {g : Nat} (ho : o.op = .fieldAddr 44 x 2) (hx : a.eval x = .pointer (some ⟨g, 0, none⟩)) : (execOp a.eval o).run Try.prog w = .ok (.value (.pointer (some ⟨g, 3, none⟩))) w := by
  simp only [execOp, ho, hx]; kernel_rfl
theorem exec_f44_3 {g : Nat} (ho : o.op = .fieldAddr 44 x 3) (hx : a.eval x = .pointer (some ⟨g, 0, none⟩)) : (execOp a.eval o).run Try.prog w = .ok (.value (.pointer (some ⟨g, 5, none⟩))) w := by
  simp only [execOp, ho, hx]; kernel_rfl
theorem exec_f79_0 {g : Nat} (ho : o.op = .fieldAddr 79 x 0) (hx : a.eval x = .pointer (some ⟨g, 0, none⟩)) : (execOp a.eval o).run Try.prog w = .ok (.value (.pointer (some ⟨g, 0, none⟩))) w := by
  simp only [execOp, ho, hx]; kernel_rfl
theorem exec_f79_1 {g : Nat} (ho : o.op = .fieldAddr 79 x 1) (hx : a.eval x = .pointer (some ⟨g, 0, none⟩)) : (execOp a.eval o).run Try.prog w = .ok (.value (.pointer (some ⟨g, 2, none⟩))) w := by
  simp only [execOp, ho, hx]; kernel_rfl
theorem exec_f81_0 {g : Nat} (ho : o.op = .fieldAddr 81 x 0) (hx : a.eval x = .pointer (some ⟨g, 0, none⟩)) : (execOp a.eval o).run Try.prog w = .ok (.value (.pointer (some ⟨g, 0, none⟩))) w := by
  simp only [execOp, ho, hx]; kernel_rfl
theorem exec_f81_1 {g : Nat} (ho : o.op = .fieldAddr 81 x 1) (hx : a.eval x = .pointer (some ⟨g, 0, none⟩)) : (execOp a.eval o).run Try.prog w = .ok (.value (.pointer (some ⟨g, 2, none⟩))) w := by
  simp only [execOp, ho, hx]; kernel_rfl
theorem exec_f81_2 {g : Nat} (ho : o.op = .fieldAddr 81 x 2) (hx : a.eval x = .pointer (some ⟨g, 0, none⟩)) : (execOp a.eval o).run Try.prog w = .ok (.value (.pointer (some ⟨g, 3, none⟩))) w := by
  simp only [execOp, ho, hx]; kernel_rfl
theorem exec_ext {vs : Array Value} {i : Nat} (ho : o.op = .extract x i) (hx : a.eval x = .tuple vs) (hv : vs[i]? = some v) : (execOp a.eval o).run Try.prog w = .ok (.value v) w := by
  simp only [execOp, ho, hx, Instr.extract, hv, Sem.run_bind, Sem.run_pure, Result.andThen_ok]
theorem exec_add1 {c : Nat} (ho : o.op = .binOp BinOp.add 3 x (.const (.int .i64 1)) 3) (hx : a.eval x = .int .i64 (c : Int)) (hc : c < 4611686018427387904) : (execOp a.eval o).run Try.prog w = .ok (.value (.int .i64 ((c + 1 : Nat) : Int))) w := by
  refine Wa.exec_bin _ _ _ _ _ ho (.int .i64 (c : Int)) (.int .i64 1) _ hx rfl (by rfl) ?_
  have hw : IntKind.i64.wrap ((c : Int) + 1) = ((c + 1 : Nat) : Int) := by rw [IntKind.wrap_i64]; push_cast; omega
  rw [← hw]; rfl
theorem exec_sub1 {c : Nat} (ho : o.op = .binOp BinOp.sub 3 x (.const (.int .i64 1)) 3) (hx : a.eval x = .int .i64 ((c + 1 : Nat) : Int)) (hc : c < 4611686018427387904) : (execOp a.eval o).run Try.prog w = .ok (.value (.int .i64 (c : Int))) w := by
  refine Wa.exec_bin _ _ _ _ _ ho (.int .i64 ((c + 1 : Nat) : Int)) (.int .i64 1) _ hx rfl (by rfl) ?_
  have hw : IntKind.i64.wrap (((c + 1 : Nat) : Int) - 1) = (c : Int) := by rw [IntKind.wrap_i64]; push_cast; omega
  rw [← hw]; rfl
theorem exec_ge64 {c : Nat} (ho : o.op = .binOp BinOp.geq 3 x (.const (.int .i64 64)) 3) (hx : a.eval x = .int .i64 (c : Int)) : (execOp a.eval o).run Try.prog w = .ok (.value (.bool (decide (64 ≤ c)))) w := by
  refine Wa.exec_bin _ _ _ _ _ ho (.int .i64 (c : Int)) (.int .i64 64) _ hx rfl (by rfl) ?_
  have hd : decide (64 ≤ c) = decide ((64 : Int) ≤ (c : Int)) := by rw [decide_eq_decide]; omega
  rw [hd]; rfl
theorem exec_eq0 {c : Nat} (ho : o.op = .binOp BinOp.eql 3 x (.const (.int .i64 0)) 3) (hx : a.eval x = .int .i64 (c : Int)) : (execOp a.eval o).run Try.prog w = .ok (.value (.bool (decide (c = 0)))) w := by
  refine Wa.exec_bin _ _ _ _ _ ho (.int .i64 (c : Int)) (.int .i64 0) _ hx rfl (by rfl) ?_
  have hd : decide (c = 0) = ((c : Int) == 0) := by rw [Bool.eq_iff_iff]; simp
  rw [hd]; rfl
theorem exec_look {K : Type} [DecidableEq K] {mk : K → Value} {k t e : TypeId} (H : KeyG k mk) {b : Nat} {g : K → Option Value} (hm : MapG mk w b g) (ht : Try.prog.underlying t = some (.map k e)) {z : Value} (hz : (zeroValue e).run Try.prog w = .ok z w) (q : K) (ok : Bool) (ho : o.op = .lookup t x y ok) (hx : a.eval x = .map (some b)) (hy : a.eval y = mk q) (hv : tupOk ((g q).getD z) (g q).isSome ok = v) : (execOp a.eval o).run Try.prog w = .ok (.value v) w := by
  subst hv
  simp [execOp, ho, hx, hy, lookG H hm ht hz q, Result.andThen]
theorem exec_lookN {K : Type} [DecidableEq K] {mk : K → Value} {k t e : TypeId} (H : KeyG k mk) (ht : Try.prog.underlying t = some (.map k e)) {z : Value} (hz : (zeroValue e).run Try.prog w = .ok z w) (q : K) (ok : Bool) (ho : o.op = .lookup t x y ok) (hx : a.eval x = .map none) (hy : a.eval y = mk q) (hv : tupOk z false ok = v) : (execOp a.eval o).run Try.prog w = .ok (.value v) w := by
  subst hv
  simp [execOp, ho, hx, hy, lookNil H ht hz q, Result.andThen]
end
theorem und65 : Try.prog.underlying 65 = some (.map 34 3) := by kernel_rfl
theorem und66 : Try.prog.underlying 66 = some (.map 76 3) := by kernel_rfl
theorem und67 : Try.prog.underlying 67 = some (.map 79 81) := by kernel_rfl
theorem zer3 (w : World) : (zeroValue 3).run Try.prog w = .ok (.int .i64 0) w := by kernel_rfl
theorem zer81 (w : World) : (zeroValue 81).run Try.prog w = .ok (.agg #[.bool false, .int .i64 0, .slice none 0 0, .slice none 0 0]) w := by kernel_rfl
theorem ld34 {w : World} {g off : Nat} {T : TypeId} {cs : List Value} (a : Ad) (hb : Box w g T cs.toArray) (hp : Wa.Part cs off [.bool a.1, .int .i64 a.2]) : (loadVar 34 ⟨g, off, none⟩).run Try.prog w = .ok (mkA a) w :=
  Wa.run_load_part hb hp Try.underlying34 rfl (by kernel_rfl)
theorem ld79 {w : World} {g : Nat} (k : Nm) (h : Box w g 79 #[.bool k.1.1, .int .i64 k.1.2, .int .i64 k.2]) : (loadVar 79 ⟨g, 0, none⟩).run Try.prog w = .ok (mkN k) w :=
  run_loadVar_row w g 79 79 _ (0, 0) _ h Try.underlying79 rfl (by kernel_rfl)
theorem ld76 {w : World} {g : Nat} (k : Pr) (h : Box w g 76 #[.bool k.1.1, .int .i64 k.1.2, .bool k.2.1, .int .i64 k.2.2]) : (loadVar 76 ⟨g, 0, none⟩).run Try.prog w = .ok (mkP k) w :=
  run_loadVar_row w g 76 76 _ (0, 0) _ h Try.underlying76 rfl (by kernel_rfl)
theorem ld81 {w : World} {g : Nat} {a b c d : Value} (h : Box w g 81 #[a, b, c, d]) : (loadVar 81 ⟨g, 0, none⟩).run Try.prog w = .ok (.agg #[a, b, c, d]) w :=
  run_loadVar_row w g 81 81 _ (0, 0) _ h Try.underlying81 rfl (by kernel_rfl)

end Go.Proofs.Ytphiokehcgbldaa
