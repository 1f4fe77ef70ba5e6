import Derived.Test.YtgiokkcdgoloaabHl
namespace Go.Proofs.Ytgiokkcdgoloaab
open Go.RowKit
set_option linter.unusedVariables false
set_option linter.unusedSimpArgs false

def restZ : List Value := [.int .i64 0, .int .i64 0, .int .i64 0, .string ⟨#[]⟩, .int .i64 0, .int .i64 0, .int .i64 0, .int .i64 0, .int .i64 0, .int .i64 0, .slice none 0 0, .slice none 0 0, .slice none 0 0, .bool false]
/-- The answer that the law's own hand makes. -/
def valD (sv rd n c : Int) (ba : Option Addr) (bl bk : Nat) : MD := ⟨11, false, sv, true, 3, 1, rd, 1, 3, 1, 0, n, c, 0, 0, ba, bl, bk, restZ⟩
def md0 : MD := ⟨0, false, 0, false, 0, 0, 0, 0, 0, 0, 0, 0, 0, 0, 0, none, 0, 0, restZ⟩
theorem restZ_one : ∀ v ∈ restZ, v.oneCell' = true := by
  intro v hv
  simp only [restZ, List.mem_cons, List.not_mem_nil, or_false] at hv
  rcases hv with h | h | h | h | h | h | h | h | h | h | h | h | h | h <;> subst h <;> rfl
theorem valD_ok (sv rd n c : Int) (ba : Option Addr) (bl bk : Nat) : MdOk (valD sv rd n c ba bl bk) := ⟨rfl, restZ_one⟩
theorem md0_ok : MdOk md0 := ⟨rfl, restZ_one⟩
theorem md0_zero : (Try.prog.info? 73).bind (·.zero) = some (.agg md0.cells) := by kernel_rfl
theorem zero_of {t : TypeId} {v : Value} (h : (Try.prog.info? t).bind (·.zero) = some v) (w : World) : (zeroValue t).run Try.prog w = .ok v w := by
  cases hi : Try.prog.info? t with
  | none => rw [hi] at h; cases h
  | some i =>
    rw [hi] at h
    simp only [Option.bind_some] at h
    simp [zeroValue, typeInfo, hi, h]
section
variable {ops : Array Oper} {rest : List Oper} {o : Oper} {a : Act} {w : World} {Q : Exit → Act → World → Prop}
theorem wp_allocT (hg : o.guard = none) (t : TypeId) (ho : o.op = .alloc t) (cs : Array Value) (hz : (Try.prog.info? t).bind (·.zero) = some (.agg cs)) (N : Nat) (hN : w.heap.size = N)
    (h : wpList Try.prog ops Q rest (a.put o.dst (.pointer (some ⟨N, 0, none⟩))) (w.alloc (.cells cs t))) : wpList Try.prog ops Q (o :: rest) a w := by
  subst hN
  refine wp_runTo hg _ (w.alloc (.cells cs t)) ?_ h
  simp only [execOp, ho, Instr.alloc, Sem.run_bind, zero_of hz, Result.andThen_ok, newVar, newRow, run_newObj_alloc, Sem.run_pure]
  rfl
theorem wp_buildT (hg : o.guard = none) (t : TypeId) (parts : Array (Nat × Operand)) (ho : o.op = .build t parts) (cs : Array Value) (hf : Try.prog.built t (parts.map fun (i, x) => (i, a.eval x)).toList = some cs)
    (h : wpList Try.prog ops Q rest (a.put o.dst (.agg cs)) w) : wpList Try.prog ops Q (o :: rest) a w := by
  refine wpList_build hg t parts ho (by rw [hf]; rfl) ?_
  rw [hf]
  exact h
end

set_option maxRecDepth 100000 in
set_option maxHeartbeats 400000 in
theorem value_any (sv rd n c : Int) (ba : Option Addr) (bl bk : Nat) (w : World) :
    Calls Try.prog 19 #[.int .i64 sv, .int .i64 rd, .agg #[.int .i64 n, .int .i64 c], .slice ba bl bk] w (fun e w' => e = .returned (.agg (valD sv rd n c ba bl bk).cells) ∧ Kept No w w') := by
  obtain ⟨D, hD⟩ : ∃ D, D = valD sv rd n c ba bl bk := ⟨_, rfl⟩
  rw [← hD]
  obtain ⟨Z, hZ⟩ : ∃ Z, Z = md0.cells := ⟨_, rfl⟩
  obtain ⟨w1, hw1⟩ : ∃ w1, w1 = (w.alloc (.cells #[.int .i64 n, .int .i64 c] 29)).alloc (.cells Z 73) := ⟨_, rfl⟩
  obtain ⟨N, hN⟩ : ∃ N, N = w.heap.size := ⟨_, rfl⟩
  have HK1 : Hid (Kept No w w1) := by rw [hw1]; exact ((Kept.refl No w).alloc _).alloc _
  have hX0 : Box w1 N 29 #[.int .i64 n, .int .i64 c] := by rw [hw1, hN]; exact (Box.new _ _ _).alloc _
  have x0 := hX0.cell 0
  have x1 := hX0.cell 1
  simp only [List.getElem?_toArray, List.getElem?_cons_zero, List.getElem?_cons_succ] at x0 x1
  have HZ : Hid (Box w1 (N + 1) 73 Z) := by
    have h := Box.new (w.alloc (.cells #[.int .i64 n, .int .i64 c] 29)) 73 Z
    have e : (w.alloc (.cells #[.int .i64 n, .int .i64 c] 29)).heap.size = w.heap.size + 1 := by simp
    rw [e] at h
    rw [hw1, hN]
    exact h
  have HNN : Hid (N = w.heap.size) := hN
  have HDs : Hid (D.cells.size = 30 ∧ Z.size = 30 ∧ D.cells.all (·.oneCell') = true) := ⟨by rw [hD]; exact MD.size (valD_ok _ _ _ _ _ _ _), by rw [hZ]; exact MD.size md0_ok, by rw [hD]; exact MD.one (valD_ok _ _ _ _ _ _ _)⟩
  have HZz : Hid ((Try.prog.info? 73).bind (·.zero) = some (.agg Z)) := by rw [hZ]; exact md0_zero
  have HDD : Hid (D = valD sv rd n c ba bl bk) := hD
  clear hD hZ hX0
  go_enter Try.func19, Try.ntmps19
  go_upto_region 1 with (refine wp_allocT rfl 73 rfl Z HZz.out (w.heap.size + 1) (by simp) ?_)
  rw [← hw1, ← hN]
  clear hw1 hN
  go_wp2_with (first
    | (refine wp_buildT rfl 73 _ rfl D.cells (by rw [HDD.out]; kernel_rfl) ?_)
    | (refine wpList_store_row rfl 73 _ _ rfl (N + 1) D.cells rfl rfl 73 Z HZ.out (by rw [HDs.out.1]; exact Try.size73) (by rw [HDs.out.1, HDs.out.2.1]) HDs.out.2.2 ?_))
  refine bodyPost_ret (results_cell_row (by rfl) _ _ (N + 1) 73 D.cells (0, 0) _ (by rfl) (Box.setRow HZ.out D.cells) Try.underlying73 rfl (by rw [HDs.out.1]; exact Try.size73)) rfl ?_
  refine ⟨rfl, HK1.out.trans (Kept.setRow _ _ _) (fun _ e => e) (fun i hi e => ?_)⟩
  have e : i = N + 1 := e
  have := HNN.out
  omega

end Go.Proofs.Ytgiokkcdgoloaab
