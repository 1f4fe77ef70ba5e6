import Derived.Test.YtpabpeppgpeaoaaXc
namespace Go.Proofs.Ytpabpeppgpeaoaa.Md
open Go.RowKit Gt Gx
set_option linter.unusedVariables false
set_option linter.unusedSimpArgs false

def oK : Ky := ⟨3, 1, 4, 0⟩
def q0 : PS := newS 2 3 (jK oK) [4, 7, 5] (Ytpabpeppgpeaoaa.cmdOf 2) 5 6
def q1 : PS := (begS q0).1
theorem ql1 : (begS q0).2.length = 3 := rfl
def q2 : PS := (taksS q1 (nMsg 13 7 2 3 6 (jK oK) 5 2) [] []).1
theorem ql2 : (taksS q1 (nMsg 13 7 2 3 6 (jK oK) 5 2) [] []).2 = [] := rfl
def q3 : PS := (taksS q2 (nMsg 13 5 2 3 6 (jK oK) 5 2) [] []).1
def aL : List Ms := (taksS q2 (nMsg 13 5 2 3 6 (jK oK) 5 2) [] []).2
def aM : List Mg := aL.map dM
theorem ql3 : aL.length = 3 := rfl
theorem tk3 : tickS q3 = (q3, aL) := rfl
theorem aM_pl : ∀ m ∈ aM, plainG m := by
  have h : ∃ v c, aL = ([4, 7, 5] : List Int).map (accM v c).to := ⟨_, _, rfl⟩
  obtain ⟨v, c, h⟩ := h
  intro m hm
  unfold aM at hm
  rw [h] at hm
  obtain ⟨x, hx, rfl⟩ := List.mem_map.1 hm
  obtain ⟨z, _, rfl⟩ := List.mem_map.1 hx
  exact ⟨rfl, rfl, rfl, rfl⟩
theorem aM_0 : ∃ m : Mg, aM[0]? = some m ∧ m.k = 4 := ⟨_, rfl, rfl⟩
theorem tick3 {w : World} {I : Nat → Prop} {p : Nat} (h : Prp w I p q3) : Calls Try.prog 25 #[.pointer (some ⟨p, 0, none⟩)] w (PrOut w I p q3 aL) := by
  have h1 := tick_P h
  rw [tk3] at h1
  exact h1
def q4 : PS := (taksS q3 (nMsg 15 5 2 3 7 (jK oK) 5 2) [] []).1
theorem ql4 : (taksS q3 (nMsg 15 5 2 3 7 (jK oK) 5 2) [] []).2 = [] := rfl
def q5 : PS := (taksS q4 (nMsg 15 4 2 3 7 (jK oK) 5 2) [] []).1
def dLs : List Ms := (taksS q4 (nMsg 15 4 2 3 7 (jK oK) 5 2) [] []).2
def dLM : List Mg := dLs.map dM
theorem ql5 : dLs.length = 3 := rfl
theorem dLM_2 : ∃ m : Mg, dLM[2]? = some m ∧ m.k = 5 := ⟨_, rfl, rfl⟩
theorem dec5 : decO q5 = (Ytpabpeppgpeaoaa.cmdOf 2, true) := rfl
theorem tk5 : tickS q5 = (q5, []) := rfl
theorem tick5 {w : World} {I : Nat → Prop} {p : Nat} (h : Prp w I p q5) : Calls Try.prog 25 #[.pointer (some ⟨p, 0, none⟩)] w (PrOut w I p q5 []) := by
  have h1 := tick_P h
  rw [tk5] at h1
  exact h1
def c2 : Cm := dC' (Ytpabpeppgpeaoaa.cmdOf 2)
theorem dec5P {w : World} {I : Nat → Prop} {p : Nat} (h : Prp w I p q5) : Calls Try.prog 21 #[.pointer (some ⟨p, 0, none⟩)] w (fun e w' => e = .returned (.tuple #[.agg (Cm.cells c2), .bool true]) ∧ Kept No w w') := by
  have h1 := decided_P h
  rw [dec5] at h1
  exact h1
theorem cmd2 (w : World) : Calls Try.prog 24 #[.int .i64 2] w (fun e w' => e = .returned (.agg (Cm.cells c2)) ∧ Kept No w w') := command_any 2 w
theorem slice3_o (w : World) : (Instr.buildSlice 24 3 #[(0, .int .i64 4), (1, .int .i64 7), (2, .int .i64 5)]).run Try.prog w = .ok (.slice (some ⟨w.heap.size, 0, none⟩) 3 3) (w.alloc (.cells #[.int .i64 4, .int .i64 7, .int .i64 5] 3)) := by kernel_rfl
theorem exec_slice3o {o : Oper} {a : Act} {w : World} (parts : Array (Nat × Operand)) (ho : o.op = .buildSlice 24 3 parts) (hp : (parts.map fun (i, x) => (i, a.eval x)) = #[(0, .int .i64 4), (1, .int .i64 7), (2, .int .i64 5)]) : (execOp a.eval o).run Try.prog w = .ok (.value (.slice (some ⟨w.heap.size, 0, none⟩) 3 3)) (w.alloc (.cells #[.int .i64 4, .int .i64 7, .int .i64 5] 3)) := by
  simp only [execOp, ho, hp, Sem.run_bind, slice3_o, Result.andThen_ok, Sem.run_pure]
theorem slice0_m (w : World) : (Instr.buildSlice 66 0 #[]).run Try.prog w = .ok (.slice (some ⟨w.heap.size, 0, none⟩) 0 0) (w.alloc (.cells #[] 47)) := by kernel_rfl
theorem exec_slice0m {o : Oper} {a : Act} {w : World} (ho : o.op = .buildSlice 66 0 #[]) : (execOp a.eval o).run Try.prog w = .ok (.value (.slice (some ⟨w.heap.size, 0, none⟩) 0 0)) (w.alloc (.cells #[] 47)) := by
  have h := slice0_m w
  simp only [execOp, ho, Sem.run_bind, Array.map_empty, h, Result.andThen_ok, Sem.run_pure]
theorem slice2_m (u v : Value) (hu : u.oneCell' = true) (hv : v.oneCell' = true) (w : World) : (Instr.buildSlice 107 2 #[(0, u), (1, v)]).run Try.prog w = .ok (.slice (some ⟨w.heap.size, 0, none⟩) 2 2) (w.alloc (.cells #[u, v] 66)) := by
  cases u <;> cases v <;> simp [Value.oneCell'] at hu hv <;> kernel_rfl
theorem exec_slice2m {o : Oper} {a : Act} {w : World} (parts : Array (Nat × Operand)) (ho : o.op = .buildSlice 107 2 parts) (u v : Value) (hu : u.oneCell' = true) (hv : v.oneCell' = true) (hp : (parts.map fun (i, x) => (i, a.eval x)) = #[(0, u), (1, v)]) : (execOp a.eval o).run Try.prog w = .ok (.value (.slice (some ⟨w.heap.size, 0, none⟩) 2 2)) (w.alloc (.cells #[u, v] 66)) := by
  simp only [execOp, ho, hp, Sem.run_bind, slice2_m u v hu hv, Result.andThen_ok, Sem.run_pure]

end Go.Proofs.Ytpabpeppgpeaoaa.Md
