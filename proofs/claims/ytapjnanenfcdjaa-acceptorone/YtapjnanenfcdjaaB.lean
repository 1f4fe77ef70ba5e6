import Derived.Test.YtapjnanenfcdjaaA
namespace Go.Proofs.Ytapjnanenfcdjaa
open Go.RowKit
set_option linter.unusedVariables false
set_option linter.unusedSimpArgs false

/-- The order of stamps. -/
def lessB (n c m d : Int) : Bool := decide (n < m) || (decide (n = m) && decide (c < d))
def lt (a b : Sp) : Bool := lessB a.n a.c b.n b.c

set_option maxRecDepth 100000 in
set_option maxHeartbeats 1000000 in
theorem above_any (n c m d : Int) (w : World) : Calls Try.prog 19 #[.agg #[.int .i64 n, .int .i64 c], .agg #[.int .i64 m, .int .i64 d]] w (fun e w' => e = .returned (.bool (lessB m d n c)) ∧ Kept No w w') := by
  have HL : Hid (lessB m d n c = (decide (m < n) || (decide (m = n) && decide (d < c)))) := rfl
  generalize lessB m d n c = L at HL
  by_cases h : n = m
  · subst h
    have h0 : ¬ (n < n) := by omega
    go_enter Try.func19, Try.ntmps19
    go_wp2
    all_goals go_ret
    all_goals refine ⟨ret_bool ?_, (((Kept.refl No w).alloc _).alloc _)⟩
    all_goals rw [HL.out]
    all_goals simp
  · have h' : (n == m) = false := by simpa using h
    have h'' : ¬ m = n := fun e => h e.symm
    by_cases h1 : m < n
    · go_enter Try.func19, Try.ntmps19
      go_wp2
      all_goals go_ret
      all_goals refine ⟨ret_bool ?_, (((Kept.refl No w).alloc _).alloc _)⟩
      all_goals rw [HL.out]
      all_goals simp_all
    · go_enter Try.func19, Try.ntmps19
      go_wp2
      all_goals go_ret
      all_goals refine ⟨ret_bool ?_, (((Kept.refl No w).alloc _).alloc _)⟩
      all_goals rw [HL.out]
      all_goals simp_all

set_option maxRecDepth 100000 in
set_option maxHeartbeats 1000000 in
theorem less_any (n c m d : Int) (w : World) : Calls Try.prog 37 #[.agg #[.int .i64 n, .int .i64 c], .agg #[.int .i64 m, .int .i64 d]] w (fun e w' => e = .returned (.bool (lessB n c m d)) ∧ Kept No w w') := by
  have HL : Hid (lessB n c m d = (decide (n < m) || (decide (n = m) && decide (c < d)))) := rfl
  generalize lessB n c m d = L at HL
  by_cases h : n = m
  · subst h
    go_enter Try.func37, Try.ntmps37
    go_wp2
    all_goals go_ret
    all_goals refine ⟨ret_bool ?_, (((Kept.refl No w).alloc _).alloc _)⟩
    all_goals rw [HL.out]
    all_goals simp
  · have h' : (n == m) = false := by simpa using h
    go_enter Try.func37, Try.ntmps37
    go_wp2
    all_goals go_ret
    all_goals refine ⟨ret_bool ?_, (((Kept.refl No w).alloc _).alloc _)⟩
    all_goals rw [HL.out]
    all_goals simp_all

def inB (n lo hi : Int) : Bool := decide (lo ≤ n) && decide (n ≤ hi)
set_option maxRecDepth 100000 in
set_option maxHeartbeats 1000000 in
theorem within_any (n lo hi : Int) (w : World) : Calls Try.prog 27 #[.int .i64 n, .int .i64 lo, .int .i64 hi] w (fun e w' => e = .returned (.bool (inB n lo hi)) ∧ w' = w) := by
  have HL : Hid (inB n lo hi = (decide (lo ≤ n) && decide (n ≤ hi))) := rfl
  generalize inB n lo hi = L at HL
  by_cases h : n ≥ lo
  · have h2 : lo ≤ n := h
    go_enter Try.func27, Try.ntmps27
    go_wp2
    all_goals go_ret
    all_goals refine ⟨ret_bool ?_, rfl⟩
    all_goals rw [HL.out]
    all_goals simp_all
  · have h2 : ¬ lo ≤ n := h
    go_enter Try.func27, Try.ntmps27
    go_wp2
    all_goals go_ret
    all_goals refine ⟨ret_bool ?_, rfl⟩
    all_goals rw [HL.out]
    all_goals simp_all
    all_goals (intro _; omega)

def oneB (s : Sp) : Bool := inB s.n 1 1099511627776 && inB s.c 1 255
def fileB (a b : Int) : Bool := inB a 1 255 && inB b 1 1099511627776
def noneB (s : Sp) : Bool := s.n == 0 && s.c == 0
def sizeB (n blk : Int) : Bool := inB n 0 (IntKind.i64.wrap (1048576 * blk))

set_option maxRecDepth 100000 in
set_option maxHeartbeats 1000000 in
theorem one_any (n c : Int) (w : World) : Calls Try.prog 9 #[.agg #[.int .i64 n, .int .i64 c]] w (fun e w' => e = .returned (.bool (oneB ⟨n, c⟩)) ∧ Kept No w w') := by
  have HL : Hid (oneB ⟨n, c⟩ = (inB n 1 1099511627776 && inB c 1 255)) := rfl
  generalize oneB ⟨n, c⟩ = L at HL
  cases h : inB n 1 1099511627776
  · go_enter Try.func9, Try.ntmps9
    go_wp2_with (go_at_call 27
                 refine Calls.mono (within_any _ _ _ _) ?_
                 rintro e w' ⟨rfl, rfl⟩
                 try rw [h])
    all_goals go_ret
    all_goals refine ⟨ret_bool ?_, (Kept.refl No w).alloc _⟩
    all_goals rw [HL.out, h]
    all_goals simp
  · go_enter Try.func9, Try.ntmps9
    go_wp2_with (go_at_call 27
                 refine Calls.mono (within_any _ _ _ _) ?_
                 rintro e w' ⟨rfl, rfl⟩
                 try rw [h])
    all_goals go_ret
    all_goals refine ⟨ret_bool ?_, (Kept.refl No w).alloc _⟩
    all_goals rw [HL.out, h]
    all_goals simp

set_option maxRecDepth 100000 in
set_option maxHeartbeats 1000000 in
theorem file_any (n c : Int) (w : World) : Calls Try.prog 29 #[.agg #[.int .i64 n, .int .i64 c]] w (fun e w' => e = .returned (.bool (fileB n c)) ∧ Kept No w w') := by
  have HL : Hid (fileB n c = (inB n 1 255 && inB c 1 1099511627776)) := rfl
  generalize fileB n c = L at HL
  cases h : inB n 1 255
  · go_enter Try.func29, Try.ntmps29
    go_wp2_with (go_at_call 27
                 refine Calls.mono (within_any _ _ _ _) ?_
                 rintro e w' ⟨rfl, rfl⟩
                 try rw [h])
    all_goals go_ret
    all_goals refine ⟨ret_bool ?_, (Kept.refl No w).alloc _⟩
    all_goals rw [HL.out, h]
    all_goals simp
  · go_enter Try.func29, Try.ntmps29
    go_wp2_with (go_at_call 27
                 refine Calls.mono (within_any _ _ _ _) ?_
                 rintro e w' ⟨rfl, rfl⟩
                 try rw [h])
    all_goals go_ret
    all_goals refine ⟨ret_bool ?_, (Kept.refl No w).alloc _⟩
    all_goals rw [HL.out, h]
    all_goals simp

set_option maxRecDepth 100000 in
set_option maxHeartbeats 1000000 in
theorem none_any (n c : Int) (w : World) : Calls Try.prog 25 #[.agg #[.int .i64 n, .int .i64 c]] w (fun e w' => e = .returned (.bool (noneB ⟨n, c⟩)) ∧ Kept No w w') := by
  have HL : Hid (noneB ⟨n, c⟩ = (n == 0 && c == 0)) := rfl
  generalize noneB ⟨n, c⟩ = L at HL
  by_cases h : n = 0
  · subst h
    go_enter Try.func25, Try.ntmps25
    go_wp2
    all_goals go_ret
    all_goals refine ⟨ret_bool ?_, (Kept.refl No w).alloc _⟩
    all_goals rw [HL.out]
    all_goals simp
  · have h' : (n == 0) = false := by simpa using h
    go_enter Try.func25, Try.ntmps25
    go_wp2
    all_goals go_ret
    all_goals refine ⟨ret_bool ?_, (Kept.refl No w).alloc _⟩
    all_goals rw [HL.out]
    all_goals simp_all

end Go.Proofs.Ytapjnanenfcdjaa
