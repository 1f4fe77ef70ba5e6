import Derived.Test.YtppkjebiiheljaaDs
namespace Go.Proofs.Ytppkjebiiheljaa
open Go.RowKit
set_option linter.unusedVariables false
set_option linter.unusedSimpArgs false

def torn (t : Int) : Int := min (max t 0) 512

theorem arm_any (d b : Nat) (x : DS) (n t : Int) (w : World) (h : Dsk w d b x) (hf : x.fl = false) :
    Calls Try.prog 29 #[.pointer (some ⟨d, 0, none⟩), .int .i64 n, .int .i64 t] w fun e w' => e = .returned (.tuple #[]) ∧ Dsk w' d b { x with pw := some (max n 0, torn t) } ∧ Kept (Only d) w w' := by
  have f2 := h.1.frozen 2
  have c2 := h.cells.2.2.1
  have c3 := h.cells.2.2.2.1
  rw [hf] at c3
  have HD : Hid (∀ n' t', max n 0 = n' → torn t = t' → Dsk (w.setCell ⟨d, 2, none⟩ (.iface 79 (.agg #[.int .i64 n', .int .i64 t']))) d b { x with pw := some (max n 0, torn t) } ∧ Kept (Only d) w (w.setCell ⟨d, 2, none⟩ (.iface 79 (.agg #[.int .i64 n', .int .i64 t'])))) := by
    rintro n' t' rfl rfl
    exact ⟨h.put 2 (pwV (some (max n 0, torn t))) { x with pw := some (max n 0, torn t) } rfl rfl, (Kept.refl (Only d) w).setCell (fun _ => onlySelf d) _⟩
  clear h hf
  generalize pwV x.pw = pv at c2
  go_enter Try.func29, Try.ntmps29
  go_wp2
  all_goals first | go_end0 | refine bodyPost_ret (results_none rfl _ _ _) rfl ?_
  all_goals exact ⟨rfl, HD.out _ _ (by omega) (by unfold torn; omega)⟩

theorem armNo_any (d b : Nat) (x : DS) (n t : Int) (w : World) (h : Dsk w d b x) (hf : x.fl = true) :
    Calls Try.prog 29 #[.pointer (some ⟨d, 0, none⟩), .int .i64 n, .int .i64 t] w fun e w' => e = .returned (.tuple #[]) ∧ w' = w := by
  have c3 := h.cells.2.2.2.1
  rw [hf] at c3
  clear h
  go_enter Try.func29, Try.ntmps29
  go_wp2
  all_goals first | go_end0 | refine bodyPost_ret (results_none rfl _ _ _) rfl ?_
  exact ⟨rfl, rfl⟩

/-- The power behind a write; whether it holds; how many bytes are laid down. -/
def spentP : Option (Int × Int) → Option (Int × Int)
  | none => none
  | some (l, t) => if 0 < l then some (l - 1, t) else none
def holdsP : Option (Int × Int) → Bool
  | none => true
  | some (l, _) => decide (0 < l)
def laidP : Option (Int × Int) → Int
  | none => 512
  | some (l, t) => if 0 < l then 512 else t

theorem assert65 (w : World) : (Instr.typeAssert (.iface 65 (.agg #[])) 67 79 true).run Try.prog w = .ok (.tuple #[.agg #[.int .i64 0, .int .i64 0], .bool false]) w := by kernel_rfl
theorem assert79 (v : Value) (w : World) : (Instr.typeAssert (.iface 79 v) 67 79 true).run Try.prog w = .ok (.tuple #[v, .bool true]) w := by kernel_rfl

theorem spent_any (p : Option (Int × Int)) (w : World) (hp : ∀ l t, p = some (l, t) → 0 ≤ l ∧ l ≤ 9223372036854775807) :
    Calls Try.prog 37 #[pwV p] w fun e w' => e = .returned (pwV (spentP p)) ∧ Kept No w w' := by
  match p, hp with
  | none, _ =>
    show Calls Try.prog 37 #[.iface 65 (.agg #[])] w fun e w' => e = .returned (.iface 65 (.agg #[])) ∧ Kept No w w'
    have ha := @assert65
    have hb := @assert79
    go_enter Try.func37, Try.ntmps37
    go_wp2
    all_goals go_ret
    all_goals exact ⟨rfl, Kept.refl No w⟩
  | some (l, t), hp =>
    obtain ⟨h0, h1⟩ := hp l t rfl
    by_cases hl : 0 < l
    · show Calls Try.prog 37 #[.iface 79 (.agg #[.int .i64 l, .int .i64 t])] w _
      have hs : Hid (spentP (some (l, t)) = some (l - 1, t)) := (if_pos hl : spentP (some (l, t)) = some (l - 1, t))
      have ha := @assert65
      have hb := @assert79
      go_enter Try.func37, Try.ntmps37
      go_wp2
      all_goals go_ret
      all_goals exact ⟨by rw [hs.out]; rfl, (Kept.refl No w).alloc _⟩
    · show Calls Try.prog 37 #[.iface 79 (.agg #[.int .i64 l, .int .i64 t])] w _
      have hs : Hid (spentP (some (l, t)) = none) := (if_neg hl : spentP (some (l, t)) = none)
      have ha := @assert65
      have hb := @assert79
      go_enter Try.func37, Try.ntmps37
      go_wp2
      all_goals go_ret
      all_goals exact ⟨by rw [hs.out]; rfl, (Kept.refl No w).alloc _⟩

theorem askSteady_any (w : World) : Calls Try.prog 55 #[.agg #[]] w fun e w' => e = .returned (.tuple #[.bool true, .int .i64 512]) ∧ Kept No w w' := by
  go_enter Try.func55, Try.ntmps55
  go_wp2
  all_goals go_ret2
  all_goals first | exact ⟨rfl, Kept.refl No w⟩ | exact ⟨rfl, (Kept.refl No w).alloc _⟩

theorem askArmed_any (l t : Int) (w : World) : Calls Try.prog 56 #[.agg #[.int .i64 l, .int .i64 t]] w fun e w' => e = .returned (.tuple #[.bool (holdsP (some (l, t))), .int .i64 (laidP (some (l, t)))]) ∧ Kept No w w' := by
  by_cases hl : 0 < l
  · have hs : Hid (holdsP (some (l, t)) = true ∧ laidP (some (l, t)) = 512) := ⟨(decide_eq_true hl : holdsP (some (l, t)) = true), (if_pos hl : laidP (some (l, t)) = 512)⟩
    go_enter Try.func56, Try.ntmps56
    go_wp2
    all_goals go_ret2
    all_goals (rw [hs.out.1, hs.out.2]; first | exact ⟨rfl, Kept.refl No w⟩ | exact ⟨rfl, (Kept.refl No w).alloc _⟩)
  · have hs : Hid (holdsP (some (l, t)) = false ∧ laidP (some (l, t)) = t) := ⟨(decide_eq_false hl : holdsP (some (l, t)) = false), (if_neg hl : laidP (some (l, t)) = t)⟩
    go_enter Try.func56, Try.ntmps56
    go_wp2
    go_quiet (fail)
    go_wp2
    all_goals go_ret2
    all_goals (rw [hs.out.1, hs.out.2]; first | exact ⟨rfl, Kept.refl No w⟩ | exact ⟨rfl, (Kept.refl No w).alloc _⟩ | exact ⟨rfl, ((Kept.refl No w).alloc _).drewN _⟩)

end Go.Proofs.Ytppkjebiiheljaa
