import Derived.Test.YtppkjebiiheljaaDw
namespace Go.Proofs.Ytppkjebiiheljaa
open Go.RowKit
open Go.ChangeMaps (setBlock)
set_option linter.unusedVariables false
set_option linter.unusedSimpArgs false

/-- All sectors, one behind the other. -/
def flatN : Nat → (Nat → List Int) → List Int
  | 0, _ => []
  | n + 1, f => flatN n f ++ f n
theorem flatN_len (f : Nat → List Int) (hf : ∀ m, (f m).length = 512) : ∀ n, (flatN n f).length = n * 512
  | 0 => rfl
  | n + 1 => by rw [flatN, List.length_append, flatN_len f hf n, hf n]; omega
theorem flatN_congr {f g : Nat → List Int} : ∀ n, (∀ m, m < n → f m = g m) → flatN n f = flatN n g
  | 0, _ => rfl
  | n + 1, h => by rw [flatN, flatN, flatN_congr n (fun m hm => h m (by omega)), h n (by omega)]
theorem flatN_upd {f : Nat → List Int} (hf : ∀ m, (f m).length = 512) (k : Nat) (s : List Int) (hs : s.length = 512) : ∀ n, k < n → splice (flatN n f) (k * 512) s = flatN n (updC f k s)
  | 0, h => by omega
  | n + 1, h => by
    have hl := flatN_len f hf n
    rw [flatN, flatN]
    by_cases e : k = n
    · subst e
      have h1 : flatN k (updC f k s) = flatN k f := flatN_congr k (fun m hm => by simp [updC, Nat.ne_of_lt hm])
      rw [h1]
      unfold splice
      rw [List.take_append_of_le_length (by omega), List.take_of_length_le (by omega), List.drop_of_length_le (by simp [hl, hf, hs])]
      simp [updC]
    · have hk : k < n := by omega
      rw [← flatN_upd hf k s hs n hk]
      have h2 : updC f k s n = f n := by simp [updC, Ne.symm e]
      rw [h2]
      unfold splice
      have : k * 512 + s.length ≤ (flatN n f).length := by
        rw [hl, hs]
        have := Nat.mul_le_mul_right 512 hk
        rw [Nat.succ_mul] at this
        exact this
      have t1 : k * 512 ≤ (flatN n f).length := Nat.le_trans (Nat.le_add_right _ _) this
      rw [List.take_append_of_le_length t1, List.drop_append_of_le_length this]
      simp

/-- A loop over a map of sectors under way. -/
def Iter (w : World) (b r : Nat) (es : Array MapEntry) (clock : Nat) (seen : Array Nat) : Prop :=
  w.heap[b]? = some (.map es clock) ∧ ∃ c0, w.heap[r]? = some (.mapIter (some b) clock seen c0) ∧ clock ≤ c0
def leftW (b r : Nat) (w : World) : Nat :=
  match w.heap[b]?, w.heap[r]? with
  | some (.map es _), some (.mapIter _ _ seen _) => (leftOf es seen).size
  | _, _ => 0
theorem Iter.left {w : World} {b r : Nat} {es : Array MapEntry} {clock : Nat} {seen : Array Nat} (h : Iter w b r es clock seen) : leftW b r w = (leftOf es seen).size := by
  obtain ⟨h1, c0, h2, _⟩ := h
  simp only [leftW, h1, h2]
theorem Iter.kept {S : Nat → Prop} {w w' : World} {b r : Nat} {es : Array MapEntry} {clock : Nat} {seen : Array Nat} (h : Iter w b r es clock seen) (hk : Kept S w w') (hb : ¬ S b) (hr : ¬ S r) : Iter w' b r es clock seen := by
  obtain ⟨h1, c0, h2, h3⟩ := h
  exact ⟨(hk.block b (Array.getElem?_eq_some_iff.1 h1).1 hb).trans h1, c0, (hk.block r (Array.getElem?_eq_some_iff.1 h2).1 hr).trans h2, h3⟩
theorem Iter.ne {w : World} {b r : Nat} {es : Array MapEntry} {clock : Nat} {seen : Array Nat} (h : Iter w b r es clock seen) : r ≠ b := by
  obtain ⟨h1, c0, h2, _⟩ := h
  intro e
  rw [e, h1] at h2
  cases h2
theorem Iter.lt {w : World} {b r : Nat} {es : Array MapEntry} {clock : Nat} {seen : Array Nat} (h : Iter w b r es clock seen) : r < w.heap.size := by
  obtain ⟨h1, c0, h2, _⟩ := h
  exact (Array.getElem?_eq_some_iff.1 h2).1

theorem setBlock_iter {w1 : World} {r : Nat} {o o' : Obj} (h : w1.heap[r]? = some o) : (setBlock w1 r o').heap[r]? = some o' := (MapKept.heap_set h).1

section
variable {ops : Array Oper} {rest : List Oper} {o : Oper} {a : Act} {w : World} {Q : Exit → Act → World → Prop}

theorem wp_rangeS (hg : o.guard = none) (m : Operand) (ho : o.op = .range 63 m) (b : Nat) (hm : a.eval m = .map (some b)) {es : Array MapEntry} {clock : Nat} (hb : w.heap[b]? = some (.map es clock)) (N : Nat) (hN : w.heap.size = N)
    (h : ∀ w', Iter w' b N es clock #[] → Kept No w w' → wpList Try.prog ops Q rest (a.put o.dst (.pointer (some ⟨N, 0, none⟩))) w') : wpList Try.prog ops Q (o :: rest) a w := by
  subst hN
  have hrun := run_range_map (P := Try.prog) w 63 3 72 b es clock Try.und63 hb
  refine wp_runTo hg _ _ ?_ (h _ ⟨?_, clock, (MapKept.heap_alloc w _).1, Nat.le_refl _⟩ ((Kept.refl No w).alloc (.mapIter (some b) clock #[] clock)))
  · simp [execOp, ho, hm, hrun, Result.andThen]
  · exact ((MapKept.heap_alloc w _).2 b (Array.getElem?_eq_some_iff.1 hb).1).trans hb

theorem wp_nextS (hg : o.guard = none) (it : Operand) (ho : o.op = .next it false) (b r : Nat) (hit : a.eval it = .pointer (some ⟨r, 0, none⟩)) {es : Array MapEntry} {clock : Nat} {seen : Array Nat} {g : Nat → Option (List Int)} (hi : Iter w b r es clock seen) (he : Ents es clock g)
    (hDone : (leftOf es seen).size = 0 → wpList Try.prog ops Q rest (a.put o.dst (.tuple #[.bool false])) w)
    (hMore : ∀ (e : MapEntry) (m : Nat) (s : List Int) w', e ∈ es.toList → e.key = .int .i64 m → g m = some s → Iter w' b r es clock (seen.push e.born) → Kept (Only r) w w' → w'.heap.size = w.heap.size → (leftOf es (seen.push e.born)).size < (leftOf es seen).size →
      (Instr.entry (.pointer (some ⟨r, 0, none⟩))).run Try.prog w' = .ok (.tuple #[.int .i64 m, secV s]) w' →
      wpList Try.prog ops Q rest (a.put o.dst (.tuple #[.bool true, .int .i64 m, secV s])) w') : wpList Try.prog ops Q (o :: rest) a w := by
  have hne := hi.ne
  obtain ⟨h1, c0, h2, h3⟩ := hi
  rcases run_next_at (P := Try.prog) w o.type r b clock c0 seen es clock h2 h1 he.1.1 h3 with ⟨h0, hrun⟩ | ⟨e, hel, w1, hw1, hrun⟩
  · refine wp_runTo hg _ w ?_ (hDone h0)
    simp [execOp, ho, hit, hrun, Result.andThen]
  · have hem : e ∈ es.toList := by
      have := hel
      simp [leftOf] at this
      simpa using this.1
    obtain ⟨m, s, hk, hv, hgm⟩ := he.2.1 e hem
    have h2' : w1.heap[r]? = some (.mapIter (some b) clock seen c0) := by rcases hw1 with rfl | rfl <;> exact h2
    have h1' : w1.heap[b]? = some (.map es clock) := by rcases hw1 with rfl | rfl <;> exact h1
    have hset := MapKept.heap_set (o' := .mapIter (some b) clock (seen.push e.born) clock) h2'
    have hb' : (setBlock w1 r (.mapIter (some b) clock (seen.push e.born) clock)).heap[b]? = some (.map es clock) := (hset.2 b (fun e1 => hne e1.symm)).trans h1'
    refine wp_runTo hg (.tuple #[.bool true, .int .i64 m, secV s]) (setBlock w1 r (.mapIter (some b) clock (seen.push e.born) clock)) ?_ (hMore e m s _ hem hk hgm ⟨hb', clock, hset.1, Nat.le_refl _⟩ ?_ ?_ (left_shrinks es seen e hel) ?_)
    · simp [execOp, ho, hit, hrun, hk, hv, Result.andThen]
    · rcases hw1 with rfl | rfl
      · exact kept_setBlock
      · exact ((Kept.refl (Only r) w).drew : Kept (Only r) w w.drew).then kept_setBlock
    · rcases hw1 with rfl | rfl <;> exact Array.size_setIfInBounds
    · have := run_entry_at (P := Try.prog) _ r b clock seen es clock e hset.1 hb' hem he.1.2.1
      rw [hk, hv] at this
      exact this
end

end Go.Proofs.Ytppkjebiiheljaa
