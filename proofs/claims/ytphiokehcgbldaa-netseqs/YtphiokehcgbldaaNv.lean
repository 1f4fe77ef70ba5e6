import Derived.Test.YtphiokehcgbldaaNu
namespace Go.Proofs.Ytphiokehcgbldaa
open Go.RowKit Go.Shelf
set_option linter.unusedVariables false
set_option linter.unusedSimpArgs false

theorem beq34 (a c : Bool) (b d : Int) (W : World) : (binOp .eql 34 (.agg #[.bool a, .int .i64 b]) (.agg #[.bool c, .int .i64 d])).run Try.prog W = .ok (.bool (decide ((a, b) = (c, d)))) W := by
  have h := keyA.eql (a, b) (c, d) W
  simp only [mkA] at h
  simp [binOp, Sem.run_bind, h, Result.andThen]
theorem bne34 (a c : Bool) (b d : Int) (W : World) : (binOp .neq 34 (.agg #[.bool a, .int .i64 b]) (.agg #[.bool c, .int .i64 d])).run Try.prog W = .ok (.bool (!decide ((a, b) = (c, d)))) W := by
  have h := keyA.eql (a, b) (c, d) W
  simp only [mkA] at h
  simp [binOp, Sem.run_bind, h, Result.andThen]
set_option maxRecDepth 100000 in
set_option maxHeartbeats 8000000 in
theorem same_pk (f1 f2 t1 t2 : Ad) (c1 c2 : Int) (a1 a2 : Option Addr) (k1 k2 : Nat) (xs ys : List Int) (w : World) (h1 : xs.length ≤ 140737488355328) (h2 : ys.length ≤ 140737488355328) (hx : Bytes w a1 xs) (hy : Bytes w a2 ys) :
    Calls Try.prog 22 #[.agg #[.bool f1.1, .int .i64 f1.2, .int .i64 c1, .bool t1.1, .int .i64 t1.2, .slice a1 xs.length k1], .agg #[.bool f2.1, .int .i64 f2.2, .int .i64 c2, .bool t2.1, .int .i64 t2.2, .slice a2 ys.length k2]] w
      (fun e w' => e = .returned (.bool (decide (f1 = f2 ∧ c1 = c2 ∧ t1 = t2) && eqB xs ys)) ∧ Kept No w w') := by
  obtain ⟨f1a, f1b⟩ := f1
  obtain ⟨f2a, f2b⟩ := f2
  obtain ⟨t1a, t1b⟩ := t1
  obtain ⟨t2a, t2b⟩ := t2
  have HX : Hid (∀ W, Kept No w W → Calls Try.prog 25 #[.slice a1 xs.length k1, .slice a2 ys.length k2] W fun e w' => e = .returned (.bool (eqB xs ys)) ∧ Kept No W w') := fun W hk => (same_any a1 a2 k1 k2 xs ys W (by omega) (by omega) (hx.no hk) (hy.no hk)).mono (fun e w' h => ⟨h.1, by obtain ⟨n, rfl⟩ := h.2; exact (Kept.refl No W).drewN n⟩)
  generalize eqB xs ys = b at HX ⊢
  generalize xs.length = lx at HX ⊢
  generalize ys.length = ly at HX ⊢
  clear hx hy h1 h2
  have e1 := beq34 f1a f2a f1b f2b
  have e2 := beq34 t1a t2a t1b t2b
  have hk2 : Kept No w ((w.alloc (.cells #[.bool f1a, .int .i64 f1b, .int .i64 c1, .bool t1a, .int .i64 t1b, .slice a1 lx k1] 44)).alloc (.cells #[.bool f2a, .int .i64 f2b, .int .i64 c2, .bool t2a, .int .i64 t2b, .slice a2 ly k2] 44)) := ((Kept.refl No w).alloc _).alloc _
  have HK : Hid (Kept No w ((w.alloc (.cells #[.bool f1a, .int .i64 f1b, .int .i64 c1, .bool t1a, .int .i64 t1b, .slice a1 lx k1] 44)).alloc (.cells #[.bool f2a, .int .i64 f2b, .int .i64 c2, .bool t2a, .int .i64 t2b, .slice a2 ly k2] 44))) := hk2
  clear hk2
  simp only
  obtain ⟨r, hr⟩ : ∃ r, r = (decide ((f1a, f1b) = (f2a, f2b) ∧ c1 = c2 ∧ (t1a, t1b) = (t2a, t2b)) && b) := ⟨_, rfl⟩
  rw [← hr]
  by_cases p1 : (f1a, f1b) = (f2a, f2b)
  · rw [decide_eq_true p1] at e1
    by_cases p2 : c1 = c2
    · by_cases p3 : (t1a, t1b) = (t2a, t2b)
      · rw [decide_eq_true p3] at e2
        have HD : Hid (r = b) := by show _ = _; rw [hr, decide_eq_true ⟨p1, p2, p3⟩, Bool.true_and]
        subst p2
        clear p1 p3 hr
        go_enter Try.func22, Try.ntmps22
        go_wp2_with (go_at_call 25; refine (HX.out _ HK.out).mono ?_; rintro e w3 ⟨rfl, hk⟩; have H3 : Hid (Kept No w w3) := HK.out.then hk; clear hk)
        go_ret
        exact ⟨by rw [HD.out]; rfl, H3.out⟩
      · rw [decide_eq_false p3] at e2
        have HD : Hid (r = false) := by show _ = _; rw [hr, decide_eq_false (fun h => p3 h.2.2), Bool.false_and]
        subst p2
        clear p1 p3 hr
        go_enter Try.func22, Try.ntmps22
        go_wp2
        go_ret
        exact ⟨by rw [HD.out]; rfl, HK.out⟩
    · have HD : Hid (r = false) := by show _ = _; rw [hr, decide_eq_false (fun h => p2 h.2.1), Bool.false_and]
      clear p1 hr
      go_enter Try.func22, Try.ntmps22
      go_wp2
      go_ret
      exact ⟨by rw [HD.out]; rfl, HK.out⟩
  · rw [decide_eq_false p1] at e1
    have HD : Hid (r = false) := by show _ = _; rw [hr, decide_eq_false (fun h => p1 h.1), Bool.false_and]
    clear p1 hr
    go_enter Try.func22, Try.ntmps22
    go_wp2
    go_ret
    exact ⟨by rw [HD.out]; rfl, HK.out⟩
end Go.Proofs.Ytphiokehcgbldaa
