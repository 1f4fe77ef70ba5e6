import Derived.Test.YtapjnanenfcdjaaV
namespace Go.Proofs.Ytapjnanenfcdjaa
open Go.RowKit
set_option linter.unusedVariables false
set_option linter.unusedSimpArgs false

theorem Kept.thenNo {S : Nat → Prop} {a b c : World} (h : Kept S a b) (k : Kept No b c) : Kept S a c := h.then k.of_no
theorem Kept.newRowS {S : Nat → Prop} {a w : World} (h : Kept S a w) {g : Nat} (hg : a.heap.size ≤ g) (cs : Array Value) : Kept S a (w.setRow g cs) :=
  h.trans (Kept.setRow _ _ _) (fun _ e => e) (fun i hi e => by have : i = g := e; omega)
theorem Kept.inRow {S : Nat → Prop} {a w : World} (h : Kept S a w) {g : Nat} (hg : S g) (cs : Array Value) : Kept S a (w.setRow g cs) :=
  h.trans (Kept.setRow _ _ _) (fun _ e => e) (fun i hi e => by have e : i = g := e; rw [e]; exact hg)

/-- One of those that may come up. -/
def StepH (md : Region.Mode) (ops : Array Oper) (Q : Exit → Act → World → Prop) (S : World → Prop) (fuel : Nat) (listed : Array Bool) (a : Act) (w : World) (i : Nat) : Prop :=
  wpOp Try.prog ops Q i (fun a' w' => S w' ∧ wpAnyH Try.prog md ops Q S fuel (listed.setIfInBounds i true) a' w') a w
section
variable {ops : Array Oper} {o : Oper} {a : Act} {w w' : World} {Q : Exit → Act → World → Prop} {md : Region.Mode} {S : World → Prop} {fuel : Nat} {listed : Array Bool}
theorem any_pick {rs : List Nat} (hr : Region.ready md ops listed = rs) (hne : rs ≠ []) (h : ∀ i ∈ rs, StepH md ops Q S fuel listed a w i) : wpAnyH Try.prog md ops Q S (fuel + 1) listed a w := wpAnyH_all hr hne h
theorem step_run {i : Nat} {v : Value} (hi : ops[i]? = some o) (hw : Region.wanted o (yielded ops a.tmps) = true) (hrun : (execOp a.eval o).run Try.prog w = .ok (.value v) w') (hS : S w')
    (h : S w' → wpAnyH Try.prog md ops Q S fuel (listed.setIfInBounds i true) (a.put o.dst v) w') : StepH md ops Q S fuel listed a w i := by
  refine wpOp_step hi (fun K' hK => ?_)
  rw [if_pos hw]
  unfold Oper.wp
  rw [hrun, Oper.upon_value]
  exact hK _ _ ⟨hS, h hS⟩
theorem step_call {i : Nat} (hi : ops[i]? = some o) (hw : Region.wanted o (yielded ops a.tmps) = true) (f : FuncId) (args : Array Value) (hrun : (execOp a.eval o).run Try.prog w = .ok (.enter f args) w) (C : Ending → World → Prop) (hc : Calls Try.prog f args w C)
    (h : ∀ e w', C e w' → ∃ v, e = .returned v ∧ S w' ∧ (S w' → wpAnyH Try.prog md ops Q S fuel (listed.setIfInBounds i true) (a.put o.dst v) w')) : StepH md ops Q S fuel listed a w i := by
  refine wpOp_step hi (fun K' hK => ?_)
  rw [if_pos hw]
  unfold Oper.wp
  rw [hrun, Oper.upon_enter]
  refine hc.mono fun e w' he => ?_
  obtain ⟨v, rfl, hS, hh⟩ := h e w' he
  exact hK _ _ ⟨hS, hh hS⟩
end
theorem pick2 {i a b : Nat} (h : i ∈ [a, b]) : i = a ∨ i = b := by simpa using h
theorem pick3 {i a b c : Nat} (h : i ∈ [a, b, c]) : i = a ∨ i = b ∨ i = c := by simpa using h
/-- Ways that meet. -/
theorem meet3 {J : World → Nat → Nat → Prop} {G : World → Nat → Nat → Prop} {g : Prop} (h : (∀ W a b, J W a b → G W a b) → g) (t : ∀ W a b, J W a b → G W a b) : g := h t
theorem meet2 {J : World → Nat → Prop} {G : World → Nat → Prop} {g : Prop} (h : (∀ W a, J W a → G W a) → g) (t : ∀ W a, J W a → G W a) : g := h t

theorem Nums.of_own {w : World} {base : Nat} {a : Option Addr} {cap n : Nat} {zs : List Int} (h : Own 3 1 w base a cap n (ints zs)) (hl : zs.length = n) : Nums .i64 w a zs := h.nums hl
set_option maxRecDepth 100000 in
set_option maxHeartbeats 1000000 in
theorem has_any (a : Option Addr) (n c : Nat) (l : List Int) (s : Int) (w : World) (hl : l.length = n) (hn : n ≤ 1000000) (hN : Nums .i64 w a l) :
    Calls Try.prog 36 #[.slice a n c, .int .i64 s] w (fun e w' => e = .returned (.bool (decide (s ∈ l))) ∧ w' = w) := by
  have HN : Hid (Nums .i64 w a l) := hN
  have HL : Hid (l.length = n) := hl
  clear hN hl
  go_enter Try.func36, Try.ntmps36
  go_wp2
  go_loopw [5] (fun vi wr => ∃ (i : Nat), vi = .int .i64 i ∧ i ≤ n ∧ Hid (∀ j, j < i → l[j]?.getD 0 ≠ s) ∧ wr = w) (fun i _ => n - (intOf i).toNat)
  case atStart => exact ⟨0, by go_num, by omega, fun j hj => absurd hj (Nat.not_lt_zero _), rfl⟩
  case round =>
    obtain ⟨i, rfl, hi, HB, rfl⟩ := hrel
    by_cases hlt : i < n
    · have hlt' : (i : Int) < (n : Int) := by omega
      obtain ⟨b, off, rfl, hc⟩ := HN.out i (by rw [HL.out]; exact hlt)
      have HV : Hid (l[i]?.getD 0 ∈ l) := by
        have hil : i < l.length := by rw [HL.out]; exact hlt
        show l[i]?.getD 0 ∈ l
        rw [List.getElem?_eq_getElem hil]
        exact List.getElem_mem hil
      have HV2 : Hid (∀ j, j < i + 1 → j ≠ i → l[j]?.getD 0 ≠ s) := fun j hj hne => HB.out j (by omega)
      generalize hy : l[i]?.getD 0 = y at hc HV
      have HY : Hid (l[i]?.getD 0 = y) := hy
      clear hy
      by_cases he : y = s
      · subst he
        have HD : Hid (decide (y ∈ l) = true) := by show _ = _; rw [decide_eq_true_eq]; exact HV.out
        go_wp2
        go_ret
        exact ⟨by rw [HD.out]; rfl, rfl⟩
      · have he' : (y == s) = false := by simpa using he
        go_wp2
        go_roundw
        case measure => simp [intOf]; omega
        case rel => exact ⟨i + 1, by go_num, by omega, fun j hj => by
            by_cases e : j = i
            · subst e; rw [HY.out]; exact he
            · exact HV2.out j hj e, by first | trivial | rfl⟩
    · have hlt' : ¬ (i : Int) < (n : Int) := by omega
      have HD : Hid (decide (s ∈ l) = false) := by
        show _ = _
        rw [decide_eq_false_iff_not]
        intro hm
        obtain ⟨j, hj, e⟩ := List.mem_iff_getElem.1 hm
        have := HB.out j (by have := HL.out; omega)
        rw [List.getElem?_eq_getElem hj] at this
        exact this e
      go_wp2
      go_ret
      exact ⟨by rw [HD.out]; rfl, rfl⟩

set_option maxRecDepth 100000 in
set_option maxHeartbeats 1000000 in
theorem in_any (v : Int) (n : Nat) (w : World) (hn : 0 < n) (hb : n ≤ 1000000) : Calls Try.prog 21 #[.int .i64 v, .int .i64 n] w (fun e w' => ∃ r : Nat, r < n ∧ e = .returned (.int .i64 r) ∧ w' = w) := by
  have hn0 : ¬ (n : Int) = 0 := by omega
  have h1 : v.tmod n < n := Int.tmod_lt_of_pos v (by omega)
  have h2 : -(n : Int) < v.tmod n := by
    have := Int.lt_tmod_of_pos v (b := (n : Int)) (by omega)
    omega
  have hm : IntKind.i64.wrap (v.tmod n) = v.tmod n := by rw [IntKind.wrap_i64]; omega
  generalize hq : v.tmod n = q at h1 h2 hm
  have HQ : Hid (v.tmod n = q) := hq
  by_cases hneg : q < 0
  · have e : ∃ r : Nat, (r : Int) = q + n ∧ r < n := ⟨(q + n).toNat, by omega, by omega⟩
    obtain ⟨r, hr, hrn⟩ := e
    have hw : IntKind.i64.wrap (q + n) = r := by rw [← hr, IntKind.wrap_i64]; omega
    go_enter Try.func21, Try.ntmps21
    go_wp2
    go_ret
    exact ⟨r, hrn, by simp_all, rfl⟩
  · have e : ∃ r : Nat, (r : Int) = q ∧ r < n := ⟨q.toNat, by omega, by omega⟩
    obtain ⟨r, hr, hrn⟩ := e
    go_enter Try.func21, Try.ntmps21
    go_wp2
    go_ret
    exact ⟨r, hrn, by simp_all, rfl⟩

end Go.Proofs.Ytapjnanenfcdjaa
