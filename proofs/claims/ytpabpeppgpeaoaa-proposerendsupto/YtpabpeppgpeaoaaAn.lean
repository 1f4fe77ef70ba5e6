import Derived.Test.YtpabpeppgpeaoaaAl
/-! Answers to a question, taken one behind the other. -/

namespace Go.Proofs.Ytpabpeppgpeaoaa
open Go.RowKit Gt
set_option linter.unusedVariables false
set_option linter.unusedSimpArgs false

namespace Pax

def foldT : PS → List Ms → PS × List Ms
  | s, [] => (s, [])
  | s, m :: l => ((foldT (taksS s m [] []).1 l).1, (taksS s m [] []).2 ++ (foldT (taksS s m [] []).1 l).2)
theorem foldT_keep {s : PS} {m : Ms} (h : taksS s m [] [] = (s, [])) (l : List Ms) : foldT s (m :: l) = foldT s l := by
  show ((foldT (taksS s m [] []).1 l).1, (taksS s m [] []).2 ++ (foldT (taksS s m [] []).1 l).2) = _
  rw [h]; rfl
theorem foldT_to {s s' : PS} {m : Ms} (h : taksS s m [] [] = (s', [])) (l : List Ms) : foldT s (m :: l) = foldT s' l := by
  show ((foldT (taksS s m [] []).1 l).1, (taksS s m [] []).2 ++ (foldT (taksS s m [] []).1 l).2) = _
  rw [h]; rfl
theorem foldT_dec {s : PS} {c : Cm} (h : s.ph = .dec c) : ∀ l, foldT s l = (s, [])
  | [] => rfl
  | m :: l => by
    rw [foldT_keep (by unfold taksS; rw [h])]
    exact foldT_dec h l
theorem tak_pass {s : PS} {m : Ms} (h : ansB s.v0 s.zs m = false) : taksS s m [] [] = (s, []) := by
  unfold taksS
  cases s.ph with
  | pre x y rf => show othS s x _ m [] [] _ = _; unfold othS; rw [if_neg (by rw [h]; decide)]
  | acc c x y rf => show othS s x _ m [] [] _ = _; unfold othS; rw [if_neg (by rw [h]; decide)]
  | _ => rfl
theorem foldT_pass {s : PS} : ∀ l, (∀ m, m ∈ l → ansB s.v0 s.zs m = false) → foldT s l = (s, [])
  | [], _ => rfl
  | m :: l, h => by
    rw [foldT_keep (tak_pass (h m List.mem_cons_self))]
    exact foldT_pass l (fun x hx => h x (List.mem_cons_of_mem _ hx))
/-- An answer to the question that s asks; k: the kind that agrees. -/
structure AnsQ (s : PS) (k : Int) (m : Ms) : Prop where
  an : ansB s.v0 s.zs m = true
  kd : (m.k = k ∧ eqS m.st ⟨s.n, s.cl⟩ = true) ∨ m.k = 14 ∨ m.k = 16
theorem AnsQ.mem {s : PS} {k : Int} {m : Ms} (h : AnsQ s k m) : m.fi ∈ s.zs := by
  have := h.an
  unfold ansB hasB at this
  simp only [Bool.and_eq_true, decide_eq_true_eq] at this
  exact this.2.2.2.2.2
theorem AnsQ.rd {s : PS} {k : Int} {m : Ms} (h : AnsQ s k m) : m.rd = s.rd := by
  have := h.an
  unfold ansB at this
  simp only [Bool.and_eq_true, beq_iff_eq] at this
  exact this.2.2.1
theorem ans_other {s : PS} {m : Ms} (h : m.rd ≠ s.rd) : ansB s.v0 s.zs m = false := by
  cases e : ansB s.v0 s.zs m
  · rfl
  · unfold ansB at e
    simp only [Bool.and_eq_true, beq_iff_eq] at e
    exact absurd e.2.2.1 h
/-- The question still stands behind some answers. -/
structure Still {α : Type} (k : Int) (x : TS Unit) (y : TS α) (rf : Bool) (top : Int) (l : List Ms) (x' : TS Unit) (y' : TS α) (rf' : Bool) (top' : Int) : Prop where
  hx : ∀ a, (x.v a).isSome = true → (x'.v a).isSome = true
  hy : ∀ a, (y.v a).isSome = true → (y'.v a).isSome = true
  all : ∀ m, m ∈ l → (x'.v m.fi).isSome = true
  no : ∀ a, (x.v a).isSome = false → (x'.v a).isSome = true → (y'.v a).isSome = false → ∃ m, m ∈ l ∧ m.k = 14 ∧ m.fi = a ∧ m.st.n ≤ top'
  top : top ≤ top'
  rf : rf' = true → rf = true ∨ ∃ m, m ∈ l ∧ m.k = 14
  yy : ∀ a, (y'.v a).isSome = true → (y.v a).isSome = true ∨ ∃ m, m ∈ l ∧ m.k = k ∧ m.fi = a
theorem Still.nil {α : Type} (k : Int) (x : TS Unit) (y : TS α) (rf : Bool) (top : Int) : Still k x y rf top [] x y rf top :=
  ⟨fun _ e => e, fun _ e => e, fun _ e => absurd e (by simp), fun a e1 e2 _ => absurd (e1.symm.trans e2) (by decide), Int.le_refl _, Or.inl, fun _ => Or.inl⟩
theorem Still.past {α : Type} {k0 : Int} {x : TS Unit} {y : TS α} {rf : Bool} {top : Int} {l : List Ms} {x' : TS Unit} {y' : TS α} {rf' : Bool} {top' : Int} {m : Ms} (h : Still k0 x y rf top l x' y' rf' top') (hm : (x.v m.fi).isSome = true) : Still k0 x y rf top (m :: l) x' y' rf' top' :=
  ⟨h.hx, h.hy, fun k hk => by rcases List.mem_cons.1 hk with rfl | hk; exact h.hx _ hm; exact h.all k hk, fun a e1 e2 e3 => by obtain ⟨k, hk, e⟩ := h.no a e1 e2 e3; exact ⟨k, List.mem_cons_of_mem _ hk, e⟩, h.top,
    fun e => (h.rf e).imp id (fun ⟨k, hk, e⟩ => ⟨k, List.mem_cons_of_mem _ hk, e⟩), fun a e => (h.yy a e).imp id (fun ⟨k, hk, e⟩ => ⟨k, List.mem_cons_of_mem _ hk, e⟩)⟩
theorem Still.nack {α : Type} {k0 : Int} {zs : List Int} {x : TS Unit} {y : TS α} {rf : Bool} {top : Int} {l : List Ms} {x' : TS Unit} {y' : TS α} {rf' : Bool} {top' : Int} {m : Ms} (q : QOk zs x y rf) (hm : m.fi ∈ missL x) (hk : m.k = 14)
    (h : Still k0 (hearS x m.fi) y true (max top m.st.n) l x' y' rf' top') : Still k0 x y rf top (m :: l) x' y' rf' top' := by
  have ht := h.top
  have hh : ∀ a, (x.v a).isSome = true → ((hearS x m.fi).v a).isSome = true := fun a e => by rw [q.heard hm, e]; rfl
  have h0 : ((hearS x m.fi).v m.fi).isSome = true := by rw [q.heard hm]; simp
  refine ⟨fun a e => h.hx a (hh a e), h.hy, fun k hk => ?_, fun a e1 e2 e3 => ?_, by omega, fun _ => .inr ⟨m, List.mem_cons_self, hk⟩, fun a e => (h.yy a e).imp id (fun ⟨k, hk, e⟩ => ⟨k, List.mem_cons_of_mem _ hk, e⟩)⟩
  · rcases List.mem_cons.1 hk with rfl | hk
    · exact h.hx _ h0
    · exact h.all k hk
  · by_cases e : a = m.fi
    · exact ⟨m, List.mem_cons_self, hk, e.symm, by omega⟩
    · obtain ⟨k, hk, e'⟩ := h.no a (by rw [q.heard hm, e1]; simp [e]) e2 e3
      exact ⟨k, List.mem_cons_of_mem _ hk, e'⟩
theorem Still.take {α : Type} {k0 : Int} {zs : List Int} {x : TS Unit} {y : TS α} {rf : Bool} {top : Int} {l : List Ms} {x' : TS Unit} {y' : TS α} {rf' : Bool} {top' : Int} {m : Ms} {v : α} (q : QOk zs x y rf) (hm : m.fi ∈ missL x) (hk0 : m.k = k0)
    (h : Still k0 (hearS x m.fi) (takeS y m.fi v) rf top l x' y' rf' top') : Still k0 x y rf top (m :: l) x' y' rf' top' := by
  have hh : ∀ a, (x.v a).isSome = true → ((hearS x m.fi).v a).isSome = true := fun a e => by rw [q.heard hm, e]; rfl
  have h0 : ((hearS x m.fi).v m.fi).isSome = true := by rw [q.heard hm]; simp
  have h1 : ((takeS y m.fi v).v m.fi).isSome = true := by rw [q.took hm]; simp
  refine ⟨fun a e => h.hx a (hh a e), fun a e => h.hy a (by rw [q.took hm, e]; rfl), fun k hk => ?_, fun a e1 e2 e3 => ?_, h.top, fun e => (h.rf e).imp id (fun ⟨k, hk, e⟩ => ⟨k, List.mem_cons_of_mem _ hk, e⟩), fun a e => ?_⟩
  · rcases List.mem_cons.1 hk with rfl | hk
    · exact h.hx _ h0
    · exact h.all k hk
  · by_cases e : a = m.fi
    · rw [e, h.hy _ h1] at e3; exact nomatch e3
    · obtain ⟨k, hk, e'⟩ := h.no a (by rw [q.heard hm, e1]; simp [e]) e2 e3
      exact ⟨k, List.mem_cons_of_mem _ hk, e'⟩
  · rcases h.yy a e with e | ⟨k, hk, e⟩
    · rw [q.took hm, Bool.or_eq_true, beq_iff_eq] at e
      exact e.imp id (fun e => ⟨m, List.mem_cons_self, hk0, e.symm⟩)
    · exact .inr ⟨k, List.mem_cons_of_mem _ hk, e⟩
theorem not_miss {x : TS Unit} {a : Int} (h : a ∉ missL x) (ha : a ∈ x.g) : (x.v a).isSome = true := by
  cases e : (x.v a).isSome
  · exact absurd (mem_miss.2 ⟨ha, e⟩) h
  · rfl
/-- What a question of the second phase becomes. -/
theorem foldA {zs : List Int} (hz : zs.Nodup) : ∀ (l : List Ms) (s : PS) (c : Cm) (x y : TS Unit) (rf : Bool), s.ph = .acc c x y rf → s.zs = zs → QOk zs x y rf → (∀ m, m ∈ l → AnsQ s 15 m) →
    (∃ d, (foldT s l).1.ph = .dec d) ∨ ∃ x' y' rf' T, foldT s l = ({ s with top := T, ph := .acc c x' y' rf' }, []) ∧ QOk zs x' y' rf' ∧ Still 15 x y rf s.top l x' y' rf' T
  | [], s, c, x, y, rf, hs, g, q, _ => .inr ⟨x, y, rf, s.top, by rw [← hs]; rfl, q, Still.nil 15 x y rf s.top⟩
  | m :: l, s, c, x, y, rf, hs, g, q, hl => by
    have hm := hl m List.mem_cons_self
    have hl' : ∀ k, k ∈ l → AnsQ s 15 k := fun k hk => hl k (List.mem_cons_of_mem _ hk)
    have e0 : taksS s m [] [] = othS s x (fun x' => .acc c x' y true) m [] [] (takA s c x y rf m) := by unfold taksS; rw [hs]
    have mz : m.fi ∈ x.g := by rw [q.gx, ← g]; exact hm.mem
    unfold othS at e0
    rw [if_pos hm.an] at e0
    have past : taksS s m [] [] = (s, []) → (x.v m.fi).isSome = true → (∃ d, (foldT s (m :: l)).1.ph = .dec d) ∨ ∃ x' y' rf' T, foldT s (m :: l) = ({ s with top := T, ph := .acc c x' y' rf' }, []) ∧ QOk zs x' y' rf' ∧ Still 15 x y rf s.top (m :: l) x' y' rf' T := fun e h => by
      rw [foldT_keep e]
      rcases foldA hz l s c x y rf hs g q hl' with r | ⟨x', y', rf', T, r1, r2, r3⟩
      · exact .inl r
      · exact .inr ⟨x', y', rf', T, r1, r2, r3.past h⟩
    rcases hm.kd with ⟨hk, hst⟩ | hk | hk
    · rw [hk] at e0
      rw [if_neg (by decide), if_neg (by decide), if_neg (by decide), if_pos (by decide)] at e0
      unfold takA at e0
      by_cases hmi : m.fi ∈ missL x
      · rw [if_pos (by rw [hst, hk, decide_eq_true hmi]; rfl)] at e0
        cases ht : takeB y m.fi
        · rw [ht, if_neg (by decide)] at e0
          rw [foldT_to e0]
          rcases foldA hz l { s with ph := .acc c (hearS x m.fi) (takeS y m.fi ()) rf } c _ _ _ rfl g (q.take hz hmi () ht) (fun k hk => ⟨(hl' k hk).an, (hl' k hk).kd⟩) with r | ⟨x', y', rf', T, r1, r2, r3⟩
          · exact .inl r
          · exact .inr ⟨x', y', rf', T, r1, r2, r3.take q hmi hk⟩
        · rw [ht, if_pos rfl] at e0
          left
          show ∃ d, (foldT (taksS s m [] []).1 l).1.ph = .dec d
          rw [e0, foldT_dec (s := { s with ph := .dec c }) rfl l]
          exact ⟨c, rfl⟩
      · rw [if_neg (by rw [decide_eq_false hmi]; simp)] at e0
        exact past e0 (not_miss hmi mz)
    · rw [hk] at e0
      rw [if_neg (by decide), if_neg (by decide), if_pos (by decide)] at e0
      by_cases hmi : m.fi ∈ missL x
      · rw [if_pos hmi] at e0
        rw [foldT_to e0]
        rcases foldA hz l { s with top := max s.top m.st.n, ph := .acc c (hearS x m.fi) y true } c _ _ _ rfl g (q.nack hmi) (fun k hk => ⟨(hl' k hk).an, (hl' k hk).kd⟩) with r | ⟨x', y', rf', T, r1, r2, r3⟩
        · exact .inl r
        · exact .inr ⟨x', y', rf', T, r1, r2, r3.nack q hmi hk⟩
      · rw [if_neg hmi] at e0
        exact past e0 (not_miss hmi mz)
    · rw [hk] at e0
      rw [if_pos (by decide)] at e0
      left
      rw [foldT_to e0, foldT_dec (s := { s with ph := .dec m.c }) rfl l]
      exact ⟨m.c, rfl⟩
/-- A second phase that has just begun. -/
def accOf (s : PS) (T : Int) (c : Cm) : PS := { s with top := T, rd := wr1 s.rd, ph := .acc c (tNew Unit s.zs (s.zs.length : Int)) (tNew Unit s.zs (needN s.zs.length)) false }
/-- What a question of the first phase becomes. -/
theorem foldP {zs : List Int} (hz : zs.Nodup) : ∀ (l : List Ms) (s : PS) (x : TS Unit) (y : TS Vt) (rf : Bool), s.ph = .pre x y rf → s.zs = zs → QOk zs x y rf → okN s.n = true → okN (wr1 s.rd) = true → wr1 s.rd ≠ s.rd → (∀ m, m ∈ l → AnsQ s 13 m) →
    (∃ d, (foldT s l).1.ph = .dec d) ∨ (∃ c T q, foldT s l = (accOf s T c, zs.map (accM (accOf s T c).v0 c).to) ∧ s.top ≤ T ∧ Maj zs q ∧ ∀ a, q a = true → (y.v a).isSome = true ∨ ∃ m, m ∈ l ∧ m.k = 13 ∧ m.fi = a) ∨
    ∃ x' y' rf' T, foldT s l = ({ s with top := T, ph := .pre x' y' rf' }, []) ∧ QOk zs x' y' rf' ∧ Still 13 x y rf s.top l x' y' rf' T
  | [], s, x, y, rf, hs, g, q, _, _, _, _ => .inr (.inr ⟨x, y, rf, s.top, by rw [← hs]; rfl, q, Still.nil 13 x y rf s.top⟩)
  | m :: l, s, x, y, rf, hs, g, q, o1, o2, hr, hl => by
    have hm := hl m List.mem_cons_self
    have hl' : ∀ k, k ∈ l → AnsQ s 13 k := fun k hk => hl k (List.mem_cons_of_mem _ hk)
    have e0 : taksS s m [] [] = othS s x (fun x' => .pre x' y true) m [] [] (takP s x y rf m) := by unfold taksS; rw [hs]
    have mz : m.fi ∈ x.g := by rw [q.gx, ← g]; exact hm.mem
    unfold othS at e0
    rw [if_pos hm.an] at e0
    have past : taksS s m [] [] = (s, []) → (x.v m.fi).isSome = true → (∃ d, (foldT s (m :: l)).1.ph = .dec d) ∨ (∃ c T q, foldT s (m :: l) = (accOf s T c, zs.map (accM (accOf s T c).v0 c).to) ∧ s.top ≤ T ∧ Maj zs q ∧ ∀ a, q a = true → (y.v a).isSome = true ∨ ∃ k, k ∈ m :: l ∧ k.k = 13 ∧ k.fi = a) ∨
        ∃ x' y' rf' T, foldT s (m :: l) = ({ s with top := T, ph := .pre x' y' rf' }, []) ∧ QOk zs x' y' rf' ∧ Still 13 x y rf s.top (m :: l) x' y' rf' T := fun e h => by
      rw [foldT_keep e]
      rcases foldP hz l s x y rf hs g q o1 o2 hr hl' with r | ⟨c, T, q', r1, r2, r3, r4⟩ | ⟨x', y', rf', T, r1, r2, r3⟩
      · exact .inl r
      · exact .inr (.inl ⟨c, T, q', r1, r2, r3, fun a ha => (r4 a ha).imp id (fun ⟨k, hk, e⟩ => ⟨k, List.mem_cons_of_mem _ hk, e⟩)⟩)
      · exact .inr (.inr ⟨x', y', rf', T, r1, r2, r3.past h⟩)
    rcases hm.kd with ⟨hk, hst⟩ | hk | hk
    · rw [hk] at e0
      rw [if_neg (by decide), if_neg (by decide), if_neg (by decide), if_pos (by decide)] at e0
      unfold takP at e0
      by_cases hmi : m.fi ∈ missL x
      · rw [if_pos (by rw [hst, hk, decide_eq_true hmi]; rfl)] at e0
        cases ht : takeB y m.fi
        · rw [ht, if_neg (by decide)] at e0
          rw [foldT_to e0]
          rcases foldP hz l { s with ph := .pre (hearS x m.fi) (takeS y m.fi (msV m)) rf } _ _ _ rfl g (q.take hz hmi _ ht) o1 o2 hr (fun k hk => ⟨(hl' k hk).an, (hl' k hk).kd⟩) with r | ⟨c, T, q', r1, r2, r3, r4⟩ | ⟨x', y', rf', T, r1, r2, r3⟩
          · exact .inl r
          · refine .inr (.inl ⟨c, T, q', r1, r2, r3, fun a ha => ?_⟩)
            rcases r4 a ha with e | ⟨k, hk, e⟩
            · rw [q.took hmi, Bool.or_eq_true, beq_iff_eq] at e
              exact e.imp id (fun e => ⟨m, List.mem_cons_self, hk, e.symm⟩)
            · exact .inr ⟨k, List.mem_cons_of_mem _ hk, e⟩
          · exact .inr (.inr ⟨x', y', rf', T, r1, r2, r3.take q hmi hk⟩)
        · rw [ht, if_pos rfl] at e0
          unfold accS at e0
          rw [if_pos (by rw [o1, o2]; rfl)] at e0
          refine .inr (.inl ⟨choiceS s (takeS y m.fi (msV m)), max s.top s.n, fun a => ((takeS y m.fi (msV m)).v a).isSome, ?_, by omega, take_maj hz q.gy q.ny ht, fun a e => ?_⟩)
          · show ((foldT (taksS s m [] []).1 l).1, (taksS s m [] []).2 ++ (foldT (taksS s m [] []).1 l).2) = _
            rw [e0]
            have hp := foldT_pass (s := accOf s (max s.top s.n) (choiceS s (takeS y m.fi (msV m)))) l (fun k hk => ans_other (by rw [(hl' k hk).rd]; exact Ne.symm hr))
            show ((foldT (accOf s (max s.top s.n) (choiceS s (takeS y m.fi (msV m)))) l).1, _ ++ (foldT (accOf s (max s.top s.n) (choiceS s (takeS y m.fi (msV m)))) l).2) = _
            rw [hp, List.append_nil, g]
            rfl
          · have e : ((takeS y m.fi (msV m)).v a).isSome = true := e
            rw [q.took hmi, Bool.or_eq_true, beq_iff_eq] at e
            exact e.imp id (fun e => ⟨m, List.mem_cons_self, hk, e.symm⟩)
      · rw [if_neg (by rw [decide_eq_false hmi]; simp)] at e0
        exact past e0 (not_miss hmi mz)
    · rw [hk] at e0
      rw [if_neg (by decide), if_neg (by decide), if_pos (by decide)] at e0
      by_cases hmi : m.fi ∈ missL x
      · rw [if_pos hmi] at e0
        rw [foldT_to e0]
        rcases foldP hz l { s with top := max s.top m.st.n, ph := .pre (hearS x m.fi) y true } _ _ _ rfl g (q.nack hmi) o1 o2 hr (fun k hk => ⟨(hl' k hk).an, (hl' k hk).kd⟩) with r | ⟨c, T, q', r1, r2, r3, r4⟩ | ⟨x', y', rf', T, r1, r2, r3⟩
        · exact .inl r
        · exact .inr (.inl ⟨c, T, q', r1, Int.le_trans (by show s.top ≤ max s.top m.st.n; omega) r2, r3, fun a ha => (r4 a ha).imp id (fun ⟨k, hk, e⟩ => ⟨k, List.mem_cons_of_mem _ hk, e⟩)⟩)
        · exact .inr (.inr ⟨x', y', rf', T, r1, r2, r3.nack q hmi hk⟩)
      · rw [if_neg hmi] at e0
        exact past e0 (not_miss hmi mz)
    · rw [hk] at e0
      rw [if_pos (by decide)] at e0
      left
      rw [foldT_to e0, foldT_dec (s := { s with ph := .dec m.c }) rfl l]
      exact ⟨m.c, rfl⟩

end Pax

end Go.Proofs.Ytpabpeppgpeaoaa
/-! One exchange: a question goes to servers, they answer, the answers are taken. -/

namespace Go.Proofs.Ytpabpeppgpeaoaa
open Go.RowKit Gt
set_option linter.unusedVariables false
set_option linter.unusedSimpArgs false

namespace Pax

def updA (A : Int → In) (a : Int) (i : In) : Int → In := fun b => if b = a then i else A b
def servO (A : Int → In) (m : Ms) : In × Ms := if m.k = 3 then prepA (A m.ti) m else accA (A m.ti) m
def servS : (Int → In) → List Ms → (Int → In) × List Ms
  | A, [] => (A, [])
  | A, m :: l => ((servS (updA A m.ti (servO A m).1) l).1, (servO A m).2 :: (servS (updA A m.ti (servO A m).1) l).2)
/-- A message of s's question; kq its kind. -/
structure Req (s : PS) (kq : Int) (m : Ms) : Prop where
  k : m.k = kq
  fc : m.fc = true
  fi : m.fi = s.cl
  op : m.op = s.op
  rd : m.rd = s.rd
  ky : m.ky = s.ky
  tc : m.tc = false
  ti : m.ti ∈ s.zs
  st : m.st = ⟨s.n, s.cl⟩
theorem req_prep {s : PS} {z : Int} (h : z ∈ s.zs) : Req s 3 ((prepM s.v0).to z) := ⟨rfl, rfl, rfl, rfl, rfl, rfl, rfl, h, rfl⟩
theorem req_acc {s : PS} {c : Cm} {z : Int} (h : z ∈ s.zs) : Req s 4 ((accM s.v0 c).to z) := ⟨rfl, rfl, rfl, rfl, rfl, rfl, rfl, h, rfl⟩
theorem Req.an {s : PS} {kq : Int} {m : Ms} (r : Req s kq m) (k : Int) (st hd : Sp) (c : Cm) : ansB s.v0 s.zs (ans m k st hd c) = true := by
  unfold ansB eqA eqK hasB
  show (m.fc == true && m.fi == s.cl && (m.op == s.op && (m.rd == s.rd && ((m.ky.k == s.ky.k && (m.ky.a == s.ky.a && (m.ky.b == s.ky.b && m.ky.c == s.ky.c))) && (!m.tc && decide (m.ti ∈ s.zs)))))) = true
  rw [r.fc, r.fi, r.op, r.rd, r.ky, r.tc, decide_eq_true r.ti]
  simp
theorem eqS_self (b : Sp) : eqS b b = true := eqS_refl b
theorem lt_self (b : Sp) : ltS b b = false := by unfold ltS; simp
/-- How a server answers, by what it held. -/
def Cls (ka : Int) (b : Sp) (i : In) (m : Ms) : Prop := (i.d = true ∧ m.k = 16) ∨ (i.d = false ∧ ltS b i.p = true ∧ m.k = 14 ∧ m.st = i.p) ∨ (i.d = false ∧ ltS b i.p = false ∧ m.k = ka)
theorem serv_one {s : PS} {kq ka : Int} (hk : (kq = 3 ∧ ka = 13) ∨ (kq = 4 ∧ ka = 15)) {m : Ms} (r : Req s kq m) (A : Int → In) :
    AnsQ s ka (servO A m).2 ∧ (servO A m).2.fi = m.ti ∧ Cls ka ⟨s.n, s.cl⟩ (A m.ti) (servO A m).2 ∧ (servO A m).1.d = (A m.ti).d ∧
      (((servO A m).1.p = (A m.ti).p ∧ ((A m.ti).d = true ∨ ltS ⟨s.n, s.cl⟩ (A m.ti).p = true)) ∨ ((servO A m).1.p = ⟨s.n, s.cl⟩ ∧ ltS ⟨s.n, s.cl⟩ (A m.ti).p = false ∧ (A m.ti).d = false)) := by
  have st := r.st
  have pr : ∀ i : In, (prepA i m = (i, ans m 16 sZ sZ i.c) ∧ i.d = true) ∨ (prepA i m = (i, ans m 14 i.p sZ cZ) ∧ i.d = false ∧ ltS m.st i.p = true) ∨ (prepA i m = (⟨m.st, i.a, i.c, i.d⟩, ans m 13 m.st i.a i.c) ∧ i.d = false ∧ ltS m.st i.p = false) := fun i => by
    unfold prepA
    cases hd : i.d
    · cases hl : ltS m.st i.p
      · exact .inr (.inr ⟨rfl, rfl, rfl⟩)
      · exact .inr (.inl ⟨rfl, rfl, rfl⟩)
    · exact .inl ⟨rfl, rfl⟩
  have ac : ∀ i : In, (accA i m = (i, ans m 16 sZ sZ i.c) ∧ i.d = true) ∨ (accA i m = (i, ans m 14 i.p sZ cZ) ∧ i.d = false ∧ ltS m.st i.p = true) ∨ (accA i m = (⟨m.st, m.st, m.c, false⟩, ans m 15 m.st sZ cZ) ∧ i.d = false ∧ ltS m.st i.p = false) := fun i => by
    unfold accA
    cases hd : i.d
    · cases hl : ltS m.st i.p
      · exact .inr (.inr ⟨rfl, rfl, rfl⟩)
      · exact .inr (.inl ⟨rfl, rfl, rfl⟩)
    · exact .inl ⟨rfl, rfl⟩
  rcases hk with ⟨k1, k2⟩ | ⟨k1, k2⟩
  · have e0 : servO A m = prepA (A m.ti) m := if_pos (r.k.trans k1)
    rw [e0, k2, ← st]
    rcases pr (A m.ti) with ⟨e, h1⟩ | ⟨e, h1, h2⟩ | ⟨e, h1, h2⟩
    · rw [e]; exact ⟨⟨r.an _ _ _ _, .inr (.inr rfl)⟩, rfl, .inl ⟨h1, rfl⟩, rfl, .inl ⟨rfl, .inl h1⟩⟩
    · rw [e]; exact ⟨⟨r.an _ _ _ _, .inr (.inl rfl)⟩, rfl, .inr (.inl ⟨h1, h2, rfl, rfl⟩), rfl, .inl ⟨rfl, .inr h2⟩⟩
    · rw [e]; exact ⟨⟨r.an _ _ _ _, .inl ⟨rfl, by rw [← st]; exact eqS_self _⟩⟩, rfl, .inr (.inr ⟨h1, h2, rfl⟩), rfl, .inr ⟨rfl, h2, h1⟩⟩
  · have e0 : servO A m = accA (A m.ti) m := if_neg (by rw [r.k, k1]; decide)
    rw [e0, k2, ← st]
    rcases ac (A m.ti) with ⟨e, h1⟩ | ⟨e, h1, h2⟩ | ⟨e, h1, h2⟩
    · rw [e]; exact ⟨⟨r.an _ _ _ _, .inr (.inr rfl)⟩, rfl, .inl ⟨h1, rfl⟩, rfl, .inl ⟨rfl, .inl h1⟩⟩
    · rw [e]; exact ⟨⟨r.an _ _ _ _, .inr (.inl rfl)⟩, rfl, .inr (.inl ⟨h1, h2, rfl, rfl⟩), rfl, .inl ⟨rfl, .inr h2⟩⟩
    · rw [e]; exact ⟨⟨r.an _ _ _ _, .inl ⟨rfl, by rw [← st]; exact eqS_self _⟩⟩, rfl, .inr (.inr ⟨h1, h2, rfl⟩), h1.symm, .inr ⟨rfl, h2, h1⟩⟩
/-- All that the servers answer, and how they stand behind it, by what they held ahead of it. -/
theorem serv_all {s : PS} {kq ka : Int} (hk : (kq = 3 ∧ ka = 13) ∨ (kq = 4 ∧ ka = 15)) : ∀ (l : List Ms) (A : Int → In), (∀ m, m ∈ l → Req s kq m) →
    (∀ m, m ∈ (servS A l).2 → AnsQ s ka m ∧ (∃ r, r ∈ l ∧ r.ti = m.fi) ∧ Cls ka ⟨s.n, s.cl⟩ (A m.fi) m) ∧ (∀ r, r ∈ l → ∃ m, m ∈ (servS A l).2 ∧ m.fi = r.ti) ∧
      ∀ a, ((servS A l).1 a).d = (A a).d ∧ (((servS A l).1 a).p = (A a).p ∨ (ltS ⟨s.n, s.cl⟩ (A a).p = false ∧ ((servS A l).1 a).p = ⟨s.n, s.cl⟩)) ∧
        ((∃ r, r ∈ l ∧ r.ti = a) → (A a).d = false → ltS ⟨s.n, s.cl⟩ (A a).p = false → ((servS A l).1 a).p = ⟨s.n, s.cl⟩)
  | [], A, _ => ⟨fun m hm => absurd hm (by show ¬ (m ∈ ([] : List Ms)); simp), fun r hr => absurd hr (by simp), fun a => ⟨rfl, .inl rfl, fun ⟨r, hr, _⟩ => absurd hr (by simp)⟩⟩
  | m :: l, A, h => by
    have r := h m List.mem_cons_self
    obtain ⟨o1, o2, o3, o4, o5⟩ := serv_one hk r A
    obtain ⟨i1, i2, i3⟩ := serv_all hk l (updA A m.ti (servO A m).1) (fun k hk => h k (List.mem_cons_of_mem _ hk))
    have hA : ∀ a, a ≠ m.ti → updA A m.ti (servO A m).1 a = A a := fun a e => if_neg e
    have hB : updA A m.ti (servO A m).1 m.ti = (servO A m).1 := if_pos rfl
    have cls : ∀ a k, Cls ka ⟨s.n, s.cl⟩ (updA A m.ti (servO A m).1 a) k → Cls ka ⟨s.n, s.cl⟩ (A a) k := fun a k e => by
      by_cases ea : a = m.ti
      · subst ea
        rw [hB] at e
        rcases o5 with ⟨p1, p2⟩ | ⟨p1, p2, p3⟩
        · unfold Cls at *; rw [o4, p1] at e; exact e
        · unfold Cls at *
          rw [o4, p1, lt_self] at e
          rcases e with e | ⟨_, e, _⟩ | ⟨e1, _, e2⟩
          · exact .inl e
          · exact nomatch e
          · exact .inr (.inr ⟨e1, p2, e2⟩)
      · rw [hA a ea] at e; exact e
    refine ⟨fun k hk => ?_, fun k hk => ?_, fun a => ?_⟩
    · rcases List.mem_cons.1 hk with rfl | hk
      · exact ⟨o1, ⟨m, List.mem_cons_self, o2.symm⟩, by rw [o2]; exact o3⟩
      · obtain ⟨j1, ⟨r', j2, j3⟩, j4⟩ := i1 k hk
        exact ⟨j1, ⟨r', List.mem_cons_of_mem _ j2, j3⟩, cls _ _ j4⟩
    · rcases List.mem_cons.1 hk with rfl | hk
      · exact ⟨_, List.mem_cons_self, o2⟩
      · obtain ⟨j, j1, j2⟩ := i2 k hk
        exact ⟨j, List.mem_cons_of_mem _ j1, j2⟩
    · obtain ⟨j1, j2, j3⟩ := i3 a
      show ((servS (updA A m.ti (servO A m).1) l).1 a).d = (A a).d ∧ (((servS (updA A m.ti (servO A m).1) l).1 a).p = (A a).p ∨ (ltS ⟨s.n, s.cl⟩ (A a).p = false ∧ ((servS (updA A m.ti (servO A m).1) l).1 a).p = ⟨s.n, s.cl⟩)) ∧
        ((∃ r, r ∈ m :: l ∧ r.ti = a) → (A a).d = false → ltS ⟨s.n, s.cl⟩ (A a).p = false → ((servS (updA A m.ti (servO A m).1) l).1 a).p = ⟨s.n, s.cl⟩)
      by_cases ea : a = m.ti
      · subst ea
        rw [hB] at j1 j2 j3
        rcases o5 with ⟨p1, p2⟩ | ⟨p1, p2, p3⟩
        · rw [p1] at j2 j3
          rw [o4] at j1 j3
          refine ⟨j1, j2, fun _ e1 e2 => ?_⟩
          rcases p2 with p2 | p2
          · rw [p2] at e1; exact nomatch e1
          · rw [p2] at e2; exact nomatch e2
        · rw [p1] at j2
          have e : ((servS (updA A m.ti (servO A m).1) l).1 m.ti).p = ⟨s.n, s.cl⟩ := j2.elim id And.right
          exact ⟨j1.trans o4, .inr ⟨p2, e⟩, fun _ _ _ => e⟩
      · rw [hA a ea] at j1 j2 j3
        refine ⟨j1, j2, fun ⟨r', e1, e2⟩ => j3 ?_⟩
        rcases List.mem_cons.1 e1 with rfl | e1
        · exact absurd e2.symm ea
        · exact ⟨r', e1, e2⟩
/-- What still stands when all that live have answered. -/
theorem still_out {α : Type} {zs : List Int} {s : PS} {kq ka : Int} (hk : (kq = 3 ∧ ka = 13) ∨ (kq = 4 ∧ ka = 15)) (nt : s.n ≤ s.top) {x : TS Unit} {y : TS α} {rf : Bool} (q : QOk zs x y rf) {l : List Ms} (hl : ∀ m, m ∈ l → Req s kq m) {live : Int → Bool} (hM : Maj zs live)
    (ask : ∀ a, a ∈ zs → live a = true → (x.v a).isSome = true ∨ ∃ r, r ∈ l ∧ r.ti = a) (A : Int → In) {x' : TS Unit} {y' : TS α} {rf' : Bool} {T : Int} (q' : QOk zs x' y' rf') (S : Still ka x y rf s.top (servS A l).2 x' y' rf' T) :
    rf' = true ∧ (∀ a, a ∈ zs → live a = true → (x.v a).isSome = false → ((servS A l).1 a).d = true ∨ ((servS A l).1 a).p.n ≤ T) ∧
      (rf = true ∨ ∃ r, r ∈ l ∧ (A r.ti).d = false ∧ ltS ⟨s.n, s.cl⟩ (A r.ti).p = true) ∧
      ∀ Q : Int → Bool, Maj zs Q → ¬ ∀ a, a ∈ zs → Q a = true → (y.v a).isSome = true ∨ ((x.v a).isSome = false ∧ live a = true ∧ ((A a).d = true ∨ ltS ⟨s.n, s.cl⟩ (A a).p = false)) := by
  obtain ⟨i1, i2, i3⟩ := serv_all hk l A hl
  have nk : ka ≠ 14 := by rcases hk with ⟨_, e⟩ | ⟨_, e⟩ <;> rw [e] <;> decide
  have heard : ∀ a, a ∈ zs → live a = true → (x'.v a).isSome = true := fun a ha la => by
    rcases ask a ha la with e | ⟨r, hr, e⟩
    · exact S.hx a e
    · obtain ⟨m, hm, e2⟩ := i2 r hr
      rw [← e, ← e2]; exact S.all m hm
  have rt : rf' = true := q'.refused hM heard
  refine ⟨rt, fun a ha la e => ?_, ?_, fun Q hQ hall => ?_⟩
  · obtain ⟨j1, j2, j3⟩ := i3 a
    cases hd : (A a).d
    · right
      cases hy : (y'.v a).isSome
      · obtain ⟨m, hm, e1, e2, e3⟩ := S.no a e (heard a ha la) hy
        obtain ⟨_, _, c⟩ := i1 m hm
        rw [e2] at c
        rcases c with ⟨c, _⟩ | ⟨_, c1, _, c2⟩ | ⟨_, _, c⟩
        · rw [c] at hd; exact nomatch hd
        · rcases j2 with j2 | ⟨j2, _⟩
          · rw [j2, ← c2]; exact e3
          · rw [j2] at c1; exact nomatch c1
        · exact absurd (c.symm.trans e1) nk
      · rcases S.yy a hy with e1 | ⟨m, hm, e1, e2⟩
        · rw [q.sub a e1] at e; exact nomatch e
        · obtain ⟨_, ⟨r, r1, r2⟩, c⟩ := i1 m hm
          rw [e2] at c r2
          rcases c with ⟨c, _⟩ | ⟨_, _, c, _⟩ | ⟨c1, c2, _⟩
          · rw [c] at hd; exact nomatch hd
          · exact absurd (e1.symm.trans c) nk
          · rw [j3 ⟨r, r1, r2⟩ c1 c2]
            exact Int.le_trans nt S.top
    · left; rw [j1]; exact hd
  · rcases S.rf rt with e | ⟨m, hm, e⟩
    · exact .inl e
    · obtain ⟨_, ⟨r, r1, r2⟩, c⟩ := i1 m hm
      right
      rw [← r2] at c
      rcases c with ⟨_, c⟩ | ⟨c1, c2, _⟩ | ⟨_, _, c⟩
      · rw [e] at c; exact absurd c (by decide)
      · exact ⟨r, r1, c1, c2⟩
      · exact absurd (c.symm.trans e) nk
  · refine q'.most hQ fun a ha Qa => ?_
    rcases hall a ha Qa with e | ⟨e1, e2, e3⟩
    · exact S.hy a e
    · cases hy : (y'.v a).isSome
      · obtain ⟨m, hm, f1, f2, _⟩ := S.no a e1 (heard a ha e2) hy
        obtain ⟨_, _, c⟩ := i1 m hm
        rw [f2] at c
        rcases c with ⟨_, c⟩ | ⟨c1, c2, _⟩ | ⟨_, _, c⟩
        · rw [f1] at c; exact absurd c (by decide)
        · rcases e3 with e3 | e3
          · rw [e3] at c1; exact nomatch c1
          · rw [e3] at c2; exact nomatch c2
        · exact absurd (c.symm.trans f1) nk
      · rfl

end Pax

end Go.Proofs.Ytpabpeppgpeaoaa
