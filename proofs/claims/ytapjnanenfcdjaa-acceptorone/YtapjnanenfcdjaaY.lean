import Derived.Test.YtapjnanenfcdjaaX
namespace Go.Proofs.Ytapjnanenfcdjaa
open Go.RowKit
set_option linter.unusedVariables false
set_option linter.unusedSimpArgs false

theorem sA {α : Type} (l : List α) (i : Nat) (x : α) : l.toArray.setIfInBounds i x = (l.set i x).toArray := by simp
theorem s0 {α : Type} (l : List α) (a x : α) : (a :: l).set 0 x = x :: l := rfl
theorem s1 {α : Type} (l : List α) (a x : α) (n : Nat) : (a :: l).set (n + 1) x = a :: l.set n x := rfl

def Px.addP (x : Px) (s : Int) (a : Option Addr) (c : Nat) : Px := ⟨⟨x.v.b, x.v.pr ++ [s], x.v.h, x.v.c, x.v.ch, x.v.ac⟩, a, c, x.aa, x.ac⟩
def Px.addA (x : Px) (s : Int) (a : Option Addr) (c : Nat) : Px := ⟨⟨x.v.b, x.v.pr, x.v.h, x.v.c, x.v.ch, x.v.ac ++ [s]⟩, x.pa, x.pc, a, c⟩
def Px.setH (x : Px) (h : Sp) : Px := ⟨⟨x.v.b, x.v.pr, h, x.v.c, x.v.ch, x.v.ac⟩, x.pa, x.pc, x.aa, x.ac⟩
def Px.setC (x : Px) (c : Cm) : Px := ⟨⟨x.v.b, x.v.pr, x.v.h, c, x.v.ch, x.v.ac⟩, x.pa, x.pc, x.aa, x.ac⟩
def Px.setB (x : Px) (b : Bool) : Px := ⟨⟨x.v.b, x.v.pr, x.v.h, x.v.c, b, x.v.ac⟩, x.pa, x.pc, x.aa, x.ac⟩
section
variable {w : World} {g : Nat} {x : Px}
theorem store_addP (hb : Box w g 87 x.cells) (s : Int) (a : Option Addr) (c : Nat) : (storeVar 33 ⟨g, 2, none⟩ (.slice a (x.v.pr.length + 1) c)).run Try.prog w = .ok () (w.setRow g (x.addP s a c).cells) := by
  rw [run_store_at (ty := 33) (off := 2) (vs := [.slice a (x.v.pr.length + 1) c]) (cur := x.cs) hb rfl Try.size33 (by rw [Px.len]; simp) (by intro q hq; simp at hq; subst hq; rfl)]
  have e : putL x.cs 2 [.slice a (x.v.pr.length + 1) c] = (x.addP s a c).cs := by simp [putL, Px.cs, Px.addP, Cm.cs]
  rw [e]; rfl
theorem store_addA (hb : Box w g 87 x.cells) (s : Int) (a : Option Addr) (c : Nat) : (storeVar 33 ⟨g, 15, none⟩ (.slice a (x.v.ac.length + 1) c)).run Try.prog w = .ok () (w.setRow g (x.addA s a c).cells) := by
  rw [run_store_at (ty := 33) (off := 15) (vs := [.slice a (x.v.ac.length + 1) c]) (cur := x.cs) hb rfl Try.size33 (by rw [Px.len]; simp) (by intro q hq; simp at hq; subst hq; rfl)]
  have e : putL x.cs 15 [.slice a (x.v.ac.length + 1) c] = (x.addA s a c).cs := by simp [putL, Px.cs, Px.addA, Cm.cs]
  rw [e]; rfl
theorem store_setH (hb : Box w g 87 x.cells) (h : Sp) : (storeVar 23 ⟨g, 3, none⟩ (.agg #[.int .i64 h.n, .int .i64 h.c])).run Try.prog w = .ok () (w.setRow g (x.setH h).cells) := by
  rw [run_store_at (ty := 23) (off := 3) (vs := [.int .i64 h.n, .int .i64 h.c]) (cur := x.cs) hb rfl Try.size23 (by rw [Px.len]; simp) (by intro q hq; simp at hq; rcases hq with rfl | rfl <;> rfl)]
  have e : putL x.cs 3 [.int .i64 h.n, .int .i64 h.c] = (x.setH h).cs := by simp [putL, Px.cs, Px.setH, Cm.cs]
  rw [e]; rfl
theorem store_setC (hb : Box w g 87 x.cells) (c : Cm) : (storeVar 27 ⟨g, 5, none⟩ (.agg c.cells)).run Try.prog w = .ok () (w.setRow g (x.setC c).cells) := by
  rw [run_store_at (ty := 27) (off := 5) (vs := c.cs) (cur := x.cs) hb rfl Try.size27 (by rw [Px.len, Cm.len]; omega) (list_one (x := []) c.one)]
  have e : putL x.cs 5 c.cs = (x.setC c).cs := by simp [putL, Px.cs, Px.setC, Cm.cs]
  rw [e]; rfl
theorem store_setB (hb : Box w g 87 x.cells) (b : Bool) : (storeVar 4 ⟨g, 14, none⟩ (.bool b)).run Try.prog w = .ok () (w.setRow g (x.setB b).cells) := by
  rw [run_store_at (ty := 4) (off := 14) (vs := [.bool b]) (cur := x.cs) hb rfl Try.size4 (by rw [Px.len]; simp) (by intro q hq; simp at hq; subst hq; rfl)]
  have e : putL x.cs 14 [.bool b] = (x.setB b).cs := by simp [putL, Px.cs, Px.setB, Cm.cs]
  rw [e]; rfl
theorem load_PS2 (hb : Box w g 87 x.cells) : (loadVar 33 ⟨g, 2, none⟩).run Try.prog w = .ok (.slice x.pa x.v.pr.length x.pc) w := load_one (hb.cell 2) Try.und33 rfl
theorem load_PS15 (hb : Box w g 87 x.cells) : (loadVar 33 ⟨g, 15, none⟩).run Try.prog w = .ok (.slice x.aa x.v.ac.length x.ac) w := load_one (hb.cell 15) Try.und33 rfl
theorem load_P14 (hb : Box w g 87 x.cells) : (loadVar 4 ⟨g, 14, none⟩).run Try.prog w = .ok (.bool x.v.ch) w := load_B (hb.cell 14)
end
theorem load_In {w : World} {bI : Nat} {is : List In} (hb : Box w bI 29 (is.map In.cs).flatten.toArray) {s : Nat} {i : In} (hi : is[s]? = some i) : (loadVar 29 ⟨bI, 0 + s * 14, none⟩).run Try.prog w = .ok (.agg i.cells) w := by
  refine run_load_cells (sub := i.cs) (fun j v hv => ?_) Try.und29 rfl Try.size29
  rw [hb.cell, List.getElem?_toArray, Nat.zero_add]
  exact flat_get (in_rows _) (by simp [hi]) hv
section
variable {w : World} {p f bI m ln lc : Nat} {la : Option Addr} {d : Cm}
theorem load_pF (hb : Box w p 69 (playC f bI m la ln lc d).toArray) : (loadVar 3 ⟨p, 0, none⟩).run Try.prog w = .ok (.int .i64 f) w := load_N (hb.cell 0)
theorem load_pI (hb : Box w p 69 (playC f bI m la ln lc d).toArray) : (loadVar 66 ⟨p, 1, none⟩).run Try.prog w = .ok (.slice (some ⟨bI, 0, none⟩) m m) w := load_one (hb.cell 1) Try.und66 rfl
theorem load_pL (hb : Box w p 69 (playC f bI m la ln lc d).toArray) : (loadVar 67 ⟨p, 2, none⟩).run Try.prog w = .ok (.slice la ln lc) w := load_one (hb.cell 2) Try.und67 rfl
theorem load_pD (hb : Box w p 69 (playC f bI m la ln lc d).toArray) : (loadVar 27 ⟨p, 3, none⟩).run Try.prog w = .ok (.agg d.cells) w := run_load_part hb (playC_partD f bI m la ln lc d) Try.und27 rfl Try.size27
theorem load_pK (hb : Box w p 69 (playC f bI m la ln lc d).toArray) : (loadVar 3 ⟨p, 3, none⟩).run Try.prog w = .ok (.int .i64 d.k) w := load_N (hb.cell 3)
end
/-- The play's blocks. -/
def PSet (p bI : Nat) (la : Option Addr) (xs : List Px) (g : Nat) : Prop := g = p ∨ g = bI ∨ At la g ∨ ∃ (k : Nat) (x : Px), xs[k]? = some x ∧ (At x.pa g ∨ At x.aa g)
def PlayOut (w0 w : World) (p bI : Nat) (la : Option Addr) (lc : Nat) (st : PS) (xs : List Px) (e : Ending) (w' : World) : Prop :=
  e = .returned (.bool true) ∧ ∃ (st' : PS) (xs' : List Px), PM w0 w' p bI la lc st' xs' none ∧ Inv st' ∧ st'.f = st.f ∧ xs'.length = xs.length ∧ Kept (PSet p bI la xs) w w'
/-- A promise laid down in its list: the new one in its place, or in new memory. -/
theorem PM.appP {w0 w w' : World} {p bI : Nat} {la : Option Addr} {lc : Nat} {st : PS} {xs : List Px} (h : PM w0 w p bI la lc st xs none) {k : Nat} {x : Px} (hx : xs[k]? = some x) (hk : Kept (At x.pa) w w') {g : Nat} (hg : At x.pa g ∨ g = w.heap.size) :
    PM w0 w' p bI la lc st xs (some (k, false)) ∧ (∀ (j : Nat) (z : Px), xs[j]? = some z → j ≠ k → ∀ q, (At (some ⟨g, 0, none⟩) q → ¬ At z.pa q ∧ ¬ At z.aa q) ∧ (At x.aa q → ¬ At z.pa q ∧ ¬ At z.aa q)) ∧ (∀ q, At (some ⟨g, 0, none⟩) q → ¬ At x.aa q) := by
  have ox := h.pown k x hx (by simp)
  have atg : ∀ q, At (some (⟨g, 0, none⟩ : Addr)) q → q = g := fun q ⟨ad, e, e2⟩ => by cases e; exact e2.symm
  refine ⟨⟨h.box.kept hk (fun e => own_box ox h.box (by decide) e rfl), h.ins.kept hk (fun e => own_box ox h.ins (by decide) e rfl), h.vals, h.row.kept hk (fun q e e2 => own_own h.row ox (by decide) e e2), ?_, ?_, h.ap, h.np, h.ni⟩, ?_, ?_⟩
  · intro j z hz hh
    refine (h.pown j z hz (by simp)).kept hk (fun q e e2 => hh ?_)
    rw [(h.ap k j x z hx hz q).1 e2 e]
  · intro j z hz _
    exact (h.aown j z hz (by simp)).kept hk (fun q e e2 => (h.ap k j x z hx hz q).2.2 e2 e)
  · intro j z hz hne q
    refine ⟨fun hq => ?_, fun hq => ⟨fun e => (h.ap j k z x hz hx q).2.2 e hq, fun e => hne ((h.ap j k z x hz hx q).2.1 e hq)⟩⟩
    rw [atg q hq]
    rcases hg with e | rfl
    · exact ⟨fun e2 => hne ((h.ap j k z x hz hx g).1 e2 e), fun e2 => (h.ap k j x z hx hz g).2.2 e e2⟩
    · exact ⟨fun e => absurd ((h.pown j z hz (by simp)).lt e) (by omega), fun e => absurd ((h.aown j z hz (by simp)).lt e) (by omega)⟩
  · intro q hq
    rw [atg q hq]
    rcases hg with e | rfl
    · exact (h.ap k k x x hx hx g).2.2 e
    · exact fun e => absurd ((h.aown k x hx (by simp)).lt e) (by omega)
theorem PM.appA {w0 w w' : World} {p bI : Nat} {la : Option Addr} {lc : Nat} {st : PS} {xs : List Px} (h : PM w0 w p bI la lc st xs none) {k : Nat} {x : Px} (hx : xs[k]? = some x) (hk : Kept (At x.aa) w w') {g : Nat} (hg : At x.aa g ∨ g = w.heap.size) :
    PM w0 w' p bI la lc st xs (some (k, true)) ∧ (∀ (j : Nat) (z : Px), xs[j]? = some z → j ≠ k → ∀ q, (At x.pa q → ¬ At z.pa q ∧ ¬ At z.aa q) ∧ (At (some ⟨g, 0, none⟩) q → ¬ At z.pa q ∧ ¬ At z.aa q)) ∧ (∀ q, At x.pa q → ¬ At (some (⟨g, 0, none⟩ : Addr)) q) := by
  have ox := h.aown k x hx (by simp)
  have atg : ∀ q, At (some (⟨g, 0, none⟩ : Addr)) q → q = g := fun q ⟨ad, e, e2⟩ => by cases e; exact e2.symm
  refine ⟨⟨h.box.kept hk (fun e => own_box ox h.box (by decide) e rfl), h.ins.kept hk (fun e => own_box ox h.ins (by decide) e rfl), h.vals, h.row.kept hk (fun q e e2 => own_own h.row ox (by decide) e e2), ?_, ?_, h.ap, h.np, h.ni⟩, ?_, ?_⟩
  · intro j z hz _
    exact (h.pown j z hz (by simp)).kept hk (fun q e e2 => (h.ap j k z x hz hx q).2.2 e e2)
  · intro j z hz hh
    refine (h.aown j z hz (by simp)).kept hk (fun q e e2 => hh ?_)
    rw [(h.ap k j x z hx hz q).2.1 e2 e]
  · intro j z hz hne q
    refine ⟨fun hq => ⟨fun e => hne ((h.ap j k z x hz hx q).1 e hq), fun e => (h.ap k j x z hx hz q).2.2 hq e⟩, fun hq => ?_⟩
    rw [atg q hq]
    rcases hg with e | rfl
    · exact ⟨fun e2 => (h.ap j k z x hz hx g).2.2 e2 e, fun e2 => hne ((h.ap j k z x hz hx g).2.1 e2 e)⟩
    · exact ⟨fun e => absurd ((h.pown j z hz (by simp)).lt e) (by omega), fun e => absurd ((h.aown j z hz (by simp)).lt e) (by omega)⟩
  · intro q hq hq2
    have e := atg q hq2
    rw [e] at hq
    rcases hg with e | rfl
    · exact (h.ap k k x x hx hx g).2.2 hq e
    · exact absurd ((h.pown k x hx (by simp)).lt hq) (by omega)
theorem addN (a : Int) (w : World) (h0 : 0 ≤ a) (h1 : a ≤ 1000000) : (binOp .add 3 (.int .i64 a) (.int .i64 1)).run Try.prog w = .ok (.int .i64 (a + 1)) w := by
  have e : (binOp .add 3 (.int .i64 a) (.int .i64 1)).run Try.prog w = .ok (.int .i64 (IntKind.i64.wrap (a + 1))) w := by kernel_rfl
  rw [e, IntKind.wrap_i64]
  congr 3
  omega
theorem chEq (n f : Nat) : (((n + 1 : Nat) : Int) == (f : Int) + 1) = decide (n + 1 = f + 1) := by
  rw [Bool.eq_iff_iff]; simp; omega
theorem set_same {α : Type} {l : List α} {s : Nat} {i : α} (h : l[s]? = some i) : l.set s i = l := by
  obtain ⟨h1, h2⟩ := List.getElem?_eq_some_iff.1 h
  rw [← h2]; exact List.set_getElem_self h1
/-- What a promise makes of the play. -/
theorem prep_k16 {i : In} {b : Sp} (h : ((prepM i b).k == 16) = true) : i.d = true ∧ (prepM i b).c = i.c := by
  unfold prepM refM at *
  cases hr : refB i b <;> cases hd : i.d <;> cases hl : lt b i.p <;> simp [hr, hd, hl, mZ] at h ⊢
theorem prep_k13 {i : In} {b : Sp} (h : ((prepM i b).k == 13) = true) : i.d = false ∧ Le i.p b ∧ prepI i b = ⟨b, i.a, i.c, i.d⟩ ∧ (prepM i b).h = i.a ∧ (prepM i b).c = i.c := by
  unfold prepM refM prepI at *
  cases hr : refB i b
  · unfold refB at hr
    simp only [Bool.or_eq_false_iff] at hr
    exact ⟨hr.1, lt_not.1 hr.2, by simp, by simp, by simp⟩
  · cases hd : i.d <;> cases hl : lt b i.p <;> simp [hr, hd, hl, mZ] at h
theorem Inv.prep {st : PS} (h : Inv st) {s : Nat} {i : In} (hi : st.is[s]? = some i) (b : Sp) : Inv { st with is := st.is.set s (prepI i b) } := by
  unfold prepI
  cases hr : refB i b
  · unfold refB at hr
    simp only [Bool.or_eq_false_iff] at hr
    exact h.promise (k := 0) (x := ⟨b, [], sZ, cZ, false, []⟩) hi hr.1 b (lt_not.1 hr.2)
  · simp only [if_true]
    rw [set_same hi]
    exact h
theorem acc_k16 {i : In} {b : Sp} (h : ((accM i b).k == 16) = true) : i.d = true ∧ (accM i b).c = i.c := by
  unfold accM refM at *
  cases hr : refB i b <;> cases hd : i.d <;> cases hl : lt b i.p <;> simp [hr, hd, hl, mZ] at h ⊢
theorem acc_k15 {i : In} {b : Sp} {c : Cm} (h : ((accM i b).k == 15) = true) : i.d = false ∧ Le i.p b ∧ accI i b c = ⟨b, b, c, false⟩ := by
  unfold accM refM accI at *
  cases hr : refB i b
  · unfold refB at hr
    simp only [Bool.or_eq_false_iff] at hr
    exact ⟨hr.1, lt_not.1 hr.2, by simp⟩
  · cases hd : i.d <;> cases hl : lt b i.p <;> simp [hr, hd, hl, mZ] at h
theorem acc_no15 {i : In} {b : Sp} {c : Cm} (h : ((accM i b).k == 15) = false) : accI i b c = i := by
  unfold accM accI at *
  cases hr : refB i b
  · simp [hr] at h
  · rfl

end Go.Proofs.Ytapjnanenfcdjaa
