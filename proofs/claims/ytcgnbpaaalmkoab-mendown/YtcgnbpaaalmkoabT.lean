import Derived.Laws.BytesArg
import Derived.Test.YtcgnbpaaalmkoabS
namespace Go.Proofs.Ytcgnbpaaalmkoab
open Go.RowKit
set_option linter.unusedVariables false
set_option linter.unusedSimpArgs false

theorem conv_b {w : World} {s : Sl} {bs : List Int} (h : RdB w s bs) : (convert 24 9 s.v).run Try.prog w = .ok (.string (strOfNums bs)) w := by
  obtain ⟨a, l, c⟩ := s
  cases a with
  | none =>
    have hbs : bs = [] := by
      cases bs with
      | nil => rfl
      | cons z r => obtain ⟨b, o, e, _⟩ := h.row 0 (by simp); cases e
    subst hbs
    show (convert 24 9 (.slice none l c)).run Try.prog w = _
    rw [run_convert_bytes_string w 24 9 5 none l c Try.und26 Try.und5 Try.und9]
    simp [Conv.bytesToString, strOfNums]
    rfl
  | some ad =>
    by_cases h0 : l = 0
    · have hl : bs.length = l := h.len
      have hbs : bs = [] := List.eq_nil_of_length_eq_zero (by omega)
      subst hbs h0
      show (convert 24 9 (.slice (some ad) 0 c)).run Try.prog w = _
      rw [run_convert_bytes_string w 24 9 5 (some ad) 0 c Try.und26 Try.und5 Try.und9]
      have := run_bytesToString (P := Try.prog) w ad 0 c [] (by simpa using run_loadCells_list (P := Try.prog) w ad [] (fun j v hv => by simp at hv))
      rw [this]; rfl
    · have hl : bs.length = l := h.len
      obtain ⟨b, off, e, _⟩ := h.row 0 (by omega)
      have e : some ad = some (⟨b, off, none⟩ : Addr) := e
      cases e
      exact run_convert_bytes_arg w 24 5 Try.und26 Try.und5 b off l c bs hl (fun i hi => by
        obtain ⟨b', off', e', hc⟩ := h.row i (by omega)
        cases e'
        rw [hc]; simp [List.getD]) 9 Try.und9
theorem exec_conv {o : Oper} {a : Act} {w : World} {v u : Value} (t t' : TypeId) (x : Operand) (ho : o.op = .convert t t' x) (hx : a.eval x = u) (hrun : (convert t t' u).run Try.prog w = .ok v w) : (execOp a.eval o).run Try.prog w = .ok (.value v) w := by
  simp [execOp, ho, hx, hrun]
set_option maxRecDepth 100000 in
set_option maxHeartbeats 4000000 in
theorem sameB_any (s s' : Sl) (bs : List Int) (w : World) (h1 : RdB w s bs) (h2 : RdB w s' bs) : Calls Try.prog 17 #[s.v, s'.v] w (fun e w' => e = .returned (.bool true) ∧ w' = w) := by
  obtain ⟨C, hC⟩ : ∃ C : Ending → World → Prop, C = (fun e w' => e = .returned (.bool true) ∧ w' = w) := ⟨_, rfl⟩
  have HC : Hid (C = (fun e w' => e = .returned (.bool true) ∧ w' = w)) := hC
  rw [← hC]
  clear hC
  have H1 : Hid (RdB w s bs) := h1
  have H2 : Hid (RdB w s' bs) := h2
  clear h1 h2
  go_enter Try.func17, Try.ntmps17
  go_upto_region 0 with fail
  refine WL.start ?_
  refine tK (.bool false) ?_
  try simp only [pS]
  refine WL.nil ?_
  try simp only [pS]
  go_upto_region 1 with fail
  refine WL.start ?_
  refine tK (s.v) ?_
  refine tW (.string (strOfNums bs)) (exec_conv 24 9 _ rfl (by kernel_rfl) (conv_b H1.out)) ?_
  refine tK (s'.v) ?_
  refine tW (.string (strOfNums bs)) (exec_conv 24 9 _ rfl (by kernel_rfl) (conv_b H2.out)) ?_
  refine tW (.bool true) (eB .eql 9 _ _ _ rfl (.string (strOfNums bs)) (.string (strOfNums bs)) _ (by rw [eqN_eql, eqN_iff.2 rfl])) ?_
  refine tK (.bool true) ?_
  try simp only [pS]
  refine WL.nil ?_
  try simp only [pS]
  go_wp2
  rw [HC.out]
  exact ⟨rfl, rfl⟩
theorem Fr.swap {S : Nat → Prop} {w0 w : World} {l : List (Nat × TypeId × Array Value)} {x y : Nat × TypeId × Array Value} (h : Fr S w0 w (l ++ [x, y])) : Fr S w0 w (l ++ [y, x]) := by
  have key : ∀ i : Nat, (l ++ [y, x])[i]? = (l ++ [x, y])[if i = l.length then l.length + 1 else if i = l.length + 1 then l.length else i]? := by
    intro i
    by_cases h1 : i = l.length
    · subst h1; simp
    · by_cases h2 : i = l.length + 1
      · subst h2; simp
      · rw [if_neg h1, if_neg h2]
        by_cases h3 : i < l.length
        · rw [List.getElem?_append_left h3, List.getElem?_append_left h3]
        · rw [List.getElem?_eq_none (by simp; omega), List.getElem?_eq_none (by simp; omega)]
  refine ⟨h.kept, fun i g T cs hi => ?_, fun i g T cs hi => ?_, fun i j g T cs T' cs' hi hj => ?_⟩
  · rw [key] at hi; exact h.box _ g T cs hi
  · rw [key] at hi; exact h.low _ g T cs hi
  · rw [key] at hi hj
    have := h.inj _ _ g T cs T' cs' hi hj
    split at this <;> split at this <;> (try split at this) <;> (try split at this) <;> omega
theorem RdP.one {w : World} {g : Nat} {p : Pl} (hb : Box w g 70 p.cells) : RdP w ⟨some ⟨g, 0, none⟩, 1, 1⟩ [p] := by
  refine ⟨fun i it hi => ⟨g, 0, rfl, fun j v hv => ?_⟩, rfl, fun e => by cases e⟩
  have hi0 : i = 0 := by have := (List.getElem?_eq_some_iff.1 hi).1; simp at this; exact this
  subst hi0
  simp at hi
  subst hi
  rw [Nat.zero_mul, Nat.zero_add, hb.cell]
  unfold Pl.cells
  rw [List.getElem?_toArray]
  exact hv
theorem RdB.one {w : World} {g : Nat} {z : Int} (hb : Box w g 5 #[.int .u8 z]) : RdB w ⟨some ⟨g, 0, none⟩, 1, 1⟩ [z] := by
  refine ⟨fun i hi => ⟨g, 0, rfl, ?_⟩, rfl, fun e => by cases e⟩
  have hi0 : i = 0 := by simp at hi; exact hi
  subst hi0
  rw [hb.cell]; rfl
theorem RdP.nil (w : World) : RdP w slZ [] := ⟨RowsAt.nil _ _ _, rfl, fun _ => rfl⟩
theorem OwH.one {w : World} {base : Nat} {s : Sl} {c : Ch} (h : OwH w base s [c]) : ∃ g k sp, s = ⟨some ⟨g, 0, none⟩, 1, k⟩ ∧ base ≤ g ∧ Box w g 67 (Ch.cs c ++ sp).toArray := by
  obtain ⟨a, l, k⟩ := s
  have hl : l = 1 := h.len.symm
  subst hl
  rcases h.own.cases h.own.1 with ⟨_, _, h0⟩ | ⟨g, e, hg, _, sp, hb, _⟩
  · cases h0
  · have e : a = some ⟨g, 0, none⟩ := e
    subst e
    refine ⟨g, k, sp, rfl, hg, ?_⟩
    rw [← chL_1]; exact hb
def kwX : Cm := ⟨4, 1, 2, ⟨#[]⟩, 0, 0, 0, 0, 0⟩

end Go.Proofs.Ytcgnbpaaalmkoab
