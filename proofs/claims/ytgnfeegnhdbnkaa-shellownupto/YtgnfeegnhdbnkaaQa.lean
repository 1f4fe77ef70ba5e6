import Derived.Test.YtgnfeegnhdbnkaaWWords
namespace Go.Proofs.Ytgnfeegnhdbnkaa
open Go.RowKit Go.Lib
set_option linter.unusedVariables false
set_option linter.unusedSimpArgs false

def hx (k : Nat) : UInt8 := if k < 10 then UInt8.ofNat (48 + k) else UInt8.ofNat (87 + k)
def qB (c : UInt8) : List UInt8 :=
  if c = 34 ∨ c = 92 then [92, c] else if c = 10 then [92, 110] else if c = 9 then [92, 116]
  else if c < 32 ∨ 126 < c then [92, 120, hx (c.toNat / 16), hx (c.toNat % 16)] else [c]
def quoteH (l : List UInt8) : List UInt8 := 34 :: l.flatMap qB
def quoteL (l : List UInt8) : List UInt8 := quoteH l ++ [34]
theorem bi_ne {c : UInt8} {k : Nat} (hk : k < 256) (h : c ≠ UInt8.ofNat k) : bi c ≠ (k : Int) := fun e => h (by
  apply bi_inj
  rw [e]
  unfold bi
  rw [UInt8.toNat_ofNat']
  omega)
theorem hexI_hx : ∀ k < 16, hexI (bi (hx k)) = (k : Int) := by decide
theorem isB_hx : ∀ k < 16, bi (hx k) ≠ 34 ∧ bi (hx k) ≠ 92 := by decide
theorem run_qB (c : UInt8) (word : List UInt8) (ws : List (List UInt8)) (dg : Int) : ∃ dg', runS ⟨2, word, ws, dg, false⟩ (qB c) = ⟨2, word ++ [c], ws, dg', false⟩ := by
  unfold qB
  by_cases h1 : c = 34 ∨ c = 92
  · rw [if_pos h1]
    refine ⟨dg, ?_⟩
    rcases h1 with rfl | rfl <;> simp [runS, nextS, escS, bi]
  rw [if_neg h1]
  by_cases h2 : c = 10
  · rw [if_pos h2]
    subst h2
    refine ⟨dg, ?_⟩
    simp [runS, nextS, escS, bi]
  rw [if_neg h2]
  by_cases h3 : c = 9
  · rw [if_pos h3]
    subst h3
    refine ⟨dg, ?_⟩
    simp [runS, nextS, escS, bi]
  rw [if_neg h3]
  by_cases h4 : c < 32 ∨ 126 < c
  · rw [if_pos h4]
    have hc := c.toNat_lt
    have d1 := hexI_hx (c.toNat / 16) (by omega)
    have d2 := hexI_hx (c.toNat % 16) (by omega)
    generalize hx (c.toNat / 16) = x1 at d1
    generalize hx (c.toNat % 16) = x2 at d2
    refine ⟨((c.toNat / 16 : Nat) : Int), ?_⟩
    have n1 : ¬ ((c.toNat / 16 : Nat) : Int) < 0 := by omega
    have n2 : ¬ ((c.toNat % 16 : Nat) : Int) < 0 := by omega
    have e : UInt8.ofNat (16 * ((c.toNat / 16 : Nat) : Int) + ((c.toNat % 16 : Nat) : Int)).toNat = c := by
      apply UInt8.toNat_inj.1
      rw [UInt8.toNat_ofNat']
      omega
    have a1 : nextS ⟨2, word, ws, dg, false⟩ 92 = ⟨3, word, ws, dg, false⟩ := by simp [nextS, bi]
    have a2 : nextS ⟨3, word, ws, dg, false⟩ 120 = ⟨4, word, ws, dg, false⟩ := by simp [nextS, escS, bi]
    have a3 : nextS ⟨4, word, ws, dg, false⟩ x1 = ⟨5, word, ws, ((c.toNat / 16 : Nat) : Int), false⟩ := by
      unfold nextS; simp only [d1]; simp [n1]; omega
    have a4 : nextS ⟨5, word, ws, ((c.toNat / 16 : Nat) : Int), false⟩ x2 = ⟨2, word ++ [c], ws, ((c.toNat / 16 : Nat) : Int), false⟩ := by
      unfold nextS; simp only [d2, e]; simp [n2]; omega
    simp only [runS, a1, a2, a3, a4]
    simp
  rw [if_neg h4]
  refine ⟨dg, ?_⟩
  have n34 : bi c ≠ 34 := bi_ne (k := 34) (by omega) (fun e => h1 (.inl e))
  have n92 : bi c ≠ 92 := bi_ne (k := 92) (by omega) (fun e => h1 (.inr e))
  simp [runS, nextS, n34, n92]
theorem run_qs : ∀ (l word : List UInt8) (ws : List (List UInt8)) (dg : Int), ∃ dg', runS ⟨2, word, ws, dg, false⟩ (l.flatMap qB) = ⟨2, word ++ l, ws, dg', false⟩
  | [], word, ws, dg => ⟨dg, by simp [runS]⟩
  | c :: l, word, ws, dg => by
    obtain ⟨d1, h1⟩ := run_qB c word ws dg
    obtain ⟨d2, h2⟩ := run_qs l (word ++ [c]) ws d1
    refine ⟨d2, ?_⟩
    rw [List.flatMap_cons, runS_app, h1, h2, List.append_assoc]
    rfl
/-- From between two words: a quoted word. -/
theorem run_quote (l : List UInt8) (ws : List (List UInt8)) (dg : Int) : ∃ dg', runS ⟨0, [], ws, dg, false⟩ (quoteL l) = ⟨6, [], ws ++ [l], dg', false⟩ := by
  obtain ⟨d, h⟩ := run_qs l [] ws dg
  refine ⟨d, ?_⟩
  have e : isB 34 = false := by decide
  have a1 : nextS ⟨0, [], ws, dg, false⟩ 34 = ⟨2, [], ws, dg, false⟩ := by simp [nextS, bi, e]
  have a2 : nextS ⟨2, l, ws, d, false⟩ 34 = ⟨6, [], ws ++ [l], d, false⟩ := by simp [nextS, bi, endS]
  unfold quoteL quoteH
  rw [List.cons_append]
  simp only [runS, a1, Bool.false_eq_true, if_false]
  rw [runS_app, h, List.nil_append]
  simp only [runS, a2, Bool.false_eq_true, if_false]
theorem words_quote (l : List UInt8) : wordsOf (quoteL l) = some [l] := by
  obtain ⟨d, h⟩ := run_quote l [] 0
  unfold wordsOf
  rw [show s0 = ⟨0, [], [], 0, false⟩ from rfl, h]
  simp
theorem qB_len (c : UInt8) : (qB c).length ≤ 4 := by
  unfold qB
  repeat' split
  all_goals simp
theorem flat_len (l : List UInt8) : (l.flatMap qB).length ≤ 4 * l.length := by
  induction l with
  | nil => simp
  | cons c l ih =>
    rw [List.flatMap_cons, List.length_append, List.length_cons]
    have := qB_len c
    omega
theorem quoteL_len (l : List UInt8) : (quoteL l).length ≤ 4 * l.length + 2 := by
  unfold quoteL quoteH
  have := flat_len l
  simp only [List.length_append, List.length_cons, List.length_nil]
  omega
theorem quoteH_step {l : List UInt8} {i : Nat} {c : UInt8} (hc : l[i]? = some c) : quoteH (l.take (i + 1)) = quoteH (l.take i) ++ qB c := by
  unfold quoteH
  rw [List.take_add_one, hc, List.flatMap_append]
  simp
/-- What is made is one's own. -/
theorem Own.of_box {t : TypeId} {w : World} {g base : Nat} {vs : List Value} (h : Box w g t vs.toArray) (hb : base ≤ g) (hl : vs.length ≤ 140737488355328) : Own t 1 w base (some ⟨g, 0, none⟩) vs.length vs.length vs :=
  ⟨by simp, .inr ⟨g, vs.length, vs.toArray, rfl, hb, h, Nat.le_refl _, by unfold maxLen; omega, by simp, by simp⟩⟩
theorem b_shr4 (c : UInt8) (w : World) : (binOp .shr 5 (.int .u8 (bi c)) (.int .u64 4)).run Try.prog w = .ok (.int .u8 ((c.toNat / 16 : Nat) : Int)) w := by
  have hc := c.toNat_lt
  rw [binOp_shr]
  unfold Op.shift
  rw [if_neg (by omega)]
  show Result.ok (Value.int .u8 (((c.toNat : Nat) : Int).fdiv 16)) w = _
  rw [Int.fdiv_eq_ediv_of_nonneg _ (by omega)]
  congr 2
theorem b_and15 (c : UInt8) (w : World) : (binOp .and 5 (.int .u8 (bi c)) (.int .u8 15)).run Try.prog w = .ok (.int .u8 ((c.toNat % 16 : Nat) : Int)) w := by
  have hc := c.toNat_lt
  rw [show binOp .and 5 (.int .u8 (bi c)) (.int .u8 15) = Op.intBits .and .u8 (bi c) 15 by simp [binOp]]
  have := (bits_nat .u8 8 (by decide) (fun n h0 h1 => wrap_u8 n h0 (by have : (2 : Int) ^ 8 = 256 := rfl; omega)) c.toNat 15 (by have : (2 : Nat) ^ 8 = 256 := rfl; omega) (by decide)).1
  have e : c.toNat &&& 15 = c.toNat % 16 := Nat.and_two_pow_sub_one_eq_mod c.toNat 4
  rw [e] at this
  rw [← this]
  rfl
theorem b_quo16 (c : UInt8) (w : World) : (binOp .quo 5 (.int .u8 (bi c)) (.int .u8 16)).run Try.prog w = .ok (.int .u8 ((c.toNat / 16 : Nat) : Int)) w := by
  have hc := c.toNat_lt
  rw [binOp_quo]
  unfold Op.intDiv
  rw [if_neg (by omega)]
  show Result.ok (Value.int .u8 (IntKind.u8.wrap (((c.toNat : Nat) : Int).tdiv 16))) w = _
  rw [Int.tdiv_eq_ediv_of_nonneg (by omega), wrap_u8 _ (by omega) (by omega)]
  congr 2
theorem b_rem16 (c : UInt8) (w : World) : (binOp .rem 5 (.int .u8 (bi c)) (.int .u8 16)).run Try.prog w = .ok (.int .u8 ((c.toNat % 16 : Nat) : Int)) w := by
  rw [binOp_rem]
  unfold Op.intDiv
  rw [if_neg (by omega)]
  show Result.ok (Value.int .u8 (((c.toNat : Nat) : Int).tmod 16)) w = _
  rw [Int.tmod_eq_emod_of_nonneg (by omega)]
  congr 2
def hexS : ByteArray := ⟨#[48, 49, 50, 51, 52, 53, 54, 55, 56, 57, 97, 98, 99, 100, 101, 102]⟩
theorem hexS_at : ∀ k < 16, (hexS.data[k]?) = some (hx k) := by decide
theorem exec_hex {o : Oper} {a : Act} {w : World} (x y : Operand) (ho : o.op = .index 9 x y) (k : Nat) (hk : k < 16) (hx' : a.eval x = .string hexS) (hy : a.eval y = .int .u8 (k : Int)) : (execOp a.eval o).run Try.prog w = .ok (.value (.int .u8 (bi (hx k)))) w := by
  have hs : hexS.size = 16 := rfl
  have hrun : (Instr.index 9 (.string hexS) (.int .u8 (k : Int))).run Try.prog w = .ok (.int .u8 (bi (hx k))) w := by
    rw [run_index_string (P := Try.prog) (w := w) 9 hexS .u8 (k : Int) U9, dif_pos ⟨by omega, by omega⟩]
    have h1 := hexS_at k hk
    have e : hexS[(k : Int).toNat]'(by omega) = hx k := by
      rw [ByteArray.getElem_eq_getElem_data]
      have := (Array.getElem?_eq_some_iff.1 h1).2
      simpa using this
    rw [e]; rfl
  simp only [execOp, ho, hx', hy, Sem.run_bind, hrun, Result.andThen_ok, Sem.run_pure]
theorem b_gtr5 (a b : Int) (w : World) : (binOp .gtr 5 (.int .u8 a) (.int .u8 b)).run Try.prog w = .ok (.bool (decide (b < a))) w := by kernel_rfl
theorem b_lss5 (a b : Int) (w : World) : (binOp .lss 5 (.int .u8 a) (.int .u8 b)).run Try.prog w = .ok (.bool (decide (a < b))) w := by kernel_rfl
end Go.Proofs.Ytgnfeegnhdbnkaa
