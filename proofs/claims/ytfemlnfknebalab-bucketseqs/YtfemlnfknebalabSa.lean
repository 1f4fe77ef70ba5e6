import Derived.Test.YtfemlnfknebalabZa
import Derived.Test.YtfemlnfknebalabSd
namespace Go.Proofs.Ytfemlnfknebalab
open Go.RowKit
set_option linter.unusedVariables false
set_option linter.unusedSimpArgs false

theorem pre_ge : ∀ (a b : List UInt8), a <+: b → ¬ Lib.compareBytes b a < 0
  | [], b, _ => by cases b <;> simp [Lib.compareBytes]
  | x :: a, [], h => by simp at h
  | x :: a, y :: b, h => by
    rw [List.cons_prefix_cons] at h
    obtain ⟨rfl, h⟩ := h
    unfold Lib.compareBytes
    rw [if_neg (UInt8.lt_irrefl _), if_neg (UInt8.lt_irrefl _)]
    exact pre_ge a b h
theorem pre_gap : ∀ (a b c : List UInt8), ¬ Lib.compareBytes b a < 0 → ¬ a <+: b → Lib.compareBytes b c < 0 → ¬ a <+: c
  | [], b, c, _, h, _ => absurd (List.nil_prefix) h
  | x :: a, [], c, h, _, _ => absurd (by simp [Lib.compareBytes]) h
  | x :: a, y :: b, [], _, _, _ => by simp
  | x :: a, y :: b, z :: c, h1, h2, h3 => by
    rw [List.cons_prefix_cons] at h2 ⊢
    rintro ⟨rfl, h4⟩
    unfold Lib.compareBytes at h1 h3
    by_cases e1 : y < x
    · rw [if_pos e1] at h1; exact h1 (by decide)
    · rw [if_neg e1] at h1 h3
      by_cases e2 : x < y
      · rw [if_pos e2] at h3; exact absurd h3 (by decide)
      · rw [if_neg e2] at h1 h3
        have e3 : x = y := UInt8.le_antisymm (UInt8.not_lt.1 e1) (UInt8.not_lt.1 e2)
        exact pre_gap a b c h1 (fun h => h2 ⟨e3, h⟩) h3 h4
theorem hasP_iff {s p : ByteArray} : hasP s p = true ↔ p.data.toList <+: s.data.toList := by
  unfold hasP
  rw [Bool.and_eq_true, decide_eq_true_eq, eqN_iff, List.prefix_iff_eq_take]
  have hs : p.data.toList.length = p.size := by rw [Array.length_toList]; rfl
  have he : (s.extract 0 p.size).data.toList = s.data.toList.take p.size := by simp
  rw [hs]
  constructor
  · rintro ⟨_, h⟩
    rw [← he, h]
  · intro h
    have h0 : p.size ≤ s.size := by
      have h1 := congrArg List.length h
      rw [hs, List.length_take] at h1
      have : s.data.toList.length = s.size := by rw [Array.length_toList]; rfl
      omega
    refine ⟨h0, ?_⟩
    apply ByteArray.ext
    apply Array.ext'
    rw [he]; exact h.symm
theorem filter_while (n : ByteArray) : ∀ (l : List En), (∀ e ∈ l, ¬ cmpB e.nm n < 0) → l.Pairwise (fun x y => cmpB x.nm y.nm < 0) → l.filter (fun e => hasP e.nm n) = l.takeWhile (fun e => hasP e.nm n)
  | [], _, _ => rfl
  | x :: t, h, hp => by
    rw [List.pairwise_cons] at hp
    cases hx : hasP x.nm n
    · rw [List.filter_cons_of_neg (by simp [hx]), List.takeWhile_cons_of_neg (by simp [hx]), List.filter_eq_nil_iff]
      intro y hy hq
      have h1 := h x (List.mem_cons_self ..)
      exact pre_gap n.data.toList x.nm.data.toList y.nm.data.toList h1 (fun q => by rw [hasP_iff.2 q] at hx; cases hx) (hp.1 y hy) (hasP_iff.1 hq)
    · rw [List.filter_cons_of_pos (p := fun e : En => hasP e.nm n) hx, List.takeWhile_cons_of_pos (p := fun e : En => hasP e.nm n) hx, filter_while n t (fun e he => h e (List.mem_cons_of_mem _ he)) hp.2]
theorem rise_pair {es : List En} (h : RiseE es) : es.Pairwise (fun x y => cmpB x.nm y.nm < 0) := by
  rw [List.pairwise_iff_getElem]
  intro i j hi hj hij
  exact h i j _ _ (List.getElem?_eq_getElem hi) (List.getElem?_eq_getElem hj) hij
theorem names_filter {es : List En} (h : RiseE es) (n : ByteArray) : namesS es n = es.filter (fun e => hasP e.nm n) := by
  have hs := gIx_spec (d := enZ) ordB h n
  rw [← eIx_g] at hs
  unfold namesS
  rw [← filter_while n]
  · conv => rhs; rw [← List.take_append_drop (eIx es n) es]
    rw [List.filter_append]
    have : (es.take (eIx es n)).filter (fun e => hasP e.nm n) = [] := by
      rw [List.filter_eq_nil_iff]
      intro e he hq
      obtain ⟨i, hi, hg⟩ := List.mem_iff_getElem.1 he
      rw [List.length_take] at hi
      have h1 : es[i]? = some e := by
        rw [List.getElem_take] at hg
        rw [List.getElem?_eq_getElem (by omega), hg]
      exact pre_ge _ _ (hasP_iff.1 hq) (hs.1 i e (by omega) h1)
    rw [this, List.nil_append]
  · intro e he
    obtain ⟨i, hi, hg⟩ := List.mem_iff_getElem.1 he
    rw [List.length_drop] at hi
    rw [List.getElem_drop] at hg
    exact hs.2.1 (eIx es n + i) e (by omega) (by rw [List.getElem?_eq_getElem (by omega), hg])
  · exact (rise_pair h).sublist (List.drop_sublist _ _)
theorem exec_strH {o : Oper} {a : Act} {w : World} (x hi : Operand) (ho : o.op = .slice 9 x none (some hi) none) (s : ByteArray) (k : Nat) (hx : a.eval x = .string s) (hk : a.eval hi = .int .i64 (k : Int)) (h : k ≤ s.size) : (execOp a.eval o).run Try.prog w = .ok (.value (.string (s.extract 0 k))) w := by
  simp only [execOp, ho, hx, hk, Option.map_some, Option.map_none, Sem.run_bind, run_sliceAt_string w 9 _ _ _ _ Try.und9, run_slice_string_h w 9 s Try.und9 .i64 (k : Int) (by omega) (by omega), Result.andThen_ok, Sem.run_pure, Int.toNat_natCast]
theorem app1E {w W : World} {sa : Option Addr} {n c : Nat} {out : List En} (hw : Kept No w W) (ho : OwE W w.heap.size ⟨sa, n, c⟩ out) (y : En) (hb : (n + 1) * 40 ≤ 140737488355328) :
    ∃ a' c' W2, (Builtin.append_ #[23, 23] 23 #[.slice sa n c, .slice (some ⟨W.heap.size, 0, none⟩) 1 1]).run Try.prog (W.alloc (.cells y.cells 34)) = .ok (.slice a' (n + 1) c') W2 ∧ OwE W2 w.heap.size ⟨a', n + 1, c'⟩ (out ++ [y]) ∧ Kept (At sa) W W2 := by
  have h1 : Kept No W (W.alloc (.cells y.cells 34)) := (Kept.refl No _).alloc _
  have ho1 := ho.no h1
  have hx := Box.new W 34 y.cells
  obtain ⟨a', c', W2, hrun, hO, hk, hA⟩ := run_appN (w := W.alloc (.cells y.cells 34)) 23 23 34 4 40 (.agg enZ.cells) Try.und22 Try.info54 rfl (by omega) w.heap.size n c sa (enL out) ho1.own (some ⟨W.heap.size, 0, none⟩) 1 1 y.cs rfl (fun e => by cases e) (fun j u hj => ⟨_, rfl, by rw [addr_add, Nat.zero_add, hx.cell]; show y.cs.toArray[j]? = _; rw [List.getElem?_toArray]; exact hj⟩) y.oneL (by omega) (by omega) (Nat.le_trans hw.size h1.size)
  have hol : out.length = n := ho.len
  exact ⟨a', c', W2, hrun, ⟨by rw [enL_app, enL_1]; exact hO, by show (out ++ [y]).length = n + 1; rw [List.length_append, hol]; rfl⟩, h1.of_no.then hk⟩
end Go.Proofs.Ytfemlnfknebalab
