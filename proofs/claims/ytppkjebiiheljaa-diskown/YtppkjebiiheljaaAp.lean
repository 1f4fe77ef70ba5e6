import Derived.Test.YtppkjebiiheljaaTs
import Derived.Deep.RegionLaw
namespace Go.Proofs.Ytppkjebiiheljaa
open Go.RowKit
set_option linter.unusedVariables false
set_option linter.unusedSimpArgs false

/-- Bytes of the call's own, with all that they may grow into. -/
def OwnB (w : World) (base : Nat) (a : Option Addr) (cap n : Nat) (xs : List Int) : Prop := Own 5 1 w base a cap n (xs.map (Value.int .u8)) ∧ xs.length = n

theorem OwnB.nums {w : World} {base : Nat} {a : Option Addr} {cap n : Nat} {xs : List Int} (h : OwnB w base a cap n xs) : Nums .u8 w a xs := h.1.nums h.2
theorem OwnB.kept {S : Nat → Prop} {w w' : World} {base : Nat} {a : Option Addr} {cap n : Nat} {xs : List Int} (h : OwnB w base a cap n xs) (hk : Kept S w w') (hS : ∀ k, At a k → ¬ S k) : OwnB w' base a cap n xs := ⟨h.1.kept hk hS, h.2⟩
theorem OwnB.no {w w' : World} {base : Nat} {a : Option Addr} {cap n : Nat} {xs : List Int} (h : OwnB w base a cap n xs) (hk : Kept No w w') : OwnB w' base a cap n xs := h.kept hk (fun _ _ e => e)
theorem OwnB.empty (w : World) (base : Nat) (hb : base ≤ w.heap.size) : OwnB (w.alloc (.cells #[] 5)) base (some ⟨w.heap.size, 0, none⟩) 0 0 [] :=
  ⟨⟨rfl, .inr ⟨w.heap.size, 0, #[], rfl, hb, (MapKept.heap_alloc w _).1, Nat.le_refl _, by unfold maxLen; omega, rfl, rfl⟩⟩, rfl⟩

theorem run_appF {w : World} {base n cap : Nat} {sa : Option Addr} {xs : List Int} (hown : OwnB w base sa cap n xs) {ad : Addr} {m : Nat} (c : Nat) {ys : List Int} (hl : ys.length = m) (hy : Nums .u8 w (some ad) ys) (hbd : n + m ≤ 1000000000) (hbase : base ≤ w.heap.size) (ty : TypeId) :
    ∃ a' cap' w', (Builtin.append_ #[22, 22] ty #[.slice sa n cap, .slice (some ad) m c]).run Try.prog w = .ok (.slice a' (n + m) cap') w' ∧ OwnB w' base a' cap' (n + m) (xs ++ ys) ∧ Kept (At sa) w w' := by
  obtain ⟨i0, hi, hz0, hz1, hz2⟩ := info_parts Try.info5
  obtain ⟨v', w', hrun, r1, r2, _⟩ := run_append_own (P := Try.prog) w base 22 ty 5 i0 (.int .u8 0) 1 1 Try.und22 hi hz0 hz1 hz2 rfl (by omega) (.slice sa n cap) n (xs.map (Value.int .u8)) hown.1 ad m c (ys.map (Value.int .u8)) (by simpa using hl)
    (fun j u hu => by
      by_cases h0 : 0 < (ys.map (Value.int .u8)).length
      · obtain ⟨ad', e, hc⟩ := hy.src h0
        cases e
        exact hc j u hu
      · have : ys = [] := by cases ys with
          | nil => rfl
          | cons y r => simp at h0
        subst this
        simp at hu)
    (num_one .u8 ys) (by unfold maxLen; omega) (by omega) hbase
  have hk : Kept (At sa) w w' := (Kept.refl (At sa) w).grown r2 (fun k e hk => by
    cases sa with
    | none => cases e
    | some ad' => simp only [Value.ownBlock, Option.some.injEq] at e; exact ⟨ad', rfl, e⟩)
  rw [← List.map_append] at r1
  have hlen : (xs ++ ys).length = n + m := by rw [List.length_append, hown.2, hl]
  rcases r1.2 with ⟨e, h0⟩ | ⟨g, cap', cur, e, _⟩
  · subst e
    rw [h0] at r1 hlen ⊢
    exact ⟨none, 0, w', hrun, ⟨r1, hlen⟩, hk⟩
  · subst e
    exact ⟨_, cap', w', hrun, ⟨r1, hlen⟩, hk⟩

theorem wp_appF {ops : Array Oper} {rest : List Oper} {o : Oper} {a : Act} {w : World} {Q : Exit → Act → World → Prop} (hg : o.guard = none) (s x : Operand) (ho : o.op = .call { callee := Callee.builtin Builtin.append, args := #[s, x], argTypes := #[22, 22] })
    (base n cap : Nat) (sa : Option Addr) (xs : List Int) (hs : a.eval s = .slice sa n cap) (hown : OwnB w base sa cap n xs) (ad : Addr) (m c : Nat) (ys : List Int) (hx : a.eval x = .slice (some ad) m c) (hl : ys.length = m) (hy : Nums .u8 w (some ad) ys) (hbd : n + m ≤ 1000000000) (hbase : base ≤ w.heap.size) (k : Nat) (hk : n + m = k)
    (h : ∀ a' cap' w', Hid (OwnB w' base a' cap' k (xs ++ ys)) → Hid (Kept (At sa) w w') → wpList Try.prog ops Q rest (a.put o.dst (.slice a' k cap')) w') : wpList Try.prog ops Q (o :: rest) a w := by
  subst hk
  obtain ⟨a', cap', w', hrun, h1, h2⟩ := run_appF hown c hl hy hbd hbase o.type
  refine wp_runTo hg _ w' ?_ (h a' cap' w' h1 h2)
  simp [execOp, ho, resolve, invoke, builtin, hs, hx, hrun, Result.andThen]

theorem step_appF {ops : Array Oper} {o : Oper} {a : Act} {w : World} {K : Act → World → Prop} {Q : Exit → Act → World → Prop} {E : Prop} (hg : o.guard = none) (s x : Operand) (ho : o.op = .call { callee := Callee.builtin Builtin.append, args := #[s, x], argTypes := #[22, 22] })
    (base n cap : Nat) (sa : Option Addr) (xs : List Int) (hs : a.eval s = .slice sa n cap) (hown : OwnB w base sa cap n xs) (ad : Addr) (m c : Nat) (ys : List Int) (hx : a.eval x = .slice (some ad) m c) (hl : ys.length = m) (hy : Nums .u8 w (some ad) ys) (hbd : n + m ≤ 1000000000) (hbase : base ≤ w.heap.size) (k : Nat) (hk : n + m = k)
    (h : ∀ a' cap' w', Hid (OwnB w' base a' cap' k (xs ++ ys)) → Hid (Kept (At sa) w w') → K (a.put o.dst (.slice a' k cap')) w') :
    if Region.wanted o (yielded ops a.tmps) = true then Oper.wp Try.prog o a w K Q else E := by
  subst hk
  have hw : Region.wanted o (yielded ops a.tmps) = true := by simp [Region.wanted, hg]
  rw [if_pos hw]
  obtain ⟨a', cap', w', hrun, h1, h2⟩ := run_appF hown c hl hy hbd hbase o.type
  unfold Oper.wp
  have hr : (execOp a.eval o).run Try.prog w = .ok (.value (.slice a' (n + m) cap')) w' := by
    simp [execOp, ho, resolve, invoke, builtin, hs, hx, hrun, Result.andThen]
  rw [hr, Oper.upon_value]
  exact h a' cap' w' h1 h2

theorem Env.old {S : Nat → Prop} {w wr w' : World} {d b gA gB : Nat} {A B : List Int} {x : DS} (h : Env w wr d b gA gB A B x) (hk : Kept S wr w') (hS : ∀ k, k < wr.heap.size → ¬ S k) : Env w w' d b gA gB A B x :=
  h.no (hk.mono (fun k hk' e => absurd e (hS k hk')))
theorem Box.numsAt {w : World} {g : Nat} {t : TypeId} {xs : List Int} (h : Box w g t (u8s xs)) (T : Nat) : Nums .u8 w (some ⟨g, T, none⟩) (xs.drop T) := by
  intro i hi
  rw [List.length_drop] at hi
  refine ⟨g, T, rfl, ?_⟩
  rw [h.cell]
  unfold u8s
  rw [List.getElem?_toArray, List.getElem?_map, List.getElem?_drop, List.getElem?_eq_getElem (show T + i < xs.length by omega)]
  rfl
theorem Box.numsTo {w : World} {g : Nat} {t : TypeId} {xs : List Int} (h : Box w g t (u8s xs)) (T : Nat) : Nums .u8 w (some ⟨g, 0, none⟩) (xs.take T) := Box.nums (w := w) h T

end Go.Proofs.Ytppkjebiiheljaa
