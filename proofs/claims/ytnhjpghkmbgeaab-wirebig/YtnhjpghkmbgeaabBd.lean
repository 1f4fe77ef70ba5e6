import Derived.Test.YtnhjpghkmbgeaabBc
namespace Go.Proofs.Ytnhjpghkmbgeaab
open Go.RowKit
set_option linter.unusedVariables false

/-- append where there is no room: new memory. -/
theorem wp_grows {P : Program} (w : World) {ops : Array Oper} {rest : List Oper} {o : Oper} {a : Act} {Q : Exit → Act → World → Prop}
    (h22 : P.underlying 22 = some (.slice 5)) (h5 : (P.info? 5).map (fun i => (i.zero, i.size, i.bytes)) = some (some (.int .u8 0), 1, 1))
    (hgd : o.guard = Option.none) (s x : Operand) (ho : o.op = .call { callee := .builtin .append, args := #[s, x], argTypes := #[22, 22] })
    (sa : Addr) (sn sc : Nat) (zs : List Int) (hs : a.eval s = .slice (some sa) sn sc) (hsn : zs.length = sn) (hz : Bytes w (some sa) zs)
    (xa : Addr) (xn xc : Nat) (ys : List Int) (hx : a.eval x = .slice (some xa) xn xc) (hxn : ys.length = xn) (hy : Bytes w (some xa) ys)
    (hfull : sc < sn + xn) (hlen : sn + xn ≤ 140737488355328)
    (h : ∀ a' c' w', Hid (OwnS w' w.heap.size a' c' (zs ++ ys)) → Hid (Kept No w w') → wpList P ops Q rest (a.put o.dst (.slice a' (sn + xn) c')) w') :
    wpList P ops Q (o :: rest) a w := by
  subst hsn hxn
  obtain ⟨i0, hi, hz0, hz1, hz2⟩ := info_parts h5
  have src : ∀ (ad : Addr) (L : List Int), Bytes w (some ad) L → ∀ j u, (L.map (Value.int .u8))[j]? = some u → w.cell? (ad.add j) = some u := by
    intro ad L hL j u hu
    obtain ⟨ad', e, hc⟩ := hL.src (by have := (List.getElem?_eq_some_iff.1 hu).1; omega)
    cases e
    exact hc j u hu
  refine wpList_append_grows w hgd s x 22 ho 5 i0 (.int .u8 0) 1 1 h22 hi hz0 hz1 hz2 rfl (by decide) (some sa) zs.length sc (zs.map (Value.int .u8)) hs (fun e => by cases e) (by simp) (fun b e j u hu => by cases e; exact src sa zs hz j u hu) xa ys.length xc (ys.map (Value.int .u8)) hx (by simp) (src xa ys hy) (u8_one ys) hfull (by unfold maxLen; omega) (by omega) ?_
  intro v' w' r1 r2
  have hv : ∃ a' c', v' = .slice a' (zs.length + ys.length) c' := by
    rcases r1.2 with ⟨e, h0⟩ | ⟨g, cap', cur, e, _⟩
    · exact ⟨_, _, by rw [h0]; exact e⟩
    · exact ⟨_, _, e⟩
  obtain ⟨a', c', rfl⟩ := hv
  refine h a' c' w' ?_ (kept_grown r2)
  show OwnS _ _ _ _ _
  unfold OwnS
  rw [List.length_append, List.map_append]
  exact r1

theorem openOf_long (N : Int) (r : List Int) (h0 : 131072 < N) (h1 : N ≤ 4294967295) : openOf (fourOf N ++ fourOf (sumOf (fourOf N)) ++ r) = ([], 2) := by
  have hb := sumOf_bd (fourOf N)
  have e1 : numOf ((fourOf N ++ fourOf (sumOf (fourOf N)) ++ r).drop 4) = sumOf ((fourOf N ++ fourOf (sumOf (fourOf N)) ++ r).take 4) := by
    rw [List.append_assoc, List.drop_append_of_le_length (by simp [fourOf_len]), List.take_append_of_le_length (by simp [fourOf_len])]
    rw [List.drop_of_length_le (by simp [fourOf_len]), List.take_of_length_le (by simp [fourOf_len]), List.nil_append]
    exact numOf_app _ _ hb.1 hb.2
  have e2 : numOf (fourOf N ++ fourOf (sumOf (fourOf N)) ++ r) = N := by
    rw [List.append_assoc]
    exact numOf_app _ _ (by omega) h1
  unfold openOf
  rw [if_neg (by simp [fourOf_len]; omega), if_neg (by rw [e1]; simp), e2, if_pos h0]

end Go.Proofs.Ytnhjpghkmbgeaab
