import Derived.Test.YtgdnofacgfjaeabGreatA
import Derived.ArgAppend
namespace Go.Proofs.YtgdnofacgfjaeabGreat
open Go.RowKit
set_option linter.unusedVariables false

theorem own_at {w : World} {base : Nat} {e : TypeId} {size : Nat} {a : Option Addr} {n c : Nat} {xs : List Value} (h : w.ownsRow base e size (.slice a n c) n xs) {k : Nat} (hk : At a k) : base ≤ k := by
  obtain ⟨ad, rfl, rfl⟩ := hk
  rcases h.2 with ⟨hv, _⟩ | ⟨g, cap', cur, hv, hb, _⟩
  · simp only [Value.slice.injEq] at hv; cases hv.1
  · simp only [Value.slice.injEq, Option.some.injEq] at hv; rw [hv.1]; exact hb

theorem own_slice {w : World} {base : Nat} {e : TypeId} {size : Nat} {v : Value} {n : Nat} {xs : List Value} (h : w.ownsRow base e size v n xs) : ∃ a c, v = .slice a n c := by
  rcases h.2 with ⟨rfl, h0⟩ | ⟨g, cap', cur, e, _⟩
  · exact ⟨_, _, by rw [h0]⟩
  · exact ⟨_, _, e⟩

/-- append(s, x...): s the call's own, x whatever; where the new row lies. -/
theorem wp_appG {P : Program} (w : World) {ops : Array Oper} {rest : List Oper} {o : Oper} {a : Act} {Q : Exit → Act → World → Prop}
    (t e : TypeId) (z : Value) (size bytes : Nat) (ht : P.underlying t = some (.slice e)) (he : (P.info? e).map (fun i => (i.zero, i.size, i.bytes)) = some (some z, size, bytes)) (hz : z.cells.size = size) (hsz : 0 < size)
    (hgd : o.guard = Option.none) (s x : Operand) (ho : o.op = .call { callee := .builtin .append, args := #[s, x], argTypes := #[t, t] })
    (base : Nat) (sa : Option Addr) (sn sc : Nat) (xs : List Value) (hs : a.eval s = .slice sa sn sc) (hown : w.ownsRow base e size (.slice sa sn sc) sn xs)
    (xa : Option Addr) (xn xc : Nat) (news : List Value) (hx : a.eval x = .slice xa xn xc) (hxn : news.length = xn * size) (hxc : xa = Option.none → xn = 0 ∧ xc = 0)
    (hc : ∀ ad, xa = some ad → ∀ (j : Nat) u, news[j]? = some u → w.cell? (ad.add j) = some u) (h1c : ∀ u ∈ news, u.oneCell' = true)
    (hlen : sn + xn ≤ 140737488355328) (hby : (sn + xn) * bytes ≤ 140737488355328) (hbase : base ≤ w.heap.size)
    (h : ∀ a' c' w', Hid (w'.ownsRow base e size (.slice a' (sn + xn) c') (sn + xn) (xs ++ news)) → Hid (Kept (At sa) w w') → Hid ((a' = sa ∧ c' = sc) ∨ ∀ k, At a' k → w.heap.size ≤ k) → wpList P ops Q rest (a.put o.dst (.slice a' (sn + xn) c')) w') :
    wpList P ops Q (o :: rest) a w := by
  obtain ⟨i0, hi, hz0, hz1, hz2⟩ := info_parts he
  rcases hown.2 with ⟨hv, hn0⟩ | ⟨g, cap', cur, hv, hb, hg, hl, hm, hcs, htk⟩
  · simp only [Value.slice.injEq] at hv
    obtain ⟨rfl, rfl, rfl⟩ := hv
    have hxs : xs = [] := List.eq_nil_of_length_eq_zero (by have := hown.1; simpa using this)
    subst hxs
    cases xa with
    | none =>
      obtain ⟨rfl, rfl⟩ := hxc rfl
      have hnw : news = [] := List.eq_nil_of_length_eq_zero (by simpa using hxn)
      subst hnw
      refine wpList_append_own_none hgd s x t ho base e i0 size ht hi _ _ _ hs hown hx ?_
      exact h none 0 w hown (Kept.refl _ _) (.inl ⟨rfl, rfl⟩)
    | some ad =>
      refine wpList_append_own _ hgd s x t ho w.heap.size e i0 z size bytes ht hi hz0 hz1 hz2 hz hsz _ 0 [] hs (World.ownsRow_nil _ _ _ _) ad xn xc news hx hxn (hc ad rfl) h1c (by unfold maxLen; omega) hby (Nat.le_refl _) ?_
      intro v' w' hown' hgrow _
      obtain ⟨a', c', rfl⟩ := own_slice hown'
      refine h a' c' w' ⟨hown'.1, ?_⟩ ((Kept.refl _ _).grown hgrow (fun k e _ => by simp [Value.ownBlock] at e)) (.inr fun k hk => own_at hown' hk)
      rcases hown'.2 with hl' | ⟨g, cap', cur, e1, e2, e3⟩
      · exact .inl hl'
      · exact .inr ⟨g, cap', cur, e1, by omega, e3⟩
  · simp only [Value.slice.injEq] at hv
    obtain ⟨rfl, -, rfl⟩ := hv
    by_cases hfit : sn + xn ≤ sc
    · refine wpList_append_fits_any _ hgd s x t ho base e i0 size ht hi hz1 g sn sc xs hs hown xa xn xc news hx hxn hxc hc h1c hfit ?_
      intro w' hown' hgrow
      exact h _ _ w' hown' ((Kept.refl _ _).grown hgrow (fun k e _ => by cases e; exact ⟨_, rfl, rfl⟩)) (.inl ⟨rfl, rfl⟩)
    · cases xa with
      | none => obtain ⟨rfl, rfl⟩ := hxc rfl; omega
      | some ad =>
        refine wpList_append_grows _ hgd s x t ho e i0 z size bytes ht hi hz0 hz1 hz2 hz hsz (some ⟨g, 0, none⟩) sn sc xs hs (fun e => by cases e) hown.1 ?_ ad xn xc news hx hxn (hc ad rfl) h1c (by omega) (by unfold maxLen; omega) hby ?_
        · intro b eb j u hu
          cases eb
          exact hown.cells (by rfl) j u hu
        · intro v' w' hown' hgrow
          obtain ⟨a', c', rfl⟩ := own_slice hown'
          refine h a' c' w' ⟨hown'.1, ?_⟩ ((kept_grown hgrow).of_no) (.inr fun k hk => own_at hown' hk)
          rcases hown'.2 with hl' | ⟨g, cap', cur, e1, e2, e3⟩
          · exact .inl hl'
          · exact .inr ⟨g, cap', cur, e1, by omega, e3⟩

/-- .. of bytes. -/
theorem wp_appB {P : Program} (w : World) {ops : Array Oper} {rest : List Oper} {o : Oper} {a : Act} {Q : Exit → Act → World → Prop}
    (h23 : P.underlying 30 = some (.slice 5)) (h5 : (P.info? 5).map (fun i => (i.zero, i.size, i.bytes)) = some (some (.int .u8 0), 1, 1))
    (hgd : o.guard = Option.none) (s x : Operand) (ho : o.op = .call { callee := .builtin .append, args := #[s, x], argTypes := #[30, 30] })
    (base : Nat) (sa : Option Addr) (sn sc : Nat) (zs : List Int) (hs : a.eval s = .slice sa sn sc) (hsn : zs.length = sn) (hown : OwnS w base sa sc zs)
    (xa : Option Addr) (xn xc : Nat) (ys : List Int) (hx : a.eval x = .slice xa xn xc) (hxn : ys.length = xn) (hy : Bytes w xa ys) (hxc : xa = Option.none → xc = 0)
    (hlen : sn + xn ≤ 140737488355328) (hbase : base ≤ w.heap.size)
    (h : ∀ a' c' w', Hid (OwnS w' base a' c' (zs ++ ys)) → Hid (Kept (At sa) w w') → Hid ((a' = sa ∧ c' = sc) ∨ ∀ k, At a' k → w.heap.size ≤ k) → wpList P ops Q rest (a.put o.dst (.slice a' (sn + xn) c')) w') :
    wpList P ops Q (o :: rest) a w := by
  subst hsn hxn
  refine wp_appG w 30 5 (.int .u8 0) 1 1 h23 h5 rfl (by decide) hgd s x ho base sa _ sc (zs.map (Value.int .u8)) hs hown xa _ xc (ys.map (Value.int .u8)) hx (by simp) ?_ ?_ (u8_one ys) hlen (by omega) hbase ?_
  · intro e
    subst e
    refine ⟨?_, hxc rfl⟩
    cases ys with
    | nil => rfl
    | cons y r => obtain ⟨b, off, e, _⟩ := hy 0 (by simp); cases e
  · intro ad e j u hu
    subst e
    obtain ⟨ad', e, hc⟩ := hy.src (by have := (List.getElem?_eq_some_iff.1 hu).1; omega)
    cases e
    exact hc j u hu
  · intro a' c' w' HO HK HF
    refine h a' c' w' ?_ HK HF
    show OwnS w' base a' c' (zs ++ ys)
    unfold OwnS
    rw [List.length_append, List.map_append]
    exact HO

end Go.Proofs.YtgdnofacgfjaeabGreat
