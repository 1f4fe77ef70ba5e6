import Derived.Test.YtgdnofacgfjaeabGreatRows
import Derived.Test.YtgdnofacgfjaeabGreatLa
namespace Go.Proofs.YtgdnofacgfjaeabGreat
open Go.RowKit
set_option linter.unusedVariables false

/-- A slice of bytes that the call itself has made (or nil), with all that it may grow into. -/
def OwnS (w : World) (base : Nat) (a : Option Addr) (cap : Nat) (zs : List Int) : Prop :=
  w.ownsRow base 5 1 (.slice a zs.length cap) zs.length (zs.map (Value.int .u8))

/-- The block behind an address. -/
def At (a : Option Addr) : Nat → Prop := fun k => ∃ ad, a = some ad ∧ ad.block = k

theorem OwnS.cases {w : World} {base : Nat} {a : Option Addr} {cap : Nat} {zs : List Int} (h : OwnS w base a cap zs) :
    (a = none ∧ cap = 0 ∧ zs = []) ∨ ∃ g, a = some ⟨g, 0, none⟩ ∧ base ≤ g ∧ g < w.heap.size ∧ (∃ sp, w.heap[g]? = some (.cells (zs.map (Value.int .u8) ++ sp).toArray 5 (0, 0)) ∧ zs.length + sp.length = cap) ∧ cap ≤ maxLen := by
  rcases h.2 with ⟨hv, hn⟩ | ⟨g, cap', cur, hv, hb, hg, hl, hm, hs, ht⟩
  · simp only [Value.slice.injEq] at hv
    exact .inl ⟨hv.1, hv.2.2, List.eq_nil_of_length_eq_zero hn⟩
  · simp only [Value.slice.injEq] at hv
    obtain ⟨rfl, -, rfl⟩ := hv
    refine .inr ⟨g, rfl, hb, (Array.getElem?_eq_some_iff.1 hg).1, ⟨cur.toList.drop zs.length, ?_, ?_⟩, hm⟩
    · rw [Nat.mul_one] at ht
      rw [← ht, List.take_append_drop, hg]
    · simp; omega

theorem OwnS.bytes {w : World} {base : Nat} {a : Option Addr} {cap : Nat} {zs : List Int} (h : OwnS w base a cap zs) : Bytes w a zs := by
  rcases h.cases with ⟨rfl, _, rfl⟩ | ⟨g, rfl, _, _, ⟨sp, hg, _⟩, _⟩
  · intro i hi; exact absurd hi (Nat.not_lt_zero _)
  · intro i hi
    refine ⟨g, 0, rfl, ?_⟩
    rw [Nat.zero_add, cell_of_row w g i _ 5 (0, 0) hg]
    simp [List.getElem?_append_left, hi]

theorem OwnS.nilcap {w : World} {base : Nat} {a : Option Addr} {cap : Nat} {zs : List Int} (h : OwnS w base a cap zs) : a = none → cap = 0 := by
  rcases h.cases with ⟨_, h2, _⟩ | ⟨g, rfl, _⟩
  · intro _; exact h2
  · intro e; cases e

theorem OwnS.base {w : World} {base : Nat} {a : Option Addr} {cap : Nat} {zs : List Int} (h : OwnS w base a cap zs) {k : Nat} (hk : At a k) : base ≤ k := by
  obtain ⟨ad, e, rfl⟩ := hk
  rcases h.cases with ⟨rfl, _, _⟩ | ⟨g, rfl, hb, _⟩
  · cases e
  · cases e; exact hb

theorem OwnS.len {w : World} {base : Nat} {a : Option Addr} {cap : Nat} {zs : List Int} (h : OwnS w base a cap zs) : zs.length ≤ cap := by
  rcases h.cases with ⟨_, _, rfl⟩ | ⟨g, _, _, _, ⟨sp, _, hs⟩, _⟩
  · simp
  · omega

theorem OwnS.nil (w : World) (base : Nat) : OwnS w base none 0 [] := World.ownsRow_nil _ _ _ _

theorem OwnS.kept {S : Nat → Prop} {w w' : World} {base : Nat} {a : Option Addr} {cap : Nat} {zs : List Int} (h : OwnS w base a cap zs) (hk : Kept S w w') (hS : ∀ k, At a k → ¬ S k) : OwnS w' base a cap zs := by
  refine ⟨h.1, ?_⟩
  rcases h.2 with hn | ⟨g, cap', cur, hv, hb, hg, rest⟩
  · exact .inl hn
  · refine .inr ⟨g, cap', cur, hv, hb, ?_, rest⟩
    rw [hk.block g (Array.getElem?_eq_some_iff.1 hg).1 (hS g ?_)]
    · exact hg
    · simp only [Value.slice.injEq] at hv
      exact ⟨_, hv.1, rfl⟩

theorem OwnS.no {w w' : World} {base : Nat} {a : Option Addr} {cap : Nat} {zs : List Int} (h : OwnS w base a cap zs) (hk : Kept No w w') : OwnS w' base a cap zs := h.kept hk (fun _ _ e => e)

/-- A smaller base. -/
theorem OwnS.lower {w : World} {base base' : Nat} {a : Option Addr} {cap : Nat} {zs : List Int} (h : OwnS w base a cap zs) (hb : base' ≤ base) : OwnS w base' a cap zs := by
  refine ⟨h.1, ?_⟩
  rcases h.2 with hn | ⟨g, cap', cur, hv, hb', rest⟩
  · exact .inl hn
  · exact .inr ⟨g, cap', cur, hv, by omega, rest⟩

theorem At.none {k : Nat} : ¬ At none k := fun ⟨_, e, _⟩ => by cases e

/-- append(s, x...): s the call's own, x whatever. -/
theorem wp_app {P : Program} (w : World) {ops : Array Oper} {rest : List Oper} {o : Oper} {a : Act} {Q : Exit → Act → World → Prop}
    (h23 : P.underlying 30 = some (.slice 5)) (h5 : (P.info? 5).map (fun i => (i.zero, i.size, i.bytes)) = some (some (.int .u8 0), 1, 1))
    (hgd : o.guard = Option.none) (s x : Operand) (ho : o.op = .call { callee := .builtin .append, args := #[s, x], argTypes := #[30, 30] })
    (base : Nat) (sa : Option Addr) (sn sc : Nat) (zs : List Int) (hs : a.eval s = .slice sa sn sc) (hsn : zs.length = sn) (hown : OwnS w base sa sc zs)
    (xa : Option Addr) (xn xc : Nat) (ys : List Int) (hx : a.eval x = .slice xa xn xc) (hxn : ys.length = xn) (hy : Bytes w xa ys) (hxc : xa = Option.none → xc = 0)
    (hlen : zs.length + ys.length ≤ 140737488355328) (hbase : base ≤ w.heap.size)
    (h : ∀ a' c' w', Hid (OwnS w' base a' c' (zs ++ ys)) → Hid (Kept (At sa) w w') → Hid (a' = Option.none → zs ++ ys = [] ∧ c' = 0) → wpList P ops Q rest (a.put o.dst (.slice a' (sn + xn) c')) w') :
    wpList P ops Q (o :: rest) a w := by
  subst hsn hxn
  obtain ⟨i0, hi, hz0, hz1, hz2⟩ := info_parts h5
  cases xa with
  | none =>
    obtain rfl := hxc rfl
    have hy0 : ys = [] := by
      cases ys with
      | nil => rfl
      | cons y r => obtain ⟨b, off, e, _⟩ := hy 0 (by simp); cases e
    subst hy0
    refine wpList_append_own_none hgd s x 30 ho base 5 i0 1 h23 hi _ _ _ hs hown (by simpa using hx) ?_
    have := h sa sc w (by rw [List.append_nil]; exact hown) (Kept.refl _ _) (fun e => by rw [List.append_nil]; rcases hown.cases with ⟨_, h2, h3⟩ | ⟨g, rfl, _⟩; exact ⟨h3, h2⟩; cases e)
    simpa using this
  | some ad =>
    refine wpList_append_own _ hgd s x 30 ho base 5 i0 (.int .u8 0) 1 1 h23 hi hz0 hz1 hz2 rfl (by decide) _ _ _ hs hown ad ys.length xc (ys.map (Value.int .u8)) hx (by simp) ?_ (u8_one ys) (by unfold maxLen; omega) (by omega) hbase ?_
    · intro j u hu
      obtain ⟨ad', e, hc⟩ := hy.src (by have := (List.getElem?_eq_some_iff.1 hu).1; omega)
      cases e
      exact hc j u hu
    · intro v' w' hown' hgrow hnil
      have hv : ∃ a' c', v' = .slice a' (zs.length + ys.length) c' := by
        rcases hown'.2 with ⟨e, h0⟩ | ⟨g, cap', cur, e, _⟩
        · exact ⟨_, _, by rw [h0]; exact e⟩
        · exact ⟨_, _, e⟩
      obtain ⟨a', c', rfl⟩ := hv
      have ho' : OwnS w' base a' c' (zs ++ ys) := by
        unfold OwnS
        rw [List.length_append, List.map_append]
        exact hown'
      refine h a' c' w' ho' ((Kept.refl _ _).grown hgrow (fun k e _ => ?_)) (fun e => ?_)
      · cases sa with
        | none => simp [Value.ownBlock] at e
        | some ad => simp [Value.ownBlock] at e; exact ⟨ad, rfl, e⟩
      · rcases ho'.cases with ⟨_, h2, h3⟩ | ⟨g, e', _⟩
        · exact ⟨h3, h2⟩
        · rw [e] at e'; cases e'

end Go.Proofs.YtgdnofacgfjaeabGreat
