import Derived.Test.YtgiokkcdgoloaabNb
import Derived.Test.YtgiokkcdgoloaabOc
import Derived.Laws.StructEq
namespace Go.Proofs.Ytgiokkcdgoloaab
open Go.RowKit
set_option linter.unusedVariables false
set_option linter.unusedSimpArgs false

def lessBl (x y : Bl) : Bool := lessB x.n x.c y.n y.c
def pickB (x y : Bl) : Bl := if lessBl x y then y else x
def NewOut2 (w : World) (r : Bl) (b : Bool) (e : Ending) (w' : World) : Prop :=
  ∃ a' cap', e = .returned (.tuple #[.agg #[.int .i64 r.n, .int .i64 r.c, .slice a' r.l cap'], .bool b]) ∧ OwnB w' w.heap.size a' cap' r.bs ∧ Kept No w w'
theorem newer_any (nb it : Bl) (ma : Option Addr) (mc : Nat) (da : Option Addr) (dk : Nat) (w : World) (hmb : Bytes w ma nb.bs) (hm : nb.bs.length = nb.l) (hml : nb.l ≤ 140737488351232) (hdb : Bytes w da it.bs) (hd : it.bs.length = it.l) (hdl : it.l ≤ 140737488351232) :
    Calls Try.prog 7 #[.agg #[.int .i64 nb.n, .int .i64 nb.c, .slice ma nb.l mc], .agg #[.int .i64 it.n, .int .i64 it.c], .slice da it.l dk] w (NewOut2 w (pickB nb it) (lessBl nb it)) := by
  unfold pickB
  cases h : lessBl nb it
  · refine (newerNo_any nb.n nb.c ma _ mc nb.bs it.n it.c da _ dk w hm (by omega) hmb h).mono ?_
    rintro e w' ⟨a', c', rfl, hO, hk⟩
    rw [hm]
    exact ⟨a', c', rfl, hO, hk⟩
  · refine (newerYes_any nb.n nb.c ma _ mc it.n it.c da _ dk it.bs w hd (by omega) hdb h).mono ?_
    rintro e w' ⟨a', c', rfl, hO, hk⟩
    rw [hd]
    exact ⟨a', c', rfl, hO, hk⟩
theorem lend_l (a : Option Addr) (cap l : Nat) (zs : List Int) (w : World) (hl : zs.length = l) (hm : l ≤ 140737488355328) (hb : Bytes w a zs) :
    Calls Try.prog 24 #[.slice a l cap] w fun e w' => e = .returned (.slice (some ⟨w.heap.size, 0, none⟩) l (l + 5)) ∧ Blk w' w.heap.size (lent zs 5) ∧ Kept No w w' := by
  subst hl; exact lend_any a cap zs w hm hb
theorem back_l (g : Nat) (a : Option Addr) (cap l : Nat) (zs : List Int) (w : World) (hl : zs.length = l) (hm : l ≤ 140737488355328) (hB : Blk w g (lent zs 5)) (hb : Bytes w a zs) :
    Calls Try.prog 25 #[.slice (some ⟨g, 0, none⟩) l (l + 5), .slice a l cap] w fun e w' => e = .returned (.bool true) ∧ Kept (Only g) w w' := by
  subst hl; exact back_any g a cap zs w hm hB hb
theorem same_l (a b : Option Addr) (ca cb l : Nat) (xs : List Int) (w : World) (hl : xs.length = l) (hm : l ≤ 281474976710656) (hx : Bytes w a xs) (hy : Bytes w b xs) :
    Calls Try.prog 6 #[.slice a l ca, .slice b l cb] w fun e w' => e = .returned (.bool true) ∧ Kept No w w' := by
  subst hl
  refine (same_any a b ca cb xs xs w hm hm hx hy).mono ?_
  rintro e w' ⟨rfl, n, rfl⟩
  rw [eqB_refl]
  exact ⟨rfl, Kept.no_drewN _ _⟩
theorem pickB_ok {w : World} {x y : Bl} (hx : BlOk w x) (hy : BlOk w y) : BlOk w (pickB x y) := by
  unfold pickB; split <;> assumption

/-- Bytes appended onto a new empty slice. -/
theorem wp_app0 {ops : Array Oper} {rest : List Oper} {o : Oper} {a : Act} {w0 : World} {Q : Exit → Act → World → Prop} (hg : o.guard = none) (s x : Operand) (ho : o.op = .call { callee := .builtin .append, args := #[s, x], argTypes := #[22, 22] })
    (hs : a.eval s = .slice (some ⟨w0.heap.size, 0, none⟩) 0 0) (sa : Option Addr) (n c : Nat) (zs : List Int) (hx : a.eval x = .slice sa n c) (hz : zs.length = n) (hn : n ≤ 140737488355328) (hb : Bytes w0 sa zs) (hnil : sa = none → n = 0 ∧ c = 0)
    (h : ∀ a' cap' w', Hid (OwnB w' w0.heap.size a' cap' zs) → Hid (Kept No w0 w') → wpList Try.prog ops Q rest (a.put o.dst (.slice a' n cap')) w') : wpList Try.prog ops Q (o :: rest) a (w0.alloc (.cells #[] 5)) := by
  obtain ⟨i0, hi, hz0, hz1, hz2⟩ := info_parts Try.info5
  have hmade := World.ownsRow_made w0 #[] 0 (e := 5) (size := 1) (base := w0.heap.size) (Nat.le_refl _) (Nat.zero_le _) rfl
  cases sa with
  | none =>
    obtain ⟨rfl, rfl⟩ := hnil rfl
    obtain rfl : zs = [] := List.eq_nil_of_length_eq_zero hz
    refine wpList_append_own_none hg s x 22 ho w0.heap.size 5 i0 1 Try.und22 hi _ _ _ hs hmade hx ?_
    exact h (some ⟨w0.heap.size, 0, none⟩) 0 _ hmade ((Kept.refl No w0).alloc _)
  | some ad =>
    refine wpList_append_own _ hg s x 22 ho w0.heap.size 5 i0 (.int .u8 0) 1 1 Try.und22 hi hz0 hz1 hz2 rfl (by decide) _ _ _ hs hmade ad n c (zs.map (Value.int .u8)) hx ?qc1 ?qc2 ?qc3 ?qc4 ?qc5 ?qc6 ?_
    case qc1 => simp [hz]
    case qc2 =>
      intro j u hj
      have hj0 : 0 < (zs.map (Value.int .u8)).length := by have := (List.getElem?_eq_some_iff.1 hj).1; omega
      obtain ⟨ad, e, h⟩ := hb.src hj0
      cases e
      exact Lib.cell?_alloc_some _ (h j u hj)
    case qc3 => exact num_one _ _
    case qc4 => unfold maxLen; omega
    case qc5 => omega
    case qc6 => simp
    intro v' w1 hown hgrow hnil'
    have hk : Kept No w0 w1 := ((Kept.refl No w0).alloc _).grown hgrow (by intro k hk h; simp [Value.ownBlock] at hk; omega)
    rcases hown.2 with ⟨e, _⟩ | ⟨g, cap', cur, e, hr⟩
    · exact absurd e (by first | exact hnil' | (intro e; exact absurd (hnil'.1 e).1 (by simp)))
    · have hown' := hown
      subst e
      have e1 : Value.slice (some ⟨g, 0, none⟩) (0 + n) cap' = .slice (some ⟨g, 0, none⟩) n cap' := by simp
      rw [e1]
      refine h (some ⟨g, 0, none⟩) cap' w1 ?_ hk
      show Own _ _ _ _ _ _ _ _
      unfold Own
      rw [hz]
      simpa using hown'

/-- A cell of a row of the call's own is written over. -/
theorem Own.setAt {t : TypeId} {w : World} {base : Nat} {a : Option Addr} {cap n : Nat} {vs : List Value} (h : Own t 1 w base a cap n vs) (k : Nat) (hk : k < n) :
    ∃ g, a = some ⟨g, 0, none⟩ ∧ w.cell? ⟨g, k, none⟩ = vs[k]? ∧ w.frozen? ⟨g, k, none⟩ = false ∧ ∀ u, Own t 1 (w.setCell ⟨g, k, none⟩ u) base a cap n (vs.set k u) := by
  obtain ⟨h1, h2⟩ := h
  rcases h2 with ⟨_, h0⟩ | ⟨g, cap', cur, hv, hb, hg, hle, hm, hs, ht⟩
  · omega
  · simp only [Value.slice.injEq] at hv
    obtain ⟨rfl, -, rfl⟩ := hv
    refine ⟨g, rfl, ?_, frozen_of_row w g k _ t hg, fun u => ⟨by simpa using h1, .inr ⟨g, cap, cur.setIfInBounds k u, rfl, hb, heap_setCell_same w g k _ t u hg, hle, hm, by simpa using hs, ?_⟩⟩⟩
    · rw [cell_of_row w g k _ t (0, 0) hg, ← ht]
      simp [hk]
    · rw [← ht]
      simp [List.take_set]
theorem flds41 : (Try.prog.fieldsOf 29).toList = [{ name := "N", type := 3, offset := 0, embedded := false, tag := "", pkgPath := "", byteOffset := 0 }, { name := "Client", type := 3, offset := 1, embedded := false, tag := "", pkgPath := "", byteOffset := 8 }] := by kernel_rfl
theorem part30 (a b : Value) (k : IntKind) (n : Int) (h : a = .int k n) (w : World) : (part 3 #[a, b] 0).run Try.prog w = .ok a w := by subst h; kernel_rfl
theorem part31 (a b : Value) (k : IntKind) (n : Int) (h : b = .int k n) (w : World) : (part 3 #[a, b] 1).run Try.prog w = .ok b w := by subst h; kernel_rfl
theorem eqStamp (n c m d : Int) (w : World) : (Op.equalIn 10000 29 (.agg #[.int .i64 n, .int .i64 c]) (.agg #[.int .i64 m, .int .i64 d])).run Try.prog w = .ok (n == m && c == d) w := by
  have h0 : ∀ (a c : Int) (w : World), (part 3 #[.int .i64 a, .int .i64 c] 0).run Try.prog w = .ok (.int .i64 a) w := fun a c w => part30 _ _ .i64 a rfl w
  have h1 : ∀ (a c : Int) (w : World), (part 3 #[.int .i64 a, .int .i64 c] 1).run Try.prog w = .ok (.int .i64 c) w := fun a c w => part31 _ _ .i64 c rfl w
  have hE : ∀ (a b : Int) (w : World), (Op.equalIn 9999 3 (.int .i64 a) (.int .i64 b)).run Try.prog w = .ok (a == b) w := fun a b w => run_equalIn_int w 9998 3 .i64 .i64 a b Try.und3
  rw [show (10000 : Nat) = 9998 + 1 + 1 from rfl, run_equalIn_struct w (9998 + 1) 29 _ _ (by kernel_rfl) (by kernel_rfl), flds41]
  cases h : n == m <;> cases h' : c == d <;> simp [Op.eqFields, h0, h1, hE, h, h', Result.andThen]
theorem neqStamp (n c m d : Int) (w : World) : (binOp .neq 29 (.agg #[.int .i64 n, .int .i64 c]) (.agg #[.int .i64 m, .int .i64 d])).run Try.prog w = .ok (.bool (!(n == m && c == d))) w := by
  rw [run_neq_struct, eqStamp]; rfl
theorem neqBool (b : Bool) (w : World) : (binOp .neq 4 (.bool b) (.bool b)).run Try.prog w = .ok (.bool false) w := by cases b <;> kernel_rfl

end Go.Proofs.Ytgiokkcdgoloaab
