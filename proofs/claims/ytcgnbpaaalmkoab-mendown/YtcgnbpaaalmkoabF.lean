import Derived.Test.YtcgnbpaaalmkoabC
import Derived.Laws.OwnMore
namespace Go.Proofs.Ytcgnbpaaalmkoab
open Go.RowKit
set_option linter.unusedVariables false
set_option linter.unusedSimpArgs false

/-- append onto a row of one's own. -/
theorem run_appN {w : World} (T ty E : TypeId) (c by' : Nat) (z : Value) (ht : Try.prog.underlying T = some (.slice E))
    (hinf : (Try.prog.info? E).map (fun i => (i.zero, i.size, i.bytes)) = some (some z, c, by')) (hzc : z.cells.size = c) (hc0 : 0 < c)
    (base n cap : Nat) (sa : Option Addr) (vs : List Value) (hown : Own E c w base sa cap n vs) (xa : Option Addr) (m cc : Nat) (news : List Value) (hl : news.length = m * c) (hx0 : xa = none → cc = 0) (hnews : ∀ j u, news[j]? = some u → ∃ ad, xa = some ad ∧ w.cell? (ad.add j) = some u) (h1 : ∀ u ∈ news, u.oneCell' = true) (hbd : (n + m) * by' ≤ 140737488355328) (hb63 : n + m ≤ 9223372036854775807) (hbase : base ≤ w.heap.size) :
    ∃ a' cap' w', (Builtin.append_ #[T, T] ty #[.slice sa n cap, .slice xa m cc]).run Try.prog w = .ok (.slice a' (n + m) cap') w' ∧ Own E c w' base a' cap' (n + m) (vs ++ news) ∧ Kept (At sa) w w' ∧ (∀ k, At a' k → At sa k ∨ k = w.heap.size) := by
  obtain ⟨i0, hi, hz0, hz1, hz2⟩ := info_parts hinf
  cases xa with
  | none =>
    have hm : m = 0 := by
      cases m with
      | zero => rfl
      | succ m =>
        have h0 : 0 < news.length := by rw [hl, Nat.succ_mul]; omega
        obtain ⟨ad, e, _⟩ := hnews 0 news[0] (List.getElem?_eq_getElem h0)
        cases e
    subst hm
    obtain rfl : news = [] := List.eq_nil_of_length_eq_zero (by simpa using hl)
    obtain rfl := hx0 rfl
    have hrun := run_append_owned_none (P := Try.prog) (w := w) base T ty E i0 c ht hi (.slice sa n cap) n vs hown
    exact ⟨sa, cap, w, hrun, by simpa using hown, Kept.refl _ _, fun k hk => .inl hk⟩
  | some ad =>
    obtain ⟨v', w', hrun, r1, r2, _, r4⟩ := run_append_own_at (P := Try.prog) (w := w) base T ty E i0 z c by' ht hi hz0 hz1 hz2 hzc hc0 (.slice sa n cap) n vs hown ad m cc news hl (fun j u hj => by obtain ⟨ad', e, h⟩ := hnews j u hj; cases e; exact h) h1 (by unfold maxLen; omega) hbd hbase
    have hk : Kept (At sa) w w' := (Kept.refl (At sa) w).grown r2 (fun k e hk => by
      cases sa with
      | none => cases e
      | some ad' => simp only [Value.ownBlock, Option.some.injEq] at e; exact ⟨ad', rfl, e⟩)
    rcases r1.2 with ⟨e, h0⟩ | ⟨g, cap', cur, e, _⟩
    · subst e
      refine ⟨none, 0, w', ?_, ?_, hk, fun k h => absurd h At.none⟩
      · rw [hrun, h0]
      · have := r1; rw [h0] at this ⊢; exact this
    · subst e
      refine ⟨some ⟨g, 0, none⟩, cap', w', hrun, r1, hk, ?_⟩
      rintro k ⟨ad2, e2, rfl⟩
      cases e2
      rcases r4 with e | e
      · left
        cases sa with
        | none => simp [Value.ownBlock] at e
        | some ad' => simp only [Value.ownBlock, Option.some.injEq] at e; exact ⟨ad', rfl, e.symm⟩
      · right; simpa [Value.ownBlock] using e
theorem exec_appN {o : Oper} {a : Act} {w w' : World} {v : Value} (s x : Operand) (T T' : TypeId) (ho : o.op = .call { callee := Callee.builtin Builtin.append, args := #[s, x], argTypes := #[T, T'] }) (vs vx : Value) (hs : a.eval s = vs) (hx : a.eval x = vx)
    (hrun : (Builtin.append_ #[T, T'] o.type #[vs, vx]).run Try.prog w = .ok v w') : (execOp a.eval o).run Try.prog w = .ok (.value v) w' := by
  simp [execOp, ho, resolve, invoke, builtin, hs, hx, hrun, Result.andThen]
/-- A list that can be read: the slice's value and what lies there. -/
structure RdE (w : World) (s : Sl) (es : List En) : Prop where
  row : Es w s.a es
  len : es.length = s.l
  cap : s.a = none → s.k = 0
structure RdL (w : World) (s : Sl) (es : List La) : Prop where
  row : Ls w s.a es
  len : es.length = s.l
  cap : s.a = none → s.k = 0
theorem RdE.kept {S : Nat → Prop} {w w' : World} {s : Sl} {es : List En} (h : RdE w s es) (hk : Kept S w w') (hS : ∀ k, At s.a k → ¬ S k) : RdE w' s es := ⟨RowsAt.kept h.row hk hS, h.len, h.cap⟩
theorem RdL.kept {S : Nat → Prop} {w w' : World} {s : Sl} {es : List La} (h : RdL w s es) (hk : Kept S w w') (hS : ∀ k, At s.a k → ¬ S k) : RdL w' s es := ⟨RowsAt.kept h.row hk hS, h.len, h.cap⟩
theorem RdE.no {w w' : World} {s : Sl} {es : List En} (h : RdE w s es) (hk : Kept No w w') : RdE w' s es := h.kept hk (fun _ _ e => e)
theorem RdL.no {w w' : World} {s : Sl} {es : List La} (h : RdL w s es) (hk : Kept No w w') : RdL w' s es := h.kept hk (fun _ _ e => e)
theorem RdE.src {w : World} {s : Sl} {es : List En} (h : RdE w s es) : ∀ (j : Nat) u, (enL es)[j]? = some u → ∃ ad, s.a = some ad ∧ w.cell? (ad.add j) = some u := by
  intro j u hj
  have hlt := (List.getElem?_eq_some_iff.1 hj).1
  rw [enL_len] at hlt
  have hi : j / 4 < es.length := by omega
  obtain ⟨b, off, e, hc⟩ := h.row.at hi
  refine ⟨_, e, ?_⟩
  have hj4 : j % 4 < (eAt es (j / 4)).cs.length := by have : (eAt es (j / 4)).cs.length = 4 := rfl; omega
  have := flat_get 4 (es.map En.cs) (enL_c es) (j / 4) (eAt es (j / 4)).cs (by rw [List.getElem?_map, eAt_some hi]; rfl) (j % 4) _ (List.getElem?_eq_getElem hj4)
  rw [show j / 4 * 4 + j % 4 = j by omega] at this
  have e2 : (eAt es (j / 4)).cs[j % 4]? = some u := by rw [List.getElem?_eq_getElem hj4, ← this]; exact hj
  rw [addr_add, show off + j = off + j / 4 * 4 + j % 4 by omega]
  exact hc _ _ e2
theorem RdL.src {w : World} {s : Sl} {es : List La} (h : RdL w s es) : ∀ (j : Nat) u, (laL es)[j]? = some u → ∃ ad, s.a = some ad ∧ w.cell? (ad.add j) = some u := by
  intro j u hj
  have hlt := (List.getElem?_eq_some_iff.1 hj).1
  rw [laL_len] at hlt
  have hi : j / 7 < es.length := by omega
  obtain ⟨b, off, e, hc⟩ := h.row.at hi
  refine ⟨_, e, ?_⟩
  have hj4 : j % 7 < (lAt es (j / 7)).cs.length := by have : (lAt es (j / 7)).cs.length = 7 := rfl; omega
  have := flat_get 7 (es.map La.cs) (laL_c es) (j / 7) (lAt es (j / 7)).cs (by rw [List.getElem?_map, lAt_some hi]; rfl) (j % 7) _ (List.getElem?_eq_getElem hj4)
  rw [show j / 7 * 7 + j % 7 = j by omega] at this
  have e2 : (lAt es (j / 7)).cs[j % 7]? = some u := by rw [List.getElem?_eq_getElem hj4, ← this]; exact hj
  rw [addr_add, show off + j = off + j / 7 * 7 + j % 7 by omega]
  exact hc _ _ e2
/-- A list that is one's own. -/
structure OwE (w : World) (base : Nat) (s : Sl) (es : List En) : Prop where
  own : Own 91 4 w base s.a s.k s.l (enL es)
  len : es.length = s.l
structure OwL (w : World) (base : Nat) (s : Sl) (es : List La) : Prop where
  own : Own 94 7 w base s.a s.k s.l (laL es)
  len : es.length = s.l
theorem Own.cap0 {t : TypeId} {c : Nat} {w : World} {base : Nat} {a : Option Addr} {cap n : Nat} {vs : List Value} (h : Own t c w base a cap n vs) (ha : a = none) : cap = 0 := by
  rcases h.cases h.1 with ⟨_, h, _⟩ | ⟨g, e, _⟩
  · exact h
  · rw [ha] at e; cases e
theorem OwE.rd {w : World} {base : Nat} {s : Sl} {es : List En} (h : OwE w base s es) : RdE w s es := ⟨Own.rows h.own (enL_c es) (by omega), h.len, h.own.cap0⟩
theorem OwL.rd {w : World} {base : Nat} {s : Sl} {es : List La} (h : OwL w base s es) : RdL w s es := ⟨Own.rows h.own (laL_c es) (by omega), h.len, h.own.cap0⟩
theorem OwE.kept {S : Nat → Prop} {w w' : World} {base : Nat} {s : Sl} {es : List En} (h : OwE w base s es) (hk : Kept S w w') (hS : ∀ k, At s.a k → ¬ S k) : OwE w' base s es := ⟨h.own.kept hk hS, h.len⟩
theorem OwL.kept {S : Nat → Prop} {w w' : World} {base : Nat} {s : Sl} {es : List La} (h : OwL w base s es) (hk : Kept S w w') (hS : ∀ k, At s.a k → ¬ S k) : OwL w' base s es := ⟨h.own.kept hk hS, h.len⟩
theorem OwE.no {w w' : World} {base : Nat} {s : Sl} {es : List En} (h : OwE w base s es) (hk : Kept No w w') : OwE w' base s es := h.kept hk (fun _ _ e => e)
theorem OwL.no {w w' : World} {base : Nat} {s : Sl} {es : List La} (h : OwL w base s es) (hk : Kept No w w') : OwL w' base s es := h.kept hk (fun _ _ e => e)
theorem OwE.nil (w : World) (base : Nat) : OwE w base slZ [] := ⟨Own.nil _ _ _ _, rfl⟩
theorem OwL.nil (w : World) (base : Nat) : OwL w base slZ [] := ⟨Own.nil _ _ _ _, rfl⟩
theorem OwE.lower {w : World} {base base' : Nat} {s : Sl} {es : List En} (h : OwE w base s es) (hb : base' ≤ base) : OwE w base' s es := ⟨h.own.lower hb, h.len⟩
theorem OwL.lower {w : World} {base base' : Nat} {s : Sl} {es : List La} (h : OwL w base s es) (hb : base' ≤ base) : OwL w base' s es := ⟨h.own.lower hb, h.len⟩
theorem Own.lt {t : TypeId} {c : Nat} {w : World} {base : Nat} {a : Option Addr} {cap n : Nat} {vs : List Value} (h : Own t c w base a cap n vs) {k : Nat} (hk : At a k) : k < w.heap.size := by
  rcases h.cases h.1 with ⟨rfl, _⟩ | ⟨g, rfl, _, hg, _⟩
  · exact absurd hk At.none
  · obtain ⟨ad, e, rfl⟩ := hk; cases e; exact hg
/-- Of unlike types: apart. -/
theorem Own.notBox {t : TypeId} {c : Nat} {w : World} {base : Nat} {a : Option Addr} {cap n : Nat} {vs : List Value} (h : Own t c w base a cap n vs) {g : Nat} {T : TypeId} {cs : Array Value} (hb : Box w g T cs) (hne : t ≠ T) : ¬ At a g := by
  rintro ⟨ad, e, rfl⟩
  rcases h.cases h.1 with ⟨rfl, _⟩ | ⟨g, rfl, _, hg, sp, hbx, _⟩
  · cases e
  · cases e
    exact box_ne hbx hb hne rfl
theorem Own.apart {t t' : TypeId} {c c' : Nat} {w : World} {base base' : Nat} {a a' : Option Addr} {cap n cap' n' : Nat} {vs vs' : List Value} (h : Own t c w base a cap n vs) (h' : Own t' c' w base' a' cap' n' vs') (hne : t ≠ t') {k : Nat} (hk : At a k) : ¬ At a' k := by
  rcases h.cases h.1 with ⟨rfl, _⟩ | ⟨g, rfl, _, hg, sp, hbx, _⟩
  · exact absurd hk At.none
  · obtain ⟨ad, e, rfl⟩ := hk
    cases e
    exact h'.notBox hbx (fun e => hne e.symm)
def CopOut (w : World) (up : Int) (es : List En) (ls : List La) (e : Ending) (w' : World) : Prop :=
  ∃ se sl : Sl, e = .returned (.agg (Bv.cells ⟨up, se, sl⟩)) ∧ OwE w' w.heap.size se es ∧ OwL w' w.heap.size sl ls ∧ Kept No w w'
end Go.Proofs.Ytcgnbpaaalmkoab
