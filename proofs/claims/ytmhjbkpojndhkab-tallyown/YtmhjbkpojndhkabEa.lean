import Derived.Test.YtmhjbkpojndhkabOc
import Derived.Deep.DeepAppendRoom
import Derived.ArgAppend
import Derived.StillTailTactics
import Derived.Deep.Cut
namespace Go.Proofs.Ytmhjbkpojndhkab
open Go.RowKit
set_option linter.unusedVariables false
set_option linter.unusedSimpArgs false

theorem Try.und33 : Try.prog.underlying 33 = some (.slice 22) := by kernel_rfl
theorem Try.info22 : (Try.prog.info? 22).map (fun i => (i.zero, i.size, i.bytes)) = some (some (.slice none 0 0), 1, 24) := by kernel_rfl

/-- A list that was told: where, how long, its room. -/
structure En where
  a : Option Addr
  l : Nat
  c : Nat
def enV (e : En) : Value := .slice e.a e.l e.c
instance : Inhabited En := ⟨⟨none, 0, 0⟩⟩

theorem Own.ltAt {t c : Nat} {w : World} {base : Nat} {a : Option Addr} {cap n : Nat} {vs : List Value} (h : Own t c w base a cap n vs) {k : Nat} (hk : At a k) : k < w.heap.size := by
  obtain ⟨ad, rfl, rfl⟩ := hk
  rcases h.2 with ⟨e, _⟩ | ⟨g, _, cur, e, _, hg, _⟩
  · cases e
  · cases e; exact (Array.getElem?_eq_some_iff.1 hg).1
theorem Own.at1 {t : TypeId} {w : World} {base : Nat} {a : Option Addr} {cap n : Nat} {vs : List Value} (h : Own t 1 w base a cap n vs) {i : Nat} (hi : i < n) : ∃ g v, a = some ⟨g, 0, none⟩ ∧ vs[i]? = some v ∧ w.cell? ⟨g, i, none⟩ = some v ∧ w.frozen? ⟨g, i, none⟩ = false := by
  have hl : vs.length = n * 1 := h.1
  rcases h.cases hl with ⟨_, _, e⟩ | ⟨g, rfl, _, _, sp, hg, _⟩
  · omega
  · have hb : Box w g t (vs ++ sp).toArray := hg
    have hv : vs[i]? = some vs[i] := List.getElem?_eq_getElem (by omega)
    refine ⟨g, vs[i], rfl, hv, ?_, hb.frozen i⟩
    rw [hb.cell, List.getElem?_toArray, List.getElem?_append_left (by omega), hv]
theorem Own.setAt {t : TypeId} {w : World} {base g cap n : Nat} {vs : List Value} (h : Own t 1 w base (some ⟨g, 0, none⟩) cap n vs) (i : Nat) (v : Value) (hi : i < n) : Own t 1 (w.setCell ⟨g, i, none⟩ v) base (some ⟨g, 0, none⟩) cap n (vs.set i v) := by
  refine ⟨by rw [List.length_set]; exact h.1, ?_⟩
  rcases h.2 with ⟨e, _⟩ | ⟨g', cap', cur, e, hb, hg, hle, hm, hs, ht⟩
  · cases e
  · cases e
    refine .inr ⟨g, cap, cur.setIfInBounds i v, rfl, hb, heap_setCell_same w g i _ t v hg, hle, hm, by simpa using hs, ?_⟩
    rw [← ht]
    simp [List.take_set]
theorem own_ne {W : World} {t t' c c' b b' n n' cap cap' : Nat} {a a' : Option Addr} {vs vs' : List Value} (h : Own t c W b a cap n vs) (h' : Own t' c' W b' a' cap' n' vs') (htt : t ≠ t') {k : Nat} (hk : At a k) : ¬ At a' k := by
  rintro ⟨ad', rfl, e'⟩
  obtain ⟨ad, rfl, e⟩ := hk
  rcases h.2 with ⟨e1, _⟩ | ⟨g, _, cur, e1, _, hg, _⟩
  · cases e1
  · rcases h'.2 with ⟨e2, _⟩ | ⟨g', _, cur', e2, _, hg', _⟩
    · cases e2
    · cases e1; cases e2
      have : g = g' := by have := e.trans e'.symm; exact this
      rw [this, hg'] at hg
      simp at hg
      exact htt hg.2.symm

/-- A list under growth, out of e: where it lies now. -/
structure Gw (wi w : World) (e : En) (j : Nat) (mv gv : Value) (a' : Option Addr) (c' : Nat) : Prop where
  kept : Kept (At e.a) wi w
  mkd : ∀ q, q < e.l → ∃ g, e.a = some ⟨g, 0, none⟩ ∧ w.cell? ⟨g, q, none⟩ = some mv
  own : Own 3 1 w 0 a' c' (e.l + j) (List.replicate e.l mv ++ List.replicate j gv)
  at' : ∀ k, At a' k → At e.a k ∨ wi.heap.size ≤ k

theorem Gw.start {w : World} {e : En} {mv : Value} (gv : Value) (h : Own 3 1 w 0 e.a e.c e.l (List.replicate e.l mv)) : Gw w w e 0 mv gv e.a e.c := by
  refine ⟨Kept.refl _ _, fun q hq => ?_, by simpa using h, fun k hk => .inl hk⟩
  obtain ⟨g, v, e1, h1, h2, _⟩ := h.at1 hq
  rw [List.getElem?_replicate, if_pos hq] at h1
  cases h1
  exact ⟨g, e1, h2⟩
theorem gr_next (l j : Nat) (mv gv : Value) : (List.replicate l mv ++ List.replicate j gv) ++ [gv] = List.replicate l mv ++ List.replicate (j + 1) gv := by
  simp [List.replicate_succ']

/-- One number more. -/
theorem wp_oneX {ops : Array Oper} {rest : List Oper} {o : Oper} {a : Act} {w : World} {Q : Exit → Act → World → Prop} (hg : o.guard = none) (s x : Operand) (ho : o.op = .call { callee := Callee.builtin Builtin.append, args := #[s, x], argTypes := #[22, 22] })
    (wi w0 : World) (e : En) (j : Nat) (mv : Value) (y : Int) (a' : Option Addr) (c' n : Nat) (hn : e.l + j = n) (hs : a.eval s = .slice a' n c') (hG : Gw wi w0 e j mv (.int .i64 y) a' c') (hw : w = w0.alloc (.cells #[.int .i64 y] 3)) (ad : Addr) (cc : Nat) (hx : a.eval x = .slice (some ad) 1 cc) (had : ad = ⟨w0.heap.size, 0, none⟩) (hb : n + 1 ≤ 17592186044000) (k : Nat) (hk : n + 1 = k)
    (h : ∀ a'' c'' w', Hid (Gw wi w' e (j + 1) mv (.int .i64 y) a'' c'') → wpList Try.prog ops Q rest (a.put o.dst (.slice a'' k c'')) w') : wpList Try.prog ops Q (o :: rest) a w := by
  subst hk hn had
  obtain ⟨i0, hi, hz0, hz1, hz2⟩ := info_parts Try.info3'
  have hnews : ∀ q u, [Value.int .i64 y][q]? = some u → w.cell? ((⟨w0.heap.size, 0, none⟩ : Addr).add q) = some u := by rw [hw]; exact cell_new1 _ _ _
  have hone : ∀ u ∈ [Value.int .i64 y], u.oneCell' = true := by simp [Value.oneCell']
  have hK0 : Kept No w0 w := by rw [hw]; exact (Kept.refl No w0).alloc _
  have hown : Own 3 1 w 0 a' c' (e.l + j) (List.replicate e.l mv ++ List.replicate j (.int .i64 y)) := hG.own.no hK0
  have hkw : Kept (At e.a) wi w := hG.kept.then hK0.of_no
  have hmk : ∀ q, q < e.l → ∃ g, e.a = some ⟨g, 0, none⟩ ∧ w.cell? ⟨g, q, none⟩ = some mv := fun q hq => by
    obtain ⟨g, e1, h1⟩ := hG.mkd q hq
    exact ⟨g, e1, hK0.cell h1 (fun e => e)⟩
  have hll : (List.replicate e.l mv ++ List.replicate j (Value.int .i64 y)).length = (e.l + j) * 1 := by simp
  by_cases hroom : e.l + j + 1 ≤ c'
  · rcases hown.cases hll with ⟨_, h0, _⟩ | ⟨g, rfl, _, _, _⟩
    · omega
    · refine wpList_append_own_spare w hg s x 22 ho 0 3 i0 1 Try.und22 hi hz1 g (e.l + j) c' _ hs hown _ 1 cc [.int .i64 y] hx rfl hnews hone hroom ?_
      intro w' hown' hgr
      have hown2 : Own 3 1 w' 0 (some ⟨g, 0, none⟩) c' (e.l + (j + 1)) (List.replicate e.l mv ++ List.replicate (j + 1) (.int .i64 y)) := by rw [← gr_next]; exact hown'
      have hk1 : Kept (Only g) w w' := (Kept.refl (Only g) w).grown hgr (fun q e _ => by cases e; exact rfl)
      have atg : At (some (⟨g, 0, none⟩ : Addr)) g := ⟨_, rfl, rfl⟩
      refine h _ _ w' ⟨hkw.trans hk1 (fun _ e => e) (fun i hi e1 => ?_), fun q hq => ?_, hown2, hG.at'⟩
      · have e1 : i = g := e1
        rcases hG.at' g atg with h1 | h1
        · rw [e1]; exact h1
        · omega
      · obtain ⟨g2, e1, h1⟩ := hmk q hq
        refine ⟨g2, e1, ?_⟩
        by_cases hgg : g2 = g
        · subst hgg
          obtain ⟨g3, v, e3, h3, h4, _⟩ := hown2.at1 (i := q) (by omega)
          cases e3
          rw [List.getElem?_append_left (by simpa using hq), List.getElem?_replicate, if_pos hq] at h3
          cases h3
          exact h4
        · exact hk1.cell h1 (fun e => hgg e)
  · refine wpList_append_grows w hg s x 22 ho 3 i0 (.int .i64 0) 1 8 Try.und22 hi hz0 hz1 hz2 rfl (by omega) a' (e.l + j) c' (List.replicate e.l mv ++ List.replicate j (.int .i64 y)) hs ?_ hll ?_ _ 1 cc [.int .i64 y] hx rfl hnews hone (by omega) (by unfold maxLen; omega) (by omega) ?_
    · intro e0
      rcases hown.cases hll with ⟨_, h1, h2⟩ | ⟨g, e1, _⟩
      · exact ⟨h2, h1⟩
      · rw [e0] at e1; cases e1
    · intro b hb q u hu
      rcases hown.cases hll with ⟨e1, _⟩ | ⟨g, e1, _, _, sp, hgb, _⟩
      · rw [e1] at hb; cases hb
      · rw [e1] at hb; cases hb
        have hbx : Box w g 3 _ := hgb
        have hq := (List.getElem?_eq_some_iff.1 hu).1
        rw [addr_add, Nat.zero_add, hbx.cell, List.getElem?_toArray, List.getElem?_append_left hq, hu]
    · intro v' w' hown' hgr
      have hk1 : Kept No w w' := kept_grown hgr
      rcases hown'.2 with ⟨_, h0⟩ | ⟨g, cap', cur, e1, hbs, _⟩
      · omega
      · subst e1
        have hown2 : Own 3 1 w' 0 (some ⟨g, 0, none⟩) cap' (e.l + (j + 1)) (List.replicate e.l mv ++ List.replicate (j + 1) (.int .i64 y)) := by rw [← gr_next]; exact Own.lower (base := w.heap.size) hown' (Nat.zero_le _)
        refine h _ _ w' ⟨hkw.then hk1.of_no, fun q hq => ?_, hown2, fun k hk => ?_⟩
        · obtain ⟨g2, e1, h1⟩ := hmk q hq
          exact ⟨g2, e1, hk1.cell h1 (fun e => e)⟩
        · obtain ⟨ad, e2, rfl⟩ := hk
          cases e2
          right
          have h1 := hkw.size
          show wi.heap.size ≤ g
          omega

end Go.Proofs.Ytmhjbkpojndhkab
