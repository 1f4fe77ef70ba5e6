import Derived.Test.YtppkjebiiheljaaRl
import Derived.Deep.DeepAppendRoom
import Derived.ArgAppend
namespace Go.Proofs.Ytppkjebiiheljaa
open Go.RowKit
set_option linter.unusedVariables false
set_option linter.unusedSimpArgs false

/-- A slice of bytes at its block's front: its block, its length, its room. -/
structure Ent where
  g : Nat
  l : Nat
  c : Nat
def entV (e : Ent) : Value := .slice (some ⟨e.g, 0, none⟩) e.l e.c
/-- It lies in memory, in a block that it has for itself. -/
structure EntOk (w : World) (e : Ent) : Prop where
  le : e.l ≤ e.c
  le2 : e.c ≤ 2000
  box : ∃ t cs, Box w e.g t (List.toArray cs) ∧ cs.length = e.c ∧ (t = 5 ∨ (t = 72 ∧ e.l = e.c))
theorem EntOk.kept {S : Nat → Prop} {w w' : World} {e : Ent} (h : EntOk w e) (hk : Kept S w w') (hS : ¬ S e.g) : EntOk w' e := by
  obtain ⟨h1, h2, t, cs, hb, hl, ht⟩ := h
  exact ⟨h1, h2, t, cs, hb.kept hk hS, hl, ht⟩
theorem EntOk.set {w : World} {e : Ent} (h : EntOk w e) (j : Nat) (v : Value) : EntOk (w.setCell ⟨e.g, j, none⟩ v) e := by
  obtain ⟨h1, h2, t, cs, hb, hl, ht⟩ := h
  refine ⟨h1, h2, t, cs.set j v, ?_, by rw [List.length_set]; exact hl, ht⟩
  have := hb.set j v
  simpa using this
theorem EntOk.lt {w : World} {e : Ent} (h : EntOk w e) : e.g < w.heap.size := by
  obtain ⟨_, _, t, cs, hb, _⟩ := h
  exact hb.lt
theorem EntOk.ty {w : World} {e : Ent} (h : EntOk w e) {g : Nat} {t : TypeId} {cs : Array Value} (hb : Box w g t cs) (h5 : t ≠ 5) (h7 : t ≠ 72) : e.g ≠ g := by
  obtain ⟨_, _, t', cs', hb', _, ht⟩ := h
  refine hb'.diff hb ?_
  rcases ht with rfl | ⟨rfl, _⟩
  · exact fun e => h5 e.symm
  · exact fun e => h7 e.symm
theorem EntOk.cell {w : World} {e : Ent} (h : EntOk w e) {j : Nat} (hj : j < e.c) : (∃ v, w.cell? ⟨e.g, j, none⟩ = some v) ∧ w.frozen? ⟨e.g, j, none⟩ = false := by
  obtain ⟨h1, h2, t, cs, hb, hl, ht⟩ := h
  refine ⟨⟨cs[j], ?_⟩, hb.frozen j⟩
  rw [hb.cell, List.getElem?_toArray, List.getElem?_eq_getElem]

/-- All its bytes are one. -/
def Marked (w : World) (e : Ent) (v : Value) : Prop := ∀ j, j < e.l → w.cell? ⟨e.g, j, none⟩ = some v
theorem Marked.kept {S : Nat → Prop} {w w' : World} {e : Ent} {v : Value} (h : Marked w e v) (hk : Kept S w w') (hS : ¬ S e.g) : Marked w' e v := fun j hj => hk.cell (h j hj) hS

/-- A row of such, each in a block of its own. -/
structure Erow (w : World) (lo : Nat) (K : List Ent) : Prop where
  ok : ∀ e ∈ K, EntOk w e ∧ lo ≤ e.g
  dis : ∀ (i j : Nat) e f, K[i]? = some e → K[j]? = some f → e.g = f.g → i = j
def EB (K : List Ent) : Nat → Prop := fun g => ∃ e ∈ K, e.g = g
theorem Erow.kept {S : Nat → Prop} {w w' : World} {lo : Nat} {K : List Ent} (h : Erow w lo K) (hk : Kept S w w') (hS : ∀ e ∈ K, ¬ S e.g) : Erow w' lo K := ⟨fun e he => ⟨(h.ok e he).1.kept hk (hS e he), (h.ok e he).2⟩, h.dis⟩
theorem Erow.no {w w' : World} {lo : Nat} {K : List Ent} (h : Erow w lo K) (hk : Kept No w w') : Erow w' lo K := h.kept hk (fun _ _ e => e)
/-- One more, new. -/
theorem Erow.add {w : World} {lo : Nat} {K : List Ent} (h : Erow w lo K) {e : Ent} (he : EntOk w e) (hlo : lo ≤ e.g) (hn : ∀ f ∈ K, f.g ≠ e.g) : Erow w lo (K ++ [e]) := by
  refine ⟨fun f hf => ?_, fun i j f f' hi hj hg => ?_⟩
  · rcases List.mem_append.1 hf with hf | hf
    · exact h.ok f hf
    · rw [List.mem_singleton.1 hf]; exact ⟨he, hlo⟩
  · by_cases h1 : i < K.length
    · rw [List.getElem?_append_left h1] at hi
      by_cases h2 : j < K.length
      · rw [List.getElem?_append_left h2] at hj
        exact h.dis i j f f' hi hj hg
      · rw [List.getElem?_append_right (by omega)] at hj
        have := List.mem_of_getElem? hj
        rw [List.mem_singleton.1 this] at hg
        exact absurd hg (hn f (List.mem_of_getElem? hi))
    · have hi2 : i - K.length = 0 := by
        rw [List.getElem?_append_right (by omega)] at hi
        have := (List.getElem?_eq_some_iff.1 hi).1
        simp at this; omega
      by_cases h2 : j < K.length
      · rw [List.getElem?_append_left h2] at hj
        rw [List.getElem?_append_right (by omega)] at hi
        have := List.mem_of_getElem? hi
        rw [List.mem_singleton.1 this] at hg
        exact absurd hg.symm (hn f' (List.mem_of_getElem? hj))
      · have hj2 : j - K.length = 0 := by
          rw [List.getElem?_append_right (by omega)] at hj
          have := (List.getElem?_eq_some_iff.1 hj).1
          simp at this; omega
        omega

/-- A row of slices is grown. -/
theorem wp_appR {ops : Array Oper} {rest : List Oper} {o : Oper} {a : Act} {w : World} {Q : Exit → Act → World → Prop} (hg : o.guard = none) (s x : Operand) (ho : o.op = .call { callee := Callee.builtin Builtin.append, args := #[s, x], argTypes := #[36, 36] })
    (base n cap : Nat) (sa : Option Addr) (vs : List Value) (hs : a.eval s = .slice sa n cap) (hown : Own 22 1 w base sa cap n vs) (ad : Addr) (m c : Nat) (news : List Value) (hx : a.eval x = .slice (some ad) m c) (hl : news.length = m) (hnews : ∀ j u, news[j]? = some u → w.cell? (ad.add j) = some u) (h1 : ∀ u ∈ news, u.oneCell' = true) (hbd : n + m ≤ 1000000) (hm : 0 < m) (hbase : base ≤ w.heap.size) (k : Nat) (hk : n + m = k)
    (h : ∀ g' cap' w', Hid (Own 22 1 w' base (some ⟨g', 0, none⟩) cap' k (vs ++ news)) → Hid (Kept (At sa) w w') → wpList Try.prog ops Q rest (a.put o.dst (.slice (some ⟨g', 0, none⟩) k cap')) w') : wpList Try.prog ops Q (o :: rest) a w := by
  subst hk
  obtain ⟨i0, hi, hz0, hz1, hz2⟩ := info_parts Try.info22
  obtain ⟨v', w', hrun, r1, r2, _⟩ := run_append_own (P := Try.prog) w base 36 o.type 22 i0 (.slice none 0 0) 1 24 Try.und36 hi hz0 hz1 hz2 rfl (by omega) (.slice sa n cap) n vs hown ad m c news (by omega) hnews h1 (by unfold maxLen; omega) (by omega) hbase
  have hk : Kept (At sa) w w' := (Kept.refl (At sa) w).grown r2 (fun k e hk => by
    cases sa with
    | none => cases e
    | some ad' => simp only [Value.ownBlock, Option.some.injEq] at e; exact ⟨ad', rfl, e⟩)
  rcases r1.2 with ⟨e, h0⟩ | ⟨g, cap', cur, e, _⟩
  · omega
  · subst e
    refine wp_runTo hg _ w' ?_ (h g cap' w' r1 hk)
    simp [execOp, ho, resolve, invoke, builtin, hs, hx, hrun, Result.andThen]

theorem Own.box {t : TypeId} {w : World} {base g cap n : Nat} {vs : List Value} (h : Own t 1 w base (some ⟨g, 0, none⟩) cap n vs) : ∃ sp, Box w g t (vs ++ sp).toArray ∧ vs.length + sp.length = cap ∧ vs.length = n := by
  have hl : vs.length = n * 1 := h.1
  rcases h.cases hl with ⟨e, _⟩ | ⟨g', e, _, _, sp, hb, hs⟩
  · cases e
  · cases e
    exact ⟨sp, hb, by omega, by omega⟩
theorem Own.at' {t : TypeId} {w : World} {base g cap n : Nat} {vs : List Value} (h : Own t 1 w base (some ⟨g, 0, none⟩) cap n vs) {i : Nat} {v : Value} (hv : vs[i]? = some v) : w.cell? ⟨g, i, none⟩ = some v := by
  obtain ⟨sp, hb, _⟩ := h.box
  have hi := (List.getElem?_eq_some_iff.1 hv).1
  rw [hb.cell, List.getElem?_toArray, List.getElem?_append_left hi, hv]

/-- A slice under growth: where it lies now, out of e. -/
structure Gr (wi wr : World) (e : Ent) (j : Nat) (mv gv : Value) (g' cap' : Nat) : Prop where
  kept : Kept (Only e.g) wi wr
  ok : EntOk wr e
  mkd : Marked wr e mv
  le : e.l + j ≤ cap'
  max : cap' ≤ maxLen
  at' : (g' = e.g ∧ cap' = e.c) ∨ wi.heap.size ≤ g'
  box : ∃ t cs, Box wr g' t (List.toArray cs) ∧ cs.length = cap' ∧ (t = 5 ∨ (t = 72 ∧ e.l + j = cap')) ∧ cs.take (e.l + j) = List.replicate e.l mv ++ List.replicate j gv

theorem Gr.start {w : World} {e : Ent} {mv : Value} (ok : EntOk w e) (mk : Marked w e mv) (gv : Value) : Gr w w e 0 mv gv e.g e.c := by
  have h2 := ok.le2
  refine ⟨Kept.refl _ _, ok, mk, ok.le, by unfold maxLen; omega, .inl ⟨rfl, rfl⟩, ?_⟩
  obtain ⟨h1, _, t, cs, hb, hl, ht⟩ := ok
  refine ⟨t, cs, hb, hl, ht.imp id (fun h => ⟨h.1, by rw [Nat.add_zero]; exact h.2⟩), ?_⟩
  rw [Nat.add_zero, List.replicate_zero, List.append_nil]
  apply List.ext_getElem?
  intro i
  rw [List.getElem?_take, List.getElem?_replicate]
  by_cases hi : i < e.l
  · rw [if_pos hi, if_pos hi]
    have := mk i hi
    rw [hb.cell, List.getElem?_toArray] at this
    exact this
  · rw [if_neg hi, if_neg hi]

theorem gr_len (e : Ent) (j : Nat) (mv gv : Value) : (List.replicate e.l mv ++ List.replicate j gv).length = e.l + j := by rw [List.length_append, List.length_replicate, List.length_replicate]
theorem gr_next (e : Ent) (j : Nat) (mv gv : Value) : (List.replicate e.l mv ++ List.replicate j gv) ++ [gv] = List.replicate e.l mv ++ List.replicate (j + 1) gv := by
  simp [List.replicate_succ']

/-- One byte more. -/
theorem wp_one {ops : Array Oper} {rest : List Oper} {o : Oper} {a : Act} {w : World} {Q : Exit → Act → World → Prop} (hg : o.guard = none) (s x : Operand) (ho : o.op = .call { callee := Callee.builtin Builtin.append, args := #[s, x], argTypes := #[22, 22] })
    (wi : World) (e : Ent) (j : Nat) (mv gv : Value) (g' cap' n : Nat) (hn : e.l + j = n) (hs : a.eval s = .slice (some ⟨g', 0, none⟩) n cap') (hG : Gr wi w e j mv gv g' cap') (ad : Addr) (c : Nat) (hx : a.eval x = .slice (some ad) 1 c) (hy : w.cell? ad = some gv) (h1 : gv.oneCell' = true) (hj : j ≤ 1000) (k : Nat) (hk : n + 1 = k)
    (h : ∀ g'' cap'' w', Hid (Gr wi w' e (j + 1) mv gv g'' cap'') → wpList Try.prog ops Q rest (a.put o.dst (.slice (some ⟨g'', 0, none⟩) k cap'')) w') : wpList Try.prog ops Q (o :: rest) a w := by
  subst hk hn
  obtain ⟨i0, hi, hz0, hz1, hz2⟩ := info_parts Try.info5
  obtain ⟨t, cs, hb, hcl, ht, htake⟩ := hG.box
  have hnews : ∀ q u, [gv][q]? = some u → w.cell? (ad.add q) = some u := by
    intro q u hu
    match q, hu with
    | 0, hu => cases hu; simpa [Addr.add] using hy
    | q + 1, hu => simp at hu
  have hone : ∀ u ∈ [gv], u.oneCell' = true := fun u hu => by rw [List.mem_singleton.1 hu]; exact h1
  have hel : e.l ≤ 2000 := Nat.le_trans hG.ok.le hG.ok.le2
  have hml : e.l + j + 1 ≤ maxLen := by unfold maxLen; omega
  by_cases hroom : e.l + j < cap'
  · have ht5 : t = 5 := ht.resolve_right (fun h => by omega)
    subst ht5
    have hown : w.ownsRow 0 5 1 (.slice (some ⟨g', 0, none⟩) (e.l + j) cap') (e.l + j) (List.replicate e.l mv ++ List.replicate j gv) :=
      ⟨by rw [gr_len]; omega, .inr ⟨g', cap', cs.toArray, rfl, Nat.zero_le _, hb, by omega, hG.max, by simpa using hcl, by simpa using htake⟩⟩
    refine wpList_append_own_spare w hg s x 22 ho 0 5 i0 1 Try.und22 hi hz1 g' (e.l + j) cap' _ hs hown ad 1 c [gv] hx rfl hnews hone (by omega) ?_
    intro w' hown' hgr
    refine h g' cap' w' ?_
    have hown2 : Own 5 1 w' 0 (some ⟨g', 0, none⟩) cap' (e.l + j + 1) (List.replicate e.l mv ++ List.replicate (j + 1) gv) := by rw [← gr_next]; exact hown'
    obtain ⟨sp, hb', hsp, hl'⟩ := hown2.box
    have hk1 : Kept (Only g') w w' := (Kept.refl (Only g') w).grown hgr (fun q e _ => by cases e; exact rfl)
    have hbox : ∃ t cs, Box w' g' t (List.toArray cs) ∧ cs.length = cap' ∧ (t = 5 ∨ (t = 72 ∧ e.l + (j + 1) = cap')) ∧ cs.take (e.l + (j + 1)) = List.replicate e.l mv ++ List.replicate (j + 1) gv :=
      ⟨5, _, hb', by rw [List.length_append]; exact hsp, .inl rfl, by
        have := gr_len e (j + 1) mv gv
        rw [List.take_append_of_le_length (by omega), List.take_of_length_le (by omega)]⟩
    by_cases hge : g' = e.g
    · subst hge
      have hce : cap' = e.c := by
        rcases hG.at' with h | h
        · exact h.2
        · obtain ⟨t0, cs0, hb0, hl0, _⟩ := hG.ok.box
          have e1 : some (Obj.cells cs0.toArray t0 (0, 0)) = some (Obj.cells cs.toArray 5 (0, 0)) := hb0.symm.trans hb
          have e2 : cs0.toArray = cs.toArray := by injection e1 with e1; injection e1
          have e3 : cs0.length = cs.length := by simpa using congrArg Array.size e2
          omega
      refine show Gr _ _ _ _ _ _ _ _ from ⟨hG.kept.then hk1, ⟨hG.ok.le, hG.ok.le2, 5, _, hb', by rw [List.length_append, hsp, hce], .inl rfl⟩, fun q hq => ?_, by omega, hG.max, .inl ⟨rfl, hce⟩, hbox⟩
      rw [hb'.cell, List.getElem?_toArray, List.append_assoc, List.getElem?_append_left (by rw [List.length_replicate]; exact hq), List.getElem?_replicate, if_pos hq]
    · have hne : ¬ Only g' e.g := fun h => hge h.symm
      have hat := hG.at'.resolve_left (fun h => hge h.1)
      exact show Gr _ _ _ _ _ _ _ _ from ⟨hG.kept.trans hk1 (fun _ e => e) (fun q hq e => by have : q = g' := e; omega), hG.ok.kept hk1 hne, hG.mkd.kept hk1 hne, by omega, hG.max, .inr hat, hbox⟩
  · refine wpList_append_grows w hg s x 22 ho 5 i0 (.int .u8 0) 1 1 Try.und22 hi hz0 hz1 hz2 rfl (by decide) (some ⟨g', 0, none⟩) (e.l + j) cap' (List.replicate e.l mv ++ List.replicate j gv) hs (fun e => by cases e) (by rw [gr_len]; omega) ?_ ad 1 c [gv] hx rfl hnews hone (by omega) hml (by omega) ?_
    · intro b eb q u hu
      cases eb
      have hq := (List.getElem?_eq_some_iff.1 hu).1
      rw [gr_len] at hq
      rw [← htake, List.getElem?_take, if_pos hq] at hu
      have := hb.cell q
      rw [List.getElem?_toArray, hu] at this
      have ea : (⟨g', 0, none⟩ : Addr).add q = ⟨g', q, none⟩ := by
        simp [Addr.add]
        intro h0
        rw [h0]
      rw [ea]
      exact this
    · intro v' w' hown' hgr
      have hk0 : Kept No w w' := kept_grown hgr
      rcases hown'.2 with ⟨_, h0⟩ | ⟨g'', cap'', cur, ev, hbg, _, hle, hmax, _⟩
      · omega
      · subst ev
        refine h g'' cap'' w' ?_
        have hown2 : Own 5 1 w' w.heap.size (some ⟨g'', 0, none⟩) cap'' (e.l + j + 1) (List.replicate e.l mv ++ List.replicate (j + 1) gv) := by rw [← gr_next]; exact hown'
        obtain ⟨sp, hb', hsp, hl'⟩ := hown2.box
        refine show Gr _ _ _ _ _ _ _ _ from ⟨hG.kept.trans hk0 (fun _ e => e) (fun _ _ e => e.elim), hG.ok.kept hk0 (fun e => e), hG.mkd.kept hk0 (fun e => e), by omega, hmax, .inr (Nat.le_trans hG.kept.size hbg), 5, _, hb', by rw [List.length_append]; exact hsp, .inl rfl, ?_⟩
        have := gr_len e (j + 1) mv gv
        rw [List.take_append_of_le_length (by omega), List.take_of_length_le (by omega)]

theorem Gr.no {wi wr w' : World} {e : Ent} {j : Nat} {mv gv : Value} {g' cap' : Nat} (h : Gr wi wr e j mv gv g' cap') (hk : Kept No wr w') : Gr wi w' e j mv gv g' cap' := by
  obtain ⟨t, cs, hb, r⟩ := h.box
  exact ⟨h.kept.trans hk (fun _ e => e) (fun _ _ e => e.elim), h.ok.kept hk (fun e => e), h.mkd.kept hk (fun e => e), h.le, h.max, h.at', t, cs, hb.kept hk (fun e => e), r⟩

/-- An image in memory, with some room behind it. -/
def Img (w : World) (g c : Nat) (I : List Int) : Prop := ∃ sp : List Value, Box w g 5 (I.map (Value.int .u8) ++ sp).toArray ∧ I.length = 1024 ∧ 1024 + sp.length = c
theorem Img.kept {S : Nat → Prop} {w w' : World} {g c : Nat} {I : List Int} (h : Img w g c I) (hk : Kept S w w') (hS : ¬ S g) : Img w' g c I := by
  obtain ⟨sp, hb, r⟩ := h
  exact ⟨sp, hb.kept hk hS, r⟩
theorem Img.numsAt {w : World} {g c : Nat} {I : List Int} (h : Img w g c I) (T : Nat) : Nums .u8 w (some ⟨g, T, none⟩) (I.drop T) := by
  obtain ⟨sp, hb, hl, _⟩ := h
  intro i hi
  rw [List.length_drop] at hi
  refine ⟨g, T, rfl, ?_⟩
  rw [hb.cell, List.getElem?_toArray, List.getElem?_append_left (by rw [List.length_map]; omega), List.getElem?_map, List.getElem?_drop, List.getElem?_eq_getElem (show T + i < I.length by omega)]
  rfl
theorem Img.nums {w : World} {g c : Nat} {I : List Int} (h : Img w g c I) : Nums .u8 w (some ⟨g, 0, none⟩) I := h.numsAt 0

/-- What DiskOwn holds while it runs. -/
structure S1 (w wr : World) (d b gI cI lo gR cR m : Nat) (K : List Ent) (x : DS) : Prop where
  len : K.length = m
  row : Own 22 1 wr w.heap.size (some ⟨gR, 0, none⟩) cR m (K.map entV)
  ents : Erow wr lo K
  dsk : Dsk wr d b x
  img : Img wr gI cI (flatN 2 x.c)
  lo : gI < lo ∧ w.heap.size ≤ gI ∧ w.heap.size ≤ d ∧ w.heap.size ≤ b
  kept : Kept No w wr
theorem S1.rowbox {w wr : World} {d b gI cI lo gR cR m : Nat} {K : List Ent} {x : DS} (h : S1 w wr d b gI cI lo gR cR m K x) : ∃ cs, Box wr gR 22 cs := by
  obtain ⟨sp, hb, _⟩ := h.row.box
  exact ⟨_, hb⟩
theorem S1.imgbox {w wr : World} {d b gI cI lo gR cR m : Nat} {K : List Ent} {x : DS} (h : S1 w wr d b gI cI lo gR cR m K x) : ∃ cs, Box wr gI 5 cs := by
  obtain ⟨sp, hb, _⟩ := h.img
  exact ⟨_, hb⟩
theorem at_some {g k : Nat} (h : At (some ⟨g, 0, none⟩) k) : k = g := by
  obtain ⟨ad, e, rfl⟩ := h
  cases e
  rfl
theorem S1.no {w wr w' : World} {d b gI cI lo gR cR m : Nat} {K : List Ent} {x : DS} (h : S1 w wr d b gI cI lo gR cR m K x) (hk : Kept No wr w') : S1 w w' d b gI cI lo gR cR m K x :=
  ⟨h.len, h.row.no hk, h.ents.no hk, h.dsk.no hk, h.img.kept hk (fun e => e), h.lo, h.kept.then hk⟩
theorem S1.left {w wr w' : World} {d b gI cI lo gR cR m : Nat} {K : List Ent} {x : DS} (h : S1 w wr d b gI cI lo gR cR m K x) (hk : Kept (DB d b) wr w') {y : DS} (hd : Dsk w' d b y) (hy : flatN 2 y.c = flatN 2 x.c) : S1 w w' d b gI cI lo gR cR m K y := by
  obtain ⟨cs, hrb⟩ := h.rowbox
  obtain ⟨cs', hib⟩ := h.imgbox
  refine ⟨h.len, h.row.kept hk (fun k ha e => ?_), h.ents.kept hk (fun e he hd => ?_), hd, ?_, h.lo, h.kept.trans hk (fun _ e => e) (fun i hi e => ?_)⟩
  · rw [at_some ha] at e; exact dsk_box h.dsk hrb (by decide) e
  · obtain ⟨_, _, t, cs, hb, _, ht⟩ := (h.ents.ok e he).1
    exact dsk_box h.dsk hb (by rcases ht with rfl | ⟨rfl, _⟩ <;> decide) hd
  · rw [hy]; exact h.img.kept hk (dsk_box h.dsk hib (by decide))
  · have := h.lo; rcases e with e | e <;> omega
theorem S1.mark {w wr : World} {d b gI cI lo gR cR m : Nat} {K : List Ent} {x : DS} (h : S1 w wr d b gI cI lo gR cR m K x) {w' : World} {e : Ent} (he : e ∈ K) (hk : Kept (Only e.g) wr w') (hok : EntOk w' e) : S1 w w' d b gI cI lo gR cR m K x := by
  obtain ⟨cs, hrb⟩ := h.rowbox
  have h1 := h.ents.ok e he
  have h2 := h.lo
  have hnd : ¬ DB d b e.g := by
    obtain ⟨_, _, t, cs, hb, _, ht⟩ := h1.1
    exact dsk_box h.dsk hb (by rcases ht with rfl | ⟨rfl, _⟩ <;> decide)
  refine ⟨h.len, h.row.kept hk (fun k ha eo => ?_), ⟨fun f hf => ?_, h.ents.dis⟩, h.dsk.kept hk (fun eo => hnd (.inl (Eq.symm eo))) (fun eo => hnd (.inr (Eq.symm eo))), h.img.kept hk (fun eo => ?_), h.lo, h.kept.trans hk (fun _ e => e) (fun i hi eo => ?_)⟩
  · have e1 := at_some ha
    have e2 : k = e.g := eo
    exact h1.1.ty hrb (by decide) (by decide) (by omega)
  · by_cases hfe : f.g = e.g
    · obtain ⟨i, hi⟩ := List.mem_iff_getElem?.1 hf
      obtain ⟨j, hj⟩ := List.mem_iff_getElem?.1 he
      have := h.ents.dis i j f e hi hj hfe
      subst this
      rw [hi] at hj
      cases hj
      exact ⟨hok, h1.2⟩
    · exact ⟨(h.ents.ok f hf).1.kept hk (fun eo => hfe eo), (h.ents.ok f hf).2⟩
  · have : gI = e.g := eo
    omega
  · have : i = e.g := eo
    omega
/-- The image takes a sector. -/
theorem S1.copy {w wr : World} {d b gI cI lo gR cR m : Nat} {K : List Ent} {x : DS} (h : S1 w wr d b gI cI lo gR cR m K x) {w' : World} (hk : Kept (Only gI) wr w') {y : DS} (hd : Dsk w' d b y) (hI : Img w' gI cI (flatN 2 y.c)) : S1 w w' d b gI cI lo gR cR m K y := by
  obtain ⟨cs, hrb⟩ := h.rowbox
  obtain ⟨cs', hib⟩ := h.imgbox
  refine ⟨h.len, h.row.kept hk (fun k ha eo => ?_), h.ents.kept hk (fun e he eo => ?_), hd, hI, h.lo, h.kept.trans hk (fun _ e => e) (fun i hi eo => ?_)⟩
  · have e1 := at_some ha
    have e2 : k = gI := eo
    exact hrb.diff hib (by decide) (by omega)
  · have e2 : e.g = gI := eo
    have := (h.ents.ok e he).2
    have := h.lo
    omega
  · have : i = gI := eo
    have := h.lo
    omega
/-- A sector is written, and the image takes it. -/
theorem S1.wr {w w2 w3 w4 : World} {d b gI cI lo gR cR m : Nat} {K : List Ent} {x y : DS} (h : S1 w w2 d b gI cI lo gR cR m K x) (hk : Kept (DB d b) w2 w3) (hd : Dsk w3 d b y) (hk' : Kept (Only gI) w3 w4) (hI : Img w4 gI cI (flatN 2 y.c)) : S1 w w4 d b gI cI lo gR cR m K y := by
  obtain ⟨cs, hrb⟩ := h.rowbox
  obtain ⟨cs', hib⟩ := h.imgbox
  have n1 := dsk_box h.dsk hrb (by decide)
  have n2 := dsk_box h.dsk hib (by decide)
  have hrb3 := hrb.kept hk n1
  have hib3 := hib.kept hk n2
  have n3 := dsk_box hd hib3 (by decide)
  have ne : ∀ e ∈ K, ¬ DB d b e.g := fun e he => by
    obtain ⟨_, _, t, cs, hb, _, ht⟩ := (h.ents.ok e he).1
    exact dsk_box h.dsk hb (by rcases ht with rfl | ⟨rfl, _⟩ <;> decide)
  have hl := h.lo
  refine ⟨h.len, (h.row.kept hk (fun k ha e => n1 (by rw [at_some ha] at e; exact e))).kept hk' (fun k ha eo => ?_), (h.ents.kept hk ne).kept hk' (fun e he eo => ?_), hd.kept hk' (fun eo => n3 (.inl (Eq.symm eo))) (fun eo => n3 (.inr (Eq.symm eo))), hI, h.lo, (h.kept.trans hk (fun _ e => e) (fun i hi e => by rcases e with e | e <;> omega)).trans hk' (fun _ e => e) (fun i hi eo => ?_)⟩
  · have e1 := at_some ha
    have e2 : k = gI := eo
    exact hrb3.diff hib3 (by decide) (by omega)
  · have e2 : e.g = gI := eo
    have := (h.ents.ok e he).2
    omega
  · have : i = gI := eo
    omega
/-- The row is grown. -/
theorem S1.grow {w w8 w9 : World} {d b gI cI lo gR cR m gR' cR' m' : Nat} {K K' : List Ent} {x : DS} (h : S1 w w8 d b gI cI lo gR cR m K x) (hk : Kept (At (some ⟨gR, 0, none⟩)) w8 w9) (hr : Own 22 1 w9 w.heap.size (some ⟨gR', 0, none⟩) cR' m' (K'.map entV)) (hE : Erow w8 lo K') (hl : K'.length = m') : S1 w w9 d b gI cI lo gR' cR' m' K' x := by
  obtain ⟨cs, hrb⟩ := h.rowbox
  obtain ⟨cs', hib⟩ := h.imgbox
  have n1 := dsk_box h.dsk hrb (by decide)
  have hb := h.row.base (k := gR) ⟨_, rfl, rfl⟩
  refine ⟨hl, hr, hE.kept hk (fun e he eo => (hE.ok e he).1.ty hrb (by decide) (by decide) (at_some eo)), h.dsk.kept hk (fun eo => n1 (.inl (at_some eo).symm)) (fun eo => n1 (.inr (at_some eo).symm)), h.img.kept hk (fun eo => hrb.diff hib (by decide) (at_some eo).symm), h.lo, h.kept.trans hk (fun _ e => e) (fun i hi eo => ?_)⟩
  have := at_some eo
  omega
theorem own_at {w : World} {n3 cL q k : Nat} {aL : Option Addr} {vs : List Value} (h : Own 22 1 w n3 aL cL q vs) (ha : At aL k) : n3 ≤ k ∧ ∃ cs, Box w k 22 cs := by
  have hl : vs.length = q * 1 := h.1
  obtain ⟨ad, rfl, rfl⟩ := ha
  rcases h.cases hl with ⟨e, _⟩ | ⟨g, e, hb, _, sp, hbx, _⟩
  · cases e
  · cases e
    exact ⟨hb, _, hbx⟩
/-- Another row is grown. -/
theorem S1.other {w wr w' : World} {d b gI cI lo gR cR m : Nat} {K : List Ent} {x : DS} (h : S1 w wr d b gI cI lo gR cR m K x) {aL : Option Addr} (hk : Kept (At aL) wr w') (ho : ∀ k, At aL k → k ≠ gR ∧ w.heap.size ≤ k ∧ ∃ cs, Box wr k 22 cs) : S1 w w' d b gI cI lo gR cR m K x := by
  obtain ⟨cs', hib⟩ := h.imgbox
  refine ⟨h.len, h.row.kept hk (fun k ha eo => (ho k eo).1 (at_some ha)), h.ents.kept hk (fun e he eo => ?_), h.dsk.kept hk (fun eo => ?_) (fun eo => ?_), h.img.kept hk (fun eo => ?_), h.lo, h.kept.trans hk (fun _ e => e) (fun i hi eo => ?_)⟩
  · obtain ⟨_, _, cs, hb⟩ := ho _ eo
    exact (h.ents.ok e he).1.ty hb (by decide) (by decide) rfl
  · obtain ⟨_, _, cs, hb⟩ := ho _ eo
    exact dsk_box h.dsk hb (by decide) (.inl rfl)
  · obtain ⟨_, _, cs, hb⟩ := ho _ eo
    exact dsk_box h.dsk hb (by decide) (.inr rfl)
  · obtain ⟨_, _, cs, hb⟩ := ho _ eo
    exact hb.diff hib (by decide) rfl
  · have := (ho i eo).2.1
    omega
/-- Four new ones. -/
theorem Erow.add4 {w : World} {lo n0 : Nat} {K : List Ent} (h : Erow w lo K) (hn : ∀ f ∈ K, f.g < n0) (hlo : lo ≤ n0) {e1 e2 e3 e4 : Ent} (o1 : EntOk w e1) (o2 : EntOk w e2) (o3 : EntOk w e3) (o4 : EntOk w e4) (l1 : n0 ≤ e1.g) (l2 : e1.g < e2.g) (l3 : e2.g < e3.g) (l4 : e3.g < e4.g) : Erow w lo (K ++ [e1, e2, e3, e4]) := by
  have h1 := h.add o1 (by omega) (fun f hf => by have := hn f hf; omega)
  have h2 := h1.add o2 (by omega) (fun f hf => by
    rcases List.mem_append.1 hf with hf | hf
    · have := hn f hf; omega
    · rw [List.mem_singleton.1 hf]; omega)
  have h3 := h2.add o3 (by omega) (fun f hf => by
    rcases List.mem_append.1 hf with hf | hf
    · rcases List.mem_append.1 hf with hf | hf
      · have := hn f hf; omega
      · rw [List.mem_singleton.1 hf]; omega
    · rw [List.mem_singleton.1 hf]; omega)
  have h4 := h3.add o4 (by omega) (fun f hf => by
    rcases List.mem_append.1 hf with hf | hf
    · rcases List.mem_append.1 hf with hf | hf
      · rcases List.mem_append.1 hf with hf | hf
        · have := hn f hf; omega
        · rw [List.mem_singleton.1 hf]; omega
      · rw [List.mem_singleton.1 hf]; omega
    · rw [List.mem_singleton.1 hf]; omega)
  simpa using h4
/-- A grown one. -/
def Long (w : World) (n3 : Nat) (f e : Ent) (mv gv : Value) : Prop := ∃ t cs, Box w f.g t (List.toArray cs) ∧ (t = 5 ∨ t = 72) ∧ cs.take (e.l + 70) = List.replicate e.l mv ++ List.replicate 70 gv ∧ f.l = e.l + 70 ∧ f.l ≤ f.c ∧ cs.length = f.c ∧ (f.g = e.g ∨ n3 ≤ f.g)
theorem Long.kept {S : Nat → Prop} {w w' : World} {n3 : Nat} {f e : Ent} {mv gv : Value} (h : Long w n3 f e mv gv) (hk : Kept S w w') (hS : ¬ S f.g) : Long w' n3 f e mv gv := by
  obtain ⟨t, cs, hb, r⟩ := h
  exact ⟨t, cs, hb.kept hk hS, r⟩
theorem Long.cell {w : World} {n3 : Nat} {f e : Ent} {mv gv : Value} (h : Long w n3 f e mv gv) {j : Nat} (hj : j < f.l) : w.cell? ⟨f.g, j, none⟩ = some (if j < e.l then mv else gv) := by
  obtain ⟨t, cs, hb, _, ht, hl, _⟩ := h
  have h1 : (cs.take (e.l + 70))[j]? = cs[j]? := by rw [List.getElem?_take, if_pos (by omega)]
  rw [hb.cell, List.getElem?_toArray, ← h1, ht]
  split
  · rename_i hh
    rw [List.getElem?_append_left (by rw [List.length_replicate]; exact hh), List.getElem?_replicate, if_pos hh]
  · rename_i hh
    rw [List.getElem?_append_right (by rw [List.length_replicate]; omega), List.getElem?_replicate, List.length_replicate, if_pos (by omega)]
theorem Gr.long {wi wr : World} {e : Ent} {mv gv : Value} {g' cap' : Nat} (h : Gr wi wr e 70 mv gv g' cap') {n3 : Nat} (hn : n3 ≤ wi.heap.size) : Long wr n3 ⟨g', e.l + 70, cap'⟩ e mv gv := by
  obtain ⟨t, cs, hb, hl, ht, htk⟩ := h.box
  exact ⟨t, cs, hb, ht.imp id (fun h => h.1), htk, rfl, h.le, hl, h.at'.imp (fun h => h.1) (fun h => by show n3 ≤ g'; omega)⟩

end Go.Proofs.Ytppkjebiiheljaa
