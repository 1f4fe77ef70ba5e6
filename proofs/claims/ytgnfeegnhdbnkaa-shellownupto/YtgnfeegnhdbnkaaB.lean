import Derived.Test.YtgnfeegnhdbnkaaA
import Derived.Laws.Rows
import Derived.Laws.Tables
import Derived.Deep.Cut
import Derived.Deep.CutBlock
import Derived.Deep.LoopGhost
import Derived.Deep.RegionHeld3
import Derived.Deep.MidRow
import Derived.Maps.AppendAt
import Derived.StillTailTactics
namespace Go.Proofs.Ytgnfeegnhdbnkaa
open Go.RowKit
set_option linter.unusedVariables false
set_option linter.unusedSimpArgs false

section
variable {ops : Array Oper} {rest : List Oper} {o : Oper} {a : Act} {w : World} {Q : Exit → Act → World → Prop}

theorem wp_runTo (hg : o.guard = none) (v : Value) (w' : World) (hrun : (execOp a.eval o).run Try.prog w = .ok (.value v) w')
    (h : wpList Try.prog ops Q rest (a.put o.dst v) w') : wpList Try.prog ops Q (o :: rest) a w := by
  refine wpList_plain hg fun K hK => ?_
  unfold Oper.wp
  rw [hrun, Oper.upon_value]
  exact hK _ _ h

end
theorem own_slice {w : World} {base : Nat} {e : TypeId} {size : Nat} {v : Value} {n : Nat} {xs : List Value} (h : w.ownsRow base e size v n xs) : ∃ a c, v = .slice a n c := by
  rcases h.2 with ⟨rfl, h0⟩ | ⟨g, cap', cur, e, _⟩
  · exact ⟨_, _, by rw [h0]⟩
  · exact ⟨_, _, e⟩
set_option linter.unusedVariables false

theorem own_at {w : World} {base : Nat} {e : TypeId} {size : Nat} {a : Option Addr} {n c : Nat} {xs : List Value} (h : w.ownsRow base e size (.slice a n c) n xs) {k : Nat} (hk : At a k) : base ≤ k := by
  obtain ⟨ad, rfl, rfl⟩ := hk
  rcases h.2 with ⟨hv, _⟩ | ⟨g, cap', cur, hv, hb, _⟩
  · simp only [Value.slice.injEq] at hv; cases hv.1
  · simp only [Value.slice.injEq, Option.some.injEq] at hv; rw [hv.1]; exact hb
theorem own_type {w : World} {base : Nat} {e : TypeId} {size : Nat} {a : Option Addr} {n c : Nat} {xs : List Value} (h : w.ownsRow base e size (.slice a n c) n xs) {k : Nat} (hk : At a k) : ∃ cur, w.heap[k]? = some (.cells cur e (0, 0)) := by
  obtain ⟨ad, rfl, rfl⟩ := hk
  rcases h.2 with ⟨hv, _⟩ | ⟨g, cap', cur, hv, hb, hg, _⟩
  · simp only [Value.slice.injEq] at hv; cases hv.1
  · simp only [Value.slice.injEq, Option.some.injEq] at hv; rw [hv.1]; exact ⟨cur, hg⟩

/-- append(s, x...): s the call's own, x whatever; in its place, or moved while nothing else has turned. -/
theorem wp_appN {P : Program} (w : World) {ops : Array Oper} {rest : List Oper} {o : Oper} {a : Act} {Q : Exit → Act → World → Prop}
    (t e : TypeId) (z : Value) (size bytes : Nat) (ht : P.underlying t = some (.slice e)) (he : (P.info? e).map (fun i => (i.zero, i.size, i.bytes)) = some (some z, size, bytes)) (hz : z.cells.size = size) (hsz : 0 < size)
    (hgd : o.guard = Option.none) (s x : Operand) (ho : o.op = .call { callee := .builtin .append, args := #[s, x], argTypes := #[t, t] })
    (base : Nat) (sa : Option Addr) (sn sc : Nat) (xs : List Value) (hs : a.eval s = .slice sa sn sc) (hown : w.ownsRow base e size (.slice sa sn sc) sn xs)
    (ad : Addr) (xn xc : Nat) (news : List Value) (hx : a.eval x = .slice (some ad) xn xc) (hxn : news.length = xn * size)
    (hc : ∀ (j : Nat) u, news[j]? = some u → w.cell? (ad.add j) = some u) (h1c : ∀ u ∈ news, u.oneCell' = true)
    (hlen : sn + xn ≤ 140737488355328) (hby : (sn + xn) * bytes ≤ 140737488355328) (hbase : base ≤ w.heap.size)
    (h : ∀ a' c' w', Hid (w'.ownsRow base e size (.slice a' (sn + xn) c') (sn + xn) (xs ++ news)) → Hid ((a' = sa ∧ c' = sc ∧ Kept (At sa) w w') ∨ ((∀ k, At a' k → w.heap.size ≤ k) ∧ Kept No w w')) → wpList P ops Q rest (a.put o.dst (.slice a' (sn + xn) c')) w') :
    wpList P ops Q (o :: rest) a w := by
  obtain ⟨i0, hi, hz0, hz1, hz2⟩ := info_parts he
  rcases hown.2 with ⟨hv, hn0⟩ | ⟨g, cap', cur, hv, hb, hg, hl, hm, hcs, htk⟩
  · simp only [Value.slice.injEq] at hv
    obtain ⟨rfl, rfl, rfl⟩ := hv
    have hxs : xs = [] := List.eq_nil_of_length_eq_zero (by have := hown.1; simpa using this)
    subst hxs
    refine wpList_append_own _ hgd s x t ho w.heap.size e i0 z size bytes ht hi hz0 hz1 hz2 hz hsz _ 0 [] hs (World.ownsRow_nil _ _ _ _) ad xn xc news hx hxn hc h1c (by unfold maxLen; omega) hby (Nat.le_refl _) ?_
    intro v' w' hown' hgrow _
    obtain ⟨a', c', rfl⟩ := own_slice hown'
    refine h a' c' w' ⟨hown'.1, ?_⟩ (.inr ⟨fun k hk => own_at hown' hk, (Kept.refl _ _).grown hgrow (fun k e _ => by simp [Value.ownBlock] at e)⟩)
    rcases hown'.2 with hl' | ⟨g, cap', cur, e1, e2, e3⟩
    · exact .inl hl'
    · exact .inr ⟨g, cap', cur, e1, by omega, e3⟩
  · simp only [Value.slice.injEq] at hv
    obtain ⟨rfl, -, rfl⟩ := hv
    by_cases hfit : sn + xn ≤ sc
    · refine wpList_append_fits_any _ hgd s x t ho base e i0 size ht hi hz1 g sn sc xs hs hown (some ad) xn xc news hx hxn (fun e => by cases e) (fun ad' e => by cases e; exact hc) h1c hfit ?_
      intro w' hown' hgrow
      exact h _ _ w' hown' (.inl ⟨rfl, rfl, (Kept.refl _ _).grown hgrow (fun k e _ => by cases e; exact ⟨_, rfl, rfl⟩)⟩)
    · refine wpList_append_grows _ hgd s x t ho e i0 z size bytes ht hi hz0 hz1 hz2 hz hsz (some ⟨g, 0, none⟩) sn sc xs hs (fun e => by cases e) hown.1 ?_ ad xn xc news hx hxn hc h1c (by omega) (by unfold maxLen; omega) hby ?_
      · intro b eb j u hu
        cases eb
        exact hown.cells (by rfl) j u hu
      · intro v' w' hown' hgrow
        obtain ⟨a', c', rfl⟩ := own_slice hown'
        refine h a' c' w' ⟨hown'.1, ?_⟩ (.inr ⟨fun k hk => own_at hown' hk, kept_grown hgrow⟩)
        rcases hown'.2 with hl' | ⟨g, cap', cur, e1, e2, e3⟩
        · exact .inl hl'
        · exact .inr ⟨g, cap', cur, e1, by omega, e3⟩

def Part (cs : List Value) (off : Nat) (sub : List Value) : Prop := ∀ (j : Nat) v, sub[j]? = some v → cs[off + j]? = some v
theorem Part.all (cs : List Value) : Part cs 0 cs := fun j v h => by rwa [Nat.zero_add]
theorem Part.mid (a b c : List Value) {n : Nat} (hn : a.length = n) : Part (a ++ (b ++ c)) n b := fun j v h => by
  have hj := (List.getElem?_eq_some_iff.1 h).1
  rw [List.getElem?_append_right (by omega), show n + j - a.length = j by omega, List.getElem?_append_left hj, h]
theorem Part.trans {a b c : List Value} {n m : Nat} (h : Part a n b) (k : Part b m c) : Part a (n + m) c := fun j v e => by
  rw [Nat.add_assoc]; exact h _ _ (k _ _ e)
theorem run_load_part {w : World} {g off : Nat} {T t : TypeId} {cs sub : List Value} {d : TypeDesc} (hb : Box w g T cs.toArray) (hp : Part cs off sub)
    (hu : Try.prog.underlying t = some d) (hd : (match d with | .struct _ | .array _ _ => true | _ => false) = true) (hi : (Try.prog.info? t).map (·.size) = some sub.length) :
    (loadVar t ⟨g, off, none⟩).run Try.prog w = .ok (.agg sub.toArray) w := by
  have hl : (loadCells ⟨g, off, none⟩ sub.length).run Try.prog w = .ok sub.toArray w :=
    run_loadCells_list (P := Try.prog) w ⟨g, off, none⟩ sub (fun j v hv => by
      rw [addr_add, hb.cell, List.getElem?_toArray]
      exact hp j v hv)
  cases hq : Try.prog.info? t with
  | none => simp [hq] at hi
  | some i =>
    have hs : i.size = sub.length := by simpa [hq] using hi
    have hagg : (isAgg t).run Try.prog w = .ok true w := by
      unfold isAgg
      rw [Sem.run_bind, run_underlying hu w]
      cases d <;> simp_all
    simp [loadVar, Sem.run_bind, hagg, sizeOf, typeInfo, hq, hs, hl]
def putL (l : List Value) (k : Nat) (vs : List Value) : List Value := l.take k ++ (vs ++ l.drop (k + vs.length))
theorem run_storeCells_at (g off : Nat) (t : TypeId) : ∀ (vs : List Value) (i : Nat) (cur : List Value) (w : World), Box w g t cur.toArray → off + i + vs.length ≤ cur.length → (∀ v ∈ vs, v.oneCell' = true) →
    (storeCells ⟨g, off, none⟩ vs i).run Try.prog w = .ok () (w.setRow g (putL cur (off + i) vs).toArray)
  | [], i, cur, w, hg, hl, _ => by
    have e : putL cur (off + i) [] = cur := by simp [putL]
    rw [e]
    have hlt : g < w.heap.size := hg.lt
    have hv : w.heap[g] = .cells cur.toArray t (0, 0) := (Array.getElem?_eq_some_iff.1 hg).2
    simp only [storeCells]
    show Result.ok () w = _
    congr 1
    unfold World.setRow
    cases w with
    | mk heap tape drawn os output =>
      congr 1
      apply Array.ext
      · simp
      · intro k h1 h2
        simp only [Array.getElem_modify]
        split
        · rename_i hk; subst hk; simp at hv; simp [hv]
        · rfl
  | v :: rest, i, cur, w, hg, hl, h1 => by
    simp only [List.length_cons] at hl
    have hi : off + i < cur.length := by omega
    have hcell : w.cell? ⟨g, off + i, none⟩ = some cur[off + i] := by rw [hg.cell, List.getElem?_toArray, List.getElem?_eq_getElem hi]
    have hst : (store ((⟨g, off, none⟩ : Addr).add i) v).run Try.prog w = .ok () (w.setRow g (cur.set (off + i) v).toArray) := by
      rw [addr_add, run_store Try.prog w _ v _ (h1 v (by simp)), hcell]
      have := setCell_eq_setRow w g (off + i) cur.toArray t (0, 0) v hg
      simp only [List.setIfInBounds_toArray] at this
      simp [hg.frozen, this]
    have hb2 : Box (w.setRow g (cur.set (off + i) v).toArray) g t (cur.set (off + i) v).toArray := setRow_heap w g _ _ t _ hg
    have ih := run_storeCells_at g off t rest (i + 1) (cur.set (off + i) v) (w.setRow g (cur.set (off + i) v).toArray) hb2 (by simp; omega) (fun x hx => h1 x (by simp [hx]))
    simp only [storeCells, Sem.run_bind, hst, Result.andThen_ok, ih, setRow_setRow]
    congr 3
    unfold putL
    apply List.ext_getElem?
    intro k
    simp only [List.getElem?_append, List.length_take, List.length_set, List.getElem?_take, List.getElem?_set, List.getElem?_drop, List.length_cons]
    by_cases hk : k < off + i
    · have q1 : min (off + (i + 1)) cur.length = off + (i + 1) := by omega
      have q2 : min (off + i) cur.length = off + i := by omega
      simp [q1, q2, hk, show k < off + (i + 1) by omega, show off + i ≠ k by omega]
    · have q1 : min (off + (i + 1)) cur.length = off + (i + 1) := by omega
      have q2 : min (off + i) cur.length = off + i := by omega
      by_cases hk2 : k = off + i
      · subst hk2
        simp [q1, q2, hi, show off + i < off + (i + 1) by omega]
      · simp only [q1, q2, hk, show ¬ k < off + (i + 1) by omega, if_false]
        have e1 : k - (off + i) = (k - (off + (i + 1))) + 1 := by omega
        rw [e1]
        simp only [List.getElem?_cons_succ]
        by_cases hk3 : k - (off + (i + 1)) < rest.length
        · simp [hk3]
        · have e2 : off + (i + 1) + rest.length + (k - (off + (i + 1)) - rest.length) = off + i + (rest.length + 1) + (k - (off + (i + 1)) - rest.length) := by omega
          have e3 : off + i ≠ off + (i + 1) + rest.length + (k - (off + (i + 1)) - rest.length) := by omega
          have e4 : k - (off + (i + 1)) + 1 - (rest.length + 1) = k - (off + (i + 1)) - rest.length := by omega
          simp [hk3, e3, e4, e2]
          intro h
          omega
theorem run_store_at {w : World} {g off : Nat} {T ty : TypeId} {cur vs : List Value} {v : Value} (hb : Box w g T cur.toArray) (hv : v.cells = vs.toArray) (hi : (Try.prog.info? ty).map (·.size) = some vs.length)
    (hl : off + vs.length ≤ cur.length) (h1 : ∀ x ∈ vs, x.oneCell' = true) : (storeVar ty ⟨g, off, none⟩ v).run Try.prog w = .ok () (w.setRow g (putL cur off vs).toArray) := by
  have := run_storeCells_at g off T vs 0 cur w hb (by omega) h1
  cases hq : Try.prog.info? ty with
  | none => simp [hq] at hi
  | some i =>
    have hs : vs.length = i.size := by simp [hq] at hi; omega
    simp only [Nat.add_zero] at this
    simp [storeVar, sizeOf, typeInfo, hq, hv, hs, this]
theorem putL_all {l vs : List Value} (h : l.length = vs.length) : putL l 0 vs = vs := by simp [putL, ← h]
theorem Box.setRow {w : World} {g : Nat} {t : TypeId} {old : Array Value} (h : Box w g t old) (cs : Array Value) : Box (w.setRow g cs) g t cs := setRow_heap w g old cs t (0, 0) h
theorem Kept.setRow (w : World) (g : Nat) (cs : Array Value) : Kept (Only g) w (w.setRow g cs) :=
  ⟨rfl, rfl, rfl, by simp [World.setRow], fun k _ hk => setRow_other w g k cs hk⟩
theorem Box.rowNe {w : World} {g g' : Nat} {t : TypeId} {cs : Array Value} (h : Box w g t cs) (hne : g ≠ g') (cs' : Array Value) : Box (w.setRow g' cs') g t cs := h.kept (Kept.setRow _ _ _) (fun e => hne e)
theorem Kept.newRow {a w : World} (h : Kept No a w) {g : Nat} (hg : a.heap.size ≤ g) (cs : Array Value) : Kept No a (w.setRow g cs) :=
  h.trans (Kept.setRow _ _ _) (fun _ e => e) (fun i hi e => by have : i = g := e; omega)
theorem box_ne {w : World} {g g' : Nat} {t t' : TypeId} {cs cs' : Array Value} (h : Box w g t cs) (h' : Box w g' t' cs') (ht : t ≠ t') : g ≠ g' := by
  rintro rfl
  unfold Box at h h'
  rw [h] at h'
  simp at h'
  exact ht h'.2
theorem zero_of {t : TypeId} {v : Value} (h : (Try.prog.info? t).bind (·.zero) = some v) (w : World) : (zeroValue t).run Try.prog w = .ok v w := by
  cases hi : Try.prog.info? t with
  | none => rw [hi] at h; cases h
  | some i =>
    rw [hi] at h
    simp only [Option.bind_some] at h
    simp [zeroValue, typeInfo, hi, h]
theorem load_one {w : World} {ad : Addr} {t : TypeId} {d : TypeDesc} {v : Value} (hc : w.cell? ad = some v) (hu : Try.prog.underlying t = some d) (hd : (match d with | .struct _ | .array _ _ => true | _ => false) = false) : (loadVar t ad).run Try.prog w = .ok v w := by
  have hagg : (isAgg t).run Try.prog w = .ok false w := by
    unfold isAgg
    rw [Sem.run_bind, run_underlying hu w]
    cases d <;> simp_all
  simp [loadVar, Sem.run_bind, hagg, hc]
section
variable {ops : Array Oper} {rest : List Oper} {o : Oper} {a : Act} {w : World} {Q : Exit → Act → World → Prop}
theorem exec_load (t : TypeId) (x : Operand) (ho : o.op = .load t x) (ad : Addr) (hx : a.eval x = .pointer (some ad)) (v : Value) (hrun : (loadVar t ad).run Try.prog w = .ok v w) : (execOp a.eval o).run Try.prog w = .ok (.value v) w := by
  simp only [execOp, ho, hx, Instr.loadAt, Instr.sureAddr, Sem.run_bind, Sem.run_pure, Result.andThen_ok, hrun]
theorem wp_loadV (hg : o.guard = none) (t : TypeId) (x : Operand) (ho : o.op = .load t x) (ad : Addr) (hx : a.eval x = .pointer (some ad)) (v : Value) (hrun : (loadVar t ad).run Try.prog w = .ok v w)
    (h : wpList Try.prog ops Q rest (a.put o.dst v) w) : wpList Try.prog ops Q (o :: rest) a w := wp_runTo hg v w (exec_load t x ho ad hx v hrun) h
theorem wp_storeV (hg : o.guard = none) (t : TypeId) (x y : Operand) (ho : o.op = .store t x y) (ad : Addr) (v : Value) (hx : a.eval x = .pointer (some ad)) (hy : a.eval y = v) (w' : World) (hrun : (storeVar t ad v).run Try.prog w = .ok () w')
    (h : wpList Try.prog ops Q rest (a.put o.dst undef) w') : wpList Try.prog ops Q (o :: rest) a w := by
  refine wpList_plain hg fun K hK => ?_
  unfold Oper.wp execOp
  simp only [ho, hx, hy, Instr.storeAt, Instr.sureAddr, Sem.run_bind, Sem.run_pure, Result.andThen_ok, hrun]
  exact hK _ _ h
theorem wp_boxV (hg : o.guard = none) (t : TypeId) (x : Operand) (ho : o.op = .box t x) (cs : Array Value) (hx : a.eval x = .agg cs) (N : Nat) (hN : w.heap.size = N)
    (h : wpList Try.prog ops Q rest (a.put o.dst (.pointer (some ⟨N, 0, none⟩))) (w.alloc (.cells cs t))) : wpList Try.prog ops Q (o :: rest) a w := by
  subst hN
  refine wp_runTo hg _ (w.alloc (.cells cs t)) ?_ h
  simp only [execOp, ho, hx, Instr.box, Sem.run_bind, Result.andThen_ok, newVar, newRow, run_newObj_alloc, Sem.run_pure]
  rfl
theorem wp_allocT (hg : o.guard = none) (t : TypeId) (ho : o.op = .alloc t) (cs : Array Value) (hz : (Try.prog.info? t).bind (·.zero) = some (.agg cs)) (N : Nat) (hN : w.heap.size = N)
    (h : wpList Try.prog ops Q rest (a.put o.dst (.pointer (some ⟨N, 0, none⟩))) (w.alloc (.cells cs t))) : wpList Try.prog ops Q (o :: rest) a w := by
  subst hN
  refine wp_runTo hg _ (w.alloc (.cells cs t)) ?_ h
  simp only [execOp, ho, Instr.alloc, Sem.run_bind, zero_of hz, Result.andThen_ok, newVar, newRow, run_newObj_alloc, Sem.run_pure]
  rfl
theorem wp_buildT (hg : o.guard = none) (t : TypeId) (parts : Array (Nat × Operand)) (ho : o.op = .build t parts) (cs : Array Value) (hf : Try.prog.built t (parts.map fun (i, x) => (i, a.eval x)).toList = some cs)
    (h : wpList Try.prog ops Q rest (a.put o.dst (.agg cs)) w) : wpList Try.prog ops Q (o :: rest) a w := by
  refine wpList_build hg t parts ho (by rw [hf]; rfl) ?_
  rw [hf]
  exact h
theorem wpList_wanted (hw : Region.wanted o (yielded ops a.tmps) = true)
    (h : wpList Try.prog ops Q ({ o with guard := none } :: rest) a w) : wpList Try.prog ops Q (o :: rest) a w := by
  have hw' : Region.wanted { o with guard := none } (yielded ops a.tmps) = true := by simp [Region.wanted]
  unfold wpList at h ⊢
  rw [if_pos hw'] at h
  rw [if_pos hw]
  exact h
end
section
variable {ops : Array Oper} {o : Oper} {a : Act} {w w' : World} {Q : Exit → Act → World → Prop} {md : Region.Mode} {S : World → Prop}
theorem exec_bin (b : BinOp) (t s : TypeId) (x y : Operand) (ho : o.op = .binOp b t x y s) (vx vy v : Value) (hx : a.eval x = vx) (hy : a.eval y = vy) (hgd : (eqGuard b t x y vx vy).run Try.prog w = .ok () w)
    (hrun : (binOp b t vx vy).run Try.prog w = .ok v w) : (execOp a.eval o).run Try.prog w = .ok (.value v) w := by
  simp only [execOp, ho, hx, hy, Sem.run_bind, hgd, hrun, Result.andThen_ok, Sem.run_pure]
theorem exec_build (t : TypeId) (parts : Array (Nat × Operand)) (ho : o.op = .build t parts) (cs : Array Value) (hf : Try.prog.built t (parts.map fun (i, x) => (i, a.eval x)).toList = some cs) : (execOp a.eval o).run Try.prog w = .ok (.value (.agg cs)) w := by
  simp only [execOp, ho, Sem.run_bind, run_build w t _ cs hf, Result.andThen_ok, Sem.run_pure]
theorem exec_alloc (t : TypeId) (ho : o.op = .alloc t) (cs : Array Value) (hz : (Try.prog.info? t).bind (·.zero) = some (.agg cs)) : (execOp a.eval o).run Try.prog w = .ok (.value (.pointer (some ⟨w.heap.size, 0, none⟩))) (w.alloc (.cells cs t)) := by
  simp only [execOp, ho, Instr.alloc, Sem.run_bind, zero_of hz, Result.andThen_ok, newVar, newRow, run_newObj_alloc, Sem.run_pure]
  rfl
theorem exec_store (t : TypeId) (x y : Operand) (ho : o.op = .store t x y) (ad : Addr) (v : Value) (hx : a.eval x = .pointer (some ad)) (hy : a.eval y = v) (hrun : (storeVar t ad v).run Try.prog w = .ok () w') : (execOp a.eval o).run Try.prog w = .ok .skip w' := by
  simp only [execOp, ho, hx, hy, Instr.storeAt, Instr.sureAddr, Sem.run_bind, Sem.run_pure, Result.andThen_ok, hrun]
theorem any_step {i : Nat} {fuel : Nat} {listed : Array Bool} {v : Value} (hi : ops[i]? = some o) (hr : Region.ready md ops listed = [i]) (hw : Region.wanted o (yielded ops a.tmps) = true)
    (hrun : (execOp a.eval o).run Try.prog w = .ok (.value v) w') (hS : S w') (h : S w' → wpAnyH Try.prog md ops Q S fuel (listed.setIfInBounds i true) (a.put o.dst v) w') : wpAnyH Try.prog md ops Q S (fuel + 1) listed a w := by
  refine wpAnyH_ready hr (by simp) (AllReadyH.cons hi (fun K hK => ?_) AllReadyH.nil)
  rw [if_pos hw]
  unfold Oper.wp
  rw [hrun, Oper.upon_value]
  exact hK.out _ _ hS h
theorem any_store {i : Nat} {fuel : Nat} {listed : Array Bool} (hi : ops[i]? = some o) (hr : Region.ready md ops listed = [i]) (hw : Region.wanted o (yielded ops a.tmps) = true)
    (t : TypeId) (x y : Operand) (ho : o.op = .store t x y) (ad : Addr) (v : Value) (hx : a.eval x = .pointer (some ad)) (hy : a.eval y = v) (hrun : (storeVar t ad v).run Try.prog w = .ok () w') (hS : S w') (h : S w' → wpAnyH Try.prog md ops Q S fuel (listed.setIfInBounds i true) (a.put o.dst undef) w') : wpAnyH Try.prog md ops Q S (fuel + 1) listed a w := by
  refine wpAnyH_ready hr (by simp) (AllReadyH.cons hi (fun K hK => ?_) AllReadyH.nil)
  rw [if_pos hw]
  unfold Oper.wp
  rw [exec_store (w := w) (w' := w') t x y ho ad v hx hy hrun, Oper.upon_skip]
  exact hK.out _ _ hS h
theorem any_call {i : Nat} {fuel : Nat} {listed : Array Bool} (hi : ops[i]? = some o) (hr : Region.ready md ops listed = [i]) (hw : Region.wanted o (yielded ops a.tmps) = true)
    (f : FuncId) (args : Array Value) (hrun : (execOp a.eval o).run Try.prog w = .ok (.enter f args) w) (C : Ending → World → Prop) (hc : Calls Try.prog f args w C)
    (h : ∀ e w', C e w' → ∃ v, e = .returned v ∧ S w' ∧ (S w' → wpAnyH Try.prog md ops Q S fuel (listed.setIfInBounds i true) (a.put o.dst v) w')) : wpAnyH Try.prog md ops Q S (fuel + 1) listed a w := by
  refine wpAnyH_ready hr (by simp) (AllReadyH.cons hi (fun K hK => ?_) AllReadyH.nil)
  rw [if_pos hw]
  unfold Oper.wp
  rw [hrun, Oper.upon_enter]
  refine hc.mono fun e w' he => ?_
  obtain ⟨v, rfl, hS, hh⟩ := h e w' he
  exact hK.out _ _ hS hh
theorem any_take {i : Nat} {oi : Oper} {v : Value} {fuel : Nat} {listed : Array Bool} (hi : ops[i]? = some oi)
    (hs : Region.noSelect ops = true) (hf : Region.free md ops listed i = true) (hr : (Region.ready md ops listed).contains i = true)
    (hQ : ∀ c a w, Q (.panic c) (a.put oi.dst v) w → Q (.panic c) a w) (hw : Region.wanted oi (yielded ops a.tmps) = true) (hy : ∀ w, S w → (execOp a.eval oi).run Try.prog w = .ok (.value v) w) (hS : S w)
    (h : wpAnyH Try.prog md ops Q S fuel (listed.setIfInBounds i true) (a.put oi.dst v) w) : wpAnyH Try.prog md ops Q S (fuel + 1) listed a w :=
  wpAnyH_take hi hs hf hr hQ (.inl ⟨hw, hy⟩) hS h
theorem any_skip {i : Nat} {oi : Oper} {fuel : Nat} {listed : Array Bool} (hi : ops[i]? = some oi)
    (hs : Region.noSelect ops = true) (hf : Region.free md ops listed i = true) (hr : (Region.ready md ops listed).contains i = true)
    (hQ : ∀ c a w, Q (.panic c) (a.put oi.dst undef) w → Q (.panic c) a w) (hw : Region.wanted oi (yielded ops a.tmps) = false) (hS : S w)
    (h : wpAnyH Try.prog md ops Q S fuel (listed.setIfInBounds i true) (a.put oi.dst undef) w) : wpAnyH Try.prog md ops Q S (fuel + 1) listed a w :=
  wpAnyH_take hi hs hf hr hQ (.inr ⟨hw, rfl⟩) hS h
end
section
variable {ops : Array Oper} {rest : List Oper} {o : Oper} {a : Act} {w : World} {Q : Exit → Act → World → Prop}
structure WL (ops : Array Oper) (Q : Exit → Act → World → Prop) (l : List Oper) (a : Act) (w : World) : Prop where
  out : wpList Try.prog ops Q l a w
theorem WL.nil (h : Q .normal a w) : WL ops Q [] a w := ⟨wpList_nil h⟩
theorem WL.start {id : Nat} {l : List Oper} (h : WL l.toArray Q l a w) : (Code.region id l.toArray false).wp Try.prog Q a w := wp_region_lit h.out
theorem wp_runW (v : Value) (w' : World) (hrun : (execOp a.eval o).run Try.prog w = .ok (.value v) w') (hw : Region.wanted o (yielded ops a.tmps) = true)
    (h : WL ops Q rest (a.put o.dst v) w') : WL ops Q (o :: rest) a w :=
  ⟨wpList_wanted hw (wp_runTo (o := { o with guard := none }) rfl v w' hrun h.out)⟩
theorem wp_takeW (v : Value) (hrun : (execOp a.eval o).run Try.prog w = .ok (.value v) w) (hw : Region.wanted o (yielded ops a.tmps) = true)
    (h : WL ops Q rest (a.put o.dst v) w) : WL ops Q (o :: rest) a w := wp_runW v w hrun hw h
theorem wp_skip (hw : Region.wanted o (yielded ops a.tmps) = false)
    (h : WL ops Q rest (a.put o.dst undef) w) : WL ops Q (o :: rest) a w := by
  refine ⟨?_⟩
  unfold wpList
  rw [hw]
  exact h.out
theorem wp_storeW (t : TypeId) (x y : Operand) (ho : o.op = .store t x y) (ad : Addr) (v : Value) (hx : a.eval x = .pointer (some ad)) (hy : a.eval y = v) (w' : World) (hrun : (storeVar t ad v).run Try.prog w = .ok () w') (hw : Region.wanted o (yielded ops a.tmps) = true)
    (h : WL ops Q rest (a.put o.dst undef) w') : WL ops Q (o :: rest) a w :=
  ⟨wpList_wanted hw (wp_storeV (o := { o with guard := none }) rfl t x y ho ad v hx hy w' hrun h.out)⟩
theorem wp_allocW (t : TypeId) (ho : o.op = .alloc t) (cs : Array Value) (hz : (Try.prog.info? t).bind (·.zero) = some (.agg cs)) (N : Nat) (hN : w.heap.size = N) (hw : Region.wanted o (yielded ops a.tmps) = true)
    (h : WL ops Q rest (a.put o.dst (.pointer (some ⟨N, 0, none⟩))) (w.alloc (.cells cs t))) : WL ops Q (o :: rest) a w :=
  ⟨wpList_wanted hw (wp_allocT (o := { o with guard := none }) rfl t ho cs hz N hN h.out)⟩
theorem wp_callW (f : FuncId) (args : Array Value) (hrun : (execOp a.eval o).run Try.prog w = .ok (.enter f args) w) (C : Ending → World → Prop) (hc : Calls Try.prog f args w C) (hw : Region.wanted o (yielded ops a.tmps) = true)
    (h : ∀ e w', C e w' → ∃ v, e = .returned v ∧ WL ops Q rest (a.put o.dst v) w') : WL ops Q (o :: rest) a w := by
  refine ⟨wpList_wanted hw (wpList_plain rfl fun K hK => ?_)⟩
  have hrun' : (execOp a.eval { o with guard := none }).run Try.prog w = .ok (.enter f args) w := hrun
  unfold Oper.wp
  rw [hrun', Oper.upon_enter]
  refine hc.mono fun e w' he => ?_
  obtain ⟨v, rfl, hh⟩ := h e w' he
  exact hK _ _ hh.out
end
theorem Kept.thenNo {S : Nat → Prop} {a b c : World} (h : Kept S a b) (k : Kept No b c) : Kept S a c := h.then k.of_no
theorem Kept.newRowS {S : Nat → Prop} {a w : World} (h : Kept S a w) {g : Nat} (hg : a.heap.size ≤ g) (cs : Array Value) : Kept S a (w.setRow g cs) :=
  h.trans (Kept.setRow _ _ _) (fun _ e => e) (fun i hi e => by have : i = g := e; omega)
theorem Kept.inRow {S : Nat → Prop} {a w : World} (h : Kept S a w) {g : Nat} (hg : S g) (cs : Array Value) : Kept S a (w.setRow g cs) :=
  h.trans (Kept.setRow _ _ _) (fun _ e => e) (fun i hi e => by have e : i = g := e; rw [e]; exact hg)
def StepH (md : Region.Mode) (ops : Array Oper) (Q : Exit → Act → World → Prop) (S : World → Prop) (fuel : Nat) (listed : Array Bool) (a : Act) (w : World) (i : Nat) : Prop :=
  wpOp Try.prog ops Q i (fun a' w' => S w' ∧ wpAnyH Try.prog md ops Q S fuel (listed.setIfInBounds i true) a' w') a w
section
variable {ops : Array Oper} {o : Oper} {a : Act} {w w' : World} {Q : Exit → Act → World → Prop} {md : Region.Mode} {S : World → Prop} {fuel : Nat} {listed : Array Bool}
theorem any_pick {rs : List Nat} (hr : Region.ready md ops listed = rs) (hne : rs ≠ []) (h : ∀ i ∈ rs, StepH md ops Q S fuel listed a w i) : wpAnyH Try.prog md ops Q S (fuel + 1) listed a w := wpAnyH_all hr hne h
theorem step_run {i : Nat} {v : Value} (hi : ops[i]? = some o) (hw : Region.wanted o (yielded ops a.tmps) = true) (hrun : (execOp a.eval o).run Try.prog w = .ok (.value v) w') (hS : S w')
    (h : S w' → wpAnyH Try.prog md ops Q S fuel (listed.setIfInBounds i true) (a.put o.dst v) w') : StepH md ops Q S fuel listed a w i := by
  refine wpOp_step hi (fun K' hK => ?_)
  rw [if_pos hw]
  unfold Oper.wp
  rw [hrun, Oper.upon_value]
  exact hK _ _ ⟨hS, h hS⟩
theorem step_call {i : Nat} (hi : ops[i]? = some o) (hw : Region.wanted o (yielded ops a.tmps) = true) (f : FuncId) (args : Array Value) (hrun : (execOp a.eval o).run Try.prog w = .ok (.enter f args) w) (C : Ending → World → Prop) (hc : Calls Try.prog f args w C)
    (h : ∀ e w', C e w' → ∃ v, e = .returned v ∧ S w' ∧ (S w' → wpAnyH Try.prog md ops Q S fuel (listed.setIfInBounds i true) (a.put o.dst v) w')) : StepH md ops Q S fuel listed a w i := by
  refine wpOp_step hi (fun K' hK => ?_)
  rw [if_pos hw]
  unfold Oper.wp
  rw [hrun, Oper.upon_enter]
  refine hc.mono fun e w' he => ?_
  obtain ⟨v, rfl, hS, hh⟩ := h e w' he
  exact hK _ _ ⟨hS, hh hS⟩
end
theorem pick2 {i a b : Nat} (h : i ∈ [a, b]) : i = a ∨ i = b := by simpa using h
theorem pick3 {i a b c : Nat} (h : i ∈ [a, b, c]) : i = a ∨ i = b ∨ i = c := by simpa using h
theorem meet3 {J : World → Nat → Nat → Prop} {G : World → Nat → Nat → Prop} {g : Prop} (h : (∀ W a b, J W a b → G W a b) → g) (t : ∀ W a b, J W a b → G W a b) : g := h t
theorem meet2 {J : World → Nat → Prop} {G : World → Nat → Prop} {g : Prop} (h : (∀ W a, J W a → G W a) → g) (t : ∀ W a, J W a → G W a) : g := h t
theorem exec_ixA {o : Oper} {a : Act} {w : World} (t : TypeId) (n : Nat) (hu : Try.prog.underlying t = some (.slice (Try.prog.elem t))) (hs : (Try.prog.info? (Try.prog.elem t)).map (·.size) = some n)
    (x y : Operand) (ho : o.op = .indexAddr t x y) (b off len cap i : Nat) (hx : a.eval x = .slice (some ⟨b, off, none⟩) len cap) (hy : a.eval y = .int .i64 i) (hi : i < len) : (execOp a.eval o).run Try.prog w = .ok (.value (.pointer (some ⟨b, off + i * n, none⟩))) w := by
  cases hq : Try.prog.info? (Try.prog.elem t) with
  | none => rw [hq] at hs; cases hs
  | some inf =>
    rw [hq] at hs
    have hsz : inf.size = n := by simpa using hs
    have hrun : (Instr.indexAt t (.slice (some ⟨b, off, none⟩) len cap) (.int .i64 i)).run Try.prog w = .ok (.pointer (some ⟨b, off + i * n, none⟩)) w := by
      rw [run_indexAt_slice w t _ len cap .i64 i hu, if_pos ⟨by omega, by omega⟩]
      simp [sizeOf, typeInfo, hq, hsz, addr_add]
    simp only [execOp, ho, hx, hy, Sem.run_bind, hrun, Result.andThen_ok, Sem.run_pure]
theorem Own.nil (t : TypeId) (c : Nat) (w : World) (base : Nat) : Own t c w base none 0 0 [] := ⟨by simp, .inl ⟨rfl, rfl⟩⟩
theorem exec_box {o : Oper} {a : Act} {w : World} (t : TypeId) (x : Operand) (ho : o.op = .box t x) (cs : Array Value) (hx : a.eval x = .agg cs) : (execOp a.eval o).run Try.prog w = .ok (.value (.pointer (some ⟨w.heap.size, 0, none⟩))) (w.alloc (.cells cs t)) := by
  simp only [execOp, ho, hx, Instr.box, Sem.run_bind, Result.andThen_ok, newVar, newRow, run_newObj_alloc, Sem.run_pure]
  rfl
theorem exec_slice1 {o : Oper} {a : Act} {w : World} (t e : TypeId) (parts : Array (Nat × Operand)) (ho : o.op = .buildSlice t 1 parts) (cells : Array Value) (hrun : (Instr.buildSlice t 1 (parts.map fun (i, x) => (i, a.eval x))).run Try.prog w = .ok (.slice (some ⟨w.heap.size, 0, none⟩) 1 1) (w.alloc (.cells cells e))) : (execOp a.eval o).run Try.prog w = .ok (.value (.slice (some ⟨w.heap.size, 0, none⟩) 1 1)) (w.alloc (.cells cells e)) := by
  simp only [execOp, ho, Sem.run_bind, hrun, Result.andThen_ok, Sem.run_pure]
theorem exec_slice2 {o : Oper} {a : Act} {w : World} (t e : TypeId) (parts : Array (Nat × Operand)) (ho : o.op = .buildSlice t 1 parts) (cells : Array Value) (v : Value) (hp : (parts.map fun (i, x) => (i, a.eval x)) = #[(0, v)])
    (hrun : (Instr.buildSlice t 1 #[(0, v)]).run Try.prog w = .ok (.slice (some ⟨w.heap.size, 0, none⟩) 1 1) (w.alloc (.cells cells e))) : (execOp a.eval o).run Try.prog w = .ok (.value (.slice (some ⟨w.heap.size, 0, none⟩) 1 1)) (w.alloc (.cells cells e)) :=
  exec_slice1 t e parts ho cells (by rw [hp]; exact hrun)
theorem cell_newL (w : World) (vs : List Value) (t : TypeId) (j : Nat) (u : Value) (h : vs[j]? = some u) : (w.alloc (.cells vs.toArray t)).cell? ((⟨w.heap.size, 0, none⟩ : Addr).add j) = some u := by
  rw [addr_add, Nat.zero_add, (Box.new w t vs.toArray).cell]
  simpa using h
theorem results_row1 {fn : Func} {p : Tmp} {t : TypeId} (h : fn.results = #[.cell p t]) (tmps : Array Value) (w : World) (g : Nat) (cs : Array Value) (hp : tmps.getD p undef = .pointer (some ⟨g, 0, none⟩)) (hrun : (loadVar t ⟨g, 0, none⟩).run Try.prog w = .ok (.agg cs) w) :
    (results fn tmps).run Try.prog w = .ok (.agg cs) w := by
  have hp' : tmps[p]?.getD undef = .pointer (some ⟨g, 0, none⟩) := by simpa using hp
  simp [results, h, hp', asAddr, hrun]
theorem results_row_tmp {fn : Func} {p u : Tmp} {t : TypeId} (h : fn.results = #[.cell p t, .tmp u]) (tmps : Array Value) (w : World) (g : Nat) (cs : Array Value) (hp : tmps.getD p undef = .pointer (some ⟨g, 0, none⟩)) (hrun : (loadVar t ⟨g, 0, none⟩).run Try.prog w = .ok (.agg cs) w) :
    (results fn tmps).run Try.prog w = .ok (.tuple #[.agg cs, tmps.getD u undef]) w := by
  rw [results_cell_tmp h, hp]
  simp [asAddr, hrun, Result.andThen]
theorem results_cct {fn : Func} {p q u : Tmp} {t s : TypeId} (h : fn.results = #[.cell p t, .cell q s, .tmp u]) (tmps : Array Value) (P : Program) (w : World) :
    (results fn tmps).run P w = ((asAddr (tmps.getD p undef)).run P w).andThen fun a w₁ => ((loadVar t a).run P w₁).andThen fun v w₂ => ((asAddr (tmps.getD q undef)).run P w₂).andThen fun b w₃ => ((loadVar s b).run P w₃).andThen fun v' w₄ => .ok (.tuple #[v, v', tmps.getD u undef]) w₄ := by
  simp only [results, h]
  simp [Sem.run_bind, Result.andThen]
theorem results_row2_tmp {fn : Func} {p q u : Tmp} {t s : TypeId} (h : fn.results = #[.cell p t, .cell q s, .tmp u]) (tmps : Array Value) (w : World) (g g' : Nat) (cs cs' : Array Value) (hp : tmps.getD p undef = .pointer (some ⟨g, 0, none⟩)) (hq : tmps.getD q undef = .pointer (some ⟨g', 0, none⟩)) (hrun : (loadVar t ⟨g, 0, none⟩).run Try.prog w = .ok (.agg cs) w) (hrun' : (loadVar s ⟨g', 0, none⟩).run Try.prog w = .ok (.agg cs') w) :
    (results fn tmps).run Try.prog w = .ok (.tuple #[.agg cs, .agg cs', tmps.getD u undef]) w := by
  rw [results_cct h, hp, hq]
  simp [asAddr, hrun, hrun', Result.andThen]

theorem pA (a : Act) (t : Tmp) (v : Value) : a.put (some t) v = { tmps := a.tmps.setIfInBounds t v, defers := a.defers } := rfl
theorem pB (a : Act) (v : Value) : a.put none v = a := rfl
theorem p1 {α : Type} (l : List α) (i : Nat) (v : α) : l.toArray.setIfInBounds i v = (l.set i v).toArray := List.setIfInBounds_toArray ..
theorem p2 {α : Type} (x : α) (l : List α) (v : α) : (x :: l).set 0 v = v :: l := rfl
theorem p3 {α : Type} (x : α) (l : List α) (i : Nat) (v : α) : (x :: l).set (i + 1) v = x :: l.set i v := rfl

section
variable {ops : Array Oper} {rest : List Oper} {o : Oper} {a : Act} {w : World} {Q : Exit → Act → World → Prop} {md : Region.Mode} {S : World → Prop}
theorem tW (v : Value) (hrun : (execOp a.eval o).run Try.prog w = .ok (.value v) w) (h : WL ops Q rest (a.put o.dst v) w) (hw : Region.wanted o (yielded ops a.tmps) = true := by kernel_rfl) : WL ops Q (o :: rest) a w := wp_takeW v hrun hw h
theorem tK (v : Value) (h : WL ops Q rest (a.put o.dst v) w) (hrun : (execOp a.eval o).run Try.prog w = .ok (.value v) w := by kernel_rfl) (hw : Region.wanted o (yielded ops a.tmps) = true := by kernel_rfl) : WL ops Q (o :: rest) a w := wp_takeW v hrun hw h
theorem sK (h : WL ops Q rest (a.put o.dst undef) w) (hw : Region.wanted o (yielded ops a.tmps) = false := by kernel_rfl) : WL ops Q (o :: rest) a w := wp_skip hw h
theorem aT {i : Nat} {oi : Oper} {v : Value} {fuel : Nat} {listed : Array Bool} (hy : ∀ w, S w → (execOp a.eval oi).run Try.prog w = .ok (.value v) w) (hS : S w) (h : wpAnyH Try.prog md ops Q S fuel (listed.setIfInBounds i true) (a.put oi.dst v) w)
    (hi : ops[i]? = some oi := by rfl) (hs : Region.noSelect ops = true := by kernel_rfl) (hf : Region.free md ops listed i = true := by kernel_rfl) (hr : (Region.ready md ops listed).contains i = true := by kernel_rfl)
    (hQ : ∀ c a w, Q (.panic c) (a.put oi.dst v) w → Q (.panic c) a w := by exact fun _ _ _ h => h) (hw : Region.wanted oi (yielded ops a.tmps) = true := by kernel_rfl) : wpAnyH Try.prog md ops Q S (fuel + 1) listed a w :=
  any_take hi hs hf hr hQ hw hy hS h
theorem aK {i : Nat} {oi : Oper} {v : Value} {fuel : Nat} {listed : Array Bool} (hS : S w) (h : wpAnyH Try.prog md ops Q S fuel (listed.setIfInBounds i true) (a.put oi.dst v) w) (hy : ∀ w, S w → (execOp a.eval oi).run Try.prog w = .ok (.value v) w := by exact fun _ _ => by kernel_rfl)
    (hi : ops[i]? = some oi := by rfl) (hs : Region.noSelect ops = true := by kernel_rfl) (hf : Region.free md ops listed i = true := by kernel_rfl) (hr : (Region.ready md ops listed).contains i = true := by kernel_rfl)
    (hQ : ∀ c a w, Q (.panic c) (a.put oi.dst v) w → Q (.panic c) a w := by exact fun _ _ _ h => h) (hw : Region.wanted oi (yielded ops a.tmps) = true := by kernel_rfl) : wpAnyH Try.prog md ops Q S (fuel + 1) listed a w :=
  any_take hi hs hf hr hQ hw hy hS h
theorem aS {i : Nat} {oi : Oper} {fuel : Nat} {listed : Array Bool} (hS : S w) (h : wpAnyH Try.prog md ops Q S fuel (listed.setIfInBounds i true) (a.put oi.dst undef) w)
    (hi : ops[i]? = some oi := by rfl) (hs : Region.noSelect ops = true := by kernel_rfl) (hf : Region.free md ops listed i = true := by kernel_rfl) (hr : (Region.ready md ops listed).contains i = true := by kernel_rfl)
    (hQ : ∀ c a w, Q (.panic c) (a.put oi.dst undef) w → Q (.panic c) a w := by exact fun _ _ _ h => h) (hw : Region.wanted oi (yielded ops a.tmps) = false := by kernel_rfl) : wpAnyH Try.prog md ops Q S (fuel + 1) listed a w :=
  any_skip hi hs hf hr hQ hw hS h
end




end Go.Proofs.Ytgnfeegnhdbnkaa
