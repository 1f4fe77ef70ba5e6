import Derived.Test.YtpabpeppgpeaoaaZf
import Derived.Laws.OwnMore
import Derived.Laws.AppendOwnNone
namespace Go.Proofs.Ytpabpeppgpeaoaa
open Go.RowKit Gt
set_option linter.unusedVariables false
set_option linter.unusedSimpArgs false

structure En where
  nm : ByteArray
  f0 : Int
  f1 : Int
  sz : Int
structure La where
  cl : Int
  op : Int
  ins : Int
  er : Int
  f0 : Int
  f1 : Int
  sz : Int
def enZ : En := ⟨⟨#[]⟩, 0, 0, 0⟩
def laZ : La := ⟨0, 0, 0, 0, 0, 0, 0⟩
instance : Inhabited En := ⟨enZ⟩
instance : Inhabited La := ⟨laZ⟩
def En.cs (e : En) : List Value := [.string e.nm, .int .i64 e.f0, .int .i64 e.f1, .int .i64 e.sz]
def La.cs (l : La) : List Value := [.int .i64 l.cl, .int .i64 l.op, .int .i64 l.ins, .int .i64 l.er, .int .i64 l.f0, .int .i64 l.f1, .int .i64 l.sz]
def En.cells (e : En) : Array Value := e.cs.toArray
def La.cells (l : La) : Array Value := l.cs.toArray
structure Bv where
  up : Int
  e : Sl
  l : Sl
def bvZ : Bv := ⟨0, slZ, slZ⟩
def Bv.cs (b : Bv) : List Value := [.int .i64 b.up, b.e.v, b.l.v]
def Bv.cells (b : Bv) : Array Value := b.cs.toArray
theorem En.one (e : En) : e.cells.all (·.oneCell') = true := by simp [En.cells, En.cs, Value.oneCell']
theorem La.one (e : La) : e.cells.all (·.oneCell') = true := by simp [La.cells, La.cs, Value.oneCell']
theorem Bv.one (e : Bv) : e.cells.all (·.oneCell') = true := by simp [Bv.cells, Bv.cs, Sl.v, Value.oneCell']
theorem En.oneL (e : En) : ∀ v ∈ e.cs, v.oneCell' = true := by simp [En.cs, Value.oneCell']
theorem La.oneL (e : La) : ∀ v ∈ e.cs, v.oneCell' = true := by simp [La.cs, Value.oneCell']
theorem Try.und41 : Try.prog.underlying 41 = some (.slice 124) := by kernel_rfl
theorem Try.und42 : Try.prog.underlying 42 = some (.slice 127) := by kernel_rfl
theorem Try.size41 : (Try.prog.info? 41).map (·.size) = some 1 := by kernel_rfl
theorem Try.size42 : (Try.prog.info? 42).map (·.size) = some 1 := by kernel_rfl
theorem Try.info124 : (Try.prog.info? 124).map (fun i => (i.zero, i.size, i.bytes)) = some (some (.agg enZ.cells), 4, 40) := by kernel_rfl
theorem Try.info127 : (Try.prog.info? 127).map (fun i => (i.zero, i.size, i.bytes)) = some (some (.agg laZ.cells), 7, 56) := by kernel_rfl
theorem zero44 : (Try.prog.info? 44).bind (·.zero) = some (.agg bvZ.cells) := by kernel_rfl
theorem p1 {α : Type} (l : List α) (i : Nat) (v : α) : l.toArray.setIfInBounds i v = (l.set i v).toArray := List.setIfInBounds_toArray ..
theorem p2 {α : Type} (x : α) (l : List α) (v : α) : (x :: l).set 0 v = v :: l := rfl
theorem p3 {α : Type} (x : α) (l : List α) (i : Nat) (v : α) : (x :: l).set (i + 1) v = x :: l.set i v := rfl
section
variable {ops : Array Oper} {rest : List Oper} {o : Oper} {a : Act} {w : World} {Q : Exit → Act → World → Prop}
end
structure Fr (S : Nat → Prop) (w0 w : World) (l : List (Nat × TypeId × Array Value)) : Prop where
  kept : Kept S w0 w
  box : ∀ (i : Nat) g T cs, l[i]? = some (g, T, cs) → Box w g T cs
  low : ∀ (i : Nat) g T cs, l[i]? = some (g, T, cs) → w0.heap.size ≤ g
  inj : ∀ (i j : Nat) g T cs T' cs', l[i]? = some (g, T, cs) → l[j]? = some (g, T', cs') → i = j
theorem Fr.start (S : Nat → Prop) (w : World) : Fr S w w [] := ⟨Kept.refl S w, by simp, by simp, by simp⟩
theorem Fr.drew {S : Nat → Prop} {w0 w : World} {l : List (Nat × TypeId × Array Value)} (h : Fr S w0 w l) : Fr S w0 w.drew l := ⟨h.kept.drew, h.box, h.low, h.inj⟩
theorem Fr.alloc {S : Nat → Prop} {w0 w : World} {l : List (Nat × TypeId × Array Value)} (h : Fr S w0 w l) (T : TypeId) (cs : Array Value) : Fr S w0 (w.alloc (.cells cs T)) (l ++ [(w.heap.size, T, cs)]) := by
  refine ⟨h.kept.alloc _, ?_, ?_, ?_⟩
  · intro i g T' cs' hi
    rw [List.getElem?_append] at hi
    split at hi
    · exact (h.box i g T' cs' hi).alloc _
    · obtain ⟨rfl, rfl, rfl⟩ : w.heap.size = g ∧ T = T' ∧ cs = cs' := by
        have := List.mem_of_getElem? hi
        simpa [eq_comm] using this
      exact Box.new _ _ _
  · intro i g T' cs' hi
    rw [List.getElem?_append] at hi
    split at hi
    · exact h.low i g T' cs' hi
    · obtain ⟨rfl, rfl, rfl⟩ : w.heap.size = g ∧ T = T' ∧ cs = cs' := by
        have := List.mem_of_getElem? hi
        simpa [eq_comm] using this
      exact h.kept.size
  · intro i j g T1 cs1 T2 cs2 hi hj
    rw [List.getElem?_append] at hi hj
    split at hi <;> split at hj
    · exact h.inj i j g T1 cs1 T2 cs2 hi hj
    · have h1 := (h.box i g T1 cs1 hi).lt
      have h2 : g = w.heap.size := by have := List.mem_of_getElem? hj; simp at this; exact this.1
      omega
    · have h1 := (h.box j g T2 cs2 hj).lt
      have h2 : g = w.heap.size := by have := List.mem_of_getElem? hi; simp at this; exact this.1
      omega
    · have h1 := (List.getElem?_eq_some_iff.1 hi).1
      have h2 := (List.getElem?_eq_some_iff.1 hj).1
      simp at h1 h2
      omega
theorem Fr.set {S : Nat → Prop} {w0 w : World} {l : List (Nat × TypeId × Array Value)} (h : Fr S w0 w l) (i : Nat) {g : Nat} {T : TypeId} {cs : Array Value} (hi : l[i]? = some (g, T, cs)) (cs' : Array Value) : Fr S w0 (w.setRow g cs') (l.set i (g, T, cs')) := by
  have hlt := (List.getElem?_eq_some_iff.1 hi).1
  have key : ∀ (j : Nat) g1 T1 cs1, (l.set i (g, T, cs'))[j]? = some (g1, T1, cs1) → (j = i ∧ g1 = g ∧ T1 = T ∧ cs1 = cs') ∨ (j ≠ i ∧ l[j]? = some (g1, T1, cs1)) := by
    intro j g1 T1 cs1 hj
    rw [List.getElem?_set] at hj
    by_cases e : i = j
    · subst e
      simp [hlt] at hj
      exact .inl ⟨rfl, hj.1.symm, hj.2.1.symm, hj.2.2.symm⟩
    · simp [e] at hj
      exact .inr ⟨fun h => e h.symm, hj⟩
  refine ⟨h.kept.newRowS (h.low i g T cs hi) _, ?_, ?_, ?_⟩
  · intro j g1 T1 cs1 hj
    rcases key j g1 T1 cs1 hj with ⟨rfl, rfl, rfl, rfl⟩ | ⟨hne, hj2⟩
    · exact (h.box _ _ _ _ hi).setRow _
    · refine (h.box j g1 T1 cs1 hj2).rowNe (fun e => hne ?_) _
      subst e
      exact h.inj j i _ _ _ _ _ hj2 hi
  · intro j g1 T1 cs1 hj
    rcases key j g1 T1 cs1 hj with ⟨rfl, rfl, rfl, rfl⟩ | ⟨hne, hj⟩
    · exact h.low _ _ _ _ hi
    · exact h.low j g1 T1 cs1 hj
  · intro j k g1 T1 cs1 T2 cs2 hj hk
    rcases key j g1 T1 cs1 hj with ⟨rfl, rfl, rfl, rfl⟩ | ⟨hne, hj2⟩ <;> rcases key k g1 T2 cs2 hk with ⟨rfl, h1, h2, h3⟩ | ⟨hne', hk2⟩
    · rfl
    · exact h.inj _ _ _ _ _ _ _ hi hk2
    · subst h1; exact h.inj _ _ _ _ _ _ _ hj2 hi
    · exact h.inj _ _ _ _ _ _ _ hj2 hk2
theorem Fr.no {S : Nat → Prop} {w0 w w' : World} {l : List (Nat × TypeId × Array Value)} (h : Fr S w0 w l) (hk : Kept No w w') : Fr S w0 w' l :=
  ⟨h.kept.thenNo hk, fun i g T cs hi => (h.box i g T cs hi).kept hk (fun e => e), h.low, h.inj⟩
/-- Of a function's own blocks only some are spoken of further on. -/
theorem Fr.drop {S : Nat → Prop} {w0 w : World} {l : List (Nat × TypeId × Array Value)} (h : Fr S w0 w l) : Fr S w0 w [] := ⟨h.kept, by simp, by simp, by simp⟩

/-- Rows of cells in memory that came in, or that was made. -/
def RowsAt (n : Nat) (w : World) (a : Option Addr) (xs : List (List Value)) : Prop :=
  ∀ (i : Nat) it, xs[i]? = some it → ∃ b off, a = some ⟨b, off, none⟩ ∧ ∀ (j : Nat) v, it[j]? = some v → w.cell? ⟨b, off + i * n + j, none⟩ = some v
theorem RowsAt.kept {n : Nat} {S : Nat → Prop} {w w' : World} {a : Option Addr} {xs : List (List Value)} (h : RowsAt n w a xs) (hk : Kept S w w') (hS : ∀ k, At a k → ¬ S k) : RowsAt n w' a xs := by
  intro i it hi
  obtain ⟨b, off, e, c⟩ := h i it hi
  exact ⟨b, off, e, fun j v hv => hk.cell (c j v hv) (hS b ⟨_, e, rfl⟩)⟩
theorem RowsAt.no {n : Nat} {w w' : World} {a : Option Addr} {xs : List (List Value)} (h : RowsAt n w a xs) (hk : Kept No w w') : RowsAt n w' a xs := h.kept hk (fun _ _ e => e)
theorem RowsAt.nil (n : Nat) (w : World) (a : Option Addr) : RowsAt n w a [] := fun i it h => by simp at h
theorem flat_get (c : Nat) : ∀ (xs : List (List Value)), (∀ x ∈ xs, x.length = c) → ∀ (i : Nat) it, xs[i]? = some it → ∀ (j : Nat) v, it[j]? = some v → xs.flatten[i * c + j]? = some v
  | [], _, i, it, h, _, _, _ => by simp at h
  | x :: xs, hc, 0, it, h, j, v, hv => by
    simp at h
    subst h
    have hj := (List.getElem?_eq_some_iff.1 hv).1
    rw [List.flatten_cons, Nat.zero_mul, Nat.zero_add, List.getElem?_append_left hj, hv]
  | x :: xs, hc, i + 1, it, h, j, v, hv => by
    simp only [List.getElem?_cons_succ] at h
    have hx : x.length = c := hc x (by simp)
    rw [List.flatten_cons, List.getElem?_append_right (by rw [hx, Nat.add_mul]; omega), hx, show (i + 1) * c + j - c = i * c + j by rw [Nat.add_mul]; omega]
    exact flat_get c xs (fun y hy => hc y (by simp [hy])) i it h j v hv
theorem flat_len (c : Nat) : ∀ (xs : List (List Value)), (∀ x ∈ xs, x.length = c) → xs.flatten.length = xs.length * c
  | [], _ => by simp
  | x :: xs, hc => by
    rw [List.flatten_cons, List.length_append, flat_len c xs (fun y hy => hc y (by simp [hy])), hc x (by simp), List.length_cons, Nat.add_mul]; omega
theorem Own.rows {t : TypeId} {c : Nat} {w : World} {base : Nat} {a : Option Addr} {cap n : Nat} {xs : List (List Value)} (h : Own t c w base a cap n xs.flatten) (hc : ∀ x ∈ xs, x.length = c) (h0c : 0 < c) : RowsAt c w a xs := by
  rcases h.cases h.1 with ⟨rfl, _, h0⟩ | ⟨g, rfl, _, _, sp, hg, _⟩
  · intro i it hi
    have hl := h.1
    rw [flat_len c xs hc, h0, Nat.zero_mul] at hl
    have hi' := (List.getElem?_eq_some_iff.1 hi).1
    have : xs.length = 0 := by rcases Nat.mul_eq_zero.1 hl with h | h <;> omega
    omega
  · intro i it hi
    refine ⟨g, 0, rfl, fun j v hv => ?_⟩
    have := flat_get c xs hc i it hi j v hv
    have hlt := (List.getElem?_eq_some_iff.1 this).1
    rw [Nat.zero_add, cell_of_row w g _ _ t (0, 0) hg, List.getElem?_toArray, List.getElem?_append_left hlt, this]
def enL (es : List En) : List Value := (es.map En.cs).flatten
def laL (es : List La) : List Value := (es.map La.cs).flatten
def Es (w : World) (a : Option Addr) (es : List En) : Prop := RowsAt 4 w a (es.map En.cs)
def Ls (w : World) (a : Option Addr) (es : List La) : Prop := RowsAt 7 w a (es.map La.cs)
theorem enL_c (es : List En) : ∀ x ∈ es.map En.cs, x.length = 4 := by intro x hx; obtain ⟨e, _, rfl⟩ := List.mem_map.1 hx; rfl
theorem laL_c (es : List La) : ∀ x ∈ es.map La.cs, x.length = 7 := by intro x hx; obtain ⟨e, _, rfl⟩ := List.mem_map.1 hx; rfl
theorem enL_len (es : List En) : (enL es).length = es.length * 4 := by unfold enL; rw [flat_len 4 _ (enL_c es), List.length_map]
theorem laL_len (es : List La) : (laL es).length = es.length * 7 := by unfold laL; rw [flat_len 7 _ (laL_c es), List.length_map]
theorem enL_one (es : List En) : ∀ v ∈ enL es, v.oneCell' = true := by
  intro v hv
  obtain ⟨x, hx, hv⟩ := List.mem_flatten.1 hv
  obtain ⟨e, _, rfl⟩ := List.mem_map.1 hx
  exact e.oneL v hv
theorem laL_one (es : List La) : ∀ v ∈ laL es, v.oneCell' = true := by
  intro v hv
  obtain ⟨x, hx, hv⟩ := List.mem_flatten.1 hv
  obtain ⟨e, _, rfl⟩ := List.mem_map.1 hx
  exact e.oneL v hv
def eAt (es : List En) (i : Nat) : En := es[i]?.getD enZ
def lAt (es : List La) (i : Nat) : La := es[i]?.getD laZ
theorem eAt_some {es : List En} {i : Nat} (h : i < es.length) : es[i]? = some (eAt es i) := by simp [eAt, List.getElem?_eq_getElem h]
theorem lAt_some {es : List La} {i : Nat} (h : i < es.length) : es[i]? = some (lAt es i) := by simp [lAt, List.getElem?_eq_getElem h]
theorem load_at {n : Nat} {w : World} {b off i : Nat} {it : List Value} {t : TypeId} {d : TypeDesc} (hc : ∀ (j : Nat) v, it[j]? = some v → w.cell? ⟨b, off + i * n + j, none⟩ = some v)
    (hu : Try.prog.underlying t = some d) (hd : (match d with | .struct _ | .array _ _ => true | _ => false) = true) (hi : (Try.prog.info? t).map (·.size) = some it.length) :
    (loadVar t ⟨b, off + i * n, none⟩).run Try.prog w = .ok (.agg it.toArray) w := by
  have hl : (loadCells ⟨b, off + i * n, none⟩ it.length).run Try.prog w = .ok it.toArray w :=
    run_loadCells_list (P := Try.prog) w ⟨b, off + i * n, none⟩ it (fun j v hv => by rw [addr_add]; exact hc j v hv)
  cases hq : Try.prog.info? t with
  | none => simp [hq] at hi
  | some inf =>
    have hs : inf.size = it.length := by simpa [hq] using hi
    have hagg : (isAgg t).run Try.prog w = .ok true w := by
      unfold isAgg
      rw [Sem.run_bind, run_underlying hu w]
      cases d <;> simp_all
    simp [loadVar, Sem.run_bind, hagg, sizeOf, typeInfo, hq, hs, hl]
theorem Es.at {w : World} {a : Option Addr} {es : List En} (h : Es w a es) {i : Nat} (hi : i < es.length) : ∃ b off, a = some ⟨b, off, none⟩ ∧ ∀ (j : Nat) v, (eAt es i).cs[j]? = some v → w.cell? ⟨b, off + i * 4 + j, none⟩ = some v :=
  h i _ (by rw [List.getElem?_map, eAt_some hi]; rfl)
theorem Ls.at {w : World} {a : Option Addr} {es : List La} (h : Ls w a es) {i : Nat} (hi : i < es.length) : ∃ b off, a = some ⟨b, off, none⟩ ∧ ∀ (j : Nat) v, (lAt es i).cs[j]? = some v → w.cell? ⟨b, off + i * 7 + j, none⟩ = some v :=
  h i _ (by rw [List.getElem?_map, lAt_some hi]; rfl)

theorem ld44 {w : World} {g : Nat} {b : Bv} (h : Box w g 44 b.cells) : (loadVar 44 ⟨g, 0, none⟩).run Try.prog w = .ok (.agg b.cells) w := run_load_part h (Part.all _) Try.und44 rfl Try.size44
theorem st44 {w : World} {g : Nat} {b : Bv} {cur : Array Value} (h : Box w g 44 cur) (hl : cur.size = 3) : (storeVar 44 ⟨g, 0, none⟩ (.agg b.cells)).run Try.prog w = .ok () (w.setRow g b.cells) := run_storeVar_row w g 44 44 cur b.cells h Try.size44 (by rw [hl]; rfl) b.one
theorem ld41 {w : World} {ad : Addr} {v : Value} (hc : w.cell? ad = some v) : (loadVar 41 ad).run Try.prog w = .ok v w := load_one hc Try.und41 rfl
theorem ld42 {w : World} {ad : Addr} {v : Value} (hc : w.cell? ad = some v) : (loadVar 42 ad).run Try.prog w = .ok v w := load_one hc Try.und42 rfl
/-- append onto a row of one's own. -/
theorem run_appN {w : World} (T ty E : TypeId) (c by' : Nat) (z : Value) (ht : Try.prog.underlying T = some (.slice E))
    (hinf : (Try.prog.info? E).map (fun i => (i.zero, i.size, i.bytes)) = some (some z, c, by')) (hzc : z.cells.size = c) (hc0 : 0 < c)
    (base n cap : Nat) (sa : Option Addr) (vs : List Value) (hown : Own E c w base sa cap n vs) (xa : Option Addr) (m cc : Nat) (news : List Value) (hl : news.length = m * c) (hx0 : xa = none → cc = 0) (hnews : ∀ j u, news[j]? = some u → ∃ ad, xa = some ad ∧ w.cell? (ad.add j) = some u) (h1 : ∀ u ∈ news, u.oneCell' = true) (hbd : (n + m) * by' ≤ 140737488355328) (hb63 : n + m ≤ 9223372036854775807) (hbase : base ≤ w.heap.size) :
    ∃ a' cap' w', (Builtin.append_ #[T, T] ty #[.slice sa n cap, .slice xa m cc]).run Try.prog w = .ok (.slice a' (n + m) cap') w' ∧ Own E c w' base a' cap' (n + m) (vs ++ news) ∧ Kept (At sa) w w' ∧ (∀ k, At a' k → At sa k ∨ k = w.heap.size) := by
  obtain ⟨i0, hi, hz0, hz1, hz2⟩ := info_parts hinf
  cases xa with
  | none =>
    have hm : m = 0 := by
      cases m with
      | zero => rfl
      | succ m =>
        have h0 : 0 < news.length := by rw [hl, Nat.succ_mul]; omega
        obtain ⟨ad, e, _⟩ := hnews 0 news[0] (List.getElem?_eq_getElem h0)
        cases e
    subst hm
    obtain rfl : news = [] := List.eq_nil_of_length_eq_zero (by simpa using hl)
    obtain rfl := hx0 rfl
    have hrun := run_append_owned_none (P := Try.prog) (w := w) base T ty E i0 c ht hi (.slice sa n cap) n vs hown
    exact ⟨sa, cap, w, hrun, by simpa using hown, Kept.refl _ _, fun k hk => .inl hk⟩
  | some ad =>
    obtain ⟨v', w', hrun, r1, r2, _, r4⟩ := run_append_own_at (P := Try.prog) (w := w) base T ty E i0 z c by' ht hi hz0 hz1 hz2 hzc hc0 (.slice sa n cap) n vs hown ad m cc news hl (fun j u hj => by obtain ⟨ad', e, h⟩ := hnews j u hj; cases e; exact h) h1 (by unfold maxLen; omega) hbd hbase
    have hk : Kept (At sa) w w' := (Kept.refl (At sa) w).grown r2 (fun k e hk => by
      cases sa with
      | none => cases e
      | some ad' => simp only [Value.ownBlock, Option.some.injEq] at e; exact ⟨ad', rfl, e⟩)
    rcases r1.2 with ⟨e, h0⟩ | ⟨g, cap', cur, e, _⟩
    · subst e
      refine ⟨none, 0, w', ?_, ?_, hk, fun k h => absurd h At.none⟩
      · rw [hrun, h0]
      · have := r1; rw [h0] at this ⊢; exact this
    · subst e
      refine ⟨some ⟨g, 0, none⟩, cap', w', hrun, r1, hk, ?_⟩
      rintro k ⟨ad2, e2, rfl⟩
      cases e2
      rcases r4 with e | e
      · left
        cases sa with
        | none => simp [Value.ownBlock] at e
        | some ad' => simp only [Value.ownBlock, Option.some.injEq] at e; exact ⟨ad', rfl, e.symm⟩
      · right; simpa [Value.ownBlock] using e
theorem exec_appN {o : Oper} {a : Act} {w w' : World} {v : Value} (s x : Operand) (T T' : TypeId) (ho : o.op = .call { callee := Callee.builtin Builtin.append, args := #[s, x], argTypes := #[T, T'] }) (vs vx : Value) (hs : a.eval s = vs) (hx : a.eval x = vx)
    (hrun : (Builtin.append_ #[T, T'] o.type #[vs, vx]).run Try.prog w = .ok v w') : (execOp a.eval o).run Try.prog w = .ok (.value v) w' := by
  simp [execOp, ho, resolve, invoke, builtin, hs, hx, hrun, Result.andThen]
/-- A list that can be read: the slice's value and what lies there. -/
structure RdE (w : World) (s : Sl) (es : List En) : Prop where
  row : Es w s.a es
  len : es.length = s.l
  cap : s.a = none → s.k = 0
structure RdL (w : World) (s : Sl) (es : List La) : Prop where
  row : Ls w s.a es
  len : es.length = s.l
  cap : s.a = none → s.k = 0
theorem RdE.kept {S : Nat → Prop} {w w' : World} {s : Sl} {es : List En} (h : RdE w s es) (hk : Kept S w w') (hS : ∀ k, At s.a k → ¬ S k) : RdE w' s es := ⟨RowsAt.kept h.row hk hS, h.len, h.cap⟩
theorem RdL.kept {S : Nat → Prop} {w w' : World} {s : Sl} {es : List La} (h : RdL w s es) (hk : Kept S w w') (hS : ∀ k, At s.a k → ¬ S k) : RdL w' s es := ⟨RowsAt.kept h.row hk hS, h.len, h.cap⟩
theorem RdE.no {w w' : World} {s : Sl} {es : List En} (h : RdE w s es) (hk : Kept No w w') : RdE w' s es := h.kept hk (fun _ _ e => e)
theorem RdL.no {w w' : World} {s : Sl} {es : List La} (h : RdL w s es) (hk : Kept No w w') : RdL w' s es := h.kept hk (fun _ _ e => e)
theorem RdE.src {w : World} {s : Sl} {es : List En} (h : RdE w s es) : ∀ (j : Nat) u, (enL es)[j]? = some u → ∃ ad, s.a = some ad ∧ w.cell? (ad.add j) = some u := by
  intro j u hj
  have hlt := (List.getElem?_eq_some_iff.1 hj).1
  rw [enL_len] at hlt
  have hi : j / 4 < es.length := by omega
  obtain ⟨b, off, e, hc⟩ := h.row.at hi
  refine ⟨_, e, ?_⟩
  have hj4 : j % 4 < (eAt es (j / 4)).cs.length := by have : (eAt es (j / 4)).cs.length = 4 := rfl; omega
  have := flat_get 4 (es.map En.cs) (enL_c es) (j / 4) (eAt es (j / 4)).cs (by rw [List.getElem?_map, eAt_some hi]; rfl) (j % 4) _ (List.getElem?_eq_getElem hj4)
  rw [show j / 4 * 4 + j % 4 = j by omega] at this
  have e2 : (eAt es (j / 4)).cs[j % 4]? = some u := by rw [List.getElem?_eq_getElem hj4, ← this]; exact hj
  rw [addr_add, show off + j = off + j / 4 * 4 + j % 4 by omega]
  exact hc _ _ e2
theorem RdL.src {w : World} {s : Sl} {es : List La} (h : RdL w s es) : ∀ (j : Nat) u, (laL es)[j]? = some u → ∃ ad, s.a = some ad ∧ w.cell? (ad.add j) = some u := by
  intro j u hj
  have hlt := (List.getElem?_eq_some_iff.1 hj).1
  rw [laL_len] at hlt
  have hi : j / 7 < es.length := by omega
  obtain ⟨b, off, e, hc⟩ := h.row.at hi
  refine ⟨_, e, ?_⟩
  have hj4 : j % 7 < (lAt es (j / 7)).cs.length := by have : (lAt es (j / 7)).cs.length = 7 := rfl; omega
  have := flat_get 7 (es.map La.cs) (laL_c es) (j / 7) (lAt es (j / 7)).cs (by rw [List.getElem?_map, lAt_some hi]; rfl) (j % 7) _ (List.getElem?_eq_getElem hj4)
  rw [show j / 7 * 7 + j % 7 = j by omega] at this
  have e2 : (lAt es (j / 7)).cs[j % 7]? = some u := by rw [List.getElem?_eq_getElem hj4, ← this]; exact hj
  rw [addr_add, show off + j = off + j / 7 * 7 + j % 7 by omega]
  exact hc _ _ e2
/-- A list that is one's own. -/
structure OwE (w : World) (base : Nat) (s : Sl) (es : List En) : Prop where
  own : Own 124 4 w base s.a s.k s.l (enL es)
  len : es.length = s.l
structure OwL (w : World) (base : Nat) (s : Sl) (es : List La) : Prop where
  own : Own 127 7 w base s.a s.k s.l (laL es)
  len : es.length = s.l
theorem Own.cap0 {t : TypeId} {c : Nat} {w : World} {base : Nat} {a : Option Addr} {cap n : Nat} {vs : List Value} (h : Own t c w base a cap n vs) (ha : a = none) : cap = 0 := by
  rcases h.cases h.1 with ⟨_, h, _⟩ | ⟨g, e, _⟩
  · exact h
  · rw [ha] at e; cases e
theorem OwE.rd {w : World} {base : Nat} {s : Sl} {es : List En} (h : OwE w base s es) : RdE w s es := ⟨Own.rows h.own (enL_c es) (by omega), h.len, h.own.cap0⟩
theorem OwL.rd {w : World} {base : Nat} {s : Sl} {es : List La} (h : OwL w base s es) : RdL w s es := ⟨Own.rows h.own (laL_c es) (by omega), h.len, h.own.cap0⟩
theorem OwE.kept {S : Nat → Prop} {w w' : World} {base : Nat} {s : Sl} {es : List En} (h : OwE w base s es) (hk : Kept S w w') (hS : ∀ k, At s.a k → ¬ S k) : OwE w' base s es := ⟨h.own.kept hk hS, h.len⟩
theorem OwL.kept {S : Nat → Prop} {w w' : World} {base : Nat} {s : Sl} {es : List La} (h : OwL w base s es) (hk : Kept S w w') (hS : ∀ k, At s.a k → ¬ S k) : OwL w' base s es := ⟨h.own.kept hk hS, h.len⟩
theorem OwE.no {w w' : World} {base : Nat} {s : Sl} {es : List En} (h : OwE w base s es) (hk : Kept No w w') : OwE w' base s es := h.kept hk (fun _ _ e => e)
theorem OwL.no {w w' : World} {base : Nat} {s : Sl} {es : List La} (h : OwL w base s es) (hk : Kept No w w') : OwL w' base s es := h.kept hk (fun _ _ e => e)
theorem OwE.nil (w : World) (base : Nat) : OwE w base slZ [] := ⟨Own.nil _ _ _ _, rfl⟩
theorem OwL.nil (w : World) (base : Nat) : OwL w base slZ [] := ⟨Own.nil _ _ _ _, rfl⟩
theorem OwE.lower {w : World} {base base' : Nat} {s : Sl} {es : List En} (h : OwE w base s es) (hb : base' ≤ base) : OwE w base' s es := ⟨h.own.lower hb, h.len⟩
theorem OwL.lower {w : World} {base base' : Nat} {s : Sl} {es : List La} (h : OwL w base s es) (hb : base' ≤ base) : OwL w base' s es := ⟨h.own.lower hb, h.len⟩
theorem Own.lt {t : TypeId} {c : Nat} {w : World} {base : Nat} {a : Option Addr} {cap n : Nat} {vs : List Value} (h : Own t c w base a cap n vs) {k : Nat} (hk : At a k) : k < w.heap.size := by
  rcases h.cases h.1 with ⟨rfl, _⟩ | ⟨g, rfl, _, hg, _⟩
  · exact absurd hk At.none
  · obtain ⟨ad, e, rfl⟩ := hk; cases e; exact hg
/-- Of unlike types: apart. -/
theorem Own.notBox {t : TypeId} {c : Nat} {w : World} {base : Nat} {a : Option Addr} {cap n : Nat} {vs : List Value} (h : Own t c w base a cap n vs) {g : Nat} {T : TypeId} {cs : Array Value} (hb : Box w g T cs) (hne : t ≠ T) : ¬ At a g := by
  rintro ⟨ad, e, rfl⟩
  rcases h.cases h.1 with ⟨rfl, _⟩ | ⟨g, rfl, _, hg, sp, hbx, _⟩
  · cases e
  · cases e
    exact box_ne hbx hb hne rfl
theorem Own.apart {t t' : TypeId} {c c' : Nat} {w : World} {base base' : Nat} {a a' : Option Addr} {cap n cap' n' : Nat} {vs vs' : List Value} (h : Own t c w base a cap n vs) (h' : Own t' c' w base' a' cap' n' vs') (hne : t ≠ t') {k : Nat} (hk : At a k) : ¬ At a' k := by
  rcases h.cases h.1 with ⟨rfl, _⟩ | ⟨g, rfl, _, hg, sp, hbx, _⟩
  · exact absurd hk At.none
  · obtain ⟨ad, e, rfl⟩ := hk
    cases e
    exact h'.notBox hbx (fun e => hne e.symm)
def CopOut (w : World) (up : Int) (es : List En) (ls : List La) (e : Ending) (w' : World) : Prop :=
  ∃ se sl : Sl, e = .returned (.agg (Bv.cells ⟨up, se, sl⟩)) ∧ OwE w' w.heap.size se es ∧ OwL w' w.heap.size sl ls ∧ Kept No w w'
set_option maxRecDepth 100000 in
set_option maxHeartbeats 4000000 in
theorem copied_any (up : Int) (ae : Option Addr) (ne ce : Nat) (al : Option Addr) (nl cl : Nat) (es : List En) (ls : List La) (w : World) (hbe : ne * 40 ≤ 140737488355328) (hbl : nl * 56 ≤ 140737488355328) (he : RdE w ⟨ae, ne, ce⟩ es) (hl : RdL w ⟨al, nl, cl⟩ ls) : Calls Try.prog 56 #[.agg (Bv.cells ⟨up, ⟨ae, ne, ce⟩, ⟨al, nl, cl⟩⟩)] w (CopOut w up es ls) := by
  refine hideC fun C HC => ?_
  have HE : Hid (RdE w ⟨ae, ne, ce⟩ es) := he
  have HL : Hid (RdL w ⟨al, nl, cl⟩ ls) := hl
  clear he hl
  have HF : Hid (Fr No w w []) := Fr.start _ _
  go_enter Try.func56, Try.ntmps56
  go_upto_region 0 with fail
  refine WL.start ?_
  refine uR (pV w.heap.size 0) (w.alloc (.cells (Bv.cells ⟨up, ⟨ae, ne, ce⟩, ⟨al, nl, cl⟩⟩) 44)) (exec_box 44 _ rfl (Bv.cells ⟨up, ⟨ae, ne, ce⟩, ⟨al, nl, cl⟩⟩) (by kernel_rfl)) ?_
  try simp only [pS]
  have HF : Hid (Fr No w (w.alloc (.cells (Bv.cells ⟨up, ⟨ae, ne, ce⟩, ⟨al, nl, cl⟩⟩) 44)) [(w.heap.size, 44, Bv.cells ⟨up, ⟨ae, ne, ce⟩, ⟨al, nl, cl⟩⟩)]) := HF.out.alloc _ _
  generalize w.alloc (.cells (Bv.cells ⟨up, ⟨ae, ne, ce⟩, ⟨al, nl, cl⟩⟩) 44) = wk2 at HF ⊢
  generalize w.heap.size = gk1 at HF ⊢
  refine uR (pV wk2.heap.size 0) (wk2.alloc (.cells (Bv.cells bvZ) 44)) (exec_alloc 44 rfl (Bv.cells bvZ) zero44) ?_
  try simp only [pS]
  have HF : Hid (Fr No w (wk2.alloc (.cells (Bv.cells bvZ) 44)) [(gk1, 44, Bv.cells ⟨up, ⟨ae, ne, ce⟩, ⟨al, nl, cl⟩⟩), (wk2.heap.size, 44, Bv.cells bvZ)]) := HF.out.alloc _ _
  generalize wk2.alloc (.cells (Bv.cells bvZ) 44) = wk4 at HF ⊢
  generalize wk2.heap.size = gk3 at HF ⊢
  refine WL.nil ?_
  try simp only [pS]
  go_upto_region 1 with fail
  refine WL.start <| uK (pV gk1 1) <| uL 41 ⟨gk1, 1, none⟩ (.slice ae ne ce) (ld41 ((HF.out.box 0 _ _ _ rfl).cell 1)) <| ?_
  try simp only [pS]
  obtain ⟨aE, cE, wk5, hrun, hO, hk, hA⟩ := run_appN (w := wk4) 41 41 124 4 40 (.agg enZ.cells) Try.und41 Try.info124 rfl (by omega) w.heap.size 0 0 none [] (Own.nil _ _ _ _) ae ne ce (enL es) (by rw [enL_len, (HE.out).len]) (HE.out).cap (HE.out.no HF.out.kept).src (enL_one _) (by omega) (by omega) HF.out.kept.size
  rw [Nat.zero_add] at hrun hO
  have hkn : Kept No wk4 wk5 := hk.mono (fun _ _ e => absurd e At.none)
  refine uR (.slice aE ne cE) wk5 (exec_appN _ _ 41 41 rfl _ _ (by kernel_rfl) (by kernel_rfl) hrun) ?_
  try simp only [pS]
  have HF : Hid (Fr No w (wk5) [(gk1, 44, Bv.cells ⟨up, ⟨ae, ne, ce⟩, ⟨al, nl, cl⟩⟩), (gk3, 44, Bv.cells bvZ)]) := HF.out.no hkn
  have HOE : Hid (OwE wk5 w.heap.size ⟨aE, ne, cE⟩ es) := ⟨hO, HE.out.len⟩
  clear hrun hO hk hA hkn
  refine uK (pV gk1 1) ?_
  try simp only [pS]
  refine uT 41 ⟨gk1, 1, none⟩ (.slice aE ne cE) (wk5.setRow gk1 (Bv.cells ⟨up, ⟨aE, ne, cE⟩, ⟨al, nl, cl⟩⟩)) (run_store_at (cur := Bv.cs ⟨up, ⟨ae, ne, ce⟩, ⟨al, nl, cl⟩⟩) (vs := [.slice aE ne cE]) (HF.out.box 0 _ _ _ rfl) rfl Try.size41 (by exact Nat.le_of_ble_eq_true rfl) (by simp [Value.oneCell'])) ?_
  try simp only [pS]
  have HOE : Hid (OwE (wk5.setRow gk1 (Bv.cells ⟨up, ⟨aE, ne, cE⟩, ⟨al, nl, cl⟩⟩)) w.heap.size ⟨aE, ne, cE⟩ es) := HOE.out.kept (Kept.setRow _ _ _) (fun k h e => (HOE.out.own.notBox (HF.out.box 0 _ _ _ rfl) (by decide)) ((show k = gk1 from e) ▸ h))
  have HF : Hid (Fr No w (wk5.setRow gk1 (Bv.cells ⟨up, ⟨aE, ne, cE⟩, ⟨al, nl, cl⟩⟩)) [(gk1, 44, Bv.cells ⟨up, ⟨aE, ne, cE⟩, ⟨al, nl, cl⟩⟩), (gk3, 44, Bv.cells bvZ)]) := HF.out.set 0 rfl _
  generalize wk5.setRow gk1 (Bv.cells ⟨up, ⟨aE, ne, cE⟩, ⟨al, nl, cl⟩⟩) = wk6 at HF HOE ⊢
  refine WL.nil ?_
  try simp only [pS]
  go_upto_region 2 with fail
  refine WL.start <| uK (pV gk1 2) <| uL 42 ⟨gk1, 2, none⟩ (.slice al nl cl) (ld42 ((HF.out.box 0 _ _ _ rfl).cell 2)) <| ?_
  try simp only [pS]
  obtain ⟨aL, cL, wk7, hrun, hO, hk, hA⟩ := run_appN (w := wk6) 42 42 127 7 56 (.agg laZ.cells) Try.und42 Try.info127 rfl (by omega) w.heap.size 0 0 none [] (Own.nil _ _ _ _) al nl cl (laL ls) (by rw [laL_len, (HL.out).len]) (HL.out).cap (HL.out.no HF.out.kept).src (laL_one _) (by omega) (by omega) HF.out.kept.size
  rw [Nat.zero_add] at hrun hO
  have hkn : Kept No wk6 wk7 := hk.mono (fun _ _ e => absurd e At.none)
  refine uR (.slice aL nl cL) wk7 (exec_appN _ _ 42 42 rfl _ _ (by kernel_rfl) (by kernel_rfl) hrun) ?_
  try simp only [pS]
  have HOE : Hid (OwE (wk7) w.heap.size ⟨aE, ne, cE⟩ es) := HOE.out.no hkn
  have HF : Hid (Fr No w (wk7) [(gk1, 44, Bv.cells ⟨up, ⟨aE, ne, cE⟩, ⟨al, nl, cl⟩⟩), (gk3, 44, Bv.cells bvZ)]) := HF.out.no hkn
  have HOL : Hid (OwL wk7 w.heap.size ⟨aL, nl, cL⟩ ls) := ⟨hO, HL.out.len⟩
  clear hrun hO hk hA hkn
  refine uK (pV gk1 2) ?_
  try simp only [pS]
  refine uT 42 ⟨gk1, 2, none⟩ (.slice aL nl cL) (wk7.setRow gk1 (Bv.cells ⟨up, ⟨aE, ne, cE⟩, ⟨aL, nl, cL⟩⟩)) (run_store_at (cur := Bv.cs ⟨up, ⟨aE, ne, cE⟩, ⟨al, nl, cl⟩⟩) (vs := [.slice aL nl cL]) (HF.out.box 0 _ _ _ rfl) rfl Try.size42 (by exact Nat.le_of_ble_eq_true rfl) (by simp [Value.oneCell'])) ?_
  try simp only [pS]
  have HOE : Hid (OwE (wk7.setRow gk1 (Bv.cells ⟨up, ⟨aE, ne, cE⟩, ⟨aL, nl, cL⟩⟩)) w.heap.size ⟨aE, ne, cE⟩ es) := HOE.out.kept (Kept.setRow _ _ _) (fun k h e => (HOE.out.own.notBox (HF.out.box 0 _ _ _ rfl) (by decide)) ((show k = gk1 from e) ▸ h))
  have HOL : Hid (OwL (wk7.setRow gk1 (Bv.cells ⟨up, ⟨aE, ne, cE⟩, ⟨aL, nl, cL⟩⟩)) w.heap.size ⟨aL, nl, cL⟩ ls) := HOL.out.kept (Kept.setRow _ _ _) (fun k h e => (HOL.out.own.notBox (HF.out.box 0 _ _ _ rfl) (by decide)) ((show k = gk1 from e) ▸ h))
  have HF : Hid (Fr No w (wk7.setRow gk1 (Bv.cells ⟨up, ⟨aE, ne, cE⟩, ⟨aL, nl, cL⟩⟩)) [(gk1, 44, Bv.cells ⟨up, ⟨aE, ne, cE⟩, ⟨aL, nl, cL⟩⟩), (gk3, 44, Bv.cells bvZ)]) := HF.out.set 0 rfl _
  generalize wk7.setRow gk1 (Bv.cells ⟨up, ⟨aE, ne, cE⟩, ⟨aL, nl, cL⟩⟩) = wk8 at HF HOE HOL ⊢
  refine WL.nil ?_
  try simp only [pS]
  go_upto_region 3 with fail
  refine WL.start <| uL 44 ⟨gk1, 0, none⟩ (.agg (Bv.cells ⟨up, ⟨aE, ne, cE⟩, ⟨aL, nl, cL⟩⟩)) (ld44 (HF.out.box 0 _ _ _ rfl)) <| ?_
  try simp only [pS]
  refine uT 44 ⟨gk3, 0, none⟩ (.agg (Bv.cells ⟨up, ⟨aE, ne, cE⟩, ⟨aL, nl, cL⟩⟩)) (wk8.setRow gk3 (Bv.cells ⟨up, ⟨aE, ne, cE⟩, ⟨aL, nl, cL⟩⟩)) (st44 (HF.out.box 1 _ _ _ rfl) rfl) ?_
  try simp only [pS]
  have HOE : Hid (OwE (wk8.setRow gk3 (Bv.cells ⟨up, ⟨aE, ne, cE⟩, ⟨aL, nl, cL⟩⟩)) w.heap.size ⟨aE, ne, cE⟩ es) := HOE.out.kept (Kept.setRow _ _ _) (fun k h e => (HOE.out.own.notBox (HF.out.box 1 _ _ _ rfl) (by decide)) ((show k = gk3 from e) ▸ h))
  have HOL : Hid (OwL (wk8.setRow gk3 (Bv.cells ⟨up, ⟨aE, ne, cE⟩, ⟨aL, nl, cL⟩⟩)) w.heap.size ⟨aL, nl, cL⟩ ls) := HOL.out.kept (Kept.setRow _ _ _) (fun k h e => (HOL.out.own.notBox (HF.out.box 1 _ _ _ rfl) (by decide)) ((show k = gk3 from e) ▸ h))
  have HF : Hid (Fr No w (wk8.setRow gk3 (Bv.cells ⟨up, ⟨aE, ne, cE⟩, ⟨aL, nl, cL⟩⟩)) [(gk1, 44, Bv.cells ⟨up, ⟨aE, ne, cE⟩, ⟨aL, nl, cL⟩⟩), (gk3, 44, Bv.cells ⟨up, ⟨aE, ne, cE⟩, ⟨aL, nl, cL⟩⟩)]) := HF.out.set 1 rfl _
  generalize wk8.setRow gk3 (Bv.cells ⟨up, ⟨aE, ne, cE⟩, ⟨aL, nl, cL⟩⟩) = wk9 at HF HOE HOL ⊢
  refine WL.nil ?_
  try simp only [pS]
  go_wp2
  rw [HC.out]
  refine bodyPost_ret (results_row1 (by rfl) _ _ gk3 (Bv.cells ⟨up, ⟨aE, ne, cE⟩, ⟨aL, nl, cL⟩⟩) (by rfl) (ld44 (HF.out.box 1 _ _ _ rfl))) rfl ?_
  exact ⟨_, _, rfl, HOE.out, HOL.out, HF.out.kept⟩

end Go.Proofs.Ytpabpeppgpeaoaa
