import Derived.Test.YtfemlnfknebalabA
namespace Go.Proofs.Ytfemlnfknebalab
open Go.RowKit
set_option linter.unusedVariables false
set_option linter.unusedSimpArgs false

/-- What a function holds while it runs: its own variables' blocks. -/
structure Fr (S : Nat → Prop) (w0 w : World) (l : List (Nat × TypeId × Array Value)) : Prop where
  kept : Kept S w0 w
  box : ∀ (i : Nat) g T cs, l[i]? = some (g, T, cs) → Box w g T cs
  low : ∀ (i : Nat) g T cs, l[i]? = some (g, T, cs) → w0.heap.size ≤ g
  inj : ∀ (i j : Nat) g T cs T' cs', l[i]? = some (g, T, cs) → l[j]? = some (g, T', cs') → i = j
theorem Fr.start (S : Nat → Prop) (w : World) : Fr S w w [] := ⟨Kept.refl S w, by simp, by simp, by simp⟩
theorem Fr.drew {S : Nat → Prop} {w0 w : World} {l : List (Nat × TypeId × Array Value)} (h : Fr S w0 w l) : Fr S w0 w.drew l := ⟨h.kept.drew, h.box, h.low, h.inj⟩
theorem Fr.alloc {S : Nat → Prop} {w0 w : World} {l : List (Nat × TypeId × Array Value)} (h : Fr S w0 w l) (T : TypeId) (cs : Array Value) : Fr S w0 (w.alloc (.cells cs T)) (l ++ [(w.heap.size, T, cs)]) := by
  refine ⟨h.kept.alloc _, ?_, ?_, ?_⟩
  · intro i g T' cs' hi
    rw [List.getElem?_append] at hi
    split at hi
    · exact (h.box i g T' cs' hi).alloc _
    · obtain ⟨rfl, rfl, rfl⟩ : w.heap.size = g ∧ T = T' ∧ cs = cs' := by
        have := List.mem_of_getElem? hi
        simpa [eq_comm] using this
      exact Box.new _ _ _
  · intro i g T' cs' hi
    rw [List.getElem?_append] at hi
    split at hi
    · exact h.low i g T' cs' hi
    · obtain ⟨rfl, rfl, rfl⟩ : w.heap.size = g ∧ T = T' ∧ cs = cs' := by
        have := List.mem_of_getElem? hi
        simpa [eq_comm] using this
      exact h.kept.size
  · intro i j g T1 cs1 T2 cs2 hi hj
    rw [List.getElem?_append] at hi hj
    split at hi <;> split at hj
    · exact h.inj i j g T1 cs1 T2 cs2 hi hj
    · have h1 := (h.box i g T1 cs1 hi).lt
      have h2 : g = w.heap.size := by have := List.mem_of_getElem? hj; simp at this; exact this.1
      omega
    · have h1 := (h.box j g T2 cs2 hj).lt
      have h2 : g = w.heap.size := by have := List.mem_of_getElem? hi; simp at this; exact this.1
      omega
    · have h1 := (List.getElem?_eq_some_iff.1 hi).1
      have h2 := (List.getElem?_eq_some_iff.1 hj).1
      simp at h1 h2
      omega
theorem Fr.set {S : Nat → Prop} {w0 w : World} {l : List (Nat × TypeId × Array Value)} (h : Fr S w0 w l) (i : Nat) {g : Nat} {T : TypeId} {cs : Array Value} (hi : l[i]? = some (g, T, cs)) (cs' : Array Value) : Fr S w0 (w.setRow g cs') (l.set i (g, T, cs')) := by
  have hlt := (List.getElem?_eq_some_iff.1 hi).1
  have key : ∀ (j : Nat) g1 T1 cs1, (l.set i (g, T, cs'))[j]? = some (g1, T1, cs1) → (j = i ∧ g1 = g ∧ T1 = T ∧ cs1 = cs') ∨ (j ≠ i ∧ l[j]? = some (g1, T1, cs1)) := by
    intro j g1 T1 cs1 hj
    rw [List.getElem?_set] at hj
    by_cases e : i = j
    · subst e
      simp [hlt] at hj
      exact .inl ⟨rfl, hj.1.symm, hj.2.1.symm, hj.2.2.symm⟩
    · simp [e] at hj
      exact .inr ⟨fun h => e h.symm, hj⟩
  refine ⟨h.kept.newRowS (h.low i g T cs hi) _, ?_, ?_, ?_⟩
  · intro j g1 T1 cs1 hj
    rcases key j g1 T1 cs1 hj with ⟨rfl, rfl, rfl, rfl⟩ | ⟨hne, hj2⟩
    · exact (h.box _ _ _ _ hi).setRow _
    · refine (h.box j g1 T1 cs1 hj2).rowNe (fun e => hne ?_) _
      subst e
      exact h.inj j i _ _ _ _ _ hj2 hi
  · intro j g1 T1 cs1 hj
    rcases key j g1 T1 cs1 hj with ⟨rfl, rfl, rfl, rfl⟩ | ⟨hne, hj⟩
    · exact h.low _ _ _ _ hi
    · exact h.low j g1 T1 cs1 hj
  · intro j k g1 T1 cs1 T2 cs2 hj hk
    rcases key j g1 T1 cs1 hj with ⟨rfl, rfl, rfl, rfl⟩ | ⟨hne, hj2⟩ <;> rcases key k g1 T2 cs2 hk with ⟨rfl, h1, h2, h3⟩ | ⟨hne', hk2⟩
    · rfl
    · exact h.inj _ _ _ _ _ _ _ hi hk2
    · subst h1; exact h.inj _ _ _ _ _ _ _ hj2 hi
    · exact h.inj _ _ _ _ _ _ _ hj2 hk2
theorem Fr.no {S : Nat → Prop} {w0 w w' : World} {l : List (Nat × TypeId × Array Value)} (h : Fr S w0 w l) (hk : Kept No w w') : Fr S w0 w' l :=
  ⟨h.kept.thenNo hk, fun i g T cs hi => (h.box i g T cs hi).kept hk (fun e => e), h.low, h.inj⟩
theorem Fr.via {S S' : Nat → Prop} {w0 w w' : World} {l : List (Nat × TypeId × Array Value)} (h : Fr S w0 w l) (hk : Kept S' w w') (hS : ∀ k, S' k → k < w0.heap.size ∧ S k) : Fr S w0 w' l :=
  ⟨h.kept.trans hk (fun _ e => e) (fun k _ e => (hS k e).2), fun i g T cs hi => (h.box i g T cs hi).kept hk (fun e => by have h1 := (hS g e).1; have h2 := h.low i g T cs hi; omega), h.low, h.inj⟩
/-- Of a function's own blocks only some are spoken of further on. -/
theorem Fr.drop {S : Nat → Prop} {w0 w : World} {l : List (Nat × TypeId × Array Value)} (h : Fr S w0 w l) : Fr S w0 w [] := ⟨h.kept, by simp, by simp, by simp⟩

/-- Rows of cells in memory that came in, or that was made. -/
def RowsAt (n : Nat) (w : World) (a : Option Addr) (xs : List (List Value)) : Prop :=
  ∀ (i : Nat) it, xs[i]? = some it → ∃ b off, a = some ⟨b, off, none⟩ ∧ ∀ (j : Nat) v, it[j]? = some v → w.cell? ⟨b, off + i * n + j, none⟩ = some v
theorem RowsAt.kept {n : Nat} {S : Nat → Prop} {w w' : World} {a : Option Addr} {xs : List (List Value)} (h : RowsAt n w a xs) (hk : Kept S w w') (hS : ∀ k, At a k → ¬ S k) : RowsAt n w' a xs := by
  intro i it hi
  obtain ⟨b, off, e, c⟩ := h i it hi
  exact ⟨b, off, e, fun j v hv => hk.cell (c j v hv) (hS b ⟨_, e, rfl⟩)⟩
theorem RowsAt.no {n : Nat} {w w' : World} {a : Option Addr} {xs : List (List Value)} (h : RowsAt n w a xs) (hk : Kept No w w') : RowsAt n w' a xs := h.kept hk (fun _ _ e => e)
theorem RowsAt.nil (n : Nat) (w : World) (a : Option Addr) : RowsAt n w a [] := fun i it h => by simp at h
theorem flat_get (c : Nat) : ∀ (xs : List (List Value)), (∀ x ∈ xs, x.length = c) → ∀ (i : Nat) it, xs[i]? = some it → ∀ (j : Nat) v, it[j]? = some v → xs.flatten[i * c + j]? = some v
  | [], _, i, it, h, _, _, _ => by simp at h
  | x :: xs, hc, 0, it, h, j, v, hv => by
    simp at h
    subst h
    have hj := (List.getElem?_eq_some_iff.1 hv).1
    rw [List.flatten_cons, Nat.zero_mul, Nat.zero_add, List.getElem?_append_left hj, hv]
  | x :: xs, hc, i + 1, it, h, j, v, hv => by
    simp only [List.getElem?_cons_succ] at h
    have hx : x.length = c := hc x (by simp)
    rw [List.flatten_cons, List.getElem?_append_right (by rw [hx, Nat.add_mul]; omega), hx, show (i + 1) * c + j - c = i * c + j by rw [Nat.add_mul]; omega]
    exact flat_get c xs (fun y hy => hc y (by simp [hy])) i it h j v hv
theorem flat_len (c : Nat) : ∀ (xs : List (List Value)), (∀ x ∈ xs, x.length = c) → xs.flatten.length = xs.length * c
  | [], _ => by simp
  | x :: xs, hc => by
    rw [List.flatten_cons, List.length_append, flat_len c xs (fun y hy => hc y (by simp [hy])), hc x (by simp), List.length_cons, Nat.add_mul]; omega
theorem Own.rows {t : TypeId} {c : Nat} {w : World} {base : Nat} {a : Option Addr} {cap n : Nat} {xs : List (List Value)} (h : Own t c w base a cap n xs.flatten) (hc : ∀ x ∈ xs, x.length = c) (h0c : 0 < c) : RowsAt c w a xs := by
  rcases h.cases h.1 with ⟨rfl, _, h0⟩ | ⟨g, rfl, _, _, sp, hg, _⟩
  · intro i it hi
    have hl := h.1
    rw [flat_len c xs hc, h0, Nat.zero_mul] at hl
    have hi' := (List.getElem?_eq_some_iff.1 hi).1
    have : xs.length = 0 := by rcases Nat.mul_eq_zero.1 hl with h | h <;> omega
    omega
  · intro i it hi
    refine ⟨g, 0, rfl, fun j v hv => ?_⟩
    have := flat_get c xs hc i it hi j v hv
    have hlt := (List.getElem?_eq_some_iff.1 this).1
    rw [Nat.zero_add, cell_of_row w g _ _ t (0, 0) hg, List.getElem?_toArray, List.getElem?_append_left hlt, this]
def enL (es : List En) : List Value := (es.map En.cs).flatten
def laL (es : List La) : List Value := (es.map La.cs).flatten
def Es (w : World) (a : Option Addr) (es : List En) : Prop := RowsAt 4 w a (es.map En.cs)
def Ls (w : World) (a : Option Addr) (es : List La) : Prop := RowsAt 7 w a (es.map La.cs)
def Cs (w : World) (a : Option Addr) (es : List Cm) : Prop := RowsAt 9 w a (es.map Cm.cs)
theorem enL_c (es : List En) : ∀ x ∈ es.map En.cs, x.length = 4 := by intro x hx; obtain ⟨e, _, rfl⟩ := List.mem_map.1 hx; rfl
theorem laL_c (es : List La) : ∀ x ∈ es.map La.cs, x.length = 7 := by intro x hx; obtain ⟨e, _, rfl⟩ := List.mem_map.1 hx; rfl
theorem enL_len (es : List En) : (enL es).length = es.length * 4 := by unfold enL; rw [flat_len 4 _ (enL_c es), List.length_map]
theorem laL_len (es : List La) : (laL es).length = es.length * 7 := by unfold laL; rw [flat_len 7 _ (laL_c es), List.length_map]
theorem enL_one (es : List En) : ∀ v ∈ enL es, v.oneCell' = true := by
  intro v hv
  obtain ⟨x, hx, hv⟩ := List.mem_flatten.1 hv
  obtain ⟨e, _, rfl⟩ := List.mem_map.1 hx
  exact e.oneL v hv
theorem laL_one (es : List La) : ∀ v ∈ laL es, v.oneCell' = true := by
  intro v hv
  obtain ⟨x, hx, hv⟩ := List.mem_flatten.1 hv
  obtain ⟨e, _, rfl⟩ := List.mem_map.1 hx
  exact e.oneL v hv
theorem enL_app (a b : List En) : enL (a ++ b) = enL a ++ enL b := by simp [enL]
theorem laL_app (a b : List La) : laL (a ++ b) = laL a ++ laL b := by simp [laL]
theorem enL_1 (e : En) : enL [e] = e.cs := by simp [enL]
theorem laL_1 (e : La) : laL [e] = e.cs := by simp [laL]
def eAt (es : List En) (i : Nat) : En := es[i]?.getD enZ
def lAt (es : List La) (i : Nat) : La := es[i]?.getD laZ
def cAt (es : List Cm) (i : Nat) : Cm := es[i]?.getD cZ
theorem eAt_some {es : List En} {i : Nat} (h : i < es.length) : es[i]? = some (eAt es i) := by simp [eAt, List.getElem?_eq_getElem h]
theorem lAt_some {es : List La} {i : Nat} (h : i < es.length) : es[i]? = some (lAt es i) := by simp [lAt, List.getElem?_eq_getElem h]
theorem cAt_some {es : List Cm} {i : Nat} (h : i < es.length) : es[i]? = some (cAt es i) := by simp [cAt, List.getElem?_eq_getElem h]
theorem load_at {n : Nat} {w : World} {b off i : Nat} {it : List Value} {t : TypeId} {d : TypeDesc} (hc : ∀ (j : Nat) v, it[j]? = some v → w.cell? ⟨b, off + i * n + j, none⟩ = some v)
    (hu : Try.prog.underlying t = some d) (hd : (match d with | .struct _ | .array _ _ => true | _ => false) = true) (hi : (Try.prog.info? t).map (·.size) = some it.length) :
    (loadVar t ⟨b, off + i * n, none⟩).run Try.prog w = .ok (.agg it.toArray) w := by
  have hl : (loadCells ⟨b, off + i * n, none⟩ it.length).run Try.prog w = .ok it.toArray w :=
    run_loadCells_list (P := Try.prog) w ⟨b, off + i * n, none⟩ it (fun j v hv => by rw [addr_add]; exact hc j v hv)
  cases hq : Try.prog.info? t with
  | none => simp [hq] at hi
  | some inf =>
    have hs : inf.size = it.length := by simpa [hq] using hi
    have hagg : (isAgg t).run Try.prog w = .ok true w := by
      unfold isAgg
      rw [Sem.run_bind, run_underlying hu w]
      cases d <;> simp_all
    simp [loadVar, Sem.run_bind, hagg, sizeOf, typeInfo, hq, hs, hl]
theorem Es.at {w : World} {a : Option Addr} {es : List En} (h : Es w a es) {i : Nat} (hi : i < es.length) : ∃ b off, a = some ⟨b, off, none⟩ ∧ ∀ (j : Nat) v, (eAt es i).cs[j]? = some v → w.cell? ⟨b, off + i * 4 + j, none⟩ = some v :=
  h i _ (by rw [List.getElem?_map, eAt_some hi]; rfl)
theorem Ls.at {w : World} {a : Option Addr} {es : List La} (h : Ls w a es) {i : Nat} (hi : i < es.length) : ∃ b off, a = some ⟨b, off, none⟩ ∧ ∀ (j : Nat) v, (lAt es i).cs[j]? = some v → w.cell? ⟨b, off + i * 7 + j, none⟩ = some v :=
  h i _ (by rw [List.getElem?_map, lAt_some hi]; rfl)
theorem Cs.at {w : World} {a : Option Addr} {es : List Cm} (h : Cs w a es) {i : Nat} (hi : i < es.length) : ∃ b off, a = some ⟨b, off, none⟩ ∧ ∀ (j : Nat) v, (cAt es i).cs[j]? = some v → w.cell? ⟨b, off + i * 9 + j, none⟩ = some v :=
  h i _ (by rw [List.getElem?_map, cAt_some hi]; rfl)
theorem load_E {w : World} {b off i : Nat} {e : En} (hc : ∀ (j : Nat) v, e.cs[j]? = some v → w.cell? ⟨b, off + i * 4 + j, none⟩ = some v) : (loadVar 34 ⟨b, off + i * 4, none⟩).run Try.prog w = .ok (.agg e.cells) w := load_at hc Try.und54 rfl Try.size54
theorem load_L {w : World} {b off i : Nat} {e : La} (hc : ∀ (j : Nat) v, e.cs[j]? = some v → w.cell? ⟨b, off + i * 7 + j, none⟩ = some v) : (loadVar 67 ⟨b, off + i * 7, none⟩).run Try.prog w = .ok (.agg e.cells) w := load_at hc Try.und64 rfl Try.size64
theorem load_Ca {w : World} {b off i : Nat} {e : Cm} (hc : ∀ (j : Nat) v, e.cs[j]? = some v → w.cell? ⟨b, off + i * 9 + j, none⟩ = some v) : (loadVar 31 ⟨b, off + i * 9, none⟩).run Try.prog w = .ok (.agg e.cells) w := load_at hc Try.und29 rfl Try.size29
/-- Whole variables and their fields. -/
theorem ld25 {w : World} {g : Nat} {b : Bv} (h : Box w g 26 b.cells) : (loadVar 26 ⟨g, 0, none⟩).run Try.prog w = .ok (.agg b.cells) w := run_load_part h (Part.all _) Try.und25 rfl Try.size25
theorem ld29 {w : World} {g : Nat} {b : Cm} (h : Box w g 31 b.cells) : (loadVar 31 ⟨g, 0, none⟩).run Try.prog w = .ok (.agg b.cells) w := run_load_part h (Part.all _) Try.und29 rfl Try.size29
theorem ld54 {w : World} {g : Nat} {b : En} (h : Box w g 34 b.cells) : (loadVar 34 ⟨g, 0, none⟩).run Try.prog w = .ok (.agg b.cells) w := run_load_part h (Part.all _) Try.und54 rfl Try.size54
theorem ld56 {w : World} {g : Nat} {b : Av} (h : Box w g 36 b.cells) : (loadVar 36 ⟨g, 0, none⟩).run Try.prog w = .ok (.agg b.cells) w := run_load_part h (Part.all _) Try.und56 rfl Try.size56
theorem ld64 {w : World} {g : Nat} {b : La} (h : Box w g 67 b.cells) : (loadVar 67 ⟨g, 0, none⟩).run Try.prog w = .ok (.agg b.cells) w := run_load_part h (Part.all _) Try.und64 rfl Try.size64
theorem st25 {w : World} {g : Nat} {b : Bv} {cur : Array Value} (h : Box w g 26 cur) (hl : cur.size = 3) : (storeVar 26 ⟨g, 0, none⟩ (.agg b.cells)).run Try.prog w = .ok () (w.setRow g b.cells) := run_storeVar_row w g 26 26 cur b.cells h Try.size25 (by rw [hl]; rfl) b.one
theorem st29 {w : World} {g : Nat} {b : Cm} {cur : Array Value} (h : Box w g 31 cur) (hl : cur.size = 9) : (storeVar 31 ⟨g, 0, none⟩ (.agg b.cells)).run Try.prog w = .ok () (w.setRow g b.cells) := run_storeVar_row w g 31 31 cur b.cells h Try.size29 (by rw [hl]; rfl) b.one
theorem st54 {w : World} {g : Nat} {b : En} {cur : Array Value} (h : Box w g 34 cur) (hl : cur.size = 4) : (storeVar 34 ⟨g, 0, none⟩ (.agg b.cells)).run Try.prog w = .ok () (w.setRow g b.cells) := run_storeVar_row w g 34 34 cur b.cells h Try.size54 (by rw [hl]; rfl) b.one
theorem st56 {w : World} {g : Nat} {b : Av} {cur : Array Value} (h : Box w g 36 cur) (hl : cur.size = 6) : (storeVar 36 ⟨g, 0, none⟩ (.agg b.cells)).run Try.prog w = .ok () (w.setRow g b.cells) := run_storeVar_row w g 36 36 cur b.cells h Try.size56 (by rw [hl]; rfl) b.one
theorem st64 {w : World} {g : Nat} {b : La} {cur : Array Value} (h : Box w g 67 cur) (hl : cur.size = 7) : (storeVar 67 ⟨g, 0, none⟩ (.agg b.cells)).run Try.prog w = .ok () (w.setRow g b.cells) := run_storeVar_row w g 67 67 cur b.cells h Try.size64 (by rw [hl]; rfl) b.one
theorem ld3 {w : World} {ad : Addr} {v : Value} (hc : w.cell? ad = some v) : (loadVar 3 ad).run Try.prog w = .ok v w := load_one hc Try.und3 rfl
theorem ld46 {w : World} {ad : Addr} {v : Value} (hc : w.cell? ad = some v) : (loadVar 32 ad).run Try.prog w = .ok v w := load_one hc Try.und46 rfl
theorem ld9 {w : World} {ad : Addr} {v : Value} (hc : w.cell? ad = some v) : (loadVar 9 ad).run Try.prog w = .ok v w := load_one hc Try.und9 rfl
theorem ld22 {w : World} {ad : Addr} {v : Value} (hc : w.cell? ad = some v) : (loadVar 23 ad).run Try.prog w = .ok v w := load_one hc Try.und22 rfl
theorem ld23 {w : World} {ad : Addr} {v : Value} (hc : w.cell? ad = some v) : (loadVar 24 ad).run Try.prog w = .ok v w := load_one hc Try.und23 rfl
theorem part2 {cs : List Value} {off : Nat} {x y : Value} (h0 : cs[off]? = some x) (h1 : cs[off + 1]? = some y) : Part cs off [x, y] := fun j v h => by
  match j, h with
  | 0, h => simp at h; subst h; exact h0
  | 1, h => simp at h; subst h; exact h1
theorem ld27 {w : World} {g off : Nat} {T : TypeId} {cs : List Value} {x y : Int} (h : Box w g T cs.toArray) (h0 : cs[off]? = some (.int .i64 x)) (h1 : cs[off + 1]? = some (.int .i64 y)) : (loadVar 29 ⟨g, off, none⟩).run Try.prog w = .ok (.agg #[.int .i64 x, .int .i64 y]) w :=
  run_load_part h (part2 h0 h1) Try.und27 rfl Try.size27
theorem Av.partE (a : Av) : Part a.cs 1 a.e.cs := fun j v h => by
  match j, h with
  | 0, h => exact h
  | 1, h => exact h
  | 2, h => exact h
  | 3, h => exact h
theorem ldAE {w : World} {g : Nat} {b : Av} (h : Box w g 36 b.cells) : (loadVar 34 ⟨g, 1, none⟩).run Try.prog w = .ok (.agg b.e.cells) w := run_load_part h b.partE Try.und54 rfl Try.size54
/-- Numbers compared. -/
theorem b_lss (x y : Int) (w : World) : (binOp .lss 3 (.int .i64 x) (.int .i64 y)).run Try.prog w = .ok (.bool (decide (x < y))) w := by kernel_rfl
theorem b_gtr (x y : Int) (w : World) : (binOp .gtr 3 (.int .i64 x) (.int .i64 y)).run Try.prog w = .ok (.bool (decide (y < x))) w := by kernel_rfl
theorem b_geq (x y : Int) (w : World) : (binOp .geq 3 (.int .i64 x) (.int .i64 y)).run Try.prog w = .ok (.bool (decide (y ≤ x))) w := by kernel_rfl

end Go.Proofs.Ytfemlnfknebalab
