import Derived.Test.YtpabpeppgpeaoaaMda
namespace Go.Proofs.Ytpabpeppgpeaoaa.Md
open Go.RowKit
set_option linter.unusedVariables false
set_option linter.unusedSimpArgs false

/-- Lists by their places. -/
def tab {α : Type} (n : Nat) (f : Nat → α) : List α := (List.range n).map f
theorem tab_len {α : Type} (n : Nat) (f : Nat → α) : (tab n f).length = n := by simp [tab]
theorem tab_get {α : Type} {n i : Nat} {f : Nat → α} (h : i < n) : (tab n f)[i]? = some (f i) := by simp [tab, h]
theorem tab_ext {α : Type} {n : Nat} {f f' : Nat → α} (h : ∀ j, j < n → f j = f' j) : tab n f = tab n f' := by
  unfold tab
  exact List.map_congr_left (fun j hj => h j (List.mem_range.1 hj))
theorem tab_set {α : Type} {n i : Nat} {f f' : Nat → α} {x : α} (h : i < n) (h1 : ∀ j, j < n → j ≠ i → f j = f' j) (h2 : f' i = x) : (tab n f).set i x = tab n f' := by
  apply List.ext_getElem?
  intro j
  rw [List.getElem?_set]
  by_cases hj : j < n
  · rw [tab_get hj, tab_get hj]
    by_cases e : i = j
    · subst e; simp [tab_len, h, h2]
    · rw [if_neg e, h1 j hj (fun e2 => e e2.symm)]
  · have e : ¬ i = j := fun e => hj (e ▸ h)
    rw [if_neg e, List.getElem?_eq_none (by rw [tab_len]; omega), List.getElem?_eq_none (by rw [tab_len]; omega)]
/-- What came in, and marks behind; what is laid up to a place. -/
def lnt {α : Type} (n : Nat) (xs : List α) (z : α) (mk : Nat → α) (j : Nat) : α := if j < n then xs[j]?.getD z else mk j
def upt {α : Type} (f : Nat → α) (z : α) (i j : Nat) : α := if j < i then f j else z
theorem upt_set {α : Type} {N i : Nat} {f : Nat → α} {z x : α} (h : i < N) (hx : f i = x) : (tab N (upt f z i)).set i x = tab N (upt f z (i + 1)) := by
  refine tab_set h (fun j _ hj => ?_) ?_
  · unfold upt
    by_cases h1 : j < i
    · rw [if_pos h1, if_pos (by omega)]
    · rw [if_neg h1, if_neg (by omega)]
  · unfold upt; rw [if_pos (by omega), hx]
theorem upt_all {α : Type} (N : Nat) (f : Nat → α) (z : α) : tab N (upt f z N) = tab N f := tab_ext (fun j hj => by unfold upt; rw [if_pos hj])
theorem app_tab {α : Type} {xs : List α} {n : Nat} (z : α) (mk : Nat → α) (m : Nat) (hn : xs.length = n) : xs ++ List.replicate m z = tab (n + m) (upt (lnt n xs z mk) z n) := by
  apply List.ext_getElem?
  intro j
  by_cases hj : j < n + m
  · rw [tab_get hj]
    by_cases h1 : j < n
    · rw [List.getElem?_append_left (by omega)]
      unfold upt lnt
      rw [if_pos h1, if_pos h1]
      rw [List.getElem?_eq_getElem (by omega)]; rfl
    · rw [List.getElem?_append_right (by omega)]
      unfold upt
      rw [if_neg h1, List.getElem?_replicate, if_pos (by omega)]
  · rw [List.getElem?_eq_none (by simp; omega), List.getElem?_eq_none (by rw [tab_len]; omega)]
theorem lnt_lt {α : Type} {n j : Nat} {xs : List α} {z : α} {mk : Nat → α} (h : j < n) : lnt n xs z mk j = xs[j]?.getD z := by unfold lnt; rw [if_pos h]
theorem lnt_ge {α : Type} {n j : Nat} {xs : List α} {z : α} {mk : Nat → α} (h : n ≤ j) : lnt n xs z mk j = mk j := by unfold lnt; rw [if_neg (by omega)]
theorem lnt_get {α : Type} {n m : Nat} {xs : List α} {z : α} {mk : Nat → α} (hn : xs.length = n) (i : Nat) (x : α) (h : xs[i]? = some x) : (tab (n + m) (lnt n xs z mk))[i]? = some x := by
  have hi := (List.getElem?_eq_some_iff.1 h).1
  rw [tab_get (by omega), lnt_lt (by omega), h]; rfl
def mkE (j : Nat) : En := ⟨⟨#[109, 97, 114, 107]⟩, 0, 0, -((j : Nat) : Int)⟩
def mkL (j : Nat) : La := ⟨-((j : Nat) : Int), -7, 0, 0, 0, 0, 0⟩
def mkC (j : Nat) : Cm := ⟨0, 0, -((j : Nat) : Int), ⟨#[109, 97, 114, 107]⟩, 0, 0, 0, 0, 0⟩
def mkB (_ : Nat) : Int := 201
def lntE (n : Nat) (es : List En) : Nat → En := lnt n es enZ mkE
def lntL (n : Nat) (es : List La) : Nat → La := lnt n es laZ mkL
def lntC (n : Nat) (es : List Cm) : Nat → Cm := lnt n es cZ mkC
def lntB (n : Nat) (es : List Int) : Nat → Int := lnt n es 0 mkB
def lent (s : Sl) (g : Nat) : Sl := ⟨some ⟨g, 0, none⟩, s.l, s.l + 67⟩
theorem u8L_len (es : List Int) : (u8L es).length = es.length := by simp [u8L]
theorem u8L_one (es : List Int) : ∀ v ∈ u8L es, v.oneCell' = true := num_one _ _
theorem u8L_app (a b : List Int) : u8L (a ++ b) = u8L a ++ u8L b := by simp [u8L]
theorem u8L_set (es : List Int) (i : Nat) (e : Int) (hi : i < es.length) : putL (u8L es) i [.int .u8 e] = u8L (es.set i e) := by
  have h : es = es.take i ++ ([es[i]] ++ es.drop (i + 1)) := by simp
  have h2 : es.set i e = es.take i ++ ([e] ++ es.drop (i + 1)) := by rw [List.set_eq_take_append_cons_drop]; simp [hi]
  have hl : (u8L (es.take i)).length = i := by rw [u8L_len, List.length_take]; omega
  have h3 : u8L es = u8L (es.take i) ++ ([.int .u8 es[i]] ++ u8L (es.drop (i + 1))) := by
    conv => lhs; rw [h]
    rw [u8L_app, u8L_app]; rfl
  rw [h2, u8L_app, u8L_app, h3]
  conv => lhs; arg 2; rw [← hl]
  exact putL_mid _ _ _ _ rfl
theorem make_by (w : World) (n : Nat) (hb : n ≤ 140737488355328) : (Instr.makeSlice 40 (.int .i64 (n : Int)) (.int .i64 (n : Int))).run Try.prog w = .ok (.slice (some ⟨w.heap.size, 0, none⟩) n n) (w.alloc (.cells (u8L (List.replicate n 0)).toArray 5)) := by
  cases hq : Try.prog.info? 5 with
  | none => have := Try.info5; simp [hq] at this
  | some i =>
    have h1 := Try.info5
    simp only [hq, Option.map_some, Option.some.injEq, Prod.mk.injEq] at h1
    obtain ⟨hz, hs, hby⟩ := h1
    have h := run_make (P := Try.prog) w 40 5 i (.int .u8 0) Try.und26 hq hz .i64 .i64 (n : Int) (n : Int) (by omega) (by omega) (by rw [hby]; omega) (by omega)
    rw [h, hs, show u8L (List.replicate n 0) = ((List.replicate n [Value.int .u8 0]).flatten) by
      clear h
      induction n with
      | zero => rfl
      | succ n ih => rw [List.replicate_succ, List.replicate_succ, List.flatten_cons, ← ih (by omega)]; rfl]
    simp only [Int.toNat_natCast]
    rw [← made_row 1 [Value.int .u8 0] rfl (by omega) n]
    rfl
theorem enL_set (es : List En) (i : Nat) (e : En) (hi : i < es.length) : putL (enL es) (i * 4) e.cs = enL (es.set i e) := by
  have h : es = es.take i ++ ([es[i]] ++ es.drop (i + 1)) := by simp
  have h2 : es.set i e = es.take i ++ ([e] ++ es.drop (i + 1)) := by rw [List.set_eq_take_append_cons_drop]; simp [hi]
  have hl : (enL (es.take i)).length = i * 4 := by rw [enL_len, List.length_take]; congr 1; omega
  have h3 : enL es = enL (es.take i) ++ ((es[i]).cs ++ enL (es.drop (i + 1))) := by
    conv => lhs; rw [h]
    rw [enL_app, enL_app, enL_1]
  rw [h2, enL_app, enL_app, enL_1, h3]
  rw [← hl]
  exact putL_mid _ _ _ _ rfl
theorem laL_set (es : List La) (i : Nat) (e : La) (hi : i < es.length) : putL (laL es) (i * 7) e.cs = laL (es.set i e) := by
  have h : es = es.take i ++ ([es[i]] ++ es.drop (i + 1)) := by simp
  have h2 : es.set i e = es.take i ++ ([e] ++ es.drop (i + 1)) := by rw [List.set_eq_take_append_cons_drop]; simp [hi]
  have hl : (laL (es.take i)).length = i * 7 := by rw [laL_len, List.length_take]; congr 1; omega
  have h3 : laL es = laL (es.take i) ++ ((es[i]).cs ++ laL (es.drop (i + 1))) := by
    conv => lhs; rw [h]
    rw [laL_app, laL_app, laL_1]
  rw [h2, laL_app, laL_app, laL_1, h3]
  rw [← hl]
  exact putL_mid _ _ _ _ rfl
theorem st_E {w : World} {g : Nat} {cur : List En} {i : Nat} (y : En) (hb : Box w g 124 (enL cur).toArray) (hi : i < cur.length) : (storeVar 124 ⟨g, 0 + i * 4, none⟩ (.agg (En.cells y))).run Try.prog w = .ok () (w.setRow g (enL (cur.set i y)).toArray) := by
  have h := run_store_at (off := 0 + i * 4) (ty := 124) (vs := y.cs) (v := .agg y.cells) hb rfl Try.size110 (by rw [enL_len, Nat.zero_add]; show i * 4 + 4 ≤ cur.length * 4; omega) y.oneL
  rw [h, Nat.zero_add, enL_set _ _ _ hi]
theorem lay_E {w : World} {g N i : Nat} {f : Nat → En} (y : En) (hb : Box w g 124 (enL (tab N (upt f enZ i))).toArray) (hi : i < N) (hy : f i = y) : (storeVar 124 ⟨g, 0 + i * 4, none⟩ (.agg (En.cells y))).run Try.prog w = .ok () (w.setRow g (enL (tab N (upt f enZ (i + 1)))).toArray) := by
  rw [st_E y hb (by rw [tab_len]; exact hi), upt_set hi hy]
theorem row_E {w : World} {g : Nat} {xs : List En} (hb : Box w g 124 (enL xs).toArray) {i : Nat} {x : En} (hx : xs[i]? = some x) : ∀ (j : Nat) v, x.cs[j]? = some v → w.cell? ⟨g, 0 + i * 4 + j, none⟩ = some v := by
  intro j v hv
  rw [hb.cell, Nat.zero_add, List.getElem?_toArray]
  exact flat_get 4 (xs.map En.cs) (enL_c xs) i x.cs (by rw [List.getElem?_map, hx]; rfl) j v hv
theorem rd_E {w : World} {g : Nat} {s : Sl} {xs : List En} (hn : xs.length = s.l) (hb : Box w g 124 (enL (tab (s.l + 67) (lntE s.l xs))).toArray) : RdE w (lent s g) xs := by
  refine ⟨fun i it hi => ⟨g, 0, rfl, fun j v hv => ?_⟩, hn, fun e => by cases e⟩
  rw [List.getElem?_map] at hi
  cases hx : xs[i]? with
  | none => rw [hx] at hi; cases hi
  | some x =>
    rw [hx] at hi
    cases hi
    exact row_E hb (lnt_get hn i x hx) j v hv
theorem st_L {w : World} {g : Nat} {cur : List La} {i : Nat} (y : La) (hb : Box w g 127 (laL cur).toArray) (hi : i < cur.length) : (storeVar 127 ⟨g, 0 + i * 7, none⟩ (.agg (La.cells y))).run Try.prog w = .ok () (w.setRow g (laL (cur.set i y)).toArray) := by
  have h := run_store_at (off := 0 + i * 7) (ty := 127) (vs := y.cs) (v := .agg y.cells) hb rfl Try.size113 (by rw [laL_len, Nat.zero_add]; show i * 7 + 7 ≤ cur.length * 7; omega) y.oneL
  rw [h, Nat.zero_add, laL_set _ _ _ hi]
theorem lay_L {w : World} {g N i : Nat} {f : Nat → La} (y : La) (hb : Box w g 127 (laL (tab N (upt f laZ i))).toArray) (hi : i < N) (hy : f i = y) : (storeVar 127 ⟨g, 0 + i * 7, none⟩ (.agg (La.cells y))).run Try.prog w = .ok () (w.setRow g (laL (tab N (upt f laZ (i + 1)))).toArray) := by
  rw [st_L y hb (by rw [tab_len]; exact hi), upt_set hi hy]
theorem row_L {w : World} {g : Nat} {xs : List La} (hb : Box w g 127 (laL xs).toArray) {i : Nat} {x : La} (hx : xs[i]? = some x) : ∀ (j : Nat) v, x.cs[j]? = some v → w.cell? ⟨g, 0 + i * 7 + j, none⟩ = some v := by
  intro j v hv
  rw [hb.cell, Nat.zero_add, List.getElem?_toArray]
  exact flat_get 7 (xs.map La.cs) (laL_c xs) i x.cs (by rw [List.getElem?_map, hx]; rfl) j v hv
theorem rd_L {w : World} {g : Nat} {s : Sl} {xs : List La} (hn : xs.length = s.l) (hb : Box w g 127 (laL (tab (s.l + 67) (lntL s.l xs))).toArray) : RdL w (lent s g) xs := by
  refine ⟨fun i it hi => ⟨g, 0, rfl, fun j v hv => ?_⟩, hn, fun e => by cases e⟩
  rw [List.getElem?_map] at hi
  cases hx : xs[i]? with
  | none => rw [hx] at hi; cases hi
  | some x =>
    rw [hx] at hi
    cases hi
    exact row_L hb (lnt_get hn i x hx) j v hv
theorem st_C {w : World} {g : Nat} {cur : List Cm} {i : Nat} (y : Cm) (hb : Box w g 28 (cmL cur).toArray) (hi : i < cur.length) : (storeVar 28 ⟨g, 0 + i * 9, none⟩ (.agg (Cm.cells y))).run Try.prog w = .ok () (w.setRow g (cmL (cur.set i y)).toArray) := by
  have h := run_store_at (off := 0 + i * 9) (ty := 28) (vs := y.cs) (v := .agg y.cells) hb rfl Try.size47 (by rw [cmL_len, Nat.zero_add]; show i * 9 + 9 ≤ cur.length * 9; omega) y.oneL
  rw [h, Nat.zero_add, cmL_set _ _ _ hi]
theorem lay_C {w : World} {g N i : Nat} {f : Nat → Cm} (y : Cm) (hb : Box w g 28 (cmL (tab N (upt f cZ i))).toArray) (hi : i < N) (hy : f i = y) : (storeVar 28 ⟨g, 0 + i * 9, none⟩ (.agg (Cm.cells y))).run Try.prog w = .ok () (w.setRow g (cmL (tab N (upt f cZ (i + 1)))).toArray) := by
  rw [st_C y hb (by rw [tab_len]; exact hi), upt_set hi hy]
theorem cpy_E {w : World} {g : Nat} {s : Sl} {es : List En} (ty : TypeId) (hb : Box w g 124 (enL (List.replicate (s.l + 67) enZ)).toArray) (he : RdE w s es) : (Builtin.copy_ #[41, 41] ty #[.slice (some ⟨g, 0, none⟩) (s.l + 67) (s.l + 67), s.v]).run Try.prog w = .ok (goInt s.l) (w.setRow g (enL (tab (s.l + 67) (upt (lntE s.l es) enZ s.l))).toArray) := by
  obtain ⟨ea, en, ec⟩ := s
  dsimp only at hb ⊢
  have hl : es.length = en := he.len
  unfold lntE
  rw [← app_tab _ _ 67 hl]
  have hp : putL (enL (List.replicate (en + 67) enZ)) 0 (enL es) = enL (es ++ List.replicate 67 enZ) := by
    rw [enL_app]
    unfold putL
    rw [List.take_zero, List.nil_append, Nat.zero_add, enL_len, hl, ← List.replicate_append_replicate, enL_app, List.drop_append_of_le_length (by rw [enL_len, List.length_replicate]; exact Nat.le_refl _), List.drop_of_length_le (by rw [enL_len, List.length_replicate]; exact Nat.le_refl _)]
    rfl
  show (Builtin.copy_ #[41, 41] ty #[.slice (some ⟨g, 0, none⟩) (en + 67) (en + 67), .slice ea en ec]).run Try.prog w = .ok (goInt en) (w.setRow g (enL (es ++ List.replicate 67 enZ)).toArray)
  cases ea with
  | none =>
    have hes : es = [] := by
      cases es with
      | nil => rfl
      | cons x r =>
        obtain ⟨b, off, e, _⟩ := he.row 0 x.cs rfl
        cases e
    subst hes
    have hn : en = 0 := hl.symm
    subst hn
    have : (Builtin.copy_ #[41, 41] ty #[.slice (some ⟨g, 0, none⟩) (0 + 67) (0 + 67), .slice none 0 ec]).run Try.prog w = .ok (goInt 0) w := by
      simp [Builtin.copy_, run_underlying Try.und29, Builtin.lenOf, size_of Try.size110, run_firstCells_none, storeCells]
    rw [this]
    rw [show w.setRow g (enL ([] ++ List.replicate 67 enZ)).toArray = w from setRow_self hb]
    rfl
  | some ad =>
    rw [← hp]
    exact run_copyN 41 ty 124 4 Try.und29 Try.size110 hb (en + 67) (en + 67) ad en ec en (by omega) (enL es) (by rw [enL_len, hl]) (fun j u h => by
      obtain ⟨ad', e1, e2⟩ := he.src j u h
      cases e1; exact e2) (by rw [Nat.zero_add, enL_len, enL_len, List.length_replicate, hl]; omega) (enL_one _)
theorem cpy_L {w : World} {g : Nat} {s : Sl} {es : List La} (ty : TypeId) (hb : Box w g 127 (laL (List.replicate (s.l + 67) laZ)).toArray) (he : RdL w s es) : (Builtin.copy_ #[42, 42] ty #[.slice (some ⟨g, 0, none⟩) (s.l + 67) (s.l + 67), s.v]).run Try.prog w = .ok (goInt s.l) (w.setRow g (laL (tab (s.l + 67) (upt (lntL s.l es) laZ s.l))).toArray) := by
  obtain ⟨ea, en, ec⟩ := s
  dsimp only at hb ⊢
  have hl : es.length = en := he.len
  unfold lntL
  rw [← app_tab _ _ 67 hl]
  have hp : putL (laL (List.replicate (en + 67) laZ)) 0 (laL es) = laL (es ++ List.replicate 67 laZ) := by
    rw [laL_app]
    unfold putL
    rw [List.take_zero, List.nil_append, Nat.zero_add, laL_len, hl, ← List.replicate_append_replicate, laL_app, List.drop_append_of_le_length (by rw [laL_len, List.length_replicate]; exact Nat.le_refl _), List.drop_of_length_le (by rw [laL_len, List.length_replicate]; exact Nat.le_refl _)]
    rfl
  show (Builtin.copy_ #[42, 42] ty #[.slice (some ⟨g, 0, none⟩) (en + 67) (en + 67), .slice ea en ec]).run Try.prog w = .ok (goInt en) (w.setRow g (laL (es ++ List.replicate 67 laZ)).toArray)
  cases ea with
  | none =>
    have hes : es = [] := by
      cases es with
      | nil => rfl
      | cons x r =>
        obtain ⟨b, off, e, _⟩ := he.row 0 x.cs rfl
        cases e
    subst hes
    have hn : en = 0 := hl.symm
    subst hn
    have : (Builtin.copy_ #[42, 42] ty #[.slice (some ⟨g, 0, none⟩) (0 + 67) (0 + 67), .slice none 0 ec]).run Try.prog w = .ok (goInt 0) w := by
      simp [Builtin.copy_, run_underlying Try.und30, Builtin.lenOf, size_of Try.size113, run_firstCells_none, storeCells]
    rw [this]
    rw [show w.setRow g (laL ([] ++ List.replicate 67 laZ)).toArray = w from setRow_self hb]
    rfl
  | some ad =>
    rw [← hp]
    exact run_copyN 42 ty 127 7 Try.und30 Try.size113 hb (en + 67) (en + 67) ad en ec en (by omega) (laL es) (by rw [laL_len, hl]) (fun j u h => by
      obtain ⟨ad', e1, e2⟩ := he.src j u h
      cases e1; exact e2) (by rw [Nat.zero_add, laL_len, laL_len, List.length_replicate, hl]; omega) (laL_one _)
theorem cpy_B {w : World} {g : Nat} {s : Sl} {es : List Int} (ty : TypeId) (hb : Box w g 5 (u8L (List.replicate (s.l + 67) 0)).toArray) (he : RdB w s es) : (Builtin.copy_ #[40, 40] ty #[.slice (some ⟨g, 0, none⟩) (s.l + 67) (s.l + 67), s.v]).run Try.prog w = .ok (goInt s.l) (w.setRow g (u8L (tab (s.l + 67) (upt (lntB s.l es) 0 s.l))).toArray) := by
  obtain ⟨ea, en, ec⟩ := s
  dsimp only at hb ⊢
  have hl : es.length = en := he.len
  unfold lntB
  rw [← app_tab _ _ 67 hl]
  have hp : putL (u8L (List.replicate (en + 67) 0)) 0 (u8L es) = u8L (es ++ List.replicate 67 0) := by
    rw [u8L_app]
    unfold putL
    rw [List.take_zero, List.nil_append, Nat.zero_add, u8L_len, hl, ← List.replicate_append_replicate, u8L_app, List.drop_append_of_le_length (by rw [u8L_len, List.length_replicate]; exact Nat.le_refl _), List.drop_of_length_le (by rw [u8L_len, List.length_replicate]; exact Nat.le_refl _)]
    rfl
  show (Builtin.copy_ #[40, 40] ty #[.slice (some ⟨g, 0, none⟩) (en + 67) (en + 67), .slice ea en ec]).run Try.prog w = .ok (goInt en) (w.setRow g (u8L (es ++ List.replicate 67 0)).toArray)
  cases ea with
  | none =>
    have hes : es = [] := by
      cases es with
      | nil => rfl
      | cons x r =>
        obtain ⟨b, off, e, _⟩ := he.row 0 (by simp)
        cases e
    subst hes
    have hn : en = 0 := hl.symm
    subst hn
    have : (Builtin.copy_ #[40, 40] ty #[.slice (some ⟨g, 0, none⟩) (0 + 67) (0 + 67), .slice none 0 ec]).run Try.prog w = .ok (goInt 0) w := by
      simp [Builtin.copy_, run_underlying Try.und26, Builtin.lenOf, size_of Try.size5, run_firstCells_none, storeCells]
    rw [this]
    rw [show w.setRow g (u8L ([] ++ List.replicate 67 0)).toArray = w from setRow_self hb]
    rfl
  | some ad =>
    rw [← hp]
    exact run_copyN 40 ty 5 1 Try.und26 Try.size5 hb (en + 67) (en + 67) ad en ec en (by omega) (u8L es) (by rw [u8L_len, hl]; omega) (fun j u h => by
      obtain ⟨ad', e1, e2⟩ := he.src j u h
      cases e1; exact e2) (by rw [Nat.zero_add, u8L_len, u8L_len, List.length_replicate, hl]; omega) (u8L_one _)
theorem st_B {w : World} {g : Nat} {cur : List Int} {i : Nat} (y : Int) (hb : Box w g 5 (u8L cur).toArray) (hi : i < cur.length) : (storeVar 5 ⟨g, 0 + i * 1, none⟩ (.int .u8 y)).run Try.prog w = .ok () (w.setRow g (u8L (cur.set i y)).toArray) := by
  have h := run_store_at (off := 0 + i * 1) (ty := 5) (vs := [.int .u8 y]) (v := .int .u8 y) hb rfl Try.size5 (by rw [u8L_len, Nat.zero_add]; show i * 1 + 1 ≤ cur.length; omega) (by simp [Value.oneCell'])
  rw [h, Nat.zero_add, Nat.mul_one, u8L_set _ _ _ hi]
theorem lay_B {w : World} {g N i : Nat} {f : Nat → Int} (y : Int) (hb : Box w g 5 (u8L (tab N (upt f 0 i))).toArray) (hi : i < N) (hy : f i = y) : (storeVar 5 ⟨g, 0 + i * 1, none⟩ (.int .u8 y)).run Try.prog w = .ok () (w.setRow g (u8L (tab N (upt f 0 (i + 1)))).toArray) := by
  rw [st_B y hb (by rw [tab_len]; exact hi), upt_set hi hy]
theorem row_B {w : World} {g : Nat} {xs : List Int} (hb : Box w g 5 (u8L xs).toArray) {i : Nat} {x : Int} (hx : xs[i]? = some x) : w.cell? ⟨g, 0 + i * 1, none⟩ = some (.int .u8 x) := by
  rw [hb.cell, Nat.zero_add, Nat.mul_one, List.getElem?_toArray, u8L, List.getElem?_map, hx]; rfl
end Go.Proofs.Ytpabpeppgpeaoaa.Md
namespace Go.Proofs.Ytpabpeppgpeaoaa.Md
open Go.RowKit
set_option linter.unusedVariables false
set_option linter.unusedSimpArgs false

def LbOut (w : World) (s : Sl) (bs : List Int) (e : Ending) (w' : World) : Prop := ∃ g : Nat, e = .returned (lent s g).v ∧ w.heap.size ≤ g ∧ Box w' g 5 (u8L (tab (s.l + 67) (lntB s.l bs))).toArray ∧ Kept No w w'
set_option maxRecDepth 100000 in
set_option maxHeartbeats 4000000 in
theorem lendB_any (s : Sl) (bs : List Int) (w : World) (hb : RdB w s bs) (hn : s.l ≤ 140737488351232) : Calls Try.prog 53 #[s.v] w (LbOut w s bs) := by
  refine hideC fun C HC => ?_
  have HB : Hid (RdB w s bs) := hb
  clear hb
  have HF : Hid (Fr No w w []) := Fr.start _ _
  go_enter Try.func53, Try.ntmps53
  go_upto_region 0 with fail
  refine WL.start <| uK (.slice none 0 0) <| WL.nil <| ?_
  try simp only [pS]
  go_upto_region 1 with fail
  refine WL.start <| uK (s.v) <| uK (.int .i64 ((s.l : Nat) : Int)) <| uB .add 3 (.int .i64 ((s.l : Nat) : Int)) (.int .i64 67) (.int .i64 (((s.l + 67) : Nat) : Int)) (b_addw _ _ _ (by rw [IntKind.wrap_i64]; omega) _) <| ?_
  try simp only [pS]
  refine uR (.slice (some ⟨w.heap.size, 0, none⟩) (s.l + 67) (s.l + 67)) (w.alloc (.cells ((u8L (List.replicate (s.l + 67) 0)).toArray) 5)) (exec_make 40 _ _ rfl _ _ (by kernel_rfl) (by kernel_rfl) (make_by _ (s.l + 67) (by omega))) ?_
  try simp only [pS]
  have HF : Hid (Fr No w (w.alloc (.cells ((u8L (List.replicate (s.l + 67) 0)).toArray) 5)) [(w.heap.size, 5, (u8L (List.replicate (s.l + 67) 0)).toArray)]) := HF.out.alloc _ _
  generalize w.alloc (.cells ((u8L (List.replicate (s.l + 67) 0)).toArray) 5) = wk2 at HF ⊢
  generalize w.heap.size = gk1 at HF ⊢
  refine uK (.slice (some ⟨gk1, 0, none⟩) (s.l + 67) (s.l + 67)) <| WL.nil <| ?_
  try simp only [pS]
  go_upto_region 2 with fail
  refine WL.start <| uK (.slice (some ⟨gk1, 0, none⟩) (s.l + 67) (s.l + 67)) <| uK (s.v) <| ?_
  try simp only [pS]
  refine uR (goInt s.l) (wk2.setRow gk1 ((u8L (tab (s.l + 67) (upt (lntB s.l bs) 0 s.l))).toArray)) (exec_copy _ _ 40 40 rfl _ _ (by kernel_rfl) (by kernel_rfl) (cpy_B _ (HF.out.box 0 _ _ _ rfl) (HB.out.no HF.out.kept))) ?_
  try simp only [pS]
  have HF : Hid (Fr No w (wk2.setRow gk1 ((u8L (tab (s.l + 67) (upt (lntB s.l bs) 0 s.l))).toArray)) [(gk1, 5, (u8L (tab (s.l + 67) (upt (lntB s.l bs) 0 s.l))).toArray)]) := HF.out.set 0 rfl _
  generalize wk2.setRow gk1 ((u8L (tab (s.l + 67) (upt (lntB s.l bs) 0 s.l))).toArray) = wk3 at HF ⊢
  refine WL.nil ?_
  try simp only [pS]
  go_upto_region 3 with fail
  refine WL.start <| uK (s.v) <| uK (.int .i64 ((s.l : Nat) : Int)) <| uK (.int .i64 ((s.l : Nat) : Int)) <| WL.nil <| ?_
  try simp only [pS]
  go_wp2
  go_loopw [4] (fun v4 wr => ∃ i : Nat, v4 = .int .i64 ((i : Nat) : Int) ∧ s.l ≤ i ∧ i ≤ s.l + 67 ∧ Hid (Fr No w wr [(gk1, 5, (u8L (tab (s.l + 67) (upt (lntB s.l bs) 0 i))).toArray)])) (fun i _ => s.l + 67 - (intOf i).toNat)
  case atStart => exact ⟨s.l, rfl, by omega, by omega, HF⟩
  case round =>
    clear HF
    obtain ⟨i, rfl, hi0, hi, HF⟩ := hrel
    by_cases hlt : i < s.l + 67
    · skip
      go_upto_region 4 with fail
      refine WL.start <| uK (.int .i64 ((i : Nat) : Int)) <| uK (.slice (some ⟨gk1, 0, none⟩) (s.l + 67) (s.l + 67)) <| uK (.int .i64 (((s.l + 67) : Nat) : Int)) <| uB .lss 3 (.int .i64 ((i : Nat) : Int)) (.int .i64 (((s.l + 67) : Nat) : Int)) (.bool true) (by rw [b_lss, decide_eq_true (by omega)]) <| WL.nil <| ?_
      try simp only [pS]
      go_upto_region 6 with fail
      refine WL.start <| uK (.slice (some ⟨gk1, 0, none⟩) (s.l + 67) (s.l + 67)) <| uK (.int .i64 ((i : Nat) : Int)) <| uW (pV gk1 (0 + i * 1)) (exec_ixA 40 1 Try.und26e Try.size26e _ _ rfl gk1 0 (s.l + 67) (s.l + 67) i (by kernel_rfl) (by kernel_rfl) (by omega)) <| ?_
      try simp only [pS]
      refine uT 5 ⟨gk1, 0 + i * 1, none⟩ (.int .u8 201) (wr.setRow gk1 ((u8L (tab (s.l + 67) (upt (lntB s.l bs) 0 (i + 1)))).toArray)) (lay_B 201 (HF.out.box 0 _ _ _ rfl) (by omega) (lnt_ge (by omega))) ?_
      try simp only [pS]
      have HF : Hid (Fr No w (wr.setRow gk1 ((u8L (tab (s.l + 67) (upt (lntB s.l bs) 0 (i + 1)))).toArray)) [(gk1, 5, (u8L (tab (s.l + 67) (upt (lntB s.l bs) 0 (i + 1)))).toArray)]) := HF.out.set 0 rfl _
      generalize wr.setRow gk1 ((u8L (tab (s.l + 67) (upt (lntB s.l bs) 0 (i + 1)))).toArray) = wk4 at HF ⊢
      refine WL.nil ?_
      try simp only [pS]
      go_upto_region 5 with fail
      refine WL.start <| uK (.int .i64 ((i : Nat) : Int)) <| uB .add 3 (.int .i64 ((i : Nat) : Int)) (.int .i64 1) (.int .i64 (((i + 1) : Nat) : Int)) (b_addw _ _ _ (by rw [IntKind.wrap_i64]; omega) _) <| uK (.int .i64 (((i + 1) : Nat) : Int)) <| WL.nil <| ?_
      try simp only [pS]
      go_wp2
      go_roundw
      case rel => exact ⟨i + 1, by go_num, by omega, by omega, HF⟩
      case measure => simp [intOf]; omega
    · skip
      have he : i = s.l + 67 := by omega
      subst he
      go_upto_region 4 with fail
      refine WL.start <| uK (.int .i64 (((s.l + 67) : Nat) : Int)) <| uK (.slice (some ⟨gk1, 0, none⟩) (s.l + 67) (s.l + 67)) <| uK (.int .i64 (((s.l + 67) : Nat) : Int)) <| uB .lss 3 (.int .i64 (((s.l + 67) : Nat) : Int)) (.int .i64 (((s.l + 67) : Nat) : Int)) (.bool false) (by rw [b_lss, decide_eq_false (by omega)]) <| WL.nil <| ?_
      try simp only [pS]
      go_upto_region 7 with fail
      refine WL.start <| uK (.slice (some ⟨gk1, 0, none⟩) (s.l + 67) (s.l + 67)) <| uK (s.v) <| uK (.int .i64 ((s.l : Nat) : Int)) <| uW (.slice (some ⟨gk1, 0, none⟩) s.l (s.l + 67)) ((exec_slH 40 _ _ rfl 1 Try.und26e Try.size26e (some ⟨gk1, 0, none⟩) (s.l + 67) (s.l + 67) s.l (by kernel_rfl) (by kernel_rfl) (by omega)).trans (by rw [sliced0 _ _ _ _ (by omega)])) <| uK (.slice (some ⟨gk1, 0, none⟩) s.l (s.l + 67)) <| WL.nil <| ?_
      try simp only [pS]
      go_wp2
      rw [HC.out]
      exact ⟨gk1, rfl, HF.out.low 0 _ _ _ rfl, by have h := HF.out.box 0 _ _ _ rfl; rw [upt_all] at h; exact h, HF.out.kept⟩

end Go.Proofs.Ytpabpeppgpeaoaa.Md
namespace Go.Proofs.Ytpabpeppgpeaoaa.Md
open Go.RowKit
set_option linter.unusedVariables false
set_option linter.unusedSimpArgs false

def LkOut (w : World) (b : Bv) (es : List En) (ls : List La) (e : Ending) (w' : World) : Prop := ∃ ge gl : Nat, e = .returned (.agg (Bv.cells ⟨b.up, lent b.e ge, lent b.l gl⟩)) ∧ w.heap.size ≤ ge ∧ w.heap.size ≤ gl ∧ Box w' ge 124 (enL (tab (b.e.l + 67) (lntE b.e.l es))).toArray ∧ Box w' gl 127 (laL (tab (b.l.l + 67) (lntL b.l.l ls))).toArray ∧ Kept No w w'
set_option maxRecDepth 100000 in
set_option maxHeartbeats 4000000 in
theorem lendK_any (b : Bv) (es : List En) (ls : List La) (w : World) (he : RdE w b.e es) (hl : RdL w b.l ls) (h1 : b.e.l ≤ 3518437208780) (h2 : b.l.l ≤ 2513169434843) : Calls Try.prog 54 #[.agg (Bv.cells b)] w (LkOut w b es ls) := by
  refine hideC fun C HC => ?_
  have HE : Hid (RdE w b.e es) := he
  have HL : Hid (RdL w b.l ls) := hl
  clear he hl
  have HF : Hid (Fr No w w []) := Fr.start _ _
  go_enter Try.func54, Try.ntmps54
  go_upto_region 0 with fail
  refine WL.start ?_
  refine uR (pV w.heap.size 0) (w.alloc (.cells (Bv.cells b) 44)) (exec_box 44 _ rfl (Bv.cells b) (by kernel_rfl)) ?_
  try simp only [pS]
  have HF : Hid (Fr No w (w.alloc (.cells (Bv.cells b) 44)) [(w.heap.size, 44, Bv.cells b)]) := HF.out.alloc _ _
  generalize w.alloc (.cells (Bv.cells b) 44) = wk2 at HF ⊢
  generalize w.heap.size = gk1 at HF ⊢
  refine uR (pV wk2.heap.size 0) (wk2.alloc (.cells (Bv.cells bvZ) 44)) (exec_alloc 44 rfl (Bv.cells bvZ) zero32) ?_
  try simp only [pS]
  have HF : Hid (Fr No w (wk2.alloc (.cells (Bv.cells bvZ) 44)) [(gk1, 44, Bv.cells b), (wk2.heap.size, 44, Bv.cells bvZ)]) := HF.out.alloc _ _
  generalize wk2.alloc (.cells (Bv.cells bvZ) 44) = wk4 at HF ⊢
  generalize wk2.heap.size = gk3 at HF ⊢
  refine WL.nil ?_
  try simp only [pS]
  go_upto_region 1 with fail
  refine WL.start <| uK (pV gk1 1) <| uL 41 ⟨gk1, 1, none⟩ (b.e.v) (load_one ((HF.out.box 0 _ _ _ rfl).cell 1 |>.trans (by kernel_rfl)) Try.und29 rfl) <| uK (.int .i64 ((b.e.l : Nat) : Int)) <| uB .add 3 (.int .i64 ((b.e.l : Nat) : Int)) (.int .i64 67) (.int .i64 (((b.e.l + 67) : Nat) : Int)) (b_addw _ _ _ (by rw [IntKind.wrap_i64]; omega) _) <| ?_
  try simp only [pS]
  refine uR (.slice (some ⟨wk4.heap.size, 0, none⟩) (b.e.l + 67) (b.e.l + 67)) (wk4.alloc (.cells ((enL (List.replicate (b.e.l + 67) enZ)).toArray) 124)) (exec_make 41 _ _ rfl _ _ (by kernel_rfl) (by kernel_rfl) (make_en _ (b.e.l + 67) (by omega))) ?_
  try simp only [pS]
  have HF : Hid (Fr No w (wk4.alloc (.cells ((enL (List.replicate (b.e.l + 67) enZ)).toArray) 124)) [(gk1, 44, Bv.cells b), (gk3, 44, Bv.cells bvZ), (wk4.heap.size, 124, (enL (List.replicate (b.e.l + 67) enZ)).toArray)]) := HF.out.alloc _ _
  generalize wk4.alloc (.cells ((enL (List.replicate (b.e.l + 67) enZ)).toArray) 124) = wk6 at HF ⊢
  generalize wk4.heap.size = gk5 at HF ⊢
  refine uK (.slice (some ⟨gk5, 0, none⟩) (b.e.l + 67) (b.e.l + 67)) <| WL.nil <| ?_
  try simp only [pS]
  go_upto_region 2 with fail
  refine WL.start <| uK (.slice (some ⟨gk5, 0, none⟩) (b.e.l + 67) (b.e.l + 67)) <| uK (pV gk1 1) <| uL 41 ⟨gk1, 1, none⟩ (b.e.v) (load_one ((HF.out.box 0 _ _ _ rfl).cell 1 |>.trans (by kernel_rfl)) Try.und29 rfl) <| ?_
  try simp only [pS]
  refine uR (goInt b.e.l) (wk6.setRow gk5 ((enL (tab (b.e.l + 67) (upt (lntE b.e.l es) enZ b.e.l))).toArray)) (exec_copy _ _ 41 41 rfl _ _ (by kernel_rfl) (by kernel_rfl) (cpy_E _ (HF.out.box 2 _ _ _ rfl) (HE.out.no HF.out.kept))) ?_
  try simp only [pS]
  have HF : Hid (Fr No w (wk6.setRow gk5 ((enL (tab (b.e.l + 67) (upt (lntE b.e.l es) enZ b.e.l))).toArray)) [(gk1, 44, Bv.cells b), (gk3, 44, Bv.cells bvZ), (gk5, 124, (enL (tab (b.e.l + 67) (upt (lntE b.e.l es) enZ b.e.l))).toArray)]) := HF.out.set 2 rfl _
  generalize wk6.setRow gk5 ((enL (tab (b.e.l + 67) (upt (lntE b.e.l es) enZ b.e.l))).toArray) = wk7 at HF ⊢
  refine WL.nil ?_
  try simp only [pS]
  go_upto_region 3 with fail
  refine WL.start <| uK (pV gk1 1) <| uL 41 ⟨gk1, 1, none⟩ (b.e.v) (load_one ((HF.out.box 0 _ _ _ rfl).cell 1 |>.trans (by kernel_rfl)) Try.und29 rfl) <| uK (.int .i64 ((b.e.l : Nat) : Int)) <| uK (.int .i64 ((b.e.l : Nat) : Int)) <| WL.nil <| ?_
  try simp only [pS]
  go_wp2
  go_loopw [4] (fun v4 wr => ∃ i : Nat, v4 = .int .i64 ((i : Nat) : Int) ∧ b.e.l ≤ i ∧ i ≤ b.e.l + 67 ∧ Hid (Fr No w wr [(gk1, 44, Bv.cells b), (gk3, 44, Bv.cells bvZ), (gk5, 124, (enL (tab (b.e.l + 67) (upt (lntE b.e.l es) enZ i))).toArray)])) (fun i _ => b.e.l + 67 - (intOf i).toNat)
  case atStart => exact ⟨b.e.l, rfl, by omega, by omega, HF⟩
  case round =>
    clear HF
    obtain ⟨i, rfl, hi0, hi, HF⟩ := hrel
    by_cases hlt : i < b.e.l + 67
    · skip
      go_upto_region 4 with fail
      refine WL.start <| uK (.int .i64 ((i : Nat) : Int)) <| uK (.slice (some ⟨gk5, 0, none⟩) (b.e.l + 67) (b.e.l + 67)) <| uK (.int .i64 (((b.e.l + 67) : Nat) : Int)) <| uB .lss 3 (.int .i64 ((i : Nat) : Int)) (.int .i64 (((b.e.l + 67) : Nat) : Int)) (.bool true) (by rw [b_lss, decide_eq_true (by omega)]) <| WL.nil <| ?_
      try simp only [pS]
      go_upto_region 6 with fail
      refine WL.start <| uK (.slice (some ⟨gk5, 0, none⟩) (b.e.l + 67) (b.e.l + 67)) <| uK (.int .i64 ((i : Nat) : Int)) <| uK (.int .i64 ((i : Nat) : Int)) <| uB .sub 3 (.int .i64 0) (.int .i64 ((i : Nat) : Int)) (.int .i64 (-((i : Nat) : Int))) (b_subw _ _ _ (by rw [IntKind.wrap_i64]; omega) _) <| uW (.agg (En.cells ⟨⟨#[109, 97, 114, 107]⟩, 0, 0, (-((i : Nat) : Int))⟩)) (exec_build 124 _ rfl (En.cells ⟨⟨#[109, 97, 114, 107]⟩, 0, 0, (-((i : Nat) : Int))⟩) (by kernel_rfl)) <| uW (pV gk5 (0 + i * 4)) (exec_ixA 41 4 Try.und29e Try.size29e _ _ rfl gk5 0 (b.e.l + 67) (b.e.l + 67) i (by kernel_rfl) (by kernel_rfl) (by omega)) <| ?_
      try simp only [pS]
      refine uT 124 ⟨gk5, 0 + i * 4, none⟩ (.agg (En.cells ⟨⟨#[109, 97, 114, 107]⟩, 0, 0, (-((i : Nat) : Int))⟩)) (wr.setRow gk5 ((enL (tab (b.e.l + 67) (upt (lntE b.e.l es) enZ (i + 1)))).toArray)) (lay_E _ (HF.out.box 2 _ _ _ rfl) (by omega) (lnt_ge (by omega))) ?_
      try simp only [pS]
      have HF : Hid (Fr No w (wr.setRow gk5 ((enL (tab (b.e.l + 67) (upt (lntE b.e.l es) enZ (i + 1)))).toArray)) [(gk1, 44, Bv.cells b), (gk3, 44, Bv.cells bvZ), (gk5, 124, (enL (tab (b.e.l + 67) (upt (lntE b.e.l es) enZ (i + 1)))).toArray)]) := HF.out.set 2 rfl _
      generalize wr.setRow gk5 ((enL (tab (b.e.l + 67) (upt (lntE b.e.l es) enZ (i + 1)))).toArray) = wk8 at HF ⊢
      refine WL.nil ?_
      try simp only [pS]
      go_upto_region 5 with fail
      refine WL.start <| uK (.int .i64 ((i : Nat) : Int)) <| uB .add 3 (.int .i64 ((i : Nat) : Int)) (.int .i64 1) (.int .i64 (((i + 1) : Nat) : Int)) (b_addw _ _ _ (by rw [IntKind.wrap_i64]; omega) _) <| uK (.int .i64 (((i + 1) : Nat) : Int)) <| WL.nil <| ?_
      try simp only [pS]
      go_wp2
      go_roundw
      case rel => exact ⟨i + 1, by go_num, by omega, by omega, HF⟩
      case measure => simp [intOf]; omega
    · skip
      have he : i = b.e.l + 67 := by omega
      subst he
      go_upto_region 4 with fail
      refine WL.start <| uK (.int .i64 (((b.e.l + 67) : Nat) : Int)) <| uK (.slice (some ⟨gk5, 0, none⟩) (b.e.l + 67) (b.e.l + 67)) <| uK (.int .i64 (((b.e.l + 67) : Nat) : Int)) <| uB .lss 3 (.int .i64 (((b.e.l + 67) : Nat) : Int)) (.int .i64 (((b.e.l + 67) : Nat) : Int)) (.bool false) (by rw [b_lss, decide_eq_false (by omega)]) <| WL.nil <| ?_
      try simp only [pS]
      go_upto_region 7 with fail
      refine WL.start <| uK (pV gk1 2) <| uL 42 ⟨gk1, 2, none⟩ (b.l.v) (load_one ((HF.out.box 0 _ _ _ rfl).cell 2 |>.trans (by kernel_rfl)) Try.und30 rfl) <| uK (.int .i64 ((b.l.l : Nat) : Int)) <| uB .add 3 (.int .i64 ((b.l.l : Nat) : Int)) (.int .i64 67) (.int .i64 (((b.l.l + 67) : Nat) : Int)) (b_addw _ _ _ (by rw [IntKind.wrap_i64]; omega) _) <| ?_
      try simp only [pS]
      refine uR (.slice (some ⟨wr.heap.size, 0, none⟩) (b.l.l + 67) (b.l.l + 67)) (wr.alloc (.cells ((laL (List.replicate (b.l.l + 67) laZ)).toArray) 127)) (exec_make 42 _ _ rfl _ _ (by kernel_rfl) (by kernel_rfl) (make_la _ (b.l.l + 67) (by omega))) ?_
      try simp only [pS]
      have HF : Hid (Fr No w (wr.alloc (.cells ((laL (List.replicate (b.l.l + 67) laZ)).toArray) 127)) [(gk1, 44, Bv.cells b), (gk3, 44, Bv.cells bvZ), (gk5, 124, (enL (tab (b.e.l + 67) (upt (lntE b.e.l es) enZ (b.e.l + 67)))).toArray), (wr.heap.size, 127, (laL (List.replicate (b.l.l + 67) laZ)).toArray)]) := HF.out.alloc _ _
      generalize wr.alloc (.cells ((laL (List.replicate (b.l.l + 67) laZ)).toArray) 127) = wk10 at HF ⊢
      generalize wr.heap.size = gk9 at HF ⊢
      refine uK (.slice (some ⟨gk9, 0, none⟩) (b.l.l + 67) (b.l.l + 67)) <| WL.nil <| ?_
      try simp only [pS]
      go_upto_region 8 with fail
      refine WL.start <| uK (.slice (some ⟨gk9, 0, none⟩) (b.l.l + 67) (b.l.l + 67)) <| uK (pV gk1 2) <| uL 42 ⟨gk1, 2, none⟩ (b.l.v) (load_one ((HF.out.box 0 _ _ _ rfl).cell 2 |>.trans (by kernel_rfl)) Try.und30 rfl) <| ?_
      try simp only [pS]
      refine uR (goInt b.l.l) (wk10.setRow gk9 ((laL (tab (b.l.l + 67) (upt (lntL b.l.l ls) laZ b.l.l))).toArray)) (exec_copy _ _ 42 42 rfl _ _ (by kernel_rfl) (by kernel_rfl) (cpy_L _ (HF.out.box 3 _ _ _ rfl) (HL.out.no HF.out.kept))) ?_
      try simp only [pS]
      have HF : Hid (Fr No w (wk10.setRow gk9 ((laL (tab (b.l.l + 67) (upt (lntL b.l.l ls) laZ b.l.l))).toArray)) [(gk1, 44, Bv.cells b), (gk3, 44, Bv.cells bvZ), (gk5, 124, (enL (tab (b.e.l + 67) (upt (lntE b.e.l es) enZ (b.e.l + 67)))).toArray), (gk9, 127, (laL (tab (b.l.l + 67) (upt (lntL b.l.l ls) laZ b.l.l))).toArray)]) := HF.out.set 3 rfl _
      generalize wk10.setRow gk9 ((laL (tab (b.l.l + 67) (upt (lntL b.l.l ls) laZ b.l.l))).toArray) = wk11 at HF ⊢
      refine WL.nil ?_
      try simp only [pS]
      go_upto_region 9 with fail
      refine WL.start <| uK (pV gk1 2) <| uL 42 ⟨gk1, 2, none⟩ (b.l.v) (load_one ((HF.out.box 0 _ _ _ rfl).cell 2 |>.trans (by kernel_rfl)) Try.und30 rfl) <| uK (.int .i64 ((b.l.l : Nat) : Int)) <| uK (.int .i64 ((b.l.l : Nat) : Int)) <| WL.nil <| ?_
      try simp only [pS]
      go_wp2
      go_loopw [6] (fun v4 wr => ∃ i : Nat, v4 = .int .i64 ((i : Nat) : Int) ∧ b.l.l ≤ i ∧ i ≤ b.l.l + 67 ∧ Hid (Fr No w wr [(gk1, 44, Bv.cells b), (gk3, 44, Bv.cells bvZ), (gk5, 124, (enL (tab (b.e.l + 67) (upt (lntE b.e.l es) enZ (b.e.l + 67)))).toArray), (gk9, 127, (laL (tab (b.l.l + 67) (upt (lntL b.l.l ls) laZ i))).toArray)])) (fun i _ => b.l.l + 67 - (intOf i).toNat)
      case atStart => exact ⟨b.l.l, rfl, by omega, by omega, HF⟩
      case round =>
        clear HF
        obtain ⟨i, rfl, hi0, hi, HF⟩ := hrel
        by_cases hlt : i < b.l.l + 67
        · skip
          go_upto_region 10 with fail
          refine WL.start <| uK (.int .i64 ((i : Nat) : Int)) <| uK (.slice (some ⟨gk9, 0, none⟩) (b.l.l + 67) (b.l.l + 67)) <| uK (.int .i64 (((b.l.l + 67) : Nat) : Int)) <| uB .lss 3 (.int .i64 ((i : Nat) : Int)) (.int .i64 (((b.l.l + 67) : Nat) : Int)) (.bool true) (by rw [b_lss, decide_eq_true (by omega)]) <| WL.nil <| ?_
          try simp only [pS]
          go_upto_region 12 with fail
          refine WL.start <| uK (.slice (some ⟨gk9, 0, none⟩) (b.l.l + 67) (b.l.l + 67)) <| uK (.int .i64 ((i : Nat) : Int)) <| uK (.int .i64 ((i : Nat) : Int)) <| uB .sub 3 (.int .i64 0) (.int .i64 ((i : Nat) : Int)) (.int .i64 (-((i : Nat) : Int))) (b_subw _ _ _ (by rw [IntKind.wrap_i64]; omega) _) <| uW (.agg (La.cells ⟨(-((i : Nat) : Int)), (-7), 0, 0, 0, 0, 0⟩)) (exec_build 127 _ rfl (La.cells ⟨(-((i : Nat) : Int)), (-7), 0, 0, 0, 0, 0⟩) (by kernel_rfl)) <| uW (pV gk9 (0 + i * 7)) (exec_ixA 42 7 Try.und30e Try.size30e _ _ rfl gk9 0 (b.l.l + 67) (b.l.l + 67) i (by kernel_rfl) (by kernel_rfl) (by omega)) <| ?_
          try simp only [pS]
          refine uT 127 ⟨gk9, 0 + i * 7, none⟩ (.agg (La.cells ⟨(-((i : Nat) : Int)), (-7), 0, 0, 0, 0, 0⟩)) (wr.setRow gk9 ((laL (tab (b.l.l + 67) (upt (lntL b.l.l ls) laZ (i + 1)))).toArray)) (lay_L _ (HF.out.box 3 _ _ _ rfl) (by omega) (lnt_ge (by omega))) ?_
          try simp only [pS]
          have HF : Hid (Fr No w (wr.setRow gk9 ((laL (tab (b.l.l + 67) (upt (lntL b.l.l ls) laZ (i + 1)))).toArray)) [(gk1, 44, Bv.cells b), (gk3, 44, Bv.cells bvZ), (gk5, 124, (enL (tab (b.e.l + 67) (upt (lntE b.e.l es) enZ (b.e.l + 67)))).toArray), (gk9, 127, (laL (tab (b.l.l + 67) (upt (lntL b.l.l ls) laZ (i + 1)))).toArray)]) := HF.out.set 3 rfl _
          generalize wr.setRow gk9 ((laL (tab (b.l.l + 67) (upt (lntL b.l.l ls) laZ (i + 1)))).toArray) = wk12 at HF ⊢
          refine WL.nil ?_
          try simp only [pS]
          go_upto_region 11 with fail
          refine WL.start <| uK (.int .i64 ((i : Nat) : Int)) <| uB .add 3 (.int .i64 ((i : Nat) : Int)) (.int .i64 1) (.int .i64 (((i + 1) : Nat) : Int)) (b_addw _ _ _ (by rw [IntKind.wrap_i64]; omega) _) <| uK (.int .i64 (((i + 1) : Nat) : Int)) <| WL.nil <| ?_
          try simp only [pS]
          go_wp2
          go_roundw
          case rel => exact ⟨i + 1, by go_num, by omega, by omega, HF⟩
          case measure => simp [intOf]; omega
        · skip
          have he : i = b.l.l + 67 := by omega
          subst he
          go_upto_region 10 with fail
          refine WL.start <| uK (.int .i64 (((b.l.l + 67) : Nat) : Int)) <| uK (.slice (some ⟨gk9, 0, none⟩) (b.l.l + 67) (b.l.l + 67)) <| uK (.int .i64 (((b.l.l + 67) : Nat) : Int)) <| uB .lss 3 (.int .i64 (((b.l.l + 67) : Nat) : Int)) (.int .i64 (((b.l.l + 67) : Nat) : Int)) (.bool false) (by rw [b_lss, decide_eq_false (by omega)]) <| WL.nil <| ?_
          try simp only [pS]
          go_upto_region 13 with fail
          refine wp_region_held_drew (S := fun w' => Box w' gk1 44 (Bv.cells b)) rfl (HF.out.box 0 _ _ _ rfl) (fun hH => ?_)
          have HF : Hid (Fr No w (wr.drew) [(gk1, 44, Bv.cells b), (gk3, 44, Bv.cells bvZ), (gk5, 124, (enL (tab (b.e.l + 67) (upt (lntE b.e.l es) enZ (b.e.l + 67)))).toArray), (gk9, 127, (laL (tab (b.l.l + 67) (upt (lntL b.l.l ls) laZ (b.l.l + 67)))).toArray)]) := HF.out.drew
          generalize wr.drew = wk13 at HF hH ⊢
          refine xV 0 55 (pV gk1 0) hH <| xL 1 56 3 ⟨gk1, 0, none⟩ (.int .i64 b.up) (fun _ hw => load_one ((hw).cell 0 |>.trans (by kernel_rfl)) Try.und3 rfl) hH <| xV 2 57 (.slice (some ⟨gk5, 0, none⟩) (b.e.l + 67) (b.e.l + 67)) hH <| xV 3 58 (pV gk1 1) hH <| xL 4 59 41 ⟨gk1, 1, none⟩ b.e.v (fun _ hw => load_one ((hw).cell 1 |>.trans (by kernel_rfl)) Try.und29 rfl) hH <| xV 5 60 (.int .i64 ((b.e.l : Nat) : Int)) hH <| ?_
          try simp only [pS]
          refine xU 6 61 (.slice (some ⟨gk5, 0, none⟩) b.e.l (b.e.l + 67)) (fun w' hw => (exec_slH 41 _ _ rfl 4 Try.und29e Try.size29e (some ⟨gk5, 0, none⟩) (b.e.l + 67) (b.e.l + 67) b.e.l (by kernel_rfl) (by kernel_rfl) (by omega)).trans (by rw [sliced0 _ _ _ _ (by omega)])) hH <| xV 7 62 (.slice (some ⟨gk9, 0, none⟩) (b.l.l + 67) (b.l.l + 67)) hH <| xV 8 63 (pV gk1 2) hH <| xL 9 64 42 ⟨gk1, 2, none⟩ b.l.v (fun _ hw => load_one ((hw).cell 2 |>.trans (by kernel_rfl)) Try.und30 rfl) hH <| xV 10 65 (.int .i64 ((b.l.l : Nat) : Int)) hH <| xU 11 66 (.slice (some ⟨gk9, 0, none⟩) b.l.l (b.l.l + 67)) (fun w' hw => (exec_slH 42 _ _ rfl 7 Try.und30e Try.size30e (some ⟨gk9, 0, none⟩) (b.l.l + 67) (b.l.l + 67) b.l.l (by kernel_rfl) (by kernel_rfl) (by omega)).trans (by rw [sliced0 _ _ _ _ (by omega)])) hH <| ?_
          try simp only [pS]
          refine xU 12 67 (.agg (Bv.cells ⟨b.up, ⟨(some ⟨gk5, 0, none⟩), b.e.l, (b.e.l + 67)⟩, ⟨(some ⟨gk9, 0, none⟩), b.l.l, (b.l.l + 67)⟩⟩)) (fun w' hw => exec_build 44 _ rfl (Bv.cells ⟨b.up, ⟨(some ⟨gk5, 0, none⟩), b.e.l, (b.e.l + 67)⟩, ⟨(some ⟨gk9, 0, none⟩), b.l.l, (b.l.l + 67)⟩⟩) (by kernel_rfl)) hH ?_
          try simp only [pS]
          refine xS 13 44 ⟨gk3, 0, none⟩ (.agg (Bv.cells ⟨b.up, ⟨(some ⟨gk5, 0, none⟩), b.e.l, (b.e.l + 67)⟩, ⟨(some ⟨gk9, 0, none⟩), b.l.l, (b.l.l + 67)⟩⟩)) (w' := wk13.setRow gk3 (Bv.cells ⟨b.up, ⟨(some ⟨gk5, 0, none⟩), b.e.l, (b.e.l + 67)⟩, ⟨(some ⟨gk9, 0, none⟩), b.l.l, (b.l.l + 67)⟩⟩)) (rs (Bv.cs bvZ) (Bv.cs ⟨b.up, ⟨(some ⟨gk5, 0, none⟩), b.e.l, (b.e.l + 67)⟩, ⟨(some ⟨gk9, 0, none⟩), b.l.l, (b.l.l + 67)⟩⟩) (Bv.cs ⟨b.up, ⟨(some ⟨gk5, 0, none⟩), b.e.l, (b.e.l + 67)⟩, ⟨(some ⟨gk9, 0, none⟩), b.l.l, (b.l.l + 67)⟩⟩) (HF.out.box 1 _ _ _ rfl) Try.size32 (Bv.oneL _)) ((hH.rowNe (HF.out.ne 0 1 rfl rfl (by simp)) _)) (fun hH => ?_)
          try simp only [pS]
          have HF : Hid (Fr No w (wk13.setRow gk3 (Bv.cells ⟨b.up, ⟨(some ⟨gk5, 0, none⟩), b.e.l, (b.e.l + 67)⟩, ⟨(some ⟨gk9, 0, none⟩), b.l.l, (b.l.l + 67)⟩⟩)) [(gk1, 44, Bv.cells b), (gk3, 44, Bv.cells ⟨b.up, ⟨(some ⟨gk5, 0, none⟩), b.e.l, (b.e.l + 67)⟩, ⟨(some ⟨gk9, 0, none⟩), b.l.l, (b.l.l + 67)⟩⟩), (gk5, 124, (enL (tab (b.e.l + 67) (upt (lntE b.e.l es) enZ (b.e.l + 67)))).toArray), (gk9, 127, (laL (tab (b.l.l + 67) (upt (lntL b.l.l ls) laZ (b.l.l + 67)))).toArray)]) := HF.out.set 1 rfl _
          generalize wk13.setRow gk3 (Bv.cells ⟨b.up, ⟨(some ⟨gk5, 0, none⟩), b.e.l, (b.e.l + 67)⟩, ⟨(some ⟨gk9, 0, none⟩), b.l.l, (b.l.l + 67)⟩⟩) = wk14 at HF hH ⊢
          refine wpAnyH_done (by kernel_rfl) ?_ _
          try simp only [pS]
          clear hH
          go_wp2
          rw [HC.out]
          refine bodyPost_ret (results_row1 (by rfl) _ _ gk3 (Bv.cells ⟨b.up, ⟨(some ⟨gk5, 0, none⟩), b.e.l, (b.e.l + 67)⟩, ⟨(some ⟨gk9, 0, none⟩), b.l.l, (b.l.l + 67)⟩⟩) (by rfl) (run_load_part (cs := Bv.cs ⟨b.up, ⟨(some ⟨gk5, 0, none⟩), b.e.l, (b.e.l + 67)⟩, ⟨(some ⟨gk9, 0, none⟩), b.l.l, (b.l.l + 67)⟩⟩) (sub := Bv.cs ⟨b.up, ⟨(some ⟨gk5, 0, none⟩), b.e.l, (b.e.l + 67)⟩, ⟨(some ⟨gk9, 0, none⟩), b.l.l, (b.l.l + 67)⟩⟩) (HF.out.box 1 _ _ _ rfl) (Part.all _) Try.und32 rfl Try.size32)) rfl ?_
          exact ⟨gk5, gk9, rfl, HF.out.low 2 _ _ _ rfl, HF.out.low 3 _ _ _ rfl, by have h := HF.out.box 2 _ _ _ rfl; rw [upt_all] at h; exact h, by have h := HF.out.box 3 _ _ _ rfl; rw [upt_all] at h; exact h, HF.out.kept⟩

end Go.Proofs.Ytpabpeppgpeaoaa.Md
namespace Go.Proofs.Ytpabpeppgpeaoaa.Md
open Go.RowKit
set_option linter.unusedVariables false
set_option linter.unusedSimpArgs false

theorem Fr.ins {S : Nat → Prop} {w0 w : World} {l : List (Nat × TypeId × Array Value)} (h : Fr S w0 w l) {g : Nat} {T : TypeId} {cs : Array Value} (hg : w0.heap.size ≤ g) (hb : Box w g T cs) (hne : ∀ x ∈ l, x.1 ≠ g) : Fr S w0 w (l ++ [(g, T, cs)]) := by
  have key : ∀ (i : Nat) x, (l ++ [(g, T, cs)])[i]? = some x → l[i]? = some x ∨ (i = l.length ∧ x = (g, T, cs)) := by
    intro i x hi
    by_cases h1 : i < l.length
    · rw [List.getElem?_append_left h1] at hi; exact .inl hi
    · rw [List.getElem?_append_right (by omega)] at hi
      have h2 := (List.getElem?_eq_some_iff.1 hi).1
      simp at h2
      have h3 : i = l.length := by omega
      subst h3
      simp at hi
      exact .inr ⟨rfl, hi.symm⟩
  refine ⟨h.kept, fun i g1 T1 cs1 hi => ?_, fun i g1 T1 cs1 hi => ?_, fun i j g1 T1 cs1 T2 cs2 hi hj => ?_⟩
  · rcases key i _ hi with h1 | ⟨_, h1⟩
    · exact h.box i g1 T1 cs1 h1
    · cases h1; exact hb
  · rcases key i _ hi with h1 | ⟨_, h1⟩
    · exact h.low i g1 T1 cs1 h1
    · cases h1; exact hg
  · rcases key i _ hi with h1 | ⟨e1, h1⟩
    · rcases key j _ hj with h2 | ⟨e2, h2⟩
      · exact h.inj i j g1 T1 cs1 T2 cs2 h1 h2
      · cases h2; exact absurd rfl (hne _ (List.mem_of_getElem? h1))
    · rcases key j _ hj with h2 | ⟨e2, h2⟩
      · cases h1; exact absurd rfl (hne _ (List.mem_of_getElem? h2))
      · omega
theorem Fr.add2 {S : Nat → Prop} {w0 w w' : World} {l : List (Nat × TypeId × Array Value)} (h : Fr S w0 w l) {g1 g2 : Nat} {T1 T2 : TypeId} {c1 c2 : Array Value} (hk : Kept No w w') (h1 : w.heap.size ≤ g1) (b1 : Box w' g1 T1 c1) (h2 : w.heap.size ≤ g2) (b2 : Box w' g2 T2 c2) (hne : T1 ≠ T2) : Fr S w0 w' (l ++ [(g1, T1, c1), (g2, T2, c2)]) := by
  have hh := (h.add hk h1 b1).ins (g := g2) (T := T2) (cs := c2) (Nat.le_trans h.kept.size h2) b2 (fun x hx e => by
    rcases List.mem_append.1 hx with h3 | h3
    · obtain ⟨i, hi⟩ := List.mem_iff_getElem?.1 h3
      have := (h.box i x.1 x.2.1 x.2.2 hi).lt
      omega
    · simp at h3
      subst h3
      have e : g1 = g2 := e
      subst e
      unfold Box at b1 b2
      rw [b1] at b2
      exact hne (by injection (Option.some.inj b2)))
  simpa using hh
/-- What is held, in memory; what of it is lent. -/
structure HdAt (w : World) (h : Hd) (bs : List Int) (es : List En) (ls : List La) (ps : List Pl) : Prop where
  b : RdB w h.b.d bs
  e : RdE w h.k.e es
  l : RdL w h.k.l ls
  p : RdP w h.r ps
  nb : h.b.d.l ≤ 140737488351232
  ne : h.k.e.l ≤ 3518437208780
  nl : h.k.l.l ≤ 2513169434843
  np : h.r.l ≤ 1099511627744
theorem HdAt.no {w w' : World} {h : Hd} {bs : List Int} {es : List En} {ls : List La} {ps : List Pl} (H : HdAt w h bs es ls ps) (hk : Kept No w w') : HdAt w' h bs es ls ps := ⟨H.b.no hk, H.e.no hk, H.l.no hk, H.p.no hk, H.nb, H.ne, H.nl, H.np⟩
end Go.Proofs.Ytpabpeppgpeaoaa.Md
namespace Go.Proofs.Ytpabpeppgpeaoaa.Md
open Go.RowKit
set_option linter.unusedVariables false
set_option linter.unusedSimpArgs false

set_option maxRecDepth 100000 in
set_option maxHeartbeats 4000000 in
theorem sameK_any (u : Int) (xa ya xb yb : Option Addr) (n m xk yk xj yj : Nat) (es : List En) (ls : List La) (w : World) (h1 : RdE w ⟨xa, n, xk⟩ es) (h2 : RdE w ⟨ya, n, yk⟩ es) (h3 : RdL w ⟨xb, m, xj⟩ ls) (h4 : RdL w ⟨yb, m, yj⟩ ls) (hn : n ≤ 4000000000000) (hm : m ≤ 4000000000000) : Calls Try.prog 31 #[.agg (Bv.cells ⟨u, ⟨xa, n, xk⟩, ⟨xb, m, xj⟩⟩), .agg (Bv.cells ⟨u, ⟨ya, n, yk⟩, ⟨yb, m, yj⟩⟩)] w (fun e w' => e = .returned (.bool true) ∧ Kept No w w') := by
  refine hideC fun C HC => ?_
  have H1 : Hid (RdE w ⟨xa, n, xk⟩ es) := h1
  have H2 : Hid (RdE w ⟨ya, n, yk⟩ es) := h2
  have H3 : Hid (RdL w ⟨xb, m, xj⟩ ls) := h3
  have H4 : Hid (RdL w ⟨yb, m, yj⟩ ls) := h4
  have L1 : Hid (es.length = n) := h1.len
  have L3 : Hid (ls.length = m) := h3.len
  clear h1 h2 h3 h4
  have HF : Hid (Fr No w w []) := Fr.start _ _
  go_enter Try.func31, Try.ntmps31
  go_upto_region 0 with fail
  refine WL.start ?_
  refine uR (pV w.heap.size 0) (w.alloc (.cells (Bv.cells ⟨u, ⟨xa, n, xk⟩, ⟨xb, m, xj⟩⟩) 44)) (exec_box 44 _ rfl (Bv.cells ⟨u, ⟨xa, n, xk⟩, ⟨xb, m, xj⟩⟩) (by kernel_rfl)) ?_
  try simp only [pS]
  have HF : Hid (Fr No w (w.alloc (.cells (Bv.cells ⟨u, ⟨xa, n, xk⟩, ⟨xb, m, xj⟩⟩) 44)) [(w.heap.size, 44, Bv.cells ⟨u, ⟨xa, n, xk⟩, ⟨xb, m, xj⟩⟩)]) := HF.out.alloc _ _
  generalize w.alloc (.cells (Bv.cells ⟨u, ⟨xa, n, xk⟩, ⟨xb, m, xj⟩⟩) 44) = wk2 at HF ⊢
  generalize w.heap.size = gk1 at HF ⊢
  refine uR (pV wk2.heap.size 0) (wk2.alloc (.cells (Bv.cells ⟨u, ⟨ya, n, yk⟩, ⟨yb, m, yj⟩⟩) 44)) (exec_box 44 _ rfl (Bv.cells ⟨u, ⟨ya, n, yk⟩, ⟨yb, m, yj⟩⟩) (by kernel_rfl)) ?_
  try simp only [pS]
  have HF : Hid (Fr No w (wk2.alloc (.cells (Bv.cells ⟨u, ⟨ya, n, yk⟩, ⟨yb, m, yj⟩⟩) 44)) [(gk1, 44, Bv.cells ⟨u, ⟨xa, n, xk⟩, ⟨xb, m, xj⟩⟩), (wk2.heap.size, 44, Bv.cells ⟨u, ⟨ya, n, yk⟩, ⟨yb, m, yj⟩⟩)]) := HF.out.alloc _ _
  generalize wk2.alloc (.cells (Bv.cells ⟨u, ⟨ya, n, yk⟩, ⟨yb, m, yj⟩⟩) 44) = wk4 at HF ⊢
  generalize wk2.heap.size = gk3 at HF ⊢
  refine uK (.bool false) <| WL.nil <| ?_
  try simp only [pS]
  go_upto_region 1 with fail
  refine WL.start <| uK (pV gk1 0) <| uL 3 ⟨gk1, 0, none⟩ (.int .i64 u) (load_one ((HF.out.box 0 _ _ _ rfl).cell 0 |>.trans (by kernel_rfl)) Try.und3 rfl) <| uK (pV gk3 0) <| uL 3 ⟨gk3, 0, none⟩ (.int .i64 u) (load_one ((HF.out.box 1 _ _ _ rfl).cell 0 |>.trans (by kernel_rfl)) Try.und3 rfl) <| uB .neq 3 (.int .i64 u) (.int .i64 u) (.bool false) (by rw [b_neq, beq_self_eq_true]; rfl) <| uK (.bool false) <| uK (pV gk1 1) <| ?_
  try simp only [pS]
  refine uL 41 ⟨gk1, 1, none⟩ (.slice xa n xk) (load_one ((HF.out.box 0 _ _ _ rfl).cell 1 |>.trans (by kernel_rfl)) Try.und29 rfl) <| uK (.int .i64 ((n : Nat) : Int)) <| uK (pV gk3 1) <| uL 41 ⟨gk3, 1, none⟩ (.slice ya n yk) (load_one ((HF.out.box 1 _ _ _ rfl).cell 1 |>.trans (by kernel_rfl)) Try.und29 rfl) <| uK (.int .i64 ((n : Nat) : Int)) <| uB .neq 3 (.int .i64 ((n : Nat) : Int)) (.int .i64 ((n : Nat) : Int)) (.bool false) (by rw [b_neq, beq_self_eq_true]; rfl) <| uK (.bool false) <| uK (.bool false) <| ?_
  try simp only [pS]
  refine uK (pV gk1 2) <| uL 42 ⟨gk1, 2, none⟩ (.slice xb m xj) (load_one ((HF.out.box 0 _ _ _ rfl).cell 2 |>.trans (by kernel_rfl)) Try.und30 rfl) <| uK (.int .i64 ((m : Nat) : Int)) <| uK (pV gk3 2) <| uL 42 ⟨gk3, 2, none⟩ (.slice yb m yj) (load_one ((HF.out.box 1 _ _ _ rfl).cell 2 |>.trans (by kernel_rfl)) Try.und30 rfl) <| uK (.int .i64 ((m : Nat) : Int)) <| uB .neq 3 (.int .i64 ((m : Nat) : Int)) (.int .i64 ((m : Nat) : Int)) (.bool false) (by rw [b_neq, beq_self_eq_true]; rfl) <| uK (.bool false) <| WL.nil <| ?_
  try simp only [pS]
  go_upto_region 3 with fail
  refine WL.start <| uK (.int .i64 0) <| WL.nil <| ?_
  try simp only [pS]
  go_wp2
  go_loopw [5] (fun v5 wr => ∃ i : Nat, v5 = .int .i64 ((i : Nat) : Int) ∧ i ≤ n ∧ Hid (Fr No w wr [(gk1, 44, Bv.cells ⟨u, ⟨xa, n, xk⟩, ⟨xb, m, xj⟩⟩), (gk3, 44, Bv.cells ⟨u, ⟨ya, n, yk⟩, ⟨yb, m, yj⟩⟩)])) (fun i _ => n - (intOf i).toNat)
  case atStart => exact ⟨0, by go_num, by omega, HF⟩
  case round =>
    clear HF
    obtain ⟨i, rfl, hi, HF⟩ := hrel
    by_cases hlt : i < n
    · skip
      obtain ⟨pb, po, hcx⟩ := Es.at H1.out.row (i := i) (by rw [L1.out]; exact hlt)
      have hca := hcx.1
      have hcc := hcx.2
      obtain ⟨qb, qo, hdx⟩ := Es.at H2.out.row (i := i) (by rw [L1.out]; exact hlt)
      have hda := hdx.1
      have hdd := hdx.2
      clear hcx hdx
      have hs1 : Hid (Value.slice xa n xk = .slice (some ⟨pb, po, none⟩) n xk) := congrArg (fun a => Value.slice a n xk) hca
      have hs2 : Hid (Value.slice ya n yk = .slice (some ⟨qb, qo, none⟩) n yk) := congrArg (fun a => Value.slice a n yk) hda
      obtain ⟨x, hx⟩ : ∃ x, x = eAt es i := ⟨_, rfl⟩
      rw [← hx] at hcc hdd
      have cp : Hid (∀ (j : Nat) v, (En.cs x)[j]? = some v → w.cell? ⟨pb, po + i * 4 + j, none⟩ = some v) := hcc
      have cq : Hid (∀ (j : Nat) v, (En.cs x)[j]? = some v → w.cell? ⟨qb, qo + i * 4 + j, none⟩ = some v) := hdd
      clear hcc hdd hx hca hda
      go_upto_region 4 with fail
      refine WL.start <| uK (.int .i64 ((i : Nat) : Int)) <| uK (pV gk1 1) <| uL 41 ⟨gk1, 1, none⟩ (.slice xa n xk) (load_one ((HF.out.box 0 _ _ _ rfl).cell 1 |>.trans (by kernel_rfl)) Try.und29 rfl) <| uK (.int .i64 ((n : Nat) : Int)) <| uB .lss 3 (.int .i64 ((i : Nat) : Int)) (.int .i64 ((n : Nat) : Int)) (.bool true) (by rw [b_lss, decide_eq_true (by omega)]) <| WL.nil <| ?_
      try simp only [pS]
      go_upto_region 6 with fail
      refine wp_region_held_drew (S := fun w' => Fr No w w' [(gk1, 44, Bv.cells ⟨u, ⟨xa, n, xk⟩, ⟨xb, m, xj⟩⟩), (gk3, 44, Bv.cells ⟨u, ⟨ya, n, yk⟩, ⟨yb, m, yj⟩⟩)]) rfl (HF.out.drew) (fun hH => ?_)
      have HF : Hid (Fr No w (wr.drew) [(gk1, 44, Bv.cells ⟨u, ⟨xa, n, xk⟩, ⟨xb, m, xj⟩⟩), (gk3, 44, Bv.cells ⟨u, ⟨ya, n, yk⟩, ⟨yb, m, yj⟩⟩)]) := HF.out.drew
      generalize wr.drew = wk5 at HF hH ⊢
      refine xV 0 37 (pV gk1 1) hH <| xL 1 38 41 ⟨gk1, 1, none⟩ (.slice xa n xk) (fun _ hw => load_one ((hw.box 0 _ _ _ rfl).cell 1 |>.trans (by kernel_rfl)) Try.und29 rfl) hH <| xV 2 39 (.int .i64 ((i : Nat) : Int)) hH <| xU 3 40 (pV pb (po + i * 4)) (fun w' hw => exec_ixA 41 4 Try.und29e Try.size29e _ _ rfl pb po n xk i (Eq.trans (b := .slice xa n xk) (by kernel_rfl) hs1.out) (by kernel_rfl) hlt) hH <| xL 4 41 124 ⟨pb, po + i * 4, none⟩ (.agg (En.cells x)) (fun _ hw => load_E (fun j v hv => hw.kept.cell (cp.out j v hv) (fun e => e))) hH <| xV 5 42 (pV gk3 1) hH <| ?_
      try simp only [pS]
      refine xL 6 43 41 ⟨gk3, 1, none⟩ (.slice ya n yk) (fun _ hw => load_one ((hw.box 1 _ _ _ rfl).cell 1 |>.trans (by kernel_rfl)) Try.und29 rfl) hH <| xV 7 44 (.int .i64 ((i : Nat) : Int)) hH <| xU 8 45 (pV qb (qo + i * 4)) (fun w' hw => exec_ixA 41 4 Try.und29e Try.size29e _ _ rfl qb qo n yk i (Eq.trans (b := .slice ya n yk) (by kernel_rfl) hs2.out) (by kernel_rfl) hlt) hH <| xL 9 46 124 ⟨qb, qo + i * 4, none⟩ (.agg (En.cells x)) (fun _ hw => load_E (fun j v hv => hw.kept.cell (cq.out j v hv) (fun e => e))) hH <| xB 10 47 .neq 124 (.agg (En.cells x)) (.agg (En.cells x)) (.bool false) (fun _ _ => by rw [eqE_neq, eqE_refl]; rfl) hH <| ?_
      try simp only [pS]
      refine wpAnyH_done (by kernel_rfl) ?_ _
      try simp only [pS]
      clear hH
      go_upto_region 5 with fail
      refine WL.start <| uK (.int .i64 ((i : Nat) : Int)) <| uB .add 3 (.int .i64 ((i : Nat) : Int)) (.int .i64 1) (.int .i64 (((i + 1) : Nat) : Int)) (b_addw _ _ _ (by rw [IntKind.wrap_i64]; omega) _) <| uK (.int .i64 (((i + 1) : Nat) : Int)) <| WL.nil <| ?_
      try simp only [pS]
      go_wp2
      go_roundw
      case rel => exact ⟨i + 1, by go_num, by omega, HF⟩
      case measure => simp [intOf]; omega
    · skip
      go_upto_region 4 with fail
      refine WL.start <| uK (.int .i64 ((i : Nat) : Int)) <| uK (pV gk1 1) <| uL 41 ⟨gk1, 1, none⟩ (.slice xa n xk) (load_one ((HF.out.box 0 _ _ _ rfl).cell 1 |>.trans (by kernel_rfl)) Try.und29 rfl) <| uK (.int .i64 ((n : Nat) : Int)) <| uB .lss 3 (.int .i64 ((i : Nat) : Int)) (.int .i64 ((n : Nat) : Int)) (.bool false) (by rw [b_lss, decide_eq_false (by omega)]) <| WL.nil <| ?_
      try simp only [pS]
      go_upto_region 8 with fail
      refine WL.start <| uK (.int .i64 0) <| WL.nil <| ?_
      try simp only [pS]
      go_wp2
      go_loopw [6] (fun v5 wr => ∃ i : Nat, v5 = .int .i64 ((i : Nat) : Int) ∧ i ≤ m ∧ Hid (Fr No w wr [(gk1, 44, Bv.cells ⟨u, ⟨xa, n, xk⟩, ⟨xb, m, xj⟩⟩), (gk3, 44, Bv.cells ⟨u, ⟨ya, n, yk⟩, ⟨yb, m, yj⟩⟩)])) (fun i _ => m - (intOf i).toNat)
      case atStart => exact ⟨0, by go_num, by omega, HF⟩
      case round =>
        clear HF
        obtain ⟨i, rfl, hi, HF⟩ := hrel
        by_cases hlt : i < m
        · skip
          obtain ⟨pb, po, hcx⟩ := Ls.at H3.out.row (i := i) (by rw [L3.out]; exact hlt)
          have hca := hcx.1
          have hcc := hcx.2
          obtain ⟨qb, qo, hdx⟩ := Ls.at H4.out.row (i := i) (by rw [L3.out]; exact hlt)
          have hda := hdx.1
          have hdd := hdx.2
          clear hcx hdx
          have hs1 : Hid (Value.slice xb m xj = .slice (some ⟨pb, po, none⟩) m xj) := congrArg (fun a => Value.slice a m xj) hca
          have hs2 : Hid (Value.slice yb m yj = .slice (some ⟨qb, qo, none⟩) m yj) := congrArg (fun a => Value.slice a m yj) hda
          obtain ⟨x, hx⟩ : ∃ x, x = lAt ls i := ⟨_, rfl⟩
          rw [← hx] at hcc hdd
          have cp : Hid (∀ (j : Nat) v, (La.cs x)[j]? = some v → w.cell? ⟨pb, po + i * 7 + j, none⟩ = some v) := hcc
          have cq : Hid (∀ (j : Nat) v, (La.cs x)[j]? = some v → w.cell? ⟨qb, qo + i * 7 + j, none⟩ = some v) := hdd
          clear hcc hdd hx hca hda
          go_upto_region 9 with fail
          refine WL.start <| uK (.int .i64 ((i : Nat) : Int)) <| uK (pV gk1 2) <| uL 42 ⟨gk1, 2, none⟩ (.slice xb m xj) (load_one ((HF.out.box 0 _ _ _ rfl).cell 2 |>.trans (by kernel_rfl)) Try.und30 rfl) <| uK (.int .i64 ((m : Nat) : Int)) <| uB .lss 3 (.int .i64 ((i : Nat) : Int)) (.int .i64 ((m : Nat) : Int)) (.bool true) (by rw [b_lss, decide_eq_true (by omega)]) <| WL.nil <| ?_
          try simp only [pS]
          go_upto_region 11 with fail
          refine wp_region_held_drew (S := fun w' => Fr No w w' [(gk1, 44, Bv.cells ⟨u, ⟨xa, n, xk⟩, ⟨xb, m, xj⟩⟩), (gk3, 44, Bv.cells ⟨u, ⟨ya, n, yk⟩, ⟨yb, m, yj⟩⟩)]) rfl (HF.out.drew) (fun hH => ?_)
          have HF : Hid (Fr No w (wr.drew) [(gk1, 44, Bv.cells ⟨u, ⟨xa, n, xk⟩, ⟨xb, m, xj⟩⟩), (gk3, 44, Bv.cells ⟨u, ⟨ya, n, yk⟩, ⟨yb, m, yj⟩⟩)]) := HF.out.drew
          generalize wr.drew = wk6 at HF hH ⊢
          refine xV 0 55 (pV gk1 2) hH <| xL 1 56 42 ⟨gk1, 2, none⟩ (.slice xb m xj) (fun _ hw => load_one ((hw.box 0 _ _ _ rfl).cell 2 |>.trans (by kernel_rfl)) Try.und30 rfl) hH <| xV 2 57 (.int .i64 ((i : Nat) : Int)) hH <| xU 3 58 (pV pb (po + i * 7)) (fun w' hw => exec_ixA 42 7 Try.und30e Try.size30e _ _ rfl pb po m xj i (Eq.trans (b := .slice xb m xj) (by kernel_rfl) hs1.out) (by kernel_rfl) hlt) hH <| xL 4 59 127 ⟨pb, po + i * 7, none⟩ (.agg (La.cells x)) (fun _ hw => load_L (fun j v hv => hw.kept.cell (cp.out j v hv) (fun e => e))) hH <| xV 5 60 (pV gk3 2) hH <| ?_
          try simp only [pS]
          refine xL 6 61 42 ⟨gk3, 2, none⟩ (.slice yb m yj) (fun _ hw => load_one ((hw.box 1 _ _ _ rfl).cell 2 |>.trans (by kernel_rfl)) Try.und30 rfl) hH <| xV 7 62 (.int .i64 ((i : Nat) : Int)) hH <| xU 8 63 (pV qb (qo + i * 7)) (fun w' hw => exec_ixA 42 7 Try.und30e Try.size30e _ _ rfl qb qo m yj i (Eq.trans (b := .slice yb m yj) (by kernel_rfl) hs2.out) (by kernel_rfl) hlt) hH <| xL 9 64 127 ⟨qb, qo + i * 7, none⟩ (.agg (La.cells x)) (fun _ hw => load_L (fun j v hv => hw.kept.cell (cq.out j v hv) (fun e => e))) hH <| xB 10 65 .neq 127 (.agg (La.cells x)) (.agg (La.cells x)) (.bool false) (fun _ _ => by rw [eqL_neq, eqL_refl]; rfl) hH <| ?_
          try simp only [pS]
          refine wpAnyH_done (by kernel_rfl) ?_ _
          try simp only [pS]
          clear hH
          go_upto_region 10 with fail
          refine WL.start <| uK (.int .i64 ((i : Nat) : Int)) <| uB .add 3 (.int .i64 ((i : Nat) : Int)) (.int .i64 1) (.int .i64 (((i + 1) : Nat) : Int)) (b_addw _ _ _ (by rw [IntKind.wrap_i64]; omega) _) <| uK (.int .i64 (((i + 1) : Nat) : Int)) <| WL.nil <| ?_
          try simp only [pS]
          go_wp2
          go_roundw
          case rel => exact ⟨i + 1, by go_num, by omega, HF⟩
          case measure => simp [intOf]; omega
        · skip
          go_upto_region 9 with fail
          refine WL.start <| uK (.int .i64 ((i : Nat) : Int)) <| uK (pV gk1 2) <| uL 42 ⟨gk1, 2, none⟩ (.slice xb m xj) (load_one ((HF.out.box 0 _ _ _ rfl).cell 2 |>.trans (by kernel_rfl)) Try.und30 rfl) <| uK (.int .i64 ((m : Nat) : Int)) <| uB .lss 3 (.int .i64 ((i : Nat) : Int)) (.int .i64 ((m : Nat) : Int)) (.bool false) (by rw [b_lss, decide_eq_false (by omega)]) <| WL.nil <| ?_
          try simp only [pS]
          go_upto_region 13 with fail
          refine WL.start <| uK (.bool true) <| WL.nil <| ?_
          try simp only [pS]
          go_wp2
          rw [HC.out]
          exact ⟨rfl, HF.out.kept⟩

end Go.Proofs.Ytpabpeppgpeaoaa.Md
