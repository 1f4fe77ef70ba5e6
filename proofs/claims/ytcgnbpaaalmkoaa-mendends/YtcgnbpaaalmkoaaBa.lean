import Derived.Test.YtcgnbpaaalmkoaaY
namespace Go.Proofs.Ytcgnbpaaalmkoaa
open Go.RowKit
set_option linter.unusedVariables false
set_option linter.unusedSimpArgs false
/-- The reference's edge: how far the row goes on without a gap. -/
def refN (u : Int) (ps : List Pl) (k : Nat) : Prop := k ≤ ps.length ∧ ∀ j, j < k → (pAt ps j).n = u + j + 1 ∧ (pAt ps j).i.d = true

/-- Lists by their places. -/
def tab {α : Type} (n : Nat) (f : Nat → α) : List α := (List.range n).map f
theorem tab_len {α : Type} (n : Nat) (f : Nat → α) : (tab n f).length = n := by simp [tab]
theorem tab_get {α : Type} {n i : Nat} {f : Nat → α} (h : i < n) : (tab n f)[i]? = some (f i) := by simp [tab, h]
theorem tab_ext {α : Type} {n : Nat} {f f' : Nat → α} (h : ∀ j, j < n → f j = f' j) : tab n f = tab n f' := by
  unfold tab
  exact List.map_congr_left (fun j hj => h j (List.mem_range.1 hj))
theorem tab_set {α : Type} {n i : Nat} {f f' : Nat → α} {x : α} (h : i < n) (h1 : ∀ j, j < n → j ≠ i → f j = f' j) (h2 : f' i = x) : (tab n f).set i x = tab n f' := by
  apply List.ext_getElem?
  intro j
  rw [List.getElem?_set]
  by_cases hj : j < n
  · rw [tab_get hj, tab_get hj]
    by_cases e : i = j
    · subst e; simp [tab_len, h, h2]
    · rw [if_neg e, h1 j hj (fun e2 => e e2.symm)]
  · have e : ¬ i = j := fun e => hj (e ▸ h)
    rw [if_neg e, List.getElem?_eq_none (by rw [tab_len]; omega), List.getElem?_eq_none (by rw [tab_len]; omega)]
/-- What came in, and marks behind; what is laid up to a place. -/
def lnt {α : Type} (n : Nat) (xs : List α) (z : α) (mk : Nat → α) (j : Nat) : α := if j < n then xs[j]?.getD z else mk j
def upt {α : Type} (f : Nat → α) (z : α) (i j : Nat) : α := if j < i then f j else z
theorem upt_set {α : Type} {N i : Nat} {f : Nat → α} {z x : α} (h : i < N) (hx : f i = x) : (tab N (upt f z i)).set i x = tab N (upt f z (i + 1)) := by
  refine tab_set h (fun j _ hj => ?_) ?_
  · unfold upt
    by_cases h1 : j < i
    · rw [if_pos h1, if_pos (by omega)]
    · rw [if_neg h1, if_neg (by omega)]
  · unfold upt; rw [if_pos (by omega), hx]
theorem upt_all {α : Type} (N : Nat) (f : Nat → α) (z : α) : tab N (upt f z N) = tab N f := tab_ext (fun j hj => by unfold upt; rw [if_pos hj])
theorem upt_zero {α : Type} (N : Nat) (f : Nat → α) (z : α) : tab N (upt f z 0) = List.replicate N z := by
  apply List.ext_getElem?
  intro j
  by_cases hj : j < N
  · rw [tab_get hj]; simp [upt, hj]
  · rw [List.getElem?_eq_none (by rw [tab_len]; omega), List.getElem?_eq_none (by simp; omega)]
theorem app_tab {α : Type} {xs : List α} {n : Nat} (z : α) (mk : Nat → α) (m : Nat) (hn : xs.length = n) : xs ++ List.replicate m z = tab (n + m) (upt (lnt n xs z mk) z n) := by
  apply List.ext_getElem?
  intro j
  by_cases hj : j < n + m
  · rw [tab_get hj]
    by_cases h1 : j < n
    · rw [List.getElem?_append_left (by omega)]
      unfold upt lnt
      rw [if_pos h1, if_pos h1]
      rw [List.getElem?_eq_getElem (by omega)]; rfl
    · rw [List.getElem?_append_right (by omega)]
      unfold upt
      rw [if_neg h1, List.getElem?_replicate, if_pos (by omega)]
  · rw [List.getElem?_eq_none (by simp; omega), List.getElem?_eq_none (by rw [tab_len]; omega)]
theorem lnt_lt {α : Type} {n j : Nat} {xs : List α} {z : α} {mk : Nat → α} (h : j < n) : lnt n xs z mk j = xs[j]?.getD z := by unfold lnt; rw [if_pos h]
theorem lnt_ge {α : Type} {n j : Nat} {xs : List α} {z : α} {mk : Nat → α} (h : n ≤ j) : lnt n xs z mk j = mk j := by unfold lnt; rw [if_neg (by omega)]
theorem lnt_get {α : Type} {n m : Nat} {xs : List α} {z : α} {mk : Nat → α} (hn : xs.length = n) (i : Nat) (x : α) (h : xs[i]? = some x) : (tab (n + m) (lnt n xs z mk))[i]? = some x := by
  have hi := (List.getElem?_eq_some_iff.1 h).1
  rw [tab_get (by omega), lnt_lt (by omega), h]; rfl
def mkE (j : Nat) : En := ⟨⟨#[109, 97, 114, 107]⟩, 0, 0, -((j : Nat) : Int)⟩
def mkL (j : Nat) : La := ⟨-((j : Nat) : Int), -7, 0, 0, 0, 0, 0⟩
def mkP (j : Nat) : Pl := ⟨-((j : Nat) : Int), inZ⟩
def mkC (j : Nat) : Cm := ⟨0, 0, -((j : Nat) : Int), ⟨#[109, 97, 114, 107]⟩, 0, 0, 0, 0, 0⟩
def mkB (_ : Nat) : Int := 201
def lntE (n : Nat) (es : List En) : Nat → En := lnt n es enZ mkE
def lntL (n : Nat) (es : List La) : Nat → La := lnt n es laZ mkL
def lntP (n : Nat) (es : List Pl) : Nat → Pl := lnt n es plZ mkP
def lntC (n : Nat) (es : List Cm) : Nat → Cm := lnt n es cZ mkC
def lntB (n : Nat) (es : List Int) : Nat → Int := lnt n es 0 mkB
def lent (s : Sl) (g : Nat) : Sl := ⟨some ⟨g, 0, none⟩, s.l, s.l + 67⟩
theorem u8L_len (es : List Int) : (u8L es).length = es.length := by simp [u8L]
theorem u8L_one (es : List Int) : ∀ v ∈ u8L es, v.oneCell' = true := num_one _ _
theorem u8L_app (a b : List Int) : u8L (a ++ b) = u8L a ++ u8L b := by simp [u8L]
theorem u8L_set (es : List Int) (i : Nat) (e : Int) (hi : i < es.length) : putL (u8L es) i [.int .u8 e] = u8L (es.set i e) := by
  have h : es = es.take i ++ ([es[i]] ++ es.drop (i + 1)) := by simp
  have h2 : es.set i e = es.take i ++ ([e] ++ es.drop (i + 1)) := by rw [List.set_eq_take_append_cons_drop]; simp [hi]
  have hl : (u8L (es.take i)).length = i := by rw [u8L_len, List.length_take]; omega
  have h3 : u8L es = u8L (es.take i) ++ ([.int .u8 es[i]] ++ u8L (es.drop (i + 1))) := by
    conv => lhs; rw [h]
    rw [u8L_app, u8L_app]; rfl
  rw [h2, u8L_app, u8L_app, h3]
  conv => lhs; arg 2; rw [← hl]
  exact putL_mid _ _ _ _ rfl
theorem make_by (w : World) (n : Nat) (hb : n ≤ 140737488355328) : (Instr.makeSlice 26 (.int .i64 (n : Int)) (.int .i64 (n : Int))).run Try.prog w = .ok (.slice (some ⟨w.heap.size, 0, none⟩) n n) (w.alloc (.cells (u8L (List.replicate n 0)).toArray 5)) := by
  cases hq : Try.prog.info? 5 with
  | none => have := Try.info5; simp [hq] at this
  | some i =>
    have h1 := Try.info5
    simp only [hq, Option.map_some, Option.some.injEq, Prod.mk.injEq] at h1
    obtain ⟨hz, hs, hby⟩ := h1
    have h := run_make (P := Try.prog) w 26 5 i (.int .u8 0) Try.und26 hq hz .i64 .i64 (n : Int) (n : Int) (by omega) (by omega) (by rw [hby]; omega) (by omega)
    rw [h, hs, show u8L (List.replicate n 0) = ((List.replicate n [Value.int .u8 0]).flatten) by
      clear h
      induction n with
      | zero => rfl
      | succ n ih => rw [List.replicate_succ, List.replicate_succ, List.flatten_cons, ← ih (by omega)]; rfl]
    simp only [Int.toNat_natCast]
    rw [← made_row 1 [Value.int .u8 0] rfl (by omega) n]
    rfl
theorem make_pl (w : World) (n : Nat) (hb : n ≤ 2199023255552) : (Instr.makeSlice 38 (.int .i64 (n : Int)) (.int .i64 (n : Int))).run Try.prog w = .ok (.slice (some ⟨w.heap.size, 0, none⟩) n n) (w.alloc (.cells (plL (List.replicate n plZ)).toArray 87)) := by
  cases hq : Try.prog.info? 87 with
  | none => have := Try.info87; simp [hq] at this
  | some i =>
    have h1 := Try.info87
    simp only [hq, Option.map_some, Option.some.injEq, Prod.mk.injEq] at h1
    obtain ⟨hz, hs, hby⟩ := h1
    have h := run_make (P := Try.prog) w 38 87 i (.agg plZ.cells) Try.und38 hq hz .i64 .i64 (n : Int) (n : Int) (by omega) (by omega) (by rw [hby]; omega) (by omega)
    rw [h, hs, show plL (List.replicate n plZ) = ((List.replicate n plZ.cs).flatten) by simp [plL]]
    simp only [Int.toNat_natCast]
    rw [← made_row 15 plZ.cs rfl (by omega) n]
    rfl
theorem enL_set (es : List En) (i : Nat) (e : En) (hi : i < es.length) : putL (enL es) (i * 4) e.cs = enL (es.set i e) := by
  have h : es = es.take i ++ ([es[i]] ++ es.drop (i + 1)) := by simp
  have h2 : es.set i e = es.take i ++ ([e] ++ es.drop (i + 1)) := by rw [List.set_eq_take_append_cons_drop]; simp [hi]
  have hl : (enL (es.take i)).length = i * 4 := by rw [enL_len, List.length_take]; congr 1; omega
  have h3 : enL es = enL (es.take i) ++ ((es[i]).cs ++ enL (es.drop (i + 1))) := by
    conv => lhs; rw [h]
    rw [enL_app, enL_app, enL_1]
  rw [h2, enL_app, enL_app, enL_1, h3]
  rw [← hl]
  exact putL_mid _ _ _ _ rfl
theorem laL_set (es : List La) (i : Nat) (e : La) (hi : i < es.length) : putL (laL es) (i * 7) e.cs = laL (es.set i e) := by
  have h : es = es.take i ++ ([es[i]] ++ es.drop (i + 1)) := by simp
  have h2 : es.set i e = es.take i ++ ([e] ++ es.drop (i + 1)) := by rw [List.set_eq_take_append_cons_drop]; simp [hi]
  have hl : (laL (es.take i)).length = i * 7 := by rw [laL_len, List.length_take]; congr 1; omega
  have h3 : laL es = laL (es.take i) ++ ((es[i]).cs ++ laL (es.drop (i + 1))) := by
    conv => lhs; rw [h]
    rw [laL_app, laL_app, laL_1]
  rw [h2, laL_app, laL_app, laL_1, h3]
  rw [← hl]
  exact putL_mid _ _ _ _ rfl
theorem st_E {w : World} {g : Nat} {cur : List En} {i : Nat} (y : En) (hb : Box w g 110 (enL cur).toArray) (hi : i < cur.length) : (storeVar 110 ⟨g, 0 + i * 4, none⟩ (.agg (En.cells y))).run Try.prog w = .ok () (w.setRow g (enL (cur.set i y)).toArray) := by
  have h := run_store_at (off := 0 + i * 4) (ty := 110) (vs := y.cs) (v := .agg y.cells) hb rfl Try.size110 (by rw [enL_len, Nat.zero_add]; show i * 4 + 4 ≤ cur.length * 4; omega) y.oneL
  rw [h, Nat.zero_add, enL_set _ _ _ hi]
theorem lay_E {w : World} {g N i : Nat} {f : Nat → En} (y : En) (hb : Box w g 110 (enL (tab N (upt f enZ i))).toArray) (hi : i < N) (hy : f i = y) : (storeVar 110 ⟨g, 0 + i * 4, none⟩ (.agg (En.cells y))).run Try.prog w = .ok () (w.setRow g (enL (tab N (upt f enZ (i + 1)))).toArray) := by
  rw [st_E y hb (by rw [tab_len]; exact hi), upt_set hi hy]
theorem row_E {w : World} {g : Nat} {xs : List En} (hb : Box w g 110 (enL xs).toArray) {i : Nat} {x : En} (hx : xs[i]? = some x) : ∀ (j : Nat) v, x.cs[j]? = some v → w.cell? ⟨g, 0 + i * 4 + j, none⟩ = some v := by
  intro j v hv
  rw [hb.cell, Nat.zero_add, List.getElem?_toArray]
  exact flat_get 4 (xs.map En.cs) (enL_c xs) i x.cs (by rw [List.getElem?_map, hx]; rfl) j v hv
theorem rd_E {w : World} {g : Nat} {s : Sl} {xs : List En} (hn : xs.length = s.l) (hb : Box w g 110 (enL (tab (s.l + 67) (lntE s.l xs))).toArray) : RdE w (lent s g) xs := by
  refine ⟨fun i it hi => ⟨g, 0, rfl, fun j v hv => ?_⟩, hn, fun e => by cases e⟩
  rw [List.getElem?_map] at hi
  cases hx : xs[i]? with
  | none => rw [hx] at hi; cases hi
  | some x =>
    rw [hx] at hi
    cases hi
    exact row_E hb (lnt_get hn i x hx) j v hv
theorem st_L {w : World} {g : Nat} {cur : List La} {i : Nat} (y : La) (hb : Box w g 113 (laL cur).toArray) (hi : i < cur.length) : (storeVar 113 ⟨g, 0 + i * 7, none⟩ (.agg (La.cells y))).run Try.prog w = .ok () (w.setRow g (laL (cur.set i y)).toArray) := by
  have h := run_store_at (off := 0 + i * 7) (ty := 113) (vs := y.cs) (v := .agg y.cells) hb rfl Try.size113 (by rw [laL_len, Nat.zero_add]; show i * 7 + 7 ≤ cur.length * 7; omega) y.oneL
  rw [h, Nat.zero_add, laL_set _ _ _ hi]
theorem lay_L {w : World} {g N i : Nat} {f : Nat → La} (y : La) (hb : Box w g 113 (laL (tab N (upt f laZ i))).toArray) (hi : i < N) (hy : f i = y) : (storeVar 113 ⟨g, 0 + i * 7, none⟩ (.agg (La.cells y))).run Try.prog w = .ok () (w.setRow g (laL (tab N (upt f laZ (i + 1)))).toArray) := by
  rw [st_L y hb (by rw [tab_len]; exact hi), upt_set hi hy]
theorem row_L {w : World} {g : Nat} {xs : List La} (hb : Box w g 113 (laL xs).toArray) {i : Nat} {x : La} (hx : xs[i]? = some x) : ∀ (j : Nat) v, x.cs[j]? = some v → w.cell? ⟨g, 0 + i * 7 + j, none⟩ = some v := by
  intro j v hv
  rw [hb.cell, Nat.zero_add, List.getElem?_toArray]
  exact flat_get 7 (xs.map La.cs) (laL_c xs) i x.cs (by rw [List.getElem?_map, hx]; rfl) j v hv
theorem rd_L {w : World} {g : Nat} {s : Sl} {xs : List La} (hn : xs.length = s.l) (hb : Box w g 113 (laL (tab (s.l + 67) (lntL s.l xs))).toArray) : RdL w (lent s g) xs := by
  refine ⟨fun i it hi => ⟨g, 0, rfl, fun j v hv => ?_⟩, hn, fun e => by cases e⟩
  rw [List.getElem?_map] at hi
  cases hx : xs[i]? with
  | none => rw [hx] at hi; cases hi
  | some x =>
    rw [hx] at hi
    cases hi
    exact row_L hb (lnt_get hn i x hx) j v hv
theorem st_P {w : World} {g : Nat} {cur : List Pl} {i : Nat} (y : Pl) (hb : Box w g 87 (plL cur).toArray) (hi : i < cur.length) : (storeVar 87 ⟨g, 0 + i * 15, none⟩ (.agg (Pl.cells y))).run Try.prog w = .ok () (w.setRow g (plL (cur.set i y)).toArray) := by
  have h := run_store_at (off := 0 + i * 15) (ty := 87) (vs := y.cs) (v := .agg y.cells) hb rfl Try.size87 (by rw [plL_len, Nat.zero_add]; show i * 15 + 15 ≤ cur.length * 15; omega) y.oneL
  rw [h, Nat.zero_add, plL_set _ _ _ hi]
theorem lay_P {w : World} {g N i : Nat} {f : Nat → Pl} (y : Pl) (hb : Box w g 87 (plL (tab N (upt f plZ i))).toArray) (hi : i < N) (hy : f i = y) : (storeVar 87 ⟨g, 0 + i * 15, none⟩ (.agg (Pl.cells y))).run Try.prog w = .ok () (w.setRow g (plL (tab N (upt f plZ (i + 1)))).toArray) := by
  rw [st_P y hb (by rw [tab_len]; exact hi), upt_set hi hy]
theorem row_P {w : World} {g : Nat} {xs : List Pl} (hb : Box w g 87 (plL xs).toArray) {i : Nat} {x : Pl} (hx : xs[i]? = some x) : ∀ (j : Nat) v, x.cs[j]? = some v → w.cell? ⟨g, 0 + i * 15 + j, none⟩ = some v := by
  intro j v hv
  rw [hb.cell, Nat.zero_add, List.getElem?_toArray]
  exact flat_get 15 (xs.map Pl.cs) (plL_c xs) i x.cs (by rw [List.getElem?_map, hx]; rfl) j v hv
theorem rd_P {w : World} {g : Nat} {s : Sl} {xs : List Pl} (hn : xs.length = s.l) (hb : Box w g 87 (plL (tab (s.l + 67) (lntP s.l xs))).toArray) : RdP w (lent s g) xs := by
  refine ⟨fun i it hi => ⟨g, 0, rfl, fun j v hv => ?_⟩, hn, fun e => by cases e⟩
  rw [List.getElem?_map] at hi
  cases hx : xs[i]? with
  | none => rw [hx] at hi; cases hi
  | some x =>
    rw [hx] at hi
    cases hi
    exact row_P hb (lnt_get hn i x hx) j v hv
theorem cpy_E {w : World} {g : Nat} {s : Sl} {es : List En} (ty : TypeId) (hb : Box w g 110 (enL (List.replicate (s.l + 67) enZ)).toArray) (he : RdE w s es) : (Builtin.copy_ #[29, 29] ty #[.slice (some ⟨g, 0, none⟩) (s.l + 67) (s.l + 67), s.v]).run Try.prog w = .ok (goInt s.l) (w.setRow g (enL (tab (s.l + 67) (upt (lntE s.l es) enZ s.l))).toArray) := by
  obtain ⟨ea, en, ec⟩ := s
  dsimp only at hb ⊢
  have hl : es.length = en := he.len
  unfold lntE
  rw [← app_tab _ _ 67 hl]
  have hp : putL (enL (List.replicate (en + 67) enZ)) 0 (enL es) = enL (es ++ List.replicate 67 enZ) := by
    rw [enL_app]
    unfold putL
    rw [List.take_zero, List.nil_append, Nat.zero_add, enL_len, hl, ← List.replicate_append_replicate, enL_app, List.drop_append_of_le_length (by rw [enL_len, List.length_replicate]; exact Nat.le_refl _), List.drop_of_length_le (by rw [enL_len, List.length_replicate]; exact Nat.le_refl _)]
    rfl
  show (Builtin.copy_ #[29, 29] ty #[.slice (some ⟨g, 0, none⟩) (en + 67) (en + 67), .slice ea en ec]).run Try.prog w = .ok (goInt en) (w.setRow g (enL (es ++ List.replicate 67 enZ)).toArray)
  cases ea with
  | none =>
    have hes : es = [] := by
      cases es with
      | nil => rfl
      | cons x r =>
        obtain ⟨b, off, e, _⟩ := he.row 0 x.cs rfl
        cases e
    subst hes
    have hn : en = 0 := hl.symm
    subst hn
    have : (Builtin.copy_ #[29, 29] ty #[.slice (some ⟨g, 0, none⟩) (0 + 67) (0 + 67), .slice none 0 ec]).run Try.prog w = .ok (goInt 0) w := by
      simp [Builtin.copy_, run_underlying Try.und29, Builtin.lenOf, size_of Try.size110, run_firstCells_none, storeCells]
    rw [this]
    rw [show w.setRow g (enL ([] ++ List.replicate 67 enZ)).toArray = w from setRow_self hb]
    rfl
  | some ad =>
    rw [← hp]
    exact run_copyN 29 ty 110 4 Try.und29 Try.size110 hb (en + 67) (en + 67) ad en ec en (by omega) (enL es) (by rw [enL_len, hl]) (fun j u h => by
      obtain ⟨ad', e1, e2⟩ := he.src j u h
      cases e1; exact e2) (by rw [Nat.zero_add, enL_len, enL_len, List.length_replicate, hl]; omega) (enL_one _)
theorem cpy_L {w : World} {g : Nat} {s : Sl} {es : List La} (ty : TypeId) (hb : Box w g 113 (laL (List.replicate (s.l + 67) laZ)).toArray) (he : RdL w s es) : (Builtin.copy_ #[30, 30] ty #[.slice (some ⟨g, 0, none⟩) (s.l + 67) (s.l + 67), s.v]).run Try.prog w = .ok (goInt s.l) (w.setRow g (laL (tab (s.l + 67) (upt (lntL s.l es) laZ s.l))).toArray) := by
  obtain ⟨ea, en, ec⟩ := s
  dsimp only at hb ⊢
  have hl : es.length = en := he.len
  unfold lntL
  rw [← app_tab _ _ 67 hl]
  have hp : putL (laL (List.replicate (en + 67) laZ)) 0 (laL es) = laL (es ++ List.replicate 67 laZ) := by
    rw [laL_app]
    unfold putL
    rw [List.take_zero, List.nil_append, Nat.zero_add, laL_len, hl, ← List.replicate_append_replicate, laL_app, List.drop_append_of_le_length (by rw [laL_len, List.length_replicate]; exact Nat.le_refl _), List.drop_of_length_le (by rw [laL_len, List.length_replicate]; exact Nat.le_refl _)]
    rfl
  show (Builtin.copy_ #[30, 30] ty #[.slice (some ⟨g, 0, none⟩) (en + 67) (en + 67), .slice ea en ec]).run Try.prog w = .ok (goInt en) (w.setRow g (laL (es ++ List.replicate 67 laZ)).toArray)
  cases ea with
  | none =>
    have hes : es = [] := by
      cases es with
      | nil => rfl
      | cons x r =>
        obtain ⟨b, off, e, _⟩ := he.row 0 x.cs rfl
        cases e
    subst hes
    have hn : en = 0 := hl.symm
    subst hn
    have : (Builtin.copy_ #[30, 30] ty #[.slice (some ⟨g, 0, none⟩) (0 + 67) (0 + 67), .slice none 0 ec]).run Try.prog w = .ok (goInt 0) w := by
      simp [Builtin.copy_, run_underlying Try.und30, Builtin.lenOf, size_of Try.size113, run_firstCells_none, storeCells]
    rw [this]
    rw [show w.setRow g (laL ([] ++ List.replicate 67 laZ)).toArray = w from setRow_self hb]
    rfl
  | some ad =>
    rw [← hp]
    exact run_copyN 30 ty 113 7 Try.und30 Try.size113 hb (en + 67) (en + 67) ad en ec en (by omega) (laL es) (by rw [laL_len, hl]) (fun j u h => by
      obtain ⟨ad', e1, e2⟩ := he.src j u h
      cases e1; exact e2) (by rw [Nat.zero_add, laL_len, laL_len, List.length_replicate, hl]; omega) (laL_one _)
theorem cpy_B {w : World} {g : Nat} {s : Sl} {es : List Int} (ty : TypeId) (hb : Box w g 5 (u8L (List.replicate (s.l + 67) 0)).toArray) (he : RdB w s es) : (Builtin.copy_ #[26, 26] ty #[.slice (some ⟨g, 0, none⟩) (s.l + 67) (s.l + 67), s.v]).run Try.prog w = .ok (goInt s.l) (w.setRow g (u8L (tab (s.l + 67) (upt (lntB s.l es) 0 s.l))).toArray) := by
  obtain ⟨ea, en, ec⟩ := s
  dsimp only at hb ⊢
  have hl : es.length = en := he.len
  unfold lntB
  rw [← app_tab _ _ 67 hl]
  have hp : putL (u8L (List.replicate (en + 67) 0)) 0 (u8L es) = u8L (es ++ List.replicate 67 0) := by
    rw [u8L_app]
    unfold putL
    rw [List.take_zero, List.nil_append, Nat.zero_add, u8L_len, hl, ← List.replicate_append_replicate, u8L_app, List.drop_append_of_le_length (by rw [u8L_len, List.length_replicate]; exact Nat.le_refl _), List.drop_of_length_le (by rw [u8L_len, List.length_replicate]; exact Nat.le_refl _)]
    rfl
  show (Builtin.copy_ #[26, 26] ty #[.slice (some ⟨g, 0, none⟩) (en + 67) (en + 67), .slice ea en ec]).run Try.prog w = .ok (goInt en) (w.setRow g (u8L (es ++ List.replicate 67 0)).toArray)
  cases ea with
  | none =>
    have hes : es = [] := by
      cases es with
      | nil => rfl
      | cons x r =>
        obtain ⟨b, off, e, _⟩ := he.row 0 (by simp)
        cases e
    subst hes
    have hn : en = 0 := hl.symm
    subst hn
    have : (Builtin.copy_ #[26, 26] ty #[.slice (some ⟨g, 0, none⟩) (0 + 67) (0 + 67), .slice none 0 ec]).run Try.prog w = .ok (goInt 0) w := by
      simp [Builtin.copy_, run_underlying Try.und26, Builtin.lenOf, size_of Try.size5, run_firstCells_none, storeCells]
    rw [this]
    rw [show w.setRow g (u8L ([] ++ List.replicate 67 0)).toArray = w from setRow_self hb]
    rfl
  | some ad =>
    rw [← hp]
    exact run_copyN 26 ty 5 1 Try.und26 Try.size5 hb (en + 67) (en + 67) ad en ec en (by omega) (u8L es) (by rw [u8L_len, hl]; omega) (fun j u h => by
      obtain ⟨ad', e1, e2⟩ := he.src j u h
      cases e1; exact e2) (by rw [Nat.zero_add, u8L_len, u8L_len, List.length_replicate, hl]; omega) (u8L_one _)
theorem st_B {w : World} {g : Nat} {cur : List Int} {i : Nat} (y : Int) (hb : Box w g 5 (u8L cur).toArray) (hi : i < cur.length) : (storeVar 5 ⟨g, 0 + i * 1, none⟩ (.int .u8 y)).run Try.prog w = .ok () (w.setRow g (u8L (cur.set i y)).toArray) := by
  have h := run_store_at (off := 0 + i * 1) (ty := 5) (vs := [.int .u8 y]) (v := .int .u8 y) hb rfl Try.size5 (by rw [u8L_len, Nat.zero_add]; show i * 1 + 1 ≤ cur.length; omega) (by simp [Value.oneCell'])
  rw [h, Nat.zero_add, Nat.mul_one, u8L_set _ _ _ hi]
theorem lay_B {w : World} {g N i : Nat} {f : Nat → Int} (y : Int) (hb : Box w g 5 (u8L (tab N (upt f 0 i))).toArray) (hi : i < N) (hy : f i = y) : (storeVar 5 ⟨g, 0 + i * 1, none⟩ (.int .u8 y)).run Try.prog w = .ok () (w.setRow g (u8L (tab N (upt f 0 (i + 1)))).toArray) := by
  rw [st_B y hb (by rw [tab_len]; exact hi), upt_set hi hy]
theorem rd_B {w : World} {g : Nat} {s : Sl} {xs : List Int} (hn : xs.length = s.l) (hb : Box w g 5 (u8L (tab (s.l + 67) (lntB s.l xs))).toArray) : RdB w (lent s g) xs := by
  refine ⟨fun i hi => ⟨g, 0, rfl, ?_⟩, hn, fun e => by cases e⟩
  rw [hb.cell, Nat.zero_add, List.getElem?_toArray, u8L, List.getElem?_map, show (tab (s.l + 67) (lntB s.l xs))[i]? = _ from lnt_get hn i (xs[i]?.getD 0) (by rw [List.getElem?_eq_getElem hi]; rfl)]
  rfl

end Go.Proofs.Ytcgnbpaaalmkoaa
