import Derived.Test.YtcgnbpaaalmkoaaHb
namespace Go.Proofs.Ytcgnbpaaalmkoaa
open Go.RowKit
set_option linter.unusedVariables false
set_option linter.unusedSimpArgs false

/-- What a server holds, with the lists of it. -/
structure Sv where
  h : Hd
  b : List Int
  e : List En
  l : List La
  p : List Pl
def Sv.at (W : World) (x : Sv) : Prop := HdAt W x.h x.b x.e x.l x.p
def Sv.wl (x : Sv) : Prop := Wl x.h x.b x.e x.l x.p
def Sv.off (G : Nat → Prop) (x : Sv) : Prop := HdOff G x.h x.b x.e x.l x.p
def Sv.kn (x : Sv) (i : Int) : Bool := knowB x.h x.p i
def Sv.st (x : Sv) : Sp := x.h.b.s
def MemS (W : World) (n : Nat) (X : Nat → Sv) : Prop := ∀ j, j < n → (X j).at W
def OffS (G : Nat → Prop) (n : Nat) (X : Nat → Sv) : Prop := ∀ j, j < n → (X j).off G
def WlS (n : Nat) (X : Nat → Sv) : Prop := ∀ j, j < n → (X j).wl
def updS (X : Nat → Sv) (a : Nat) (y : Sv) : Nat → Sv := fun j => if j = a then y else X j
theorem updS_at (X : Nat → Sv) (a : Nat) (y : Sv) : updS X a y a = y := if_pos rfl
theorem updS_ne (X : Nat → Sv) {a j : Nat} (y : Sv) (h : j ≠ a) : updS X a y j = X j := if_neg h
theorem MemS.no {W W' : World} {n : Nat} {X : Nat → Sv} (h : MemS W n X) (hk : Kept No W W') : MemS W' n X := fun j hj => HdAt.no (h j hj) hk
theorem MemS.kept {W W' : World} {S G : Nat → Prop} {n : Nat} {X : Nat → Sv} (h : MemS W n X) (ho : OffS G n X) (hk : Kept S W W') (hS : ∀ k, S k → G k) : MemS W' n X := fun j hj => HdAt.keptG (h j hj) (ho j hj) hk hS
theorem MemS.upd {W : World} {n : Nat} {X : Nat → Sv} (h : MemS W n X) (a : Nat) {y : Sv} (hy : y.at W) : MemS W n (updS X a y) := fun j hj => by
  unfold updS
  split
  · exact hy
  · exact h j hj
theorem OffS.upd {G : Nat → Prop} {n : Nat} {X : Nat → Sv} (h : OffS G n X) (a : Nat) {y : Sv} (hy : y.off G) : OffS G n (updS X a y) := fun j hj => by
  unfold updS
  split
  · exact hy
  · exact h j hj
theorem WlS.upd {n : Nat} {X : Nat → Sv} (h : WlS n X) (a : Nat) {y : Sv} (hy : y.wl) : WlS n (updS X a y) := fun j hj => by
  unfold updS
  split
  · exact hy
  · exact h j hj
theorem MemS.snoc {W : World} {n : Nat} {X : Nat → Sv} (h : MemS W n X) {y : Sv} (hy : y.at W) : MemS W (n + 1) (updS X n y) := fun j hj => by
  unfold updS
  split
  · exact hy
  · exact h j (by omega)
theorem OffS.snoc {G : Nat → Prop} {n : Nat} {X : Nat → Sv} (h : OffS G n X) {y : Sv} (hy : y.off G) : OffS G (n + 1) (updS X n y) := fun j hj => by
  unfold updS
  split
  · exact hy
  · exact h j (by omega)
theorem WlS.snoc {n : Nat} {X : Nat → Sv} (h : WlS n X) {y : Sv} (hy : y.wl) : WlS (n + 1) (updS X n y) := fun j hj => by
  unfold updS
  split
  · exact hy
  · exact h j (by omega)
theorem OffS.of {G G1 : Nat → Prop} {W : World} {n : Nat} {X : Nat → Sv} (h : OffS G1 n X) (hm : MemS W n X) (hG : ∀ k, G k → G1 k ∨ W.heap.size ≤ k) : OffS G n X := fun j hj =>
  HdOff.of (G2 := fun k => W.heap.size ≤ k) (h j hj) (HdOff.start (hm j hj) (fun k e => e)) hG
theorem OffS.mono {G G' : Nat → Prop} {n : Nat} {X : Nat → Sv} (h : OffS G n X) (hG : ∀ k, G' k → G k) : OffS G' n X := fun j hj => HdOff.mono (h j hj) hG
/-- Stamps are in one order. -/
theorem less_iff (a b : Sp) : lessB a b = true ↔ a.n < b.n ∨ (a.n = b.n ∧ a.c < b.c) := by
  unfold lessB
  by_cases e : a.n = b.n
  · rw [if_pos (by simpa using e)]
    constructor
    · intro h; exact .inr ⟨e, of_decide_eq_true h⟩
    · intro h; exact decide_eq_true (by omega)
  · rw [if_neg (by simpa using e)]
    constructor
    · intro h; exact .inl (of_decide_eq_true h)
    · intro h; exact decide_eq_true (by omega)
theorem less_no (a b : Sp) : lessB a b = false ↔ ¬ (a.n < b.n ∨ (a.n = b.n ∧ a.c < b.c)) := by
  rw [← less_iff]; simp
theorem ge_trans {a b c : Sp} (h : lessB a b = false) (k : lessB b c = false) : lessB a c = false := by
  rw [less_no] at h k ⊢; omega
theorem ge_anti {a b : Sp} (h : lessB a b = false) (k : lessB b a = false) : a = b := by
  rw [less_no] at h k
  obtain ⟨n, c⟩ := a
  obtain ⟨m, d⟩ := b
  simp only at h k
  have e1 : n = m := by omega
  have e2 : c = d := by omega
  rw [e1, e2]
/-- What stands behind some of the mends. -/
structure AllI (n : Nat) (X0 X : Nat → Sv) (D : Nat → Prop) : Prop where
  kn : ∀ j, j < n → ∀ i, (X0 j).kn i = true → (X j).kn i = true
  st : ∀ j, j < n → ∃ m, m < n ∧ (X j).st = (X0 m).st
  ge : ∀ j, j < n → lessB (X j).st (X0 j).st = false
  dk : ∀ p, D p → p / n ≠ p % n → ∀ i, (X0 (p % n)).kn i = true → (X (p / n)).kn i = true
  ds : ∀ p, D p → p / n ≠ p % n → lessB (X (p / n)).st (X0 (p % n)).st = false
theorem AllI.start (n : Nat) (X : Nat → Sv) : AllI n X X (fun _ => False) := ⟨fun _ _ _ h => h, fun j hj => ⟨j, hj, rfl⟩, fun _ _ => less_irr _, fun _ h => h.elim, fun _ h => h.elim⟩
theorem AllI.mono {n : Nat} {X0 X : Nat → Sv} {D D' : Nat → Prop} (h : AllI n X0 X D) (hD : ∀ p, D' p → p / n ≠ p % n → D p) : AllI n X0 X D' := ⟨h.kn, h.st, h.ge, fun p hp hn => h.dk p (hD p hp hn) hn, fun p hp hn => h.ds p (hD p hp hn) hn⟩
theorem AllI.next {n : Nat} {X0 X : Nat → Sv} {D : Nat → Prop} (h : AllI n X0 X D) {q : Nat} {x y : Sv} {e1 e2 : Int} {t1 t2 : Nat} (hn : 0 < n) (hq : q / n < n)
    (h1 : RowE 1 e1 (X (q / n)).h x.h (X (q % n)).h (X (q / n)).p x.p (X (q % n)).p t1) (h2 : RowE 2 e2 x.h y.h (X (q % n)).h x.p y.p (X (q % n)).p t2) : AllI n X0 (updS X (q / n) y) (fun p => D p ∨ p = q) := by
  have hb : q % n < n := Nat.mod_lt _ hn
  have kna : ∀ i, (X (q / n)).kn i = true → y.kn i = true := fun i hi => h2.kn i (h1.kn i hi)
  have sy : y.st = x.st := by
    rcases h2.st with e | e
    · exact e
    · exact absurd e.1 (by decide)
  have gy : lessB y.st (X (q / n)).st = false := by
    rw [sy]
    rcases h1.st with e | ⟨_, e, f⟩
    · show lessB x.h.b.s (X (q / n)).h.b.s = false
      rw [e]; exact less_irr _
    · show lessB x.h.b.s (X (q / n)).h.b.s = false
      rw [e]; exact less_as f
  have gb : lessB y.st (X (q % n)).st = false := by rw [sy]; exact h1.sl rfl
  refine ⟨fun j hj i hi => ?_, fun j hj => ?_, fun j hj => ?_, fun p hp hd i hi => ?_, fun p hp hd => ?_⟩
  · by_cases e : j = q / n
    · subst e; rw [updS_at]; exact kna i (h.kn _ hj i hi)
    · rw [updS_ne _ _ e]; exact h.kn j hj i hi
  · by_cases e : j = q / n
    · subst e; rw [updS_at, sy]
      rcases h1.st with e | ⟨_, e, f⟩
      · obtain ⟨m, hm, em⟩ := h.st _ hj
        exact ⟨m, hm, Eq.trans e em⟩
      · obtain ⟨m, hm, em⟩ := h.st _ hb
        exact ⟨m, hm, Eq.trans e em⟩
    · rw [updS_ne _ _ e]; exact h.st j hj
  · by_cases e : j = q / n
    · subst e; rw [updS_at]; exact ge_trans gy (h.ge _ hj)
    · rw [updS_ne _ _ e]; exact h.ge j hj
  · by_cases e : p / n = q / n
    · rw [e, updS_at]
      rcases hp with hp | hp
      · exact kna i (e ▸ h.dk p hp hd i hi)
      · subst hp; exact h2.kb rfl i (h.kn _ hb i hi)
    · rw [updS_ne _ _ e]
      rcases hp with hp | hp
      · exact h.dk p hp hd i hi
      · subst hp; exact absurd rfl e
  · by_cases e : p / n = q / n
    · rw [e, updS_at]
      rcases hp with hp | hp
      · exact ge_trans gy (e ▸ h.ds p hp hd)
      · subst hp; exact ge_trans gb (h.ge _ hb)
    · rw [updS_ne _ _ e]
      rcases hp with hp | hp
      · exact h.ds p hp hd
      · subst hp; exact absurd rfl e
theorem pair_dm {n i m : Nat} (hi : i < n) (hm : m < n) : i * n + m < n * n ∧ (i * n + m) / n = i ∧ (i * n + m) % n = m := by
  have h0 : 0 < n := by omega
  refine ⟨?_, ?_, ?_⟩
  · have : (i + 1) * n ≤ n * n := Nat.mul_le_mul_right n hi
    rw [Nat.add_mul, Nat.one_mul] at this
    omega
  · rw [Nat.add_comm, Nat.add_mul_div_right _ _ h0, Nat.div_eq_of_lt hm, Nat.zero_add]
  · rw [Nat.add_comm, Nat.add_mul_mod_self_right]; exact Nat.mod_eq_of_lt hm
structure AllE (n : Nat) (X0 X : Nat → Sv) : Prop where
  kn : ∀ i m, i < n → m < n → ∀ t, (X0 m).kn t = true → (X i).kn t = true
  st : ∀ i, i < n → (X i).st = (X 0).st
theorem AllI.done {n : Nat} {X0 X : Nat → Sv} {D : Nat → Prop} (h : AllI n X0 X D) (hD : ∀ q, q < n * n → D q) : AllE n X0 X := by
  have hkn : ∀ i m, i < n → m < n → ∀ t, (X0 m).kn t = true → (X i).kn t = true := fun i m hi hm t ht => by
    obtain ⟨p1, p2, p3⟩ := pair_dm hi hm
    by_cases e : i = m
    · subst e; exact h.kn i hi t ht
    · have := h.dk _ (hD _ p1) (by rw [p2, p3]; exact e) t
      rw [p2, p3] at this
      exact this ht
  have hge : ∀ i m, i < n → m < n → lessB (X i).st (X0 m).st = false := fun i m hi hm => by
    obtain ⟨p1, p2, p3⟩ := pair_dm hi hm
    by_cases e : i = m
    · subst e; exact h.ge i hi
    · have := h.ds _ (hD _ p1) (by rw [p2, p3]; exact e)
      rw [p2, p3] at this
      exact this
  refine ⟨hkn, fun i hi => ?_⟩
  have h0 : 0 < n := by omega
  obtain ⟨m, hm, em⟩ := h.st i hi
  obtain ⟨m0, hm0, em0⟩ := h.st 0 h0
  exact ge_anti (by rw [em0]; exact hge i m0 hi hm0) (by rw [em]; exact hge 0 m h0 hm)
theorem BlF.inj {s : Sp} {a b : List Int} (h : BlF s a) (k : BlF s b) : a = b := by
  rcases h with ⟨h1, h2⟩ | ⟨h1, h2⟩
  · rcases k with ⟨k1, k2⟩ | ⟨k1, k2⟩
    · rw [h2, k2]
    · rw [h1] at k1; exact absurd k1 (by decide)
  · rcases k with ⟨k1, k2⟩ | ⟨k1, k2⟩
    · rw [k1] at h1; exact absurd h1 (by decide)
    · rw [h2, k2]
theorem AllE.byte {n : Nat} {X0 X : Nat → Sv} (h : AllE n X0 X) (hw : WlS n X) {i : Nat} (hi : i < n) : (X i).b = (X 0).b := by
  have h1 : BlF (X i).h.b.s (X i).b := (hw i hi).bl
  have h2 : BlF (X 0).h.b.s (X 0).b := (hw 0 (by omega)).bl
  have e : (X i).h.b.s = (X 0).h.b.s := h.st i hi
  rw [e] at h1
  exact h1.inj h2
/-- Rows of what is held. -/
def hdL (es : List Hd) : List Value := (es.map Hd.cs).flatten
theorem hdL_c (es : List Hd) : ∀ x ∈ es.map Hd.cs, x.length = 7 := by intro x hx; obtain ⟨e, _, rfl⟩ := List.mem_map.1 hx; rfl
theorem hdL_len (es : List Hd) : (hdL es).length = es.length * 7 := by unfold hdL; rw [flat_len 7 _ (hdL_c es), List.length_map]
theorem hdL_app (a b : List Hd) : hdL (a ++ b) = hdL a ++ hdL b := by simp [hdL]
theorem hdL_1 (e : Hd) : hdL [e] = e.cs := by simp [hdL]
theorem hdL_set (es : List Hd) (sp : List Value) (i : Nat) (e : Hd) (hi : i < es.length) : putL (hdL es ++ sp) (i * 7) e.cs = hdL (es.set i e) ++ sp := by
  have h : es = es.take i ++ ([es[i]] ++ es.drop (i + 1)) := by simp
  have h2 : es.set i e = es.take i ++ ([e] ++ es.drop (i + 1)) := by rw [List.set_eq_take_append_cons_drop]; simp [hi]
  have hl : (hdL (es.take i)).length = i * 7 := by rw [hdL_len, List.length_take]; congr 1; omega
  have h3 : hdL es = hdL (es.take i) ++ ((es[i]).cs ++ hdL (es.drop (i + 1))) := by
    conv => lhs; rw [h]
    rw [hdL_app, hdL_app, hdL_1]
  rw [h2, hdL_app, hdL_app, hdL_1, h3]
  rw [← hl]
  unfold putL
  have hc : (es[i]).cs.length = e.cs.length := rfl
  simp only [List.append_assoc]
  rw [List.take_left', ← hc, ← List.drop_drop, List.drop_left', List.drop_left']
  all_goals rfl
def svL (n : Nat) (X : Nat → Sv) : List Value := hdL (tab n (fun j => (X j).h))
theorem svL_len (n : Nat) (X : Nat → Sv) : (svL n X).length = n * 7 := by unfold svL; rw [hdL_len, tab_len]
theorem svL_succ (n : Nat) (X : Nat → Sv) (y : Sv) : svL (n + 1) (updS X n y) = svL n X ++ y.h.cs := by
  have e1 : tab n (fun j => (updS X n y j).h) = tab n (fun j => (X j).h) := tab_ext (fun j hj => by rw [updS_ne _ _ (by omega)])
  unfold svL
  rw [tab_succ, hdL_app, hdL_1, e1, updS_at]
theorem row_V {w : World} {g n : Nat} {X : Nat → Sv} {sp : List Value} (hb : Box w g 35 (svL n X ++ sp).toArray) {i : Nat} (hi : i < n) : ∀ (j : Nat) v, (X i).h.cs[j]? = some v → w.cell? ⟨g, 0 + i * 7 + j, none⟩ = some v := by
  intro j v hv
  rw [hb.cell, Nat.zero_add, List.getElem?_toArray]
  have h : (svL n X)[i * 7 + j]? = some v := flat_get 7 ((tab n (fun j => (X j).h)).map Hd.cs) (hdL_c _) i (X i).h.cs (by rw [List.getElem?_map, tab_get hi]; rfl) j v hv
  have hlt := (List.getElem?_eq_some_iff.1 h).1
  rw [List.getElem?_append_left hlt]
  exact h
theorem part_V {w : World} {g n : Nat} {X : Nat → Sv} {sp : List Value} (hb : Box w g 35 (svL n X ++ sp).toArray) {i : Nat} (hi : i < n) {off : Nat} {sub : List Value} (hp : Part (X i).h.cs off sub) : ∀ (j : Nat) v, sub[j]? = some v → w.cell? ⟨g, 0 + i * 7 + off + j, none⟩ = some v := fun j v hv => by
  have := row_V hb hi (off + j) v (hp j v hv)
  rwa [← Nat.add_assoc] at this
theorem st_V {w : World} {g n : Nat} {X : Nat → Sv} {sp : List Value} {i : Nat} (y : Sv) (hb : Box w g 35 (svL n X ++ sp).toArray) (hi : i < n) : (storeVar 35 ⟨g, 0 + i * 7, none⟩ (.agg (Hd.cells y.h))).run Try.prog w = .ok () (w.setRow g (svL n (updS X i y) ++ sp).toArray) := by
  have h := run_store_at (off := 0 + i * 7) (ty := 35) (vs := y.h.cs) (v := .agg y.h.cells) hb rfl Try.size35 (by rw [List.length_append, svL_len, Nat.zero_add]; show i * 7 + 7 ≤ _; omega) (Hd.oneL _)
  rw [h, Nat.zero_add]
  unfold svL
  rw [hdL_set _ _ _ _ (by rw [tab_len]; exact hi), tab_set (f' := fun j => (updS X i y j).h) hi (fun j _ hne => by rw [updS_ne _ _ hne]) (by rw [updS_at])]
theorem cell_hd (e : Hd) (j : Nat) (u : Value) (h : e.cs[j]? = some u) : e.cells[j]? = some u := by unfold Hd.cells; rw [List.getElem?_toArray]; exact h
/-- Rows of numbers. -/
def nuL (n : Nat) (f : Nat → Nat) : List Value := tab n (fun j => Value.int .i64 ((f j : Nat) : Int))
theorem nuL_len (n : Nat) (f : Nat → Nat) : (nuL n f).length = n := tab_len _ _
theorem nuL_succ (n : Nat) (f : Nat → Nat) : nuL (n + 1) f = nuL n f ++ [.int .i64 ((f n : Nat) : Int)] := tab_succ _ _
theorem row_N {w : World} {g n : Nat} {f : Nat → Nat} {sp : List Value} (hb : Box w g 3 (nuL n f ++ sp).toArray) {i : Nat} (hi : i < n) : w.cell? ⟨g, 0 + i * 1, none⟩ = some (.int .i64 ((f i : Nat) : Int)) := by
  rw [hb.cell, Nat.zero_add, Nat.mul_one, List.getElem?_toArray, List.getElem?_append_left (by rw [nuL_len]; exact hi)]
  exact tab_get hi
def updN (f : Nat → Nat) (a v : Nat) : Nat → Nat := fun j => if j = a then v else f j
theorem st_N {w : World} {g n : Nat} {f : Nat → Nat} {sp : List Value} {i : Nat} (v : Nat) (hb : Box w g 3 (nuL n f ++ sp).toArray) (hi : i < n) : (storeVar 3 ⟨g, 0 + i * 1, none⟩ (.int .i64 ((v : Nat) : Int))).run Try.prog w = .ok () (w.setRow g (nuL n (updN f i v) ++ sp).toArray) := by
  have h := run_store_at (off := 0 + i * 1) (ty := 3) (vs := [.int .i64 ((v : Nat) : Int)]) (v := .int .i64 ((v : Nat) : Int)) hb rfl Try.size3 (by rw [List.length_append, nuL_len, Nat.zero_add, Nat.mul_one]; show i + 1 ≤ _; omega) (by simp [Value.oneCell'])
  rw [h, Nat.zero_add, Nat.mul_one]
  have e : putL (nuL n f ++ sp) i [.int .i64 ((v : Nat) : Int)] = nuL n (updN f i v) ++ sp := by
    have e1 : nuL n (updN f i v) = (nuL n f).set i (.int .i64 ((v : Nat) : Int)) := by
      unfold nuL
      exact (tab_set hi (fun j _ hne => by simp [updN, hne]) (by simp [updN])).symm
    have e2 : (nuL n f ++ sp).set i (.int .i64 ((v : Nat) : Int)) = (nuL n f).set i (.int .i64 ((v : Nat) : Int)) ++ sp := List.set_append_left _ _ (by rw [nuL_len]; exact hi)
    rw [e1, ← e2, List.set_eq_take_append_cons_drop, if_pos (by rw [List.length_append, nuL_len]; omega)]
    unfold putL
    simp
  rw [e]
/-- All pairs, in some order. -/
structure Perm (n : Nat) (f : Nat → Nat) : Prop where
  lt : ∀ i, i < n → f i < n
  on : ∀ v, v < n → ∃ i, i < n ∧ f i = v
theorem Perm.id (n : Nat) : Perm n (fun j => j) := ⟨fun _ h => h, fun v h => ⟨v, h, rfl⟩⟩
theorem Perm.swap {n : Nat} {f : Nat → Nat} (h : Perm n f) {a b : Nat} (ha : a < n) (hb : b < n) : Perm n (updN (updN f a (f b)) b (f a)) := by
  refine ⟨fun i hi => ?_, fun v hv => ?_⟩
  · unfold updN
    split
    · exact h.lt a ha
    · split
      · exact h.lt b hb
      · exact h.lt i hi
  · obtain ⟨i, hi, e⟩ := h.on v hv
    by_cases e1 : i = a
    · exact ⟨b, hb, by simp [updN]; rw [← e1]; exact e⟩
    · by_cases e2 : i = b
      · refine ⟨a, ha, ?_⟩
        by_cases e3 : a = b
        · exact absurd (e2.trans e3.symm) e1
        · simp [updN, e3]; rw [← e2]; exact e
      · exact ⟨i, hi, by simp [updN, e1, e2]; exact e⟩
theorem Perm.pairs {N n : Nat} {f : Nat → Nat} {X0 X : Nat → Sv} (h : Perm N f) (hN : N = n * n) (hI : AllI n X0 X (fun q => ∃ i, i < N ∧ q = f i)) : AllE n X0 X := hI.done (fun q hq => by
  obtain ⟨i, hi, e⟩ := h.on q (by omega)
  exact ⟨i, hi, e.symm⟩)
theorem OffS.start {G : Nat → Prop} {W : World} {n : Nat} {X : Nat → Sv} (hm : MemS W n X) (hG : ∀ k, G k → W.heap.size ≤ k) : OffS G n X := fun j hj => HdOff.start (hm j hj) hG
theorem OffS.or {G G1 G2 : Nat → Prop} {n : Nat} {X : Nat → Sv} (h1 : OffS G1 n X) (h2 : OffS G2 n X) (hG : ∀ k, G k → G1 k ∨ G2 k) : OffS G n X := fun j hj => HdOff.of (h1 j hj) (h2 j hj) hG
theorem cell_1v (v : Value) (j : Nat) (u : Value) (h : [v][j]? = some u) : (#[v] : Array Value)[j]? = some u := by rw [show (#[v] : Array Value) = [v].toArray from rfl, List.getElem?_toArray]; exact h
theorem AllI.next2 {n : Nat} {X0 X : Nat → Sv} {D D2 : Nat → Prop} (h : AllI n X0 X D) {q a b : Nat} {x y : Sv} {e1 e2 : Int} {t1 t2 : Nat} (ea : q / n = a) (eb : q % n = b) (ha : a < n)
    (h1 : RowE 1 e1 (X a).h x.h (X b).h (X a).p x.p (X b).p t1) (h2 : RowE 2 e2 x.h y.h (X b).h x.p y.p (X b).p t2) (hD : ∀ p, D2 p → D p ∨ p = q) : AllI n X0 (updS X a y) D2 := by
  subst ea eb
  exact (h.next (Nat.lt_of_le_of_lt (Nat.zero_le _) ha) ha h1 h2).mono (fun p hp _ => hD p hp)
theorem hdL_one (es : List Hd) : ∀ v ∈ hdL es, v.oneCell' = true := by
  intro v hv
  obtain ⟨l, hl, hv2⟩ := List.mem_flatten.1 hv
  obtain ⟨e, _, rfl⟩ := List.mem_map.1 hl
  exact Hd.oneL e v hv2
theorem Own.box {t : TypeId} {c : Nat} {w : World} {base : Nat} {a : Option Addr} {cap n : Nat} {vs : List Value} (h : Own t c w base a cap n vs) (h0 : 0 < n) : ∃ g sp, a = some ⟨g, 0, none⟩ ∧ base ≤ g ∧ Box w g t (vs ++ sp).toArray := by
  rcases h.cases h.1 with ⟨_, _, e⟩ | ⟨g, e, hb, _, sp, hg, _⟩
  · omega
  · exact ⟨g, sp, e, hb, hg⟩
theorem Own.src {t : TypeId} {c : Nat} {w : World} {base : Nat} {a : Option Addr} {cap n : Nat} {vs : List Value} (h : Own t c w base a cap n vs) : ∀ (j : Nat) u, vs[j]? = some u → ∃ ad, a = some ad ∧ w.cell? (ad.add j) = some u := by
  intro j u hu
  rcases h.cases h.1 with ⟨_, _, e⟩ | ⟨g, e, hb, _, sp, hg, _⟩
  · have hl := h.1
    rw [e, Nat.zero_mul] at hl
    have := (List.getElem?_eq_some_iff.1 hu).1
    omega
  · refine ⟨_, e, ?_⟩
    rw [addr_add, Nat.zero_add, (show Box w g t (vs ++ sp).toArray from hg).cell, List.getElem?_toArray, List.getElem?_append_left (List.getElem?_eq_some_iff.1 hu).1]
    exact hu
theorem Try.info35 : (Try.prog.info? 35).map (fun i => (i.zero, i.size, i.bytes)) = some (some (.agg hdZ.cells), 7, 120) := by kernel_rfl
theorem Try.info3 : (Try.prog.info? 3).map (fun i => (i.zero, i.size, i.bytes)) = some (some (.int .i64 0), 1, 8) := by kernel_rfl
theorem exec_sliceN {o : Oper} {a : Act} {w : World} (n : Nat) (t e : TypeId) (parts : Array (Nat × Operand)) (ho : o.op = .buildSlice t n parts) (cells : Array Value) (vs : Array (Nat × Value)) (hp : (parts.map fun (i, x) => (i, a.eval x)) = vs)
    (hrun : (Instr.buildSlice t n vs).run Try.prog w = .ok (.slice (some ⟨w.heap.size, 0, none⟩) n n) (w.alloc (.cells cells e))) : (execOp a.eval o).run Try.prog w = .ok (.value (.slice (some ⟨w.heap.size, 0, none⟩) n n)) (w.alloc (.cells cells e)) := by
  simp only [execOp, ho, hp, Sem.run_bind, hrun, Result.andThen_ok, Sem.run_pure]
theorem b_remN (x y : Nat) (yi : Int) (hy : yi = (y : Int)) (h0 : 0 < y) (w : World) : (binOp .rem 3 (.int .i64 (x : Int)) (.int .i64 yi)).run Try.prog w = .ok (.int .i64 ((x % y : Nat) : Int)) w := by
  subst hy
  rw [binOp_rem]
  unfold Op.intDiv
  rw [if_neg (by omega)]
  show Result.ok (Value.int .i64 ((x : Int).tmod (y : Int))) w = _
  rw [Int.tmod_eq_emod_of_nonneg (by omega)]
  rfl
theorem b_quoN (x y : Nat) (yi : Int) (hy : yi = (y : Int)) (h0 : 0 < y) (hx : x ≤ 4611686018427387904) (w : World) : (binOp .quo 3 (.int .i64 (x : Int)) (.int .i64 yi)).run Try.prog w = .ok (.int .i64 ((x / y : Nat) : Int)) w := by
  subst hy
  rw [binOp_quo]
  unfold Op.intDiv
  rw [if_neg (by omega)]
  show Result.ok (Value.int .i64 (IntKind.i64.wrap ((x : Int).tdiv (y : Int)))) w = _
  have h1 : x / y ≤ x := Nat.div_le_self x y
  rw [Int.tdiv_eq_ediv_of_nonneg (by omega), ← Int.natCast_ediv]
  generalize x / y = z at h1 ⊢
  rw [show IntKind.i64.wrap (z : Int) = (z : Int) by rw [IntKind.wrap_i64]; omega]
theorem b_mulN (x y z : Nat) (h : x * y = z) (hz : z ≤ 4611686018427387904) (w : World) : (binOp .mul 3 (.int .i64 (x : Int)) (.int .i64 (y : Int))).run Try.prog w = .ok (.int .i64 ((z : Nat) : Int)) w := by
  have e : (binOp .mul 3 (.int .i64 (x : Int)) (.int .i64 (y : Int))).run Try.prog w = .ok (.int .i64 (IntKind.i64.wrap ((x : Int) * (y : Int)))) w := by kernel_rfl
  have h2 : IntKind.i64.wrap ((z : Nat) : Int) = ((z : Nat) : Int) := by rw [IntKind.wrap_i64]; omega
  rw [e, ← Int.natCast_mul, h, h2]
theorem cv_by (x : Nat) (h : x < 256) (w : World) : (convert 3 5 (.int .i64 (x : Int))).run Try.prog w = .ok (.int .u8 ((x : Nat) : Int)) w := by
  have e : (convert 3 5 (.int .i64 (x : Int))).run Try.prog w = .ok (.int .u8 (IntKind.u8.wrap (x : Int))) w := by kernel_rfl
  have h2 : IntKind.u8.wrap ((x : Nat) : Int) = ((x : Nat) : Int) := by rw [IntKind.wrap_u8]; omega
  rw [e, h2]
theorem up_le (v : Nat) : v % 7 * (v / 7 % 40) ≤ 1000 := by
  have h1 : v % 7 ≤ 6 := by omega
  have h2 : v / 7 % 40 ≤ 39 := by omega
  have := Nat.mul_le_mul h1 h2
  omega
set_option maxRecDepth 100000 in
set_option maxHeartbeats 1000000 in
theorem rnd_big (v : Int) (n : Nat) (w : World) (hn : 0 < n) (hb : n ≤ 2000000000000) : Calls Try.prog 26 #[.int .i64 v, .int .i64 n] w (fun e w' => ∃ r : Nat, r < n ∧ e = .returned (.int .i64 r) ∧ w' = w) := by
  have hn0 : ¬ (n : Int) = 0 := by omega
  have hn1 : ¬ (n : Int) < 1 := by omega
  have h1 : v.tmod n < n := Int.tmod_lt_of_pos v (by omega)
  have h2 : -(n : Int) < v.tmod n := by
    have := Int.lt_tmod_of_pos v (b := (n : Int)) (by omega)
    omega
  have hm : IntKind.i64.wrap (v.tmod n) = v.tmod n := by rw [IntKind.wrap_i64]; omega
  generalize hq : v.tmod n = q at h1 h2 hm
  have HQ : Hid (v.tmod n = q) := hq
  by_cases hneg : q < 0
  · have e : ∃ r : Nat, (r : Int) = q + n ∧ r < n := ⟨(q + n).toNat, by omega, by omega⟩
    obtain ⟨r, hr, hrn⟩ := e
    have hw : IntKind.i64.wrap (q + n) = r := by rw [← hr, IntKind.wrap_i64]; omega
    go_enter Try.func26, Try.ntmps26
    go_wp2
    go_ret
    exact ⟨r, hrn, by simp_all, rfl⟩
  · have e : ∃ r : Nat, (r : Int) = q ∧ r < n := ⟨q.toNat, by omega, by omega⟩
    obtain ⟨r, hr, hrn⟩ := e
    go_enter Try.func26, Try.ntmps26
    go_wp2
    go_ret
    exact ⟨r, hrn, by simp_all, rfl⟩

end Go.Proofs.Ytcgnbpaaalmkoaa
