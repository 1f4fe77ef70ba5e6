import Derived.Test.YtnhjpghkmbgeaabHo
namespace Go.Proofs.Ytnhjpghkmbgeaab
open Go.RowKit
set_option linter.unusedVariables false
namespace ap

def upd {α : Type} (f : Nat → α) (k : Nat) (v : α) : Nat → α := fun j => if j = k then v else f j
theorem upd_same {α : Type} (f : Nat → α) (k : Nat) (v : α) : upd f k v k = v := if_pos rfl
theorem upd_ne {α : Type} (f : Nat → α) (k : Nat) (v : α) {j : Nat} (h : j ≠ k) : upd f k v j = f j := if_neg h

/-- What is put of these. -/
def rightsM (xs : List Item) : List Item := (xs.filter (fun x => decide (x.m ≤ 65536))).map rightIt
theorem rightsM_take {xs : List Item} {k : Nat} {x : Item} (h : xs[k]? = some x) : rightsM (xs.take (k + 1)) = rightsM (xs.take k) ++ (if x.m ≤ 65536 then [rightIt x] else []) := by
  rw [List.take_add_one, h]
  unfold rightsM
  simp only [Option.toList_some, List.filter_append, List.map_append]
  congr 1
  by_cases hm : x.m ≤ 65536 <;> simp [hm]

/-- A list of things that may be put. -/
structure Its4 (w : World) (Y : List Item) : Prop where
  ok : ∀ x ∈ Y, ItOk w x
  r : ∀ x ∈ Y, ItR x
  m : ∀ x ∈ Y, x.m ≤ 65536
theorem Its4.nil (w : World) : Its4 w [] := ⟨fun x h => by simp at h, fun x h => by simp at h, fun x h => by simp at h⟩
theorem Its4.add {w : World} {Y : List Item} (h : Its4 w Y) {x : Item} (h1 : ItOk w x) (h2 : ItR x) (h3 : x.m ≤ 65536) : Its4 w (Y ++ [x]) := by
  refine ⟨fun y hy => ?_, fun y hy => ?_, fun y hy => ?_⟩ <;> (rcases List.mem_append.1 hy with hy | hy; rotate_left; (rw [List.mem_singleton.1 hy]; assumption))
  · exact h.ok y hy
  · exact h.r y hy
  · exact h.m y hy
theorem Its4.tot {w : World} {Y : List Item} (h : Its4 w Y) (hl : Y.length ≤ 400) : tot Y ≤ 26218400 := by
  have key : ∀ (Y : List Item), (∀ x ∈ Y, x.m ≤ 65536) → Ytnhjpghkmbgeaab.tot Y ≤ Y.length * 65546 := by
    intro Y
    induction Y with
    | nil => intro _; simp [Ytnhjpghkmbgeaab.tot]
    | cons x r ih =>
      intro h
      have := ih (fun y hy => h y (List.mem_cons_of_mem _ hy))
      have h1 := h x (List.mem_cons_self ..)
      have : Ytnhjpghkmbgeaab.tot (x :: r) = (10 + x.m) + Ytnhjpghkmbgeaab.tot r := by simp [Ytnhjpghkmbgeaab.tot]
      simp; omega
  have h1 := key Y h.m
  have h2 : Y.length * 65546 ≤ 400 * 65546 := Nat.mul_le_mul_right _ hl
  omega
theorem Its4.all {w : World} {Y : List Item} (h : Its4 w Y) : allOf Y = some (flat Y) := allOf_flat Y h.r
theorem Its4.len {w : World} {Y : List Item} (h : Its4 w Y) (hl : Y.length ≤ 400) : (flat Y).length ≤ 26218400 := Nat.le_trans (flat_len Y h.ok) (h.tot hl)

/-- What WireApart holds: two Writers (what was put: Z), two lists of what was put (Y), the two lists that came in, where it stands in them (p). -/
structure Ap (w wr : World) (la : Nat → Option Addr) (ln lc : Nat → Nat) (p : Nat → Nat) (Z Y : Nat → List Item) (a : Nat → Option Addr) (c : Nat → Nat) (na : Nat → Option Addr) (nc : Nat → Nat) : Prop where
  W : wr.heap[w.heap.size]? = some (.cells #[.slice (a 0) (flat (Z 0)).length (c 0), .bool false, .slice (a 1) (flat (Z 1)).length (c 1), .bool false] 38 (0, 0))
  N : wr.heap[w.heap.size + 1]? = some (.cells #[.slice (na 0) (Y 0).length (nc 0), .slice (na 1) (Y 1).length (nc 1)] 39 (0, 0))
  L : wr.heap[w.heap.size + 2]? = some (.cells #[.slice (la 0) (ln 0) (lc 0), .slice (la 1) (ln 1) (lc 1)] 39 (0, 0))
  A : wr.heap[w.heap.size + 3]? = some (.cells #[.int .i64 (p 0 : Int), .int .i64 (p 1 : Int)] 40 (0, 0))
  ow : ∀ k, k < 2 → OwnS wr w.heap.size (a k) (c k) (flat (Z k))
  on : ∀ k, k < 2 → OwnI wr w.heap.size (na k) (nc k) (Y k)
  dw : ∀ b, At (a 0) b → ¬ At (a 1) b
  dn : ∀ b, At (na 0) b → ¬ At (na 1) b
  kept : Kept No w wr

section
variable {w wr w' : World} {la : Nat → Option Addr} {ln lc p : Nat → Nat} {Z Y : Nat → List Item} {a : Nat → Option Addr} {c : Nat → Nat} {na : Nat → Option Addr} {nc : Nat → Nat}

theorem Ap.lt (h : Ap w wr la ln lc p Z Y a c na nc) : w.heap.size + 3 < wr.heap.size := (Array.getElem?_eq_some_iff.1 h.A).1
theorem Ap.off {S : Nat → Prop} (h : Ap w wr la ln lc p Z Y a c na nc) (hk : Kept S wr w') (hS : ∀ k, k < wr.heap.size → S k → w.heap.size + 3 < k ∧ ∃ cur t, wr.heap[k]? = some (.cells cur t (0, 0)) ∧ t ≠ 5 ∧ t ≠ 42) : Ap w w' la ln lc p Z Y a c na nc := by
  have hlt := h.lt
  have n0 : ∀ j, j ≤ 3 → ¬ S (w.heap.size + j) := fun j hj hs => by have := (hS _ (by omega) hs).1; omega
  refine ⟨(hk.block _ (by omega) (n0 0 (by omega))).trans h.W, (hk.block _ (by omega) (n0 1 (by omega))).trans h.N, (hk.block _ (by omega) (n0 2 (by omega))).trans h.L, (hk.block _ (by omega) (n0 3 (by omega))).trans h.A, fun k hk2 => (h.ow k hk2).kept hk (fun b hb hs => ?_), fun k hk2 => (h.on k hk2).kept hk (fun b hb hs => ?_), h.dw, h.dn, h.kept.trans hk (fun _ e => e) (fun i hi hs => ?_)⟩
  · obtain ⟨_, cur, t, h1, h2, _⟩ := hS b ((h.ow k hk2).lt hb) hs
    obtain ⟨c2, h3⟩ := (h.ow k hk2).typ hb
    exact typ_ne h3 h1 (fun e => h2 e.symm)
  · obtain ⟨c2, h3⟩ := own_type (h.on k hk2) hb
    obtain ⟨_, cur, t, h1, _, h2⟩ := hS b (Array.getElem?_eq_some_iff.1 h3).1 hs
    exact typ_ne h3 h1 (fun e => h2 e.symm)
  · have := (hS i (by have := h.kept.size; omega) hs).1
    omega
theorem Ap.no (h : Ap w wr la ln lc p Z Y a c na nc) (hk : Kept No wr w') : Ap w w' la ln lc p Z Y a c na nc := h.off hk (fun _ _ e => e.elim)

theorem two (k : Nat) (h : k < 2) : k = 0 ∨ k = 1 := by omega
theorem Ap.cN (h : Ap w wr la ln lc p Z Y a c na nc) {k : Nat} (hk : k < 2) : wr.cell? ⟨w.heap.size + 1, k, none⟩ = some (.slice (na k) (Y k).length (nc k)) := by
  rw [cell_of_row wr _ k _ 39 (0, 0) h.N]; rcases two k hk with rfl | rfl <;> rfl
theorem Ap.cL (h : Ap w wr la ln lc p Z Y a c na nc) {k : Nat} (hk : k < 2) : wr.cell? ⟨w.heap.size + 2, k, none⟩ = some (.slice (la k) (ln k) (lc k)) := by
  rw [cell_of_row wr _ k _ 39 (0, 0) h.L]; rcases two k hk with rfl | rfl <;> rfl
theorem Ap.cA (h : Ap w wr la ln lc p Z Y a c na nc) {k : Nat} (hk : k < 2) : wr.cell? ⟨w.heap.size + 3, k, none⟩ = some (.int .i64 (p k : Int)) := by
  rw [cell_of_row wr _ k _ 40 (0, 0) h.A]; rcases two k hk with rfl | rfl <;> rfl
theorem Ap.fA (h : Ap w wr la ln lc p Z Y a c na nc) (k : Nat) : wr.frozen? ⟨w.heap.size + 3, k, none⟩ = false := frozen_of_row wr _ k _ 40 h.A
theorem Ap.fN (h : Ap w wr la ln lc p Z Y a c na nc) (k : Nat) : wr.frozen? ⟨w.heap.size + 1, k, none⟩ = false := frozen_of_row wr _ k _ 39 h.N

/-- A block of the frame is turned. -/
theorem Ap.own3 (h : Ap w wr la ln lc p Z Y a c na nc) {g : Nat} (hg : g = w.heap.size + 1 ∨ g = w.heap.size + 3) (hk : Kept (Only g) wr w') : (∀ k, k < 2 → OwnS w' w.heap.size (a k) (c k) (flat (Z k))) ∧ (∀ k, k < 2 → OwnI w' w.heap.size (na k) (nc k) (Y k)) ∧ Kept No w w' := by
  have ht : ∃ cur t, wr.heap[g]? = some (.cells cur t (0, 0)) ∧ t ≠ 5 ∧ t ≠ 42 := by
    rcases hg with rfl | rfl
    · exact ⟨_, _, h.N, by decide, by decide⟩
    · exact ⟨_, _, h.A, by decide, by decide⟩
  obtain ⟨cur, t, h1, h2, h4⟩ := ht
  refine ⟨fun k hk2 => (h.ow k hk2).kept hk (fun b hb hs => ?_), fun k hk2 => (h.on k hk2).kept hk (fun b hb hs => ?_), h.kept.trans hk (fun _ e => e) (fun i hi hs => ?_)⟩
  · have e : b = g := hs
    subst e
    obtain ⟨c2, h3⟩ := (h.ow k hk2).typ hb
    exact typ_ne h3 h1 (fun e => h2 e.symm)
  · have e : b = g := hs
    subst e
    obtain ⟨c2, h3⟩ := own_type (h.on k hk2) hb
    exact typ_ne h3 h1 (fun e => h4 e.symm)
  · have e : i = g := hs
    omega

/-- at[k] goes on. -/
theorem Ap.next (h : Ap w wr la ln lc p Z Y a c na nc) {k : Nat} (hk : k < 2) {v : Int} (hv : v = ((p k + 1 : Nat) : Int)) : Ap w (wr.setCell ⟨w.heap.size + 3, k, none⟩ (.int .i64 v)) la ln lc (upd p k (p k + 1)) Z Y a c na nc := by
  subst hv
  have hkp := ((Kept.refl (Only (w.heap.size + 3)) wr).setCell (p := ⟨w.heap.size + 3, k, none⟩) (fun _ => (rfl : w.heap.size + 3 = w.heap.size + 3)) (.int .i64 ((p k + 1 : Nat) : Int)))
  have hlt := h.lt
  obtain ⟨o1, o2, o3⟩ := h.own3 (.inr rfl) hkp
  have ne : ∀ j, j < 3 → ¬ Only (w.heap.size + 3) (w.heap.size + j) := fun j hj e => by have e' : w.heap.size + j = w.heap.size + 3 := e; omega
  refine ⟨(hkp.block _ (by omega) (ne 0 (by omega))).trans h.W, (hkp.block _ (by omega) (ne 1 (by omega))).trans h.N, (hkp.block _ (by omega) (ne 2 (by omega))).trans h.L, ?_, o1, o2, h.dw, h.dn, o3⟩
  rw [heap_setCell_same wr _ k _ 40 _ h.A]
  rcases two k hk with rfl | rfl <;> simp [upd]

/-- The Writer k. -/
def hole (k : Nat) (hk : k < 2) (s' b' : Value) : Hole where
  o := k * 2
  Cs := fun s b => if k = 0 then #[s, b, s', b'] else #[s', b', s, b]
  at0 := by intro s b; rcases two k hk with rfl | rfl <;> simp
  at1 := by intro s b; rcases two k hk with rfl | rfl <;> simp
  set0 := by intro s b x; rcases two k hk with rfl | rfl <;> simp
  set1 := by intro s b x; rcases two k hk with rfl | rfl <;> simp
theorem Ap.wrk (h : Ap w wr la ln lc p Z Y a c na nc) {k : Nat} (hk : k < 2) : Wr (hole k hk (.slice (a (1 - k)) (flat (Z (1 - k))).length (c (1 - k))) (.bool false)) wr w.heap.size w.heap.size (a k) (c k) (flat (Z k)) false := by
  refine ⟨?_, h.ow k hk, Nat.le_refl _⟩
  rw [h.W]
  rcases two k hk with rfl | rfl <;> simp [hole]
/-- Behind a put. -/
theorem Ap.put (h : Ap w wr la ln lc p Z Y a c na nc) {k : Nat} (hk : k < 2) {x : Item} {a' : Option Addr} {c' : Nat}
    (hw : Wr (hole k hk (.slice (a (1 - k)) (flat (Z (1 - k))).length (c (1 - k))) (.bool false)) w' w.heap.size w.heap.size a' c' (flat (Z k ++ [x])) false) (hkp : Kept (WrAt w.heap.size (a k)) wr w') (hm : Moved wr (a k) a') :
    Ap w w' la ln lc p (upd Z k (Z k ++ [x])) Y (upd a k a') (upd c k c') na nc := by
  have hlt := h.lt
  have ho := h.ow (1 - k) (by omega)
  have hdk : ∀ b, At (a (1 - k)) b → ¬ At (a k) b := by
    rcases two k hk with rfl | rfl
    · exact fun b h1 h2 => h.dw b h2 h1
    · exact fun b h1 h2 => h.dw b h1 h2
  have no : ∀ b, At (a (1 - k)) b → ¬ WrAt w.heap.size (a k) b := fun b hb e => by
    rcases e with e | e
    · subst e
      obtain ⟨c2, h3⟩ := ho.typ hb
      exact typ_ne h3 h.W (by decide)
    · exact hdk b hb e
  have ne : ∀ j, 0 < j → j ≤ 3 → ¬ WrAt w.heap.size (a k) (w.heap.size + j) := fun j h0 hj e => by
    rcases e with e | e
    · omega
    · obtain ⟨c2, h3⟩ := (h.ow k hk).typ e
      have h4 : ∃ cur t, wr.heap[w.heap.size + j]? = some (.cells cur t (0, 0)) ∧ 5 ≠ t := by
        have : j = 1 ∨ j = 2 ∨ j = 3 := by omega
        rcases this with rfl | rfl | rfl
        · exact ⟨_, _, h.N, by decide⟩
        · exact ⟨_, _, h.L, by decide⟩
        · exact ⟨_, _, h.A, by decide⟩
      obtain ⟨c3, t, h5, h6⟩ := h4
      exact typ_ne h3 h5 h6
  have ho' := ho.kept hkp no
  refine ⟨?_, (hkp.block _ (by omega) (ne 1 (by omega) (by omega))).trans h.N, (hkp.block _ (by omega) (ne 2 (by omega) (by omega))).trans h.L, (hkp.block _ (by omega) (ne 3 (by omega) (by omega))).trans h.A, fun j hj => ?_, fun j hj => (h.on j hj).kept hkp (fun b hb e => ?_), ?_, h.dn, h.kept.trans hkp (fun _ e => e) (fun i hi e => ?_)⟩
  · have := hw.cell
    rw [this]
    rcases two k hk with rfl | rfl <;> simp [hole, upd]
  · by_cases e : j = k
    · subst e; rw [upd_same, upd_same, upd_same]; exact hw.own
    · rw [upd_ne _ _ _ e, upd_ne _ _ _ e, upd_ne _ _ _ e]
      have : j = 1 - k := by omega
      rw [this]; exact ho'
  · obtain ⟨c2, h3⟩ := own_type (h.on j hj) hb
    rcases e with e | e
    · subst e; exact typ_ne h3 h.W (by decide)
    · obtain ⟨c4, h4⟩ := (h.ow k hk).typ e
      exact typ_ne h3 h4 (by decide)
  · have key : ∀ b, At a' b → ¬ At (a (1 - k)) b := fun b h1 h2 => by
      rcases hm b h1 with h3 | h3
      · exact hdk b h2 h3
      · have := ho.lt h2; omega
    rcases two k hk with rfl | rfl
    · intro b h1 h2
      rw [upd_same] at h1
      rw [upd_ne _ _ _ (by omega)] at h2
      exact key b h1 h2
    · intro b h1 h2
      rw [upd_same] at h2
      rw [upd_ne _ _ _ (by omega)] at h1
      exact key b h2 h1
  · rcases e with e | e
    · omega
    · have := (h.ow k hk).base e; omega
/-- Behind an append to now[k]: the row, then the cell. -/
theorem Ap.now (h : Ap w wr la ln lc p Z Y a c na nc) {k : Nat} (hk : k < 2) {x : Item} {a' : Option Addr} {c' n : Nat} (hn : n = (Y k ++ [x]).length)
    (ho : OwnI w' w.heap.size a' c' (Y k ++ [x])) (hkp : Kept (At (na k)) wr w') (hm : Moved wr (na k) a') :
    Ap w (w'.setCell ⟨w.heap.size + 1, k, none⟩ (.slice a' n c')) la ln lc p Z (upd Y k (Y k ++ [x])) a c (upd na k a') (upd nc k c') := by
  subst hn
  have hlt := h.lt
  have hon := h.on (1 - k) (by omega)
  have hdk : ∀ b, At (na (1 - k)) b → ¬ At (na k) b := by
    rcases two k hk with rfl | rfl
    · exact fun b h1 h2 => h.dn b h2 h1
    · exact fun b h1 h2 => h.dn b h1 h2
  have ne : ∀ j, j ≤ 3 → ¬ At (na k) (w.heap.size + j) := fun j hj e => by
    obtain ⟨c2, h3⟩ := own_type (h.on k hk) e
    have h4 : ∃ cur t, wr.heap[w.heap.size + j]? = some (.cells cur t (0, 0)) ∧ 42 ≠ t := by
      have : j = 0 ∨ j = 1 ∨ j = 2 ∨ j = 3 := by omega
      rcases this with rfl | rfl | rfl | rfl
      · exact ⟨_, _, h.W, by decide⟩
      · exact ⟨_, _, h.N, by decide⟩
      · exact ⟨_, _, h.L, by decide⟩
      · exact ⟨_, _, h.A, by decide⟩
    obtain ⟨c3, t, h5, h6⟩ := h4
    exact typ_ne h3 h5 h6
  have hN : w'.heap[w.heap.size + 1]? = some (.cells #[.slice (na 0) (Y 0).length (nc 0), .slice (na 1) (Y 1).length (nc 1)] 39 (0, 0)) := (hkp.block _ (by omega) (ne 1 (by omega))).trans h.N
  have hs := ((Kept.refl (Only (w.heap.size + 1)) w').setCell (p := ⟨w.heap.size + 1, k, none⟩) (fun _ => (rfl : w.heap.size + 1 = w.heap.size + 1)) (.slice a' (Y k ++ [x]).length c'))
  have hsz := hkp.size
  have o1 : ∀ j, j ≤ 3 → j ≠ 1 → ¬ Only (w.heap.size + 1) (w.heap.size + j) := fun j hj h1 e => by have e' : w.heap.size + j = w.heap.size + 1 := e; omega
  have hown : ∀ j, j < 2 → OwnS w' w.heap.size (a j) (c j) (flat (Z j)) := fun j hj => (h.ow j hj).kept hkp (fun b hb e => by
    obtain ⟨c2, h3⟩ := own_type (h.on k hk) e
    obtain ⟨c4, h4⟩ := (h.ow j hj).typ hb
    exact typ_ne h3 h4 (by decide))
  have no1 : ∀ {b1 b2 : Nat} {t : TypeId} {cur : Array Value}, w'.heap[b1]? = some (.cells cur t (0, 0)) → t ≠ 39 → ¬ Only (w.heap.size + 1) b1 := fun h1 h2 e => by
    have e' : _ = w.heap.size + 1 := e
    subst e'
    exact typ_ne h1 hN h2
  refine ⟨(hs.block _ (by omega) (o1 0 (by omega) (by omega))).trans ((hkp.block _ (by omega) (ne 0 (by omega))).trans h.W), ?_, (hs.block _ (by omega) (o1 2 (by omega) (by omega))).trans ((hkp.block _ (by omega) (ne 2 (by omega))).trans h.L), (hs.block _ (by omega) (o1 3 (by omega) (by omega))).trans ((hkp.block _ (by omega) (ne 3 (by omega))).trans h.A), fun j hj => (hown j hj).kept hs (fun b hb => ?_), fun j hj => ?_, h.dw, ?_, ?_⟩
  · rw [heap_setCell_same w' _ k _ 39 _ hN]
    rcases two k hk with rfl | rfl <;> simp [upd]
  · obtain ⟨c4, h4⟩ := (hown j hj).typ hb
    exact no1 (b2 := 0) h4 (by decide)
  · by_cases e : j = k
    · subst e
      rw [upd_same, upd_same, upd_same]
      exact ho.kept hs (fun b hb => by obtain ⟨c4, h4⟩ := own_type ho hb; exact no1 (b2 := 0) h4 (by decide))
    · rw [upd_ne _ _ _ e, upd_ne _ _ _ e, upd_ne _ _ _ e]
      have ej : j = 1 - k := by omega
      rw [ej]
      have h1 := hon.kept hkp (fun b hb e => hdk b hb e)
      exact h1.kept hs (fun b hb => by obtain ⟨c4, h4⟩ := own_type h1 hb; exact no1 (b2 := 0) h4 (by decide))
  · have key : ∀ b, At a' b → ¬ At (na (1 - k)) b := fun b h1 h2 => by
      rcases hm b h1 with h3 | h3
      · exact hdk b h2 h3
      · obtain ⟨c4, h4⟩ := own_type hon h2
        have := (Array.getElem?_eq_some_iff.1 h4).1
        omega
    rcases two k hk with rfl | rfl
    · intro b h1 h2
      rw [upd_same] at h1
      rw [upd_ne _ _ _ (by omega)] at h2
      exact key b h1 h2
    · intro b h1 h2
      rw [upd_same] at h2
      rw [upd_ne _ _ _ (by omega)] at h1
      exact key b h2 h1
  · exact (h.kept.fresh hkp (fun i e => own_at (h.on k hk) e)).fresh hs (fun i e => by have e' : i = w.heap.size + 1 := e; omega)
end

end ap
end Go.Proofs.Ytnhjpghkmbgeaab
