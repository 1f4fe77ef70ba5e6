import Derived.Test.YtgnfeegnhdbnkaaTb
namespace Go.Proofs.Ytgnfeegnhdbnkaa
open Go.RowKit Go.Lib
set_option linter.unusedVariables false
set_option linter.unusedSimpArgs false

def kB (i : Nat) : List UInt8 := [107, 101, 112, 116, 32] ++ mk i
def mB (i : Nat) : List UInt8 := [109, 111, 114, 101, 32] ++ mk i
theorem E35 : Try.prog.underlying 35 = some (.slice (Try.prog.elem 35)) := by kernel_rfl
theorem F35 : (Try.prog.info? (Try.prog.elem 35)).map (·.size) = some 1 := by kernel_rfl
theorem words_ab : wordsOf [97, 32, 34, 98, 34] = some [[97], [98]] := by decide
/-- Not grown yet. -/
def Zt (X : List It) (m : Nat) : Prop := ∀ (j : Nat) x, X[j]? = some x → m ≤ j → x.a2 = none ∧ x.vs2 = [] ∧ x.c2 = 0
def Sz (X : List It) : Prop := ∀ (j : Nat) x, X[j]? = some x → x.vs.length ≤ 200000000000
/-- Written full. -/
def Dn (X : List It) (i : Nat) : Prop := ∀ (j : Nat) x, X[j]? = some x → j < i → x.vs = List.replicate x.vs.length (strV (kB j))
/-- Grown by so many. -/
def Lg (X : List It) (i : Nat) : Prop := ∀ (j : Nat) x, X[j]? = some x → j < i → x.vs2 = x.vs ++ List.replicate 71 (strV (mB j))
theorem set_get {X : List It} {i : Nat} {x x' : It} (hi : X[i]? = some x) {j : Nat} {y : It} (hj : (X.set i x')[j]? = some y) : (j = i ∧ y = x') ∨ (j ≠ i ∧ X[j]? = some y) := by
  have hlen := (List.getElem?_eq_some_iff.1 hi).1
  by_cases e : i = j
  · subst e
    rw [List.getElem?_set_self hlen] at hj
    cases hj
    exact .inl ⟨rfl, rfl⟩
  · rw [List.getElem?_set_ne e] at hj
    exact .inr ⟨fun e' => e e'.symm, hj⟩
theorem map_set_same {X : List It} {i : Nat} {x x' : It} (hi : X[i]? = some x) (hv : x'.v = x.v) : (X.set i x').map It.v = X.map It.v := by
  rw [List.map_set, hv]
  obtain ⟨hl, he⟩ := List.getElem?_eq_some_iff.1 hi
  apply List.ext_getElem?
  intro k
  rw [List.getElem?_set]
  split
  · rename_i e
    subst e
    rw [if_pos (by simpa using hl), List.getElem?_map, hi]
    rfl
  · rfl
/-- The lists, and the row that holds them. -/
structure K2 (w W : World) (n0 gk kc N : Nat) (V0 : List Value) (X : List It) : Prop where
  ks : Ks W n0 X
  row : Own 22 1 W n0 (some ⟨gk, 0, none⟩) kc N V0
  len : X.length = N
  map : X.map It.v = V0
  z : Zt X 0
  sz : Sz X
  kept : Kept No w W
  n : n0 = w.heap.size
theorem K2.no {w W W' : World} {n0 gk kc N : Nat} {V0 : List Value} {X : List It} (h : K2 w W n0 gk kc N V0 X) (hk : Kept No W W') : K2 w W' n0 gk kc N V0 X :=
  ⟨h.ks.no hk, h.row.no hk, h.len, h.map, h.z, h.sz, h.kept.then hk, h.n⟩
theorem K2.at {w W : World} {n0 gk kc N : Nat} {V0 : List Value} {X : List It} (h : K2 w W n0 gk kc N V0 X) {i : Nat} (hi : i < N) : ∃ x, X[i]? = some x ∧ V0[i]? = some x.v ∧ W.cell? ⟨gk, 0 + i * 1, none⟩ = some x.v := by
  obtain ⟨x, hx⟩ : ∃ x, X[i]? = some x := ⟨_, List.getElem?_eq_getElem (by rw [h.len]; exact hi)⟩
  have hv : V0[i]? = some x.v := by rw [← h.map, List.getElem?_map, hx]; rfl
  exact ⟨x, hx, hv, h.row.cellAt (i := 0 + i * 1) (by rw [Nat.zero_add, Nat.mul_one]; exact hv)⟩
theorem keptAt {w W W' : World} {n0 : Nat} {x : It} (h : Kept No w W) (hx : ItOk W n0 x) (hn : n0 = w.heap.size) (hk : Kept x.at W W') : Kept No w W' :=
  h.trans hk (fun _ e => e) (fun j hj e => by have := hx.base e; omega)
theorem K2.store {w W : World} {n0 gk kc N : Nat} {V0 : List Value} {X : List It} (h : K2 w W n0 gk kc N V0 X) {i j g : Nat} {x : It} (hx : X[i]? = some x) (hg : x.a = some ⟨g, 0, none⟩) (hj : j < x.vs.length) (s : List UInt8) :
    ∃ cs', (storeVar 9 ⟨g, 0 + j * 1, none⟩ (.string (bs s))).run Try.prog W = .ok () (W.setRow g cs') ∧ K2 w (W.setRow g cs') n0 gk kc N V0 (X.set i { x with vs := x.vs.set j (strV s) }) := by
  have hok := h.ks.ok i x hx
  obtain ⟨cs', hr, ho, hk⟩ := hok.store (h.z i x hx (Nat.zero_le _)).1 hj hg s
  refine ⟨cs', hr, h.ks.upd hx hk ho (fun k e => .inl e), h.row.kept hk (fun k hk' e => ?_), by rw [List.length_set]; exact h.len, ?_, ?_, ?_, keptAt h.kept hok h.n hk, h.n⟩
  · rcases e with e | e
    · exact own_apart hok.own h.row (by decide) k e hk'
    · exact own_apart hok.own2 h.row (by decide) k e hk'
  · rw [map_set_same hx (by simp [It.v]), h.map]
  · intro k y hy hk
    rcases set_get hx hy with ⟨rfl, rfl⟩ | ⟨_, hy⟩
    · exact h.z _ x hx hk
    · exact h.z k y hy hk
  · intro k y hy
    rcases set_get hx hy with ⟨rfl, rfl⟩ | ⟨_, hy⟩
    · simpa using h.sz _ x hx
    · exact h.sz k y hy
/-- And what they were grown to. -/
structure K3 (w W : World) (n0 gk kc N : Nat) (V0 : List Value) (b3 : Nat) (la : Option Addr) (lc i m : Nat) (X : List It) : Prop where
  ks : Ks W n0 X
  row : Own 22 1 W n0 (some ⟨gk, 0, none⟩) kc N V0
  lrow : Own 22 1 W b3 la lc i ((X.take i).map It.v2)
  len : X.length = N
  map : X.map It.v = V0
  z : Zt X m
  sz : Sz X
  dn : Dn X N
  lg : Lg X i
  kept : Kept No w W
  n : n0 = w.heap.size
  kb : gk < b3
  hb : n0 ≤ b3 ∧ b3 ≤ W.heap.size
theorem K3.no {w W W' : World} {n0 gk kc N b3 lc i m : Nat} {V0 : List Value} {la : Option Addr} {X : List It} (h : K3 w W n0 gk kc N V0 b3 la lc i m X) (hk : Kept No W W') : K3 w W' n0 gk kc N V0 b3 la lc i m X :=
  ⟨h.ks.no hk, h.row.no hk, h.lrow.no hk, h.len, h.map, h.z, h.sz, h.dn, h.lg, h.kept.then hk, h.n, h.kb, h.hb.1, Nat.le_trans h.hb.2 hk.size⟩
theorem K3.at {w W : World} {n0 gk kc N b3 lc m k : Nat} {V0 : List Value} {la : Option Addr} {X : List It} (h : K3 w W n0 gk kc N V0 b3 la lc k m X) {i : Nat} (hi : i < N) : ∃ x, X[i]? = some x ∧ V0[i]? = some x.v ∧ W.cell? ⟨gk, 0 + i * 1, none⟩ = some x.v := by
  obtain ⟨x, hx⟩ : ∃ x, X[i]? = some x := ⟨_, List.getElem?_eq_getElem (by rw [h.len]; exact hi)⟩
  have hv : V0[i]? = some x.v := by rw [← h.map, List.getElem?_map, hx]; rfl
  exact ⟨x, hx, hv, h.row.cellAt (i := 0 + i * 1) (by rw [Nat.zero_add, Nat.mul_one]; exact hv)⟩
theorem K3.upd {w W W' : World} {n0 gk kc N b3 lc i m : Nat} {V0 : List Value} {la : Option Addr} {X : List It} (h : K3 w W n0 gk kc N V0 b3 la lc i m X) {x x' : It} (hx : X[i]? = some x) (hk : Kept x.at W W') (ho : ItOk W' n0 x') (hat : ∀ k, x'.at k → x.at k ∨ W.heap.size ≤ k) (hv : x'.v = x.v) (hvs : x'.vs = x.vs) (hm : m ≤ i + 1) : K3 w W' n0 gk kc N V0 b3 la lc i (i + 1) (X.set i x') := by
  have hok := h.ks.ok i x hx
  refine ⟨h.ks.upd hx hk ho hat, h.row.kept hk (fun k hk' e => ?_), ?_, by rw [List.length_set]; exact h.len, by rw [map_set_same hx hv, h.map], ?_, ?_, ?_, ?_, keptAt h.kept hok h.n hk, h.n, h.kb, h.hb.1, Nat.le_trans h.hb.2 hk.size⟩
  · rcases e with e | e
    · exact own_apart hok.own h.row (by decide) k e hk'
    · exact own_apart hok.own2 h.row (by decide) k e hk'
  · rw [List.take_set_of_le (Nat.le_refl _)]
    exact h.lrow.kept hk (fun k hk' e => by
      rcases e with e | e
      · exact own_apart hok.own h.lrow (by decide) k e hk'
      · exact own_apart hok.own2 h.lrow (by decide) k e hk')
  · intro k y hy hk
    rcases set_get hx hy with ⟨rfl, rfl⟩ | ⟨_, hy⟩
    · omega
    · exact h.z k y hy (by omega)
  · intro k y hy
    rcases set_get hx hy with ⟨rfl, rfl⟩ | ⟨_, hy⟩
    · rw [hvs]; exact h.sz _ x hx
    · exact h.sz k y hy
  · intro k y hy hk
    rcases set_get hx hy with ⟨rfl, rfl⟩ | ⟨_, hy⟩
    · rw [hvs]; exact h.dn _ x hx hk
    · exact h.dn k y hy hk
  · intro k y hy hk
    rcases set_get hx hy with ⟨rfl, rfl⟩ | ⟨_, hy⟩
    · omega
    · exact h.lg k y hy hk
/-- Before it is grown: it is what was told. -/
theorem K3.begin {w W : World} {n0 gk kc N b3 lc i : Nat} {V0 : List Value} {la : Option Addr} {X : List It} (h : K3 w W n0 gk kc N V0 b3 la lc i i X) {x : It} (hx : X[i]? = some x) :
    K3 w W n0 gk kc N V0 b3 la lc i (i + 1) (X.set i { x with a2 := x.a, c2 := x.c, vs2 := x.vs }) :=
  h.upd hx (Kept.refl _ _) ⟨(h.ks.ok i x hx).own, (h.ks.ok i x hx).own⟩ (fun k e => .inl (.inl (e.elim id id))) rfl rfl (Nat.le_succ _)
theorem K3.grow {w W : World} {n0 gk kc N b3 lc i : Nat} {V0 : List Value} {la : Option Addr} {X : List It} (h : K3 w W n0 gk kc N V0 b3 la lc i (i + 1) X) {x : It} (hx : X[i]? = some x) (hl : x.link) (g2 : Nat) (s : List UInt8) (hb : Box W g2 9 [strV s].toArray) (hbd : x.vs2.length ≤ 1000000000000) :
    ∃ x' W', (∀ ty, (Builtin.append_ #[22, 22] ty #[x.v2, .slice (some ⟨g2, 0, none⟩) 1 1]).run Try.prog W = .ok x'.v2 W') ∧ x'.vs = x.vs ∧ x'.vs2 = x.vs2 ++ [strV s] ∧ x'.link ∧ (X.set i x')[i]? = some x' ∧ K3 w W' n0 gk kc N V0 b3 la lc i (i + 1) (X.set i x') := by
  obtain ⟨x', W', hr, hv, hvs, hvs2, ho, hl', hk, hat⟩ := (h.ks.ok i x hx).grow hl g2 s hb hbd (Nat.le_trans h.hb.1 h.hb.2)
  refine ⟨x', W', hr, hvs, hvs2, hl', ?_, h.upd hx hk ho hat hv hvs (Nat.le_refl _)⟩
  rw [List.getElem?_set_self (List.getElem?_eq_some_iff.1 hx).1]
/-- It joins the row of those that were grown. -/
theorem K3.join {w W W' : World} {n0 gk kc N b3 lc lc' i : Nat} {V0 : List Value} {la la' : Option Addr} {X : List It} (h : K3 w W n0 gk kc N V0 b3 la lc i (i + 1) X) {x : It} (hx : X[i]? = some x) (hg : x.vs2 = x.vs ++ List.replicate 71 (strV (mB i))) (hk : Kept (At la) W W') (ho : Own 22 1 W' b3 la' lc' (i + 1) ((X.take i).map It.v2 ++ [x.v2])) : K3 w W' n0 gk kc N V0 b3 la' lc' (i + 1) (i + 1) X := by
  refine ⟨h.ks.keptRow h.lrow hk, h.row.kept hk (fun k hk' e => ?_), by rw [List.take_add_one, hx, List.map_append]; exact ho, h.len, h.map, h.z, h.sz, h.dn, ?_, h.kept.trans hk (fun _ e => e) (fun j hj e => by have h1 := h.lrow.base e; have h2 := h.n; have h3 := h.hb; omega), h.n, h.kb, h.hb.1, Nat.le_trans h.hb.2 hk.size⟩
  · obtain ⟨ad, e1, e2⟩ := hk'
    cases e1
    have h1 := h.lrow.base e
    have h2 := h.kb
    have e2 : gk = k := e2
    omega
  · intro k y hy hk
    by_cases e : k = i
    · subst e
      rw [hx] at hy
      cases hy
      exact hg
    · exact h.lg k y hy (by omega)
theorem K2.begin3 {w W : World} {n0 gk kc N : Nat} {V0 : List Value} {X : List It} (h : K2 w W n0 gk kc N V0 X) (hd : Dn X N) : K3 w W n0 gk kc N V0 W.heap.size none 0 0 0 X :=
  ⟨h.ks, h.row, Own.nil _ _ _ _, h.len, h.map, h.z, h.sz, hd, fun j x _ hj => by omega, h.kept, h.n, h.row.lt ⟨_, rfl, rfl⟩, by rw [h.n]; exact h.kept.size, Nat.le_refl _⟩
/-- Lines that can be read. -/
def Lns (w : World) (a : Option Addr) (ls : List (List UInt8)) : Prop := ∀ (i : Nat) l, ls[i]? = some l → ∃ g o, a = some ⟨g, o, none⟩ ∧ w.cell? ⟨g, o + i * 1, none⟩ = some (.string (bs l))
theorem Lns.no {w w' : World} {a : Option Addr} {xs : List (List UInt8)} (h : Lns w a xs) (hk : Kept No w w') : Lns w' a xs := fun i x hx => by
  obtain ⟨g, o, e, hc⟩ := h i x hx
  exact ⟨g, o, e, hk.cell hc (fun e => e)⟩
theorem Kept.runApp {w W W' : World} {n0 : Nat} {a : Option Addr} {cap n : Nat} {vs : List Value} (h : Kept No w W) (ho : Own 22 1 W n0 a cap n vs) (hn : n0 = w.heap.size) (hk : Kept (At a) W W') : Kept No w W' :=
  h.trans hk (fun _ e => e) (fun j hj e => by have := ho.base e; omega)
end Go.Proofs.Ytgnfeegnhdbnkaa
