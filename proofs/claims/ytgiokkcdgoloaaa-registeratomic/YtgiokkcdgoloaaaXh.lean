import Derived.Test.YtgiokkcdgoloaaaXg
namespace Go.Proofs.Ytgiokkcdgoloaaa.Md
open Go.RowKit
set_option linter.unusedVariables false
set_option linter.unusedSimpArgs false

/-! Rows of the world written within. -/
theorem flat_setP (c : Nat) (xs : List (List Value)) (hc : ∀ x ∈ xs, x.length = c) (sp : List Value) (i k : Nat) (y : List Value) (hy : k + y.length ≤ c) (hi : i < xs.length) : putL (xs.flatten ++ sp) (i * c + k) y = (xs.set i (putL xs[i] k y)).flatten ++ sp := by
  have h : xs = xs.take i ++ ([xs[i]] ++ xs.drop (i + 1)) := by simp
  have h2 : xs.set i (putL xs[i] k y) = xs.take i ++ ([putL xs[i] k y] ++ xs.drop (i + 1)) := by rw [List.set_eq_take_append_cons_drop]; simp [hi]
  have hl : (xs.take i).flatten.length = i * c := by
    rw [flat_len c _ (fun x hx => hc x (List.mem_of_mem_take hx)), List.length_take]; congr 1; omega
  have hxi : (xs[i]).length = c := hc _ (List.getElem_mem hi)
  have h3 : xs.flatten = (xs.take i).flatten ++ (xs[i] ++ (xs.drop (i + 1)).flatten) := by
    have e := congrArg List.flatten h
    rw [List.flatten_append, List.flatten_append, List.flatten_cons, List.flatten_nil, List.append_nil] at e
    exact e
  rw [h2, h3]
  generalize xs[i] = e at *
  obtain ⟨A, B, C, rfl, hA, hB⟩ : ∃ A B C, e = A ++ (B ++ C) ∧ A.length = k ∧ B.length = y.length := ⟨e.take k, (e.drop k).take y.length, (e.drop k).drop y.length, by rw [List.take_append_drop, List.take_append_drop], by rw [List.length_take]; omega, by rw [List.length_take, List.length_drop]; omega⟩
  subst hA
  rw [putL_mid A B C y hB]
  have e1 := putL_mid ((xs.take i).flatten ++ A) B (C ++ ((xs.drop (i + 1)).flatten ++ sp)) y hB
  rw [List.length_append, hl] at e1
  simp only [List.flatten_append, List.flatten_cons, List.flatten_nil, List.append_nil, List.append_assoc] at e1 ⊢
  exact e1
theorem _root_.Go.Proofs.Ytgiokkcdgoloaaa.Own.setP {T ty : TypeId} {c : Nat} {W : World} {base : Nat} {a : Option Addr} {cap n : Nat} {xs : List (List Value)} (h : Own T c W base a cap n xs.flatten) (hc : ∀ x ∈ xs, x.length = c) (hl : xs.length = n) {i k g : Nat} (hi : i < n) (ha : a = some ⟨g, 0, none⟩) {v : Value} {y e : List Value} (he : xs[i]? = some e) (hv : v.cells = y.toArray) (hz : (Try.prog.info? ty).map (·.size) = some y.length) (h1 : ∀ x ∈ y, x.oneCell' = true) (hy : k + y.length ≤ c) :
    ∃ cs', (storeVar ty ⟨g, 0 + i * c + k, none⟩ v).run Try.prog W = .ok () (W.setRow g cs') ∧ Own T c (W.setRow g cs') base a cap n (xs.set i (putL e k y)).flatten := by
  obtain ⟨hil, rfl⟩ := List.getElem?_eq_some_iff.1 he
  rcases h.2 with ⟨hv2, hn⟩ | ⟨g', cap', cur, hv2, hb, hg, hle, hm, hs, ht⟩
  · omega
  · simp only [Value.slice.injEq] at hv2
    obtain ⟨ea, -, rfl⟩ := hv2
    rw [ea] at ha
    cases ha
    obtain ⟨cur, rfl⟩ : ∃ l : List Value, cur = l.toArray := ⟨cur.toList, by simp⟩
    have hbox : Box W g T cur.toArray := hg
    have hs : cur.length = cap * c := by simpa using hs
    have ht : cur.take (n * c) = xs.flatten := by simpa using ht
    have hnc : n * c ≤ cap * c := Nat.mul_le_mul_right _ hle
    have hic : i * c + c ≤ n * c := by rw [← Nat.succ_mul]; exact Nat.mul_le_mul_right _ hi
    have hcur : cur = xs.flatten ++ cur.drop (n * c) := by rw [← ht, List.take_append_drop]
    have hfl : xs.flatten.length = n * c := by rw [flat_len c xs hc, hl]
    refine ⟨(putL cur (0 + i * c + k) y).toArray, run_store_at hbox hv hz (by rw [Nat.zero_add, hs]; omega) h1, ?_⟩
    rw [Nat.zero_add, ea]
    have hp : putL cur (i * c + k) y = (xs.set i (putL xs[i] k y)).flatten ++ cur.drop (n * c) := by
      conv => lhs; rw [hcur]
      exact flat_setP c xs hc _ i k y hy (by omega)
    rw [hp]
    have hpl : (putL xs[i] k y).length = c := by
      have := hc _ (List.getElem_mem hil)
      unfold putL
      simp only [List.length_append, List.length_take, List.length_drop]
      omega
    have hsl : ((xs.set i (putL xs[i] k y)).flatten).length = n * c := by
      rw [flat_len c _ (fun x hx => by rcases List.mem_or_eq_of_mem_set hx with hx | hx; exact hc x hx; rw [hx]; exact hpl), List.length_set, hl]
    exact Own.shut hb (Box.setRow hbox _) hle (by unfold maxLen at hm; omega) (by rw [List.length_append, hsl, List.length_drop, hs]; omega) (by rw [← hsl]; exact List.take_left' rfl)
theorem own_c1 {T : TypeId} {W : World} {base n k g i : Nat} {a : Option Addr} {vs : List Value} {u : Value} (h : Own T 1 W base a k n vs) (ha : a = some ⟨g, 0, none⟩) (hu : vs[i]? = some u) : W.cell? ⟨g, 0 + i * 1, none⟩ = some u := by
  have e : ∀ l : List Value, (l.map (fun z => [z])).flatten = l := fun l => by induction l with
    | nil => rfl
    | cons a l ih => simp only [List.map_cons, List.flatten_cons, ih]; rfl
  have h' : Own T 1 W base a k n (vs.map (fun z => [z])).flatten := by rw [e]; exact h
  have := own_cell h' ha (by intro x hx; obtain ⟨z, _, rfl⟩ := List.mem_map.1 hx; rfl) (by decide) hu 0 u rfl
  rwa [Nat.add_zero] at this
theorem own_set1 {T ty : TypeId} {W : World} {base n k g i : Nat} {a : Option Addr} {vs : List Value} {u : Value} (h : Own T 1 W base a k n vs) (ha : a = some ⟨g, 0, none⟩) (hi : i < n) (hz : (Try.prog.info? ty).map (·.size) = some 1) (hc : u.cells = #[u]) (h1 : u.oneCell' = true) : ∃ cs', (storeVar ty ⟨g, 0 + i * 1, none⟩ u).run Try.prog W = .ok () (W.setRow g cs') ∧ Own T 1 (W.setRow g cs') base a k n (vs.set i u) := by
  have e : ∀ l : List Value, (l.map (fun z => [z])).flatten = l := fun l => by induction l with
    | nil => rfl
    | cons a l ih => simp only [List.map_cons, List.flatten_cons, ih]; rfl
  have h' : Own T 1 W base a k n (vs.map (fun z => [z])).flatten := by rw [e]; exact h
  have hl := h.1
  obtain ⟨cs', h2, h3⟩ := Own.setN (ty := ty) h' (by intro x hx; obtain ⟨z, _, rfl⟩ := List.mem_map.1 hx; rfl) (by rw [List.length_map]; omega) hi ha (v := u) (y := [u]) hc hz (by simpa using h1) rfl
  refine ⟨cs', h2, ?_⟩
  have e2 : ((vs.map (fun z => [z])).set i [u]).flatten = vs.set i u := by
    rw [← e (vs.set i u), List.map_set]
  rw [e2] at h3
  exact h3
section
variable {w W W2 : World} {n0 : Nat} {J0 J J2 S : Nat → Prop} {b g c : Nat} {v v2 : Wv} {x x2 : Wd} {mp mp2 : Nat → Option Nat} {I I2 : Nat → Nat → Prop} {H H2 : List Bl} {U U2 : List Mg} {D D2 : List Dv} {L L2 : List Lv} {l l2 : List (Nat × TypeId × Array Value)} {T T' : List Rowx} {Q Q' : List (Sl × List Int)}
theorem WA.ml (h : WA W n0 J b v x mp I H U D L) : v.mm.l = 4 := by have := h.mm.1; simp [ifL, c4] at this; omega
theorem WA.al (h : WA W n0 J b v x mp I H U D L) : v.aa.l = 4 := by have := h.aa.1; simp [itL, c4i, c4] at this; omega
theorem WA.rl (h : WA W n0 J b v x mp I H U D L) : v.rr.l = 4 := by have := h.rr.1; simp [itL, c4] at this; omega
theorem WA.gl (h : WA W n0 J b v x mp I H U D L) : v.gn.l = 4 := by have := h.gn.1; simp [bnL, c4] at this; omega
theorem WA.mmc (h : WA W n0 J b v x mp I H U D L) (hg : v.mm.a = some ⟨g, 0, none⟩) (hc : c < 4) : W.cell? ⟨g, 0 + c * 1, none⟩ = some (ifV (mp c)) := own_c1 h.mm hg (by unfold ifL; rw [List.getElem?_map, c4_get mp hc]; rfl)
theorem WA.aac (h : WA W n0 J b v x mp I H U D L) (hg : v.aa.a = some ⟨g, 0, none⟩) (hc : c < 4) : W.cell? ⟨g, 0 + c * 1, none⟩ = some (.int .i64 ((x.at' c : Nat) : Int)) := own_c1 h.aa hg (by unfold itL c4i; rw [List.getElem?_map, c4_get _ hc]; rfl)
theorem WA.rrc (h : WA W n0 J b v x mp I H U D L) (hg : v.rr.a = some ⟨g, 0, none⟩) (hc : c < 4) : W.cell? ⟨g, 0 + c * 1, none⟩ = some (.int .i64 (x.rd c)) := own_c1 h.rr hg (by unfold itL; rw [List.getElem?_map, c4_get _ hc]; rfl)
theorem WA.gnc (h : WA W n0 J b v x mp I H U D L) (hg : v.gn.a = some ⟨g, 0, none⟩) (hc : c < 4) : W.cell? ⟨g, 0 + c * 1, none⟩ = some (.bool (x.gone c)) := own_c1 h.gn hg (by unfold bnL; rw [List.getElem?_map, c4_get _ hc]; rfl)
theorem only_at {a : Option Addr} (hg : a = some ⟨g, 0, none⟩) : ∀ k, Only g k → At a k := fun k e => ⟨_, hg, (show k = g from e).symm⟩
theorem Wg.setR (G : Wg w W n0 J0 J b v x mp I H U D L l T Q) (hg : v.rr.a = some ⟨g, 0, none⟩) (hc : c < 4) (r : Int) : ∃ cs' J2, (storeVar 3 ⟨g, 0 + c * 1, none⟩ (.int .i64 r)).run Try.prog W = .ok () (W.setRow g cs') ∧ Wg w (W.setRow g cs') n0 J0 J2 b v { x with rd := upN x.rd c r } mp I H U D L l T Q := by
  obtain ⟨cs', h1, h2⟩ := own_set1 (ty := 3) (u := .int .i64 r) G.wa.rr hg (by rw [G.wa.rl]; exact hc) S3 rfl rfl
  obtain ⟨J2, h3, h4⟩ := G.wa.setR (f := upN x.rd c r) ((Kept.setRow W g cs').mono (fun k _ e => only_at hg k e)) (by rw [c4_up _ hc]; unfold itL at h2 ⊢; rw [List.map_set]; exact h2)
  exact ⟨cs', J2, h1, G.upd h3 h4⟩
theorem Wg.setA (G : Wg w W n0 J0 J b v x mp I H U D L l T Q) (hg : v.aa.a = some ⟨g, 0, none⟩) (hc : c < 4) (r : Nat) : ∃ cs' J2, (storeVar 3 ⟨g, 0 + c * 1, none⟩ (.int .i64 ((r : Nat) : Int))).run Try.prog W = .ok () (W.setRow g cs') ∧ Wg w (W.setRow g cs') n0 J0 J2 b v { x with at' := upN x.at' c r } mp I H U D L l T Q := by
  obtain ⟨cs', h1, h2⟩ := own_set1 (ty := 3) (u := .int .i64 ((r : Nat) : Int)) G.wa.aa hg (by rw [G.wa.al]; exact hc) S3 rfl rfl
  obtain ⟨J2, h3, h4⟩ := G.wa.setA (f := upN x.at' c r) ((Kept.setRow W g cs').mono (fun k _ e => only_at hg k e)) (by
    have e : c4i (upN x.at' c r) = (c4i x.at').set c ((r : Nat) : Int) := by
      exact (congrArg c4 (funext fun k => by unfold upN; split <;> rfl)).trans (c4_up (fun k => ((x.at' k : Nat) : Int)) hc ((r : Nat) : Int))
    rw [e]; unfold itL at h2 ⊢; rw [List.map_set]; exact h2)
  exact ⟨cs', J2, h1, G.upd h3 h4⟩
theorem Wg.setG (G : Wg w W n0 J0 J b v x mp I H U D L l T Q) (hg : v.gn.a = some ⟨g, 0, none⟩) (hc : c < 4) (r : Bool) : ∃ cs' J2, (storeVar 4 ⟨g, 0 + c * 1, none⟩ (.bool r)).run Try.prog W = .ok () (W.setRow g cs') ∧ Wg w (W.setRow g cs') n0 J0 J2 b v { x with gone := upN x.gone c r } mp I H U D L l T Q := by
  obtain ⟨cs', h1, h2⟩ := own_set1 (ty := 4) (u := .bool r) G.wa.gn hg (by rw [G.wa.gl]; exact hc) S4 rfl rfl
  obtain ⟨J2, h3, h4⟩ := G.wa.setG (f := upN x.gone c r) ((Kept.setRow W g cs').mono (fun k _ e => only_at hg k e)) (by rw [c4_up _ hc]; unfold bnL at h2 ⊢; rw [List.map_set]; exact h2)
  exact ⟨cs', J2, h1, G.upd h3 h4⟩
/-- A machine is let go. -/
theorem Wg.die (G : Wg w W n0 J0 J b v x mp I H U D L l T Q) (hg : v.mm.a = some ⟨g, 0, none⟩) (hc : c < 4) : ∃ cs' J2, (storeVar 31 ⟨g, 0 + c * 1, none⟩ .nilIface).run Try.prog W = .ok () (W.setRow g cs') ∧ Wg w (W.setRow g cs') n0 J0 J2 b v { x with m := upN x.m c none } (upN mp c none) (fun i k => i ≠ c ∧ I i k) H U D L l T Q := by
  obtain ⟨cs', h1, h2⟩ := own_set1 (ty := 31) (u := .nilIface) G.wa.mm hg (by rw [G.wa.ml]; exact hc) S31 rfl rfl
  have hk : Kept (At v.mm.a) W (W.setRow g cs') := (Kept.setRow W g cs').mono (fun k _ e => only_at hg k e)
  have A := G.wa.wl.drop c
  obtain ⟨J2, h3, h4⟩ := A.row (j := 2) (x := (v.mm, 31, 1, ifL (c4 mp))) rfl hk (s := v.mm) (vs := ifL (c4 (upN mp c none))) (by rw [c4_up _ hc]; unfold ifL at h2 ⊢; rw [List.map_set]; exact h2) (fun k e => .inl e)
  have p := G.wa.pt.up h4 G.wa.n0J
  exact ⟨cs', J2, h1, G.upd ⟨h3, ⟨p.hd, p.un, p.ds, p.ls⟩, G.wa.now, G.wa.br⟩ h4⟩
/-- A machine is born. -/
theorem Wg.born (G : Wg w W n0 J0 J b v x mp I H U D L l T Q) (hg : v.mm.a = some ⟨g, 0, none⟩) (hc : c < 4) {s : RM} {m : Nat} {J1 : Nat → Prop} {W1 : World} {I1 : Nat → Nat → Prop} (A : Wl W1 n0 J1 b v.cells (rows v x mp H U D L) I1 (upN x.m c (some s)) (upN mp c (some m))) (u : Up5 W J W1 J1) : ∃ cs' J2, (storeVar 31 ⟨g, 0 + c * 1, none⟩ (ifV (some m))).run Try.prog W1 = .ok () (W1.setRow g cs') ∧ Wg w (W1.setRow g cs') n0 J0 J2 b v { x with m := upN x.m c (some s) } (upN mp c (some m)) I1 H U D L l T Q := by
  have hm : Own 31 1 W1 n0 v.mm.a v.mm.k v.mm.l (ifL (c4 mp)) := A.ow 2 _ rfl
  obtain ⟨cs', h1, h2⟩ := own_set1 (ty := 31) (u := ifV (some m)) hm hg (by rw [G.wa.ml]; exact hc) S31 rfl rfl
  have hk : Kept (At v.mm.a) W1 (W1.setRow g cs') := (Kept.setRow W1 g cs').mono (fun k _ e => only_at hg k e)
  obtain ⟨J2, h3, h4⟩ := A.row (j := 2) (x := (v.mm, 31, 1, ifL (c4 mp))) rfl hk (s := v.mm) (vs := ifL (c4 (upN mp c (some m)))) (by rw [c4_up _ hc]; unfold ifL at h2 ⊢; rw [List.map_set]; exact h2) (fun k e => .inl e)
  have u2 := u.trans h4
  have p := G.wa.pt.up u2 G.wa.n0J
  exact ⟨cs', J2, h1, G.upd ⟨h3, ⟨p.hd, p.un, p.ds, p.ls⟩, G.wa.now, G.wa.br⟩ u2⟩
/-- A part of a deed is written. -/
theorem Wg.setE (G : Wg w W n0 J0 J b v x mp I H U D L l T Q) (hg : v.ds.a = some ⟨g, 0, none⟩) {i k : Nat} {d d2 : Dv} {p2 : Dd} (hi : D[i]? = some d) {ty : TypeId} {u : Value} {y : List Value} (hv : u.cells = y.toArray) (hz : (Try.prog.info? ty).map (·.size) = some y.length) (h1 : ∀ x ∈ y, x.oneCell' = true) (hy : k + y.length ≤ 16) (hd : putL d.cs k y = d2.cs) (hr : DdM W n0 p2 d2) : ∃ cs' J2, (storeVar ty ⟨g, 0 + i * 16 + k, none⟩ u).run Try.prog W = .ok () (W.setRow g cs') ∧ Wg w (W.setRow g cs') n0 J0 J2 b v { x with ds := x.ds.set i p2 } mp I H U (D.set i d2) L l T Q := by
  have hil := (List.getElem?_eq_some_iff.1 hi).1
  obtain ⟨cs', h2, h3⟩ := Own.setP (ty := ty) (xs := D.map Dv.cs) G.wa.ds (dvL_c D) (by rw [List.length_map]; exact G.wa.dl) (i := i) (k := k) (by rw [← G.wa.dl]; exact hil) hg (e := d.cs) (by rw [List.getElem?_map, hi]; rfl) hv hz h1 hy
  rw [hd] at h3
  have hk : Kept (At v.ds.a) W (W.setRow g cs') := (Kept.setRow W g cs').mono (fun k _ e => only_at hg k e)
  have bb : ∀ {s : Sl} {z : List Int}, By W n0 s z → By (W.setRow g cs') n0 s z := fun hb => G.wa.wl.by' (j := 7) (y := (v.ds, 109, 16, dvL D)) rfl hk hb
  obtain ⟨J2, h4, h5⟩ := G.wa.setE (D2 := D.set i d2) (ds2 := x.ds.set i p2) hk (by unfold dvL; rw [List.map_set]; exact h3) ((G.wa.pt.ds.mono (fun a c r => ⟨r.e, bb r.b, bb r.c⟩)).set i ⟨hr.e, bb hr.b, bb hr.c⟩)
  exact ⟨cs', J2, h2, G.upd h4 h5⟩
end
theorem donP_len {W : World} {I : Nat → Prop} {m : Nat} {s : RM} (h : Mch W I m s) : (donP s).2.2.1.length ≤ 140737488351232 := by
  obtain ⟨⟨a, cap, t, v, hM, i1, i2, hP⟩, len⟩ := h
  unfold donP
  cases hp : s.ph with
  | fin er st z => rw [hp] at hP; obtain ⟨_, da, dc, _, hz, _⟩ := hP; exact hz
  | fresh => simp
  | ask X => simp
  | lay b U => simp
theorem lookW_none {x : Wd} {c : Nat} (h : x.m c = none) : lookW x c = x := by unfold lookW; rw [h]
theorem lookW_no {x : Wd} {c : Nat} {s : RM} (h : x.m c = some s) (hd : (donP s).2.2.2 = false) : lookW x c = { x with rd := upN x.rd c s.rd } := by
  unfold lookW
  rw [h]
  dsimp only
  unfold donP at hd
  split
  · rename_i e; rw [e] at hd; cases hd
  · rfl
theorem lookW_fin {x : Wd} {c : Nat} {s : RM} (h : x.m c = some s) (hd : (donP s).2.2.2 = true) : lookW x c = { x with rd := upN x.rd c s.rd, now := x.now + 1, ds := x.ds.modify (x.at' c) (fun d => endD d (x.now + 1) (donP s).1 (donP s).2.1 (donP s).2.2.1), m := upN x.m c none } := by
  unfold lookW
  rw [h]
  dsimp only
  unfold donP at hd ⊢
  split
  · rename_i e; rw [e]
  · rename_i q
    split at hd
    · rename_i e; exact absurd e (q _ _ _)
    · cases hd
theorem modify_set {α : Type} (f : α → α) {l : List α} {i : Nat} {a : α} (h : l[i]? = some a) : l.modify i f = l.set i (f a) := by
  refine List.ext_getElem? (fun j => ?_)
  rw [List.getElem?_modify, List.getElem?_set]
  by_cases e : i = j
  · subst e
    obtain ⟨h1, rfl⟩ := List.getElem?_eq_some_iff.1 h
    simp [h1]
  · simp [e]
end Go.Proofs.Ytgiokkcdgoloaaa.Md
