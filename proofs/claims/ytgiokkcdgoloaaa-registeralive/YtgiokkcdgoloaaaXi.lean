import Derived.Test.YtgiokkcdgoloaaaXg
namespace Go.Proofs.Ytgiokkcdgoloaaa.Md
open Go.RowKit
set_option linter.unusedVariables false
set_option linter.unusedSimpArgs false
theorem flat_setP (c : Nat) (xs : List (List Value)) (hc : ∀ x ∈ xs, x.length = c) (sp : List Value) (i k : Nat) (y : List Value) (hy : k + y.length ≤ c) (hi : i < xs.length) : putL (xs.flatten ++ sp) (i * c + k) y = (xs.set i (putL xs[i] k y)).flatten ++ sp := by
  have h : xs = xs.take i ++ ([xs[i]] ++ xs.drop (i + 1)) := by simp
  have h2 : xs.set i (putL xs[i] k y) = xs.take i ++ ([putL xs[i] k y] ++ xs.drop (i + 1)) := by rw [List.set_eq_take_append_cons_drop]; simp [hi]
  have hl : (xs.take i).flatten.length = i * c := by
    rw [flat_len c _ (fun x hx => hc x (List.mem_of_mem_take hx)), List.length_take]; congr 1; omega
  have hxi : (xs[i]).length = c := hc _ (List.getElem_mem hi)
  have h3 : xs.flatten = (xs.take i).flatten ++ (xs[i] ++ (xs.drop (i + 1)).flatten) := by
    have e := congrArg List.flatten h
    rw [List.flatten_append, List.flatten_append, List.flatten_cons, List.flatten_nil, List.append_nil] at e
    exact e
  rw [h2, h3]
  generalize xs[i] = e at *
  obtain ⟨A, B, C, rfl, hA, hB⟩ : ∃ A B C, e = A ++ (B ++ C) ∧ A.length = k ∧ B.length = y.length := ⟨e.take k, (e.drop k).take y.length, (e.drop k).drop y.length, by rw [List.take_append_drop, List.take_append_drop], by rw [List.length_take]; omega, by rw [List.length_take, List.length_drop]; omega⟩
  subst hA
  rw [putL_mid A B C y hB]
  have e1 := putL_mid ((xs.take i).flatten ++ A) B (C ++ ((xs.drop (i + 1)).flatten ++ sp)) y hB
  rw [List.length_append, hl] at e1
  simp only [List.flatten_append, List.flatten_cons, List.flatten_nil, List.append_nil, List.append_assoc] at e1 ⊢
  exact e1
theorem _root_.Go.Proofs.Ytgiokkcdgoloaaa.Own.setP {T ty : TypeId} {c : Nat} {W : World} {base : Nat} {a : Option Addr} {cap n : Nat} {xs : List (List Value)} (h : Own T c W base a cap n xs.flatten) (hc : ∀ x ∈ xs, x.length = c) (hl : xs.length = n) {i k g : Nat} (hi : i < n) (ha : a = some ⟨g, 0, none⟩) {v : Value} {y e : List Value} (he : xs[i]? = some e) (hv : v.cells = y.toArray) (hz : (Try.prog.info? ty).map (·.size) = some y.length) (h1 : ∀ x ∈ y, x.oneCell' = true) (hy : k + y.length ≤ c) :
    ∃ cs', (storeVar ty ⟨g, 0 + i * c + k, none⟩ v).run Try.prog W = .ok () (W.setRow g cs') ∧ Own T c (W.setRow g cs') base a cap n (xs.set i (putL e k y)).flatten := by
  obtain ⟨hil, rfl⟩ := List.getElem?_eq_some_iff.1 he
  rcases h.2 with ⟨hv2, hn⟩ | ⟨g', cap', cur, hv2, hb, hg, hle, hm, hs, ht⟩
  · omega
  · simp only [Value.slice.injEq] at hv2
    obtain ⟨ea, -, rfl⟩ := hv2
    rw [ea] at ha
    cases ha
    obtain ⟨cur, rfl⟩ : ∃ l : List Value, cur = l.toArray := ⟨cur.toList, by simp⟩
    have hbox : Box W g T cur.toArray := hg
    have hs : cur.length = cap * c := by simpa using hs
    have ht : cur.take (n * c) = xs.flatten := by simpa using ht
    have hnc : n * c ≤ cap * c := Nat.mul_le_mul_right _ hle
    have hic : i * c + c ≤ n * c := by rw [← Nat.succ_mul]; exact Nat.mul_le_mul_right _ hi
    have hcur : cur = xs.flatten ++ cur.drop (n * c) := by rw [← ht, List.take_append_drop]
    have hfl : xs.flatten.length = n * c := by rw [flat_len c xs hc, hl]
    refine ⟨(putL cur (0 + i * c + k) y).toArray, run_store_at hbox hv hz (by rw [Nat.zero_add, hs]; omega) h1, ?_⟩
    rw [Nat.zero_add, ea]
    have hp : putL cur (i * c + k) y = (xs.set i (putL xs[i] k y)).flatten ++ cur.drop (n * c) := by
      conv => lhs; rw [hcur]
      exact flat_setP c xs hc _ i k y hy (by omega)
    rw [hp]
    have hpl : (putL xs[i] k y).length = c := by
      have := hc _ (List.getElem_mem hil)
      unfold putL
      simp only [List.length_append, List.length_take, List.length_drop]
      omega
    have hsl : ((xs.set i (putL xs[i] k y)).flatten).length = n * c := by
      rw [flat_len c _ (fun x hx => by rcases List.mem_or_eq_of_mem_set hx with hx | hx; exact hc x hx; rw [hx]; exact hpl), List.length_set, hl]
    exact Own.shut hb (Box.setRow hbox _) hle (by unfold maxLen at hm; omega) (by rw [List.length_append, hsl, List.length_drop, hs]; omega) (by rw [← hsl]; exact List.take_left' rfl)
theorem own_c1 {T : TypeId} {W : World} {base n k g i : Nat} {a : Option Addr} {vs : List Value} {u : Value} (h : Own T 1 W base a k n vs) (ha : a = some ⟨g, 0, none⟩) (hu : vs[i]? = some u) : W.cell? ⟨g, 0 + i * 1, none⟩ = some u := by
  have e : ∀ l : List Value, (l.map (fun z => [z])).flatten = l := fun l => by induction l with
    | nil => rfl
    | cons a l ih => simp only [List.map_cons, List.flatten_cons, ih]; rfl
  have h' : Own T 1 W base a k n (vs.map (fun z => [z])).flatten := by rw [e]; exact h
  have := own_cell h' ha (by intro x hx; obtain ⟨z, _, rfl⟩ := List.mem_map.1 hx; rfl) (by decide) hu 0 u rfl
  rwa [Nat.add_zero] at this
theorem own_set1 {T ty : TypeId} {W : World} {base n k g i : Nat} {a : Option Addr} {vs : List Value} {u : Value} (h : Own T 1 W base a k n vs) (ha : a = some ⟨g, 0, none⟩) (hi : i < n) (hz : (Try.prog.info? ty).map (·.size) = some 1) (hc : u.cells = #[u]) (h1 : u.oneCell' = true) : ∃ cs', (storeVar ty ⟨g, 0 + i * 1, none⟩ u).run Try.prog W = .ok () (W.setRow g cs') ∧ Own T 1 (W.setRow g cs') base a k n (vs.set i u) := by
  have e : ∀ l : List Value, (l.map (fun z => [z])).flatten = l := fun l => by induction l with
    | nil => rfl
    | cons a l ih => simp only [List.map_cons, List.flatten_cons, ih]; rfl
  have h' : Own T 1 W base a k n (vs.map (fun z => [z])).flatten := by rw [e]; exact h
  have hl := h.1
  obtain ⟨cs', h2, h3⟩ := Own.setN (ty := ty) h' (by intro x hx; obtain ⟨z, _, rfl⟩ := List.mem_map.1 hx; rfl) (by rw [List.length_map]; omega) hi ha (v := u) (y := [u]) hc hz (by simpa using h1) rfl
  refine ⟨cs', h2, ?_⟩
  have e2 : ((vs.map (fun z => [z])).set i [u]).flatten = vs.set i u := by
    rw [← e (vs.set i u), List.map_set]
  rw [e2] at h3
  exact h3
section
variable {w W W2 : World} {n0 : Nat} {J0 J J2 S : Nat → Prop} {b g c : Nat} {v v2 : Wv} {x x2 : Wd} {mp mp2 : Nat → Option Nat} {I I2 : Nat → Nat → Prop} {H H2 : List Bl} {U U2 : List Mg} {D D2 : List Dv} {L L2 : List Lv} {l l2 : List (Nat × TypeId × Array Value)} {T T' : List Rowx} {Q Q' : List (Sl × List Int)}
theorem WA.ml (h : WA W n0 J b v x mp I H U D L) : v.mm.l = 4 := by have := h.mm.1; simp [ifL, c4] at this; omega
theorem WA.al (h : WA W n0 J b v x mp I H U D L) : v.aa.l = 4 := by have := h.aa.1; simp [itL, c4i, c4] at this; omega
theorem WA.rl (h : WA W n0 J b v x mp I H U D L) : v.rr.l = 4 := by have := h.rr.1; simp [itL, c4] at this; omega
theorem WA.gl (h : WA W n0 J b v x mp I H U D L) : v.gn.l = 4 := by have := h.gn.1; simp [bnL, c4] at this; omega
theorem WA.mmc (h : WA W n0 J b v x mp I H U D L) (hg : v.mm.a = some ⟨g, 0, none⟩) (hc : c < 4) : W.cell? ⟨g, 0 + c * 1, none⟩ = some (ifV (mp c)) := own_c1 h.mm hg (by unfold ifL; rw [List.getElem?_map, c4_get mp hc]; rfl)
theorem WA.aac (h : WA W n0 J b v x mp I H U D L) (hg : v.aa.a = some ⟨g, 0, none⟩) (hc : c < 4) : W.cell? ⟨g, 0 + c * 1, none⟩ = some (.int .i64 ((x.at' c : Nat) : Int)) := own_c1 h.aa hg (by unfold itL c4i; rw [List.getElem?_map, c4_get _ hc]; rfl)
theorem WA.rrc (h : WA W n0 J b v x mp I H U D L) (hg : v.rr.a = some ⟨g, 0, none⟩) (hc : c < 4) : W.cell? ⟨g, 0 + c * 1, none⟩ = some (.int .i64 (x.rd c)) := own_c1 h.rr hg (by unfold itL; rw [List.getElem?_map, c4_get _ hc]; rfl)
theorem WA.gnc (h : WA W n0 J b v x mp I H U D L) (hg : v.gn.a = some ⟨g, 0, none⟩) (hc : c < 4) : W.cell? ⟨g, 0 + c * 1, none⟩ = some (.bool (x.gone c)) := own_c1 h.gn hg (by unfold bnL; rw [List.getElem?_map, c4_get _ hc]; rfl)
theorem only_at {a : Option Addr} (hg : a = some ⟨g, 0, none⟩) : ∀ k, Only g k → At a k := fun k e => ⟨_, hg, (show k = g from e).symm⟩
theorem Wg.setR (G : Wg w W n0 J0 J b v x mp I H U D L l T Q) (hg : v.rr.a = some ⟨g, 0, none⟩) (hc : c < 4) (r : Int) : ∃ cs' J2, (storeVar 3 ⟨g, 0 + c * 1, none⟩ (.int .i64 r)).run Try.prog W = .ok () (W.setRow g cs') ∧ Wg w (W.setRow g cs') n0 J0 J2 b v { x with rd := upN x.rd c r } mp I H U D L l T Q := by
  obtain ⟨cs', h1, h2⟩ := own_set1 (ty := 3) (u := .int .i64 r) G.wa.rr hg (by rw [G.wa.rl]; exact hc) S3 rfl rfl
  obtain ⟨J2, h3, h4⟩ := G.wa.setR (f := upN x.rd c r) ((Kept.setRow W g cs').mono (fun k _ e => only_at hg k e)) (by rw [c4_up _ hc]; unfold itL at h2 ⊢; rw [List.map_set]; exact h2)
  exact ⟨cs', J2, h1, G.upd h3 h4⟩
theorem Wg.setA (G : Wg w W n0 J0 J b v x mp I H U D L l T Q) (hg : v.aa.a = some ⟨g, 0, none⟩) (hc : c < 4) (r : Nat) : ∃ cs' J2, (storeVar 3 ⟨g, 0 + c * 1, none⟩ (.int .i64 ((r : Nat) : Int))).run Try.prog W = .ok () (W.setRow g cs') ∧ Wg w (W.setRow g cs') n0 J0 J2 b v { x with at' := upN x.at' c r } mp I H U D L l T Q := by
  obtain ⟨cs', h1, h2⟩ := own_set1 (ty := 3) (u := .int .i64 ((r : Nat) : Int)) G.wa.aa hg (by rw [G.wa.al]; exact hc) S3 rfl rfl
  obtain ⟨J2, h3, h4⟩ := G.wa.setA (f := upN x.at' c r) ((Kept.setRow W g cs').mono (fun k _ e => only_at hg k e)) (by
    have e : c4i (upN x.at' c r) = (c4i x.at').set c ((r : Nat) : Int) := by
      exact (congrArg c4 (funext fun k => by unfold upN; split <;> rfl)).trans (c4_up (fun k => ((x.at' k : Nat) : Int)) hc ((r : Nat) : Int))
    rw [e]; unfold itL at h2 ⊢; rw [List.map_set]; exact h2)
  exact ⟨cs', J2, h1, G.upd h3 h4⟩
theorem Wg.setG (G : Wg w W n0 J0 J b v x mp I H U D L l T Q) (hg : v.gn.a = some ⟨g, 0, none⟩) (hc : c < 4) (r : Bool) : ∃ cs' J2, (storeVar 4 ⟨g, 0 + c * 1, none⟩ (.bool r)).run Try.prog W = .ok () (W.setRow g cs') ∧ Wg w (W.setRow g cs') n0 J0 J2 b v { x with gone := upN x.gone c r } mp I H U D L l T Q := by
  obtain ⟨cs', h1, h2⟩ := own_set1 (ty := 4) (u := .bool r) G.wa.gn hg (by rw [G.wa.gl]; exact hc) S4 rfl rfl
  obtain ⟨J2, h3, h4⟩ := G.wa.setG (f := upN x.gone c r) ((Kept.setRow W g cs').mono (fun k _ e => only_at hg k e)) (by rw [c4_up _ hc]; unfold bnL at h2 ⊢; rw [List.map_set]; exact h2)
  exact ⟨cs', J2, h1, G.upd h3 h4⟩
theorem Wg.die (G : Wg w W n0 J0 J b v x mp I H U D L l T Q) (hg : v.mm.a = some ⟨g, 0, none⟩) (hc : c < 4) : ∃ cs' J2, (storeVar 31 ⟨g, 0 + c * 1, none⟩ .nilIface).run Try.prog W = .ok () (W.setRow g cs') ∧ Wg w (W.setRow g cs') n0 J0 J2 b v { x with m := upN x.m c none } (upN mp c none) (fun i k => i ≠ c ∧ I i k) H U D L l T Q := by
  obtain ⟨cs', h1, h2⟩ := own_set1 (ty := 31) (u := .nilIface) G.wa.mm hg (by rw [G.wa.ml]; exact hc) S31 rfl rfl
  have hk : Kept (At v.mm.a) W (W.setRow g cs') := (Kept.setRow W g cs').mono (fun k _ e => only_at hg k e)
  have A := G.wa.wl.drop c
  obtain ⟨J2, h3, h4⟩ := A.row (j := 2) (x := (v.mm, 31, 1, ifL (c4 mp))) rfl hk (s := v.mm) (vs := ifL (c4 (upN mp c none))) (by rw [c4_up _ hc]; unfold ifL at h2 ⊢; rw [List.map_set]; exact h2) (fun k e => .inl e)
  have p := G.wa.pt.up h4 G.wa.n0J
  exact ⟨cs', J2, h1, G.upd ⟨h3, ⟨p.hd, p.un, p.ds, p.ls⟩, G.wa.now, G.wa.br⟩ h4⟩
theorem Wg.born (G : Wg w W n0 J0 J b v x mp I H U D L l T Q) (hg : v.mm.a = some ⟨g, 0, none⟩) (hc : c < 4) {s : RM} {m : Nat} {J1 : Nat → Prop} {W1 : World} {I1 : Nat → Nat → Prop} (A : Wl W1 n0 J1 b v.cells (rows v x mp H U D L) I1 (upN x.m c (some s)) (upN mp c (some m))) (u : Up5 W J W1 J1) : ∃ cs' J2, (storeVar 31 ⟨g, 0 + c * 1, none⟩ (ifV (some m))).run Try.prog W1 = .ok () (W1.setRow g cs') ∧ Wg w (W1.setRow g cs') n0 J0 J2 b v { x with m := upN x.m c (some s) } (upN mp c (some m)) I1 H U D L l T Q := by
  have hm : Own 31 1 W1 n0 v.mm.a v.mm.k v.mm.l (ifL (c4 mp)) := A.ow 2 _ rfl
  obtain ⟨cs', h1, h2⟩ := own_set1 (ty := 31) (u := ifV (some m)) hm hg (by rw [G.wa.ml]; exact hc) S31 rfl rfl
  have hk : Kept (At v.mm.a) W1 (W1.setRow g cs') := (Kept.setRow W1 g cs').mono (fun k _ e => only_at hg k e)
  obtain ⟨J2, h3, h4⟩ := A.row (j := 2) (x := (v.mm, 31, 1, ifL (c4 mp))) rfl hk (s := v.mm) (vs := ifL (c4 (upN mp c (some m)))) (by rw [c4_up _ hc]; unfold ifL at h2 ⊢; rw [List.map_set]; exact h2) (fun k e => .inl e)
  have u2 := u.trans h4
  have p := G.wa.pt.up u2 G.wa.n0J
  exact ⟨cs', J2, h1, G.upd ⟨h3, ⟨p.hd, p.un, p.ds, p.ls⟩, G.wa.now, G.wa.br⟩ u2⟩
theorem Wg.setE (G : Wg w W n0 J0 J b v x mp I H U D L l T Q) (hg : v.ds.a = some ⟨g, 0, none⟩) {i k : Nat} {d d2 : Dv} {p2 : Dd} (hi : D[i]? = some d) {ty : TypeId} {u : Value} {y : List Value} (hv : u.cells = y.toArray) (hz : (Try.prog.info? ty).map (·.size) = some y.length) (h1 : ∀ x ∈ y, x.oneCell' = true) (hy : k + y.length ≤ 16) (hd : putL d.cs k y = d2.cs) (hr : DdM W n0 p2 d2) : ∃ cs' J2, (storeVar ty ⟨g, 0 + i * 16 + k, none⟩ u).run Try.prog W = .ok () (W.setRow g cs') ∧ Wg w (W.setRow g cs') n0 J0 J2 b v { x with ds := x.ds.set i p2 } mp I H U (D.set i d2) L l T Q := by
  have hil := (List.getElem?_eq_some_iff.1 hi).1
  obtain ⟨cs', h2, h3⟩ := Own.setP (ty := ty) (xs := D.map Dv.cs) G.wa.ds (dvL_c D) (by rw [List.length_map]; exact G.wa.dl) (i := i) (k := k) (by rw [← G.wa.dl]; exact hil) hg (e := d.cs) (by rw [List.getElem?_map, hi]; rfl) hv hz h1 hy
  rw [hd] at h3
  have hk : Kept (At v.ds.a) W (W.setRow g cs') := (Kept.setRow W g cs').mono (fun k _ e => only_at hg k e)
  have bb : ∀ {s : Sl} {z : List Int}, By W n0 s z → By (W.setRow g cs') n0 s z := fun hb => G.wa.wl.by' (j := 7) (y := (v.ds, 109, 16, dvL D)) rfl hk hb
  obtain ⟨J2, h4, h5⟩ := G.wa.setE (D2 := D.set i d2) (ds2 := x.ds.set i p2) hk (by unfold dvL; rw [List.map_set]; exact h3) ((G.wa.pt.ds.mono (fun a c r => ⟨r.e, bb r.b, bb r.c⟩)).set i ⟨hr.e, bb hr.b, bb hr.c⟩)
  exact ⟨cs', J2, h2, G.upd h4 h5⟩
end
theorem donP_len {W : World} {I : Nat → Prop} {m : Nat} {s : RM} (h : Mch W I m s) : (donP s).2.2.1.length ≤ 140737488351232 := by
  obtain ⟨⟨a, cap, t, v, hM, i1, i2, hP⟩, len⟩ := h
  unfold donP
  cases hp : s.ph with
  | fin er st z => rw [hp] at hP; obtain ⟨_, da, dc, _, hz, _⟩ := hP; exact hz
  | fresh => simp
  | ask X => simp
  | lay b U => simp
theorem lookW_none {x : Wd} {c : Nat} (h : x.m c = none) : lookW x c = x := by unfold lookW; rw [h]
theorem lookW_no {x : Wd} {c : Nat} {s : RM} (h : x.m c = some s) (hd : (donP s).2.2.2 = false) : lookW x c = { x with rd := upN x.rd c s.rd } := by
  unfold lookW
  rw [h]
  dsimp only
  unfold donP at hd
  split
  · rename_i e; rw [e] at hd; cases hd
  · rfl
theorem lookW_fin {x : Wd} {c : Nat} {s : RM} (h : x.m c = some s) (hd : (donP s).2.2.2 = true) : lookW x c = { x with rd := upN x.rd c s.rd, now := x.now + 1, ds := x.ds.modify (x.at' c) (fun d => endD d (x.now + 1) (donP s).1 (donP s).2.1 (donP s).2.2.1), m := upN x.m c none } := by
  unfold lookW
  rw [h]
  dsimp only
  unfold donP at hd ⊢
  split
  · rename_i e; rw [e]
  · rename_i q
    split at hd
    · rename_i e; exact absurd e (q _ _ _)
    · cases hd
theorem modify_set {α : Type} (f : α → α) {l : List α} {i : Nat} {a : α} (h : l[i]? = some a) : l.modify i f = l.set i (f a) := by
  refine List.ext_getElem? (fun j => ?_)
  rw [List.getElem?_modify, List.getElem?_set]
  by_cases e : i = j
  · subst e
    obtain ⟨h1, rfl⟩ := List.getElem?_eq_some_iff.1 h
    simp [h1]
  · simp [e]
end Go.Proofs.Ytgiokkcdgoloaaa.Md
namespace Go.Proofs.Ytgiokkcdgoloaaa.Md
open Go.RowKit
set_option linter.unusedVariables false
set_option linter.unusedSimpArgs false
theorem Wg.mch {w W : World} {n0 : Nat} {J0 J : Nat → Prop} {b : Nat} {v : Wv} {x : Wd} {mp : Nat → Option Nat} {I : Nat → Nat → Prop} {H : List Bl} {U : List Mg} {D : List Dv} {L : List Lv} {l : List (Nat × TypeId × Array Value)} {T : List Rowx} {Q : List (Sl × List Int)} (G : Wg w W n0 J0 J b v x mp I H U D L l T Q) {c m : Nat} {s : RM} (hm : x.m c = some s) (hp : mp c = some m) : Mch W (I c) m s := by
 obtain ⟨m', h1, h2⟩ := G.wa.wl.mc c s hm
 rw [hp] at h1
 cases h1
 exact h2
theorem done_W {W : World} {I : Nat → Prop} {m : Nat} {s : RM} {er : Int} {st : Sp} {z : List Int} {bb : Bool} (h : Mch W I m s) (hd : donP s = (er, st, z, bb)) : Calls Try.prog 83 #[.pointer (some ⟨m, 0, none⟩)] W (DoneOut W er st.n st.c z bb) := by
 have := done_M h
 rw [hd] at this
 exact this
theorem eql31_f (m : Nat) (w : World) : (binOp .eql 31 (.iface 115 (.pointer (some ⟨m, 0, none⟩))) .nilIface).run Try.prog w = .ok (.bool false) w := by kernel_rfl
theorem eql31_t (w : World) : (binOp .eql 31 .nilIface .nilIface).run Try.prog w = .ok (.bool true) w := by kernel_rfl
theorem DdM.en {W : World} {n0 : Nat} {p : Dd} {d : Dv} (h : DdM W n0 p d) (n : Int) : DdM W n0 { p with en := n } { d with en := n } :=
 ⟨by
  have e := h.e
  obtain ⟨a1, a2, a3, a4, a5, a6⟩ := d
  simp only [Dv.mk.injEq] at e ⊢
  exact ⟨e.1, e.2.1, e.2.2.1, trivial, trivial, e.2.2.2.2.2⟩, h.b, h.c⟩
theorem DdM.res {W : World} {n0 : Nat} {p : Dd} {d : Dv} (h : DdM W n0 p d) (er : Int) (st : Sp) {s : Sl} {z : List Int} (hz : By W n0 s z) : DdM W n0 { p with er := er, st := st, rz := z } { d with r := ⟨er, enZ, slZ, s, 0, st, 0⟩ } :=
 ⟨by
  have e := h.e
  obtain ⟨a1, a2, a3, a4, a5, a6⟩ := d
  simp only [Dv.mk.injEq] at e ⊢
  exact ⟨e.1, e.2.1, e.2.2.1, e.2.2.2.1, trivial, trivial⟩, h.b, hz⟩
set_option maxRecDepth 100000 in
set_option maxHeartbeats 4000000 in
theorem look_any_w (n0 : Nat) (J : Nat → Prop) (b : Nat) (x : Wd) (c : Nat) (w : World) (hW : WAt w n0 J b x) (hc : c < 4) (hat : ∀ s, x.m c = some s → x.at' c < x.ds.length) (hnow : 0 ≤ x.now ∧ x.now ≤ 1000000000) : Calls Try.prog 46 #[.pointer (some ⟨b, 0, none⟩), .int .i64 ((c : Nat) : Int)] w (WOut w n0 J b (lookW x c)) := by
 refine hideC fun C HC => ?_
 obtain ⟨v, mp, I, H, U, D, L, hA⟩ := hW
 have hml := hA.ml
 have hal := hA.al
 have hrl := hA.rl
 have hdl := hA.dl
 have hvn := hA.now
 have hvb := hA.br
 have hxd : x.ds.length = v.ds.l := by rw [hA.pt.ds.1, hA.dl]
 obtain ⟨gm, hgm⟩ := own_at hA.mm (by omega)
 obtain ⟨ga, hga⟩ := own_at hA.aa (by omega)
 obtain ⟨gr, hgr⟩ := own_at hA.rr (by omega)
 have HF : Hid (Wg w w n0 J J b v x mp I H U D L [] [] []) := Wg.start hA
 clear hA
 go_enter Try.func46, Try.ntmps46
 cases hm : x.m c with
 | none =>
  have hmp : mp c = none := HF.out.wa.wl.mn c hm
  go_upto_region 0 with fail
  refine WL.start <| uK (pV b 0) <| uK (pV b 0) <| uK (pV b 2) <| uL 69 ⟨b, 2, none⟩ (v.mm.v) (ld1 HF.out.wbox 2 U69 rfl) <| uK (.int .i64 ((c : Nat) : Int)) <| uW (pV gm (0 + c * 1)) (exec_ixS 69 1 E69 F69 _ _ rfl hgm (by omega)) <| uL 31 ⟨gm, 0 + c * 1, none⟩ (.nilIface) (load_one ((HF.out.wa.mmc hgm hc).trans (by rw [hmp]; rfl)) U31 V31) <| uB .eql 31 (.nilIface) (.nilIface) (.bool true) (eql31_t _) <| WL.nil <| ?_
  try simp only [pS]
  go_wp2
  rw [HC.out, lookW_none hm]
  refine bodyPost_ret (v := .tuple #[]) (by kernel_rfl) rfl ⟨rfl, HF.out.out⟩
 | some s =>
  obtain ⟨m, hmp, hM⟩ := HF.out.wa.wl.mc c s hm
  have hzl := donP_len hM
  clear hM
  have hati := hat s hm
  obtain ⟨p, hpi⟩ : ∃ p, x.ds[x.at' c]? = some p := ⟨_, List.getElem?_eq_getElem hati⟩
  obtain ⟨d, hdi, hdd⟩ := HF.out.wa.pt.ds.at hpi
  clear hdd
  obtain ⟨gd, hgd⟩ := own_at HF.out.wa.ds (by omega)
  obtain ⟨⟨er, st, z, bb⟩, hdp⟩ : ∃ q, donP s = q := ⟨_, rfl⟩
  rw [hdp] at hzl
  dsimp only at hzl
  cases bb with
  | false =>
   go_upto_region 0 with fail
   refine WL.start <| uK (pV b 0) <| uK (pV b 0) <| uK (pV b 2) <| uL 69 ⟨b, 2, none⟩ (v.mm.v) (ld1 HF.out.wbox 2 U69 rfl) <| uK (.int .i64 ((c : Nat) : Int)) <| uW (pV gm (0 + c * 1)) (exec_ixS 69 1 E69 F69 _ _ rfl hgm (by omega)) <| uL 31 ⟨gm, 0 + c * 1, none⟩ (.iface 115 (pV m 0)) (load_one ((HF.out.wa.mmc hgm hc).trans (by rw [hmp]; rfl)) U31 V31) <| uB .eql 31 (.iface 115 (pV m 0)) (.nilIface) (.bool false) (eql31_f _ _) <| WL.nil <| ?_
   try simp only [pS]
   go_upto_region 1 with fail
   refine WL.start <| uK (pV b 0) <| uK (pV b 0) <| uK (pV b 2) <| uL 69 ⟨b, 2, none⟩ (v.mm.v) (ld1 HF.out.wbox 2 U69 rfl) <| uK (.int .i64 ((c : Nat) : Int)) <| uW (pV gm (0 + c * 1)) (exec_ixS 69 1 E69 F69 _ _ rfl hgm (by omega)) <| uL 31 ⟨gm, 0 + c * 1, none⟩ (.iface 115 (pV m 0)) (load_one ((HF.out.wa.mmc hgm hc).trans (by rw [hmp]; rfl)) U31 V31) <| ?_
   try simp only [pS]
   refine uC 83 #[pV m 0] (done_W (HF.out.mch hm hmp) hdp) ?_
   rintro e wk1 ⟨da, dc, rfl, hO, hk⟩
   have HF : Hid (Wg w wk1 n0 J J b v x mp I H U D L [] [] [(⟨da, z.length, dc⟩, z)]) := (HF.out.no hk).byt (Q := []) (Q' := [(⟨da, z.length, dc⟩, z)]) (by simpa using By.own (Own.lower hO (Nat.zero_le _)) hzl)
   clear hO hk
   refine ⟨.tuple #[.agg (resC er st.n st.c da z.length dc), .bool false], rfl, ?_⟩
   try simp only [pS]
   refine uK (.tuple #[.agg (resC er st.n st.c da z.length dc), .bool false]) <| uK (.agg (Rz.cells ⟨er, enZ, slZ, ⟨da, z.length, dc⟩, 0, st, 0⟩)) <| uK (.bool false) <| ?_
   try simp only [pS]
   refine uR (pV wk1.heap.size 0) (wk1.alloc (.cells (Rz.cells rzZ) 90)) (exec_alloc 90 rfl (Rz.cells rzZ) Z90) ?_
   try simp only [pS]
   have HF : Hid _ := HF.out.alloc 90 (Rz.cells rzZ)
   generalize wk1.alloc (.cells (Rz.cells rzZ) 90) = wk3 at HF ⊢
   generalize wk1.heap.size = gk2 at HF ⊢
   refine uT 90 ⟨gk2, 0, none⟩ (.agg (Rz.cells ⟨er, enZ, slZ, ⟨da, z.length, dc⟩, 0, st, 0⟩)) (wk3.setRow gk2 (Rz.cells ⟨er, enZ, slZ, ⟨da, z.length, dc⟩, 0, st, 0⟩)) (rs (Rz.cs rzZ) (Rz.cs ⟨er, enZ, slZ, ⟨da, z.length, dc⟩, 0, st, 0⟩) (Rz.cs ⟨er, enZ, slZ, ⟨da, z.length, dc⟩, 0, st, 0⟩) (HF.out.box 0 _ _ _ rfl) S90 (Rz.oneL _)) ?_
   try simp only [pS]
   have HF : Hid _ := HF.out.set 0 rfl (Rz.cells ⟨er, enZ, slZ, ⟨da, z.length, dc⟩, 0, st, 0⟩)
   generalize wk3.setRow gk2 (Rz.cells ⟨er, enZ, slZ, ⟨da, z.length, dc⟩, 0, st, 0⟩) = wk4 at HF ⊢
   refine uK (.bool false) <| WL.nil <| ?_
   try simp only [pS]
   go_upto_region 2 with fail
   refine wp_region_held_drew (S := fun w' => Box w' b 75 (Wv.cells v)) rfl (HF.out.drew.wbox) (fun hH => ?_)
   have HF : Hid _ := HF.out.drew
   generalize wk4.drew = wk5 at HF hH ⊢
   refine xV 0 25 (pV b 0) hH <| xV 1 26 (pV b 0) hH <| xV 2 27 (pV b 4) hH <| xL 3 28 24 ⟨b, 4, none⟩ v.rr.v (fun _ hw => ld1 hw 4 U24 rfl) hH <| xV 4 29 (.int .i64 ((c : Nat) : Int)) hH <| xV 5 30 (pV b 0) hH <| xV 6 31 (pV b 0) hH <| xV 7 32 (pV b 2) hH <| xL 8 33 69 ⟨b, 2, none⟩ v.mm.v (fun _ hw => ld1 hw 2 U69 rfl) hH <| xV 9 34 (.int .i64 ((c : Nat) : Int)) hH <| xU 10 35 (pV gm (0 + c * 1)) (fun w' hw => exec_ixS 69 1 E69 F69 _ _ rfl hgm (by omega)) hH <| ?_
   try simp only [pS]
   refine xP 11 36 (.iface 115 (pV m 0)) (w' := wk5) (exec_load 31 _ rfl ⟨gm, 0 + c * 1, none⟩ (by kernel_rfl) (.iface 115 (pV m 0)) (load_one ((HF.out.wa.mmc hgm hc).trans (by rw [hmp]; rfl)) U31 V31)) hH (fun hH => ?_)
   try simp only [pS]
   refine xC 12 37 84 #[pV m 0] (round_M (HF.out.mch hm hmp)) ?_
   rintro e wq ⟨rfl, hwq⟩
   rw [hwq]
   clear hwq wq
   refine ⟨.int .i64 s.rd, rfl, hH, fun hH => ?_⟩
   try simp only [pS]
   refine xU 13 38 (pV gr (0 + c * 1)) (fun w' hw => exec_ixS 24 1 E24 F24 _ _ rfl hgr (by omega)) hH ?_
   try simp only [pS]
   obtain ⟨csr, J2, hst, hG⟩ := HF.out.setR hgr hc s.rd
   refine xS 14 3 ⟨gr, 0 + c * 1, none⟩ (.int .i64 s.rd) (w' := wk5.setRow gr csr) hst ((hG.wbox)) (fun hH => ?_)
   try simp only [pS]
   have HF : Hid (Wg w (wk5.setRow gr csr) n0 J J2 b v ({ x with rd := upN x.rd c s.rd }) mp I H U D L [(gk2, 90, Rz.cells ⟨er, enZ, slZ, ⟨da, z.length, dc⟩, 0, st, 0⟩)] [] [(⟨da, z.length, dc⟩, z)]) := hG
   clear hG hst
   generalize wk5.setRow gr csr = wk6 at HF hH ⊢
   refine wpAnyH_done (by kernel_rfl) ?_ _
   try simp only [pS]
   clear hH
   go_upto_region 3 with fail
   refine WL.start <| uK (.bool false) <| uK (.bool true) <| WL.nil <| ?_
   try simp only [pS]
   go_wp2
   rw [HC.out, lookW_no hm (by rw [hdp])]
   refine bodyPost_ret (v := .tuple #[]) (by kernel_rfl) rfl ⟨rfl, HF.out.out⟩
  | true =>
   go_upto_region 0 with fail
   refine WL.start <| uK (pV b 0) <| uK (pV b 0) <| uK (pV b 2) <| uL 69 ⟨b, 2, none⟩ (v.mm.v) (ld1 HF.out.wbox 2 U69 rfl) <| uK (.int .i64 ((c : Nat) : Int)) <| uW (pV gm (0 + c * 1)) (exec_ixS 69 1 E69 F69 _ _ rfl hgm (by omega)) <| uL 31 ⟨gm, 0 + c * 1, none⟩ (.iface 115 (pV m 0)) (load_one ((HF.out.wa.mmc hgm hc).trans (by rw [hmp]; rfl)) U31 V31) <| uB .eql 31 (.iface 115 (pV m 0)) (.nilIface) (.bool false) (eql31_f _ _) <| WL.nil <| ?_
   try simp only [pS]
   go_upto_region 1 with fail
   refine WL.start <| uK (pV b 0) <| uK (pV b 0) <| uK (pV b 2) <| uL 69 ⟨b, 2, none⟩ (v.mm.v) (ld1 HF.out.wbox 2 U69 rfl) <| uK (.int .i64 ((c : Nat) : Int)) <| uW (pV gm (0 + c * 1)) (exec_ixS 69 1 E69 F69 _ _ rfl hgm (by omega)) <| uL 31 ⟨gm, 0 + c * 1, none⟩ (.iface 115 (pV m 0)) (load_one ((HF.out.wa.mmc hgm hc).trans (by rw [hmp]; rfl)) U31 V31) <| ?_
   try simp only [pS]
   refine uC 83 #[pV m 0] (done_W (HF.out.mch hm hmp) hdp) ?_
   rintro e wk7 ⟨da, dc, rfl, hO, hk⟩
   have HF : Hid (Wg w wk7 n0 J J b v x mp I H U D L [] [] [(⟨da, z.length, dc⟩, z)]) := (HF.out.no hk).byt (Q := []) (Q' := [(⟨da, z.length, dc⟩, z)]) (by simpa using By.own (Own.lower hO (Nat.zero_le _)) hzl)
   clear hO hk
   refine ⟨.tuple #[.agg (resC er st.n st.c da z.length dc), .bool true], rfl, ?_⟩
   try simp only [pS]
   refine uK (.tuple #[.agg (resC er st.n st.c da z.length dc), .bool true]) <| uK (.agg (Rz.cells ⟨er, enZ, slZ, ⟨da, z.length, dc⟩, 0, st, 0⟩)) <| uK (.bool true) <| ?_
   try simp only [pS]
   refine uR (pV wk7.heap.size 0) (wk7.alloc (.cells (Rz.cells rzZ) 90)) (exec_alloc 90 rfl (Rz.cells rzZ) Z90) ?_
   try simp only [pS]
   have HF : Hid _ := HF.out.alloc 90 (Rz.cells rzZ)
   generalize wk7.alloc (.cells (Rz.cells rzZ) 90) = wk9 at HF ⊢
   generalize wk7.heap.size = gk8 at HF ⊢
   refine uT 90 ⟨gk8, 0, none⟩ (.agg (Rz.cells ⟨er, enZ, slZ, ⟨da, z.length, dc⟩, 0, st, 0⟩)) (wk9.setRow gk8 (Rz.cells ⟨er, enZ, slZ, ⟨da, z.length, dc⟩, 0, st, 0⟩)) (rs (Rz.cs rzZ) (Rz.cs ⟨er, enZ, slZ, ⟨da, z.length, dc⟩, 0, st, 0⟩) (Rz.cs ⟨er, enZ, slZ, ⟨da, z.length, dc⟩, 0, st, 0⟩) (HF.out.box 0 _ _ _ rfl) S90 (Rz.oneL _)) ?_
   try simp only [pS]
   have HF : Hid _ := HF.out.set 0 rfl (Rz.cells ⟨er, enZ, slZ, ⟨da, z.length, dc⟩, 0, st, 0⟩)
   generalize wk9.setRow gk8 (Rz.cells ⟨er, enZ, slZ, ⟨da, z.length, dc⟩, 0, st, 0⟩) = wk10 at HF ⊢
   refine uK (.bool true) <| WL.nil <| ?_
   try simp only [pS]
   go_upto_region 2 with fail
   refine wp_region_held_drew (S := fun w' => Box w' b 75 (Wv.cells v)) rfl (HF.out.drew.wbox) (fun hH => ?_)
   have HF : Hid _ := HF.out.drew
   generalize wk10.drew = wk11 at HF hH ⊢
   refine xV 0 25 (pV b 0) hH <| xV 1 26 (pV b 0) hH <| xV 2 27 (pV b 4) hH <| xL 3 28 24 ⟨b, 4, none⟩ v.rr.v (fun _ hw => ld1 hw 4 U24 rfl) hH <| xV 4 29 (.int .i64 ((c : Nat) : Int)) hH <| xV 5 30 (pV b 0) hH <| xV 6 31 (pV b 0) hH <| xV 7 32 (pV b 2) hH <| xL 8 33 69 ⟨b, 2, none⟩ v.mm.v (fun _ hw => ld1 hw 2 U69 rfl) hH <| xV 9 34 (.int .i64 ((c : Nat) : Int)) hH <| xU 10 35 (pV gm (0 + c * 1)) (fun w' hw => exec_ixS 69 1 E69 F69 _ _ rfl hgm (by omega)) hH <| ?_
   try simp only [pS]
   refine xP 11 36 (.iface 115 (pV m 0)) (w' := wk11) (exec_load 31 _ rfl ⟨gm, 0 + c * 1, none⟩ (by kernel_rfl) (.iface 115 (pV m 0)) (load_one ((HF.out.wa.mmc hgm hc).trans (by rw [hmp]; rfl)) U31 V31)) hH (fun hH => ?_)
   try simp only [pS]
   refine xC 12 37 84 #[pV m 0] (round_M (HF.out.mch hm hmp)) ?_
   rintro e wq ⟨rfl, hwq⟩
   rw [hwq]
   clear hwq wq
   refine ⟨.int .i64 s.rd, rfl, hH, fun hH => ?_⟩
   try simp only [pS]
   refine xU 13 38 (pV gr (0 + c * 1)) (fun w' hw => exec_ixS 24 1 E24 F24 _ _ rfl hgr (by omega)) hH ?_
   try simp only [pS]
   obtain ⟨csr, J2, hst, hG⟩ := HF.out.setR hgr hc s.rd
   refine xS 14 3 ⟨gr, 0 + c * 1, none⟩ (.int .i64 s.rd) (w' := wk11.setRow gr csr) hst ((hG.wbox)) (fun hH => ?_)
   try simp only [pS]
   have HF : Hid (Wg w (wk11.setRow gr csr) n0 J J2 b v ({ x with rd := upN x.rd c s.rd }) mp I H U D L [(gk8, 90, Rz.cells ⟨er, enZ, slZ, ⟨da, z.length, dc⟩, 0, st, 0⟩)] [] [(⟨da, z.length, dc⟩, z)]) := hG
   clear hG hst
   generalize wk11.setRow gr csr = wk12 at HF hH ⊢
   refine wpAnyH_done (by kernel_rfl) ?_ _
   try simp only [pS]
   clear hH
   go_upto_region 3 with fail
   refine WL.start <| uK (.bool true) <| uK (.bool false) <| WL.nil <| ?_
   try simp only [pS]
   go_upto_region 4 with fail
   refine WL.start <| uK (pV b 0) <| uK (pV b 0) <| uK (pV b 9) <| uL 3 ⟨b, 9, none⟩ (.int .i64 v.now) (ld1 HF.out.wbox 9 U3 rfl) <| uB .add 3 (.int .i64 v.now) (.int .i64 1) (.int .i64 (v.now + 1)) (b_addw _ _ _ (by rw [IntKind.wrap_i64]; omega) _) <| uK (pV b 0) <| uK (pV b 9) <| ?_
   try simp only [pS]
   have hG := HF.out.flag (v.now + 1) v.br
   refine uT 3 ⟨b, 9, none⟩ (.int .i64 (v.now + 1)) (wk12.setRow b (Wv.cells ⟨v.gp, v.hd, v.mm, v.aa, v.rr, v.gn, v.un, v.ds, v.ls, v.now + 1, v.br⟩)) (rs (Wv.cs v) ([.int .i64 (v.now + 1)]) (Wv.cs ⟨v.gp, v.hd, v.mm, v.aa, v.rr, v.gn, v.un, v.ds, v.ls, v.now + 1, v.br⟩) (HF.out.wbox) S3 (by simp [Value.oneCell', Sl.v])) ?_
   try simp only [pS]
   have HF : Hid (Wg w (wk12.setRow b (Wv.cells ⟨v.gp, v.hd, v.mm, v.aa, v.rr, v.gn, v.un, v.ds, v.ls, v.now + 1, v.br⟩)) n0 J J2 b ⟨v.gp, v.hd, v.mm, v.aa, v.rr, v.gn, v.un, v.ds, v.ls, v.now + 1, v.br⟩ ({ x with rd := upN x.rd c s.rd, now := v.now + 1, br := v.br }) mp I H U D L [(gk8, 90, Rz.cells ⟨er, enZ, slZ, ⟨da, z.length, dc⟩, 0, st, 0⟩)] [] [(⟨da, z.length, dc⟩, z)]) := hG
   try clear hG
   generalize wk12.setRow b (Wv.cells ⟨v.gp, v.hd, v.mm, v.aa, v.rr, v.gn, v.un, v.ds, v.ls, v.now + 1, v.br⟩) = wk13 at HF ⊢
   refine WL.nil ?_
   try simp only [pS]
   go_upto_region 5 with fail
   refine wp_region_held_drew (S := fun w' => Box w' b 75 (Wv.cells ⟨v.gp, v.hd, v.mm, v.aa, v.rr, v.gn, v.un, v.ds, v.ls, v.now + 1, v.br⟩)) rfl (HF.out.drew.wbox) (fun hH => ?_)
   have HF : Hid _ := HF.out.drew
   generalize wk13.drew = wk14 at HF hH ⊢
   refine xV 0 48 (pV b 0) hH <| xV 1 49 (pV b 0) hH <| xV 2 50 (pV b 7) hH <| xL 3 51 72 ⟨b, 7, none⟩ v.ds.v (fun _ hw => ld1 hw 7 U72 rfl) hH <| xV 4 52 (pV b 0) hH <| xV 5 53 (pV b 0) hH <| xV 6 54 (pV b 3) hH <| xL 7 55 24 ⟨b, 3, none⟩ v.aa.v (fun _ hw => ld1 hw 3 U24 rfl) hH <| xV 8 56 (.int .i64 ((c : Nat) : Int)) hH <| xU 9 57 (pV ga (0 + c * 1)) (fun w' hw => exec_ixS 24 1 E24 F24 _ _ rfl hga (by omega)) hH <| xV 11 59 (pV b 0) hH <| xV 12 60 (pV b 0) hH <| xV 13 61 (pV b 9) hH <| xL 14 62 3 ⟨b, 9, none⟩ (.int .i64 (v.now + 1)) (fun _ hw => ld1 hw 9 U3 rfl) hH <| ?_
   try simp only [pS]
   refine xP 10 58 (.int .i64 ((x.at' c : Nat) : Int)) (w' := wk14) (exec_load 3 _ rfl ⟨ga, 0 + c * 1, none⟩ (by kernel_rfl) (.int .i64 ((x.at' c : Nat) : Int)) (load_one (HF.out.wa.aac hga hc) U3 rfl)) hH (fun hH => ?_)
   try simp only [pS]
   refine xU 15 63 (pV gd (0 + (x.at' c) * 16)) (fun w' hw => exec_ixS 72 16 E72 F72 _ _ rfl hgd (by omega)) hH <| xV 16 64 (pV gd (0 + (x.at' c) * 16 + 3)) hH <| ?_
   try simp only [pS]
   have hdd := (HF.out.wa.pt.ds.2 _ _ _ hpi hdi).en (v.now + 1)
   obtain ⟨csd, J3, hst, hG⟩ := HF.out.setE (p2 := { p with en := v.now + 1 }) (d2 := { d with en := v.now + 1 }) (u := .int .i64 (v.now + 1)) (y := [.int .i64 (v.now + 1)]) (k := 3) hgd hdi rfl S3 (by simp [Value.oneCell']) (Nat.le_of_ble_eq_true (by kernel_rfl)) rfl hdd
   refine xS 17 3 ⟨gd, 0 + (x.at' c) * 16 + 3, none⟩ (.int .i64 (v.now + 1)) (w' := wk14.setRow gd csd) hst ((hG.wbox)) (fun hH => ?_)
   try simp only [pS]
   have HF : Hid (Wg w (wk14.setRow gd csd) n0 J J3 b ⟨v.gp, v.hd, v.mm, v.aa, v.rr, v.gn, v.un, v.ds, v.ls, v.now + 1, v.br⟩ ({ x with rd := upN x.rd c s.rd, now := v.now + 1, br := v.br, ds := x.ds.set (x.at' c) { p with en := v.now + 1 } }) mp I H U (D.set (x.at' c) { d with en := v.now + 1 }) L [(gk8, 90, Rz.cells ⟨er, enZ, slZ, ⟨da, z.length, dc⟩, 0, st, 0⟩)] [] [(⟨da, z.length, dc⟩, z)]) := hG
   clear hG hst
   generalize wk14.setRow gd csd = wk15 at HF hH ⊢
   clear hdd
   refine wpAnyH_done (by kernel_rfl) ?_ _
   try simp only [pS]
   clear hH
   go_upto_region 6 with fail
   refine wp_region_held_drew (S := fun w' => Box w' b 75 (Wv.cells ⟨v.gp, v.hd, v.mm, v.aa, v.rr, v.gn, v.un, v.ds, v.ls, v.now + 1, v.br⟩) ∧ Box w' gk8 90 (Rz.cells ⟨er, enZ, slZ, ⟨da, z.length, dc⟩, 0, st, 0⟩)) rfl ⟨HF.out.drew.wbox, HF.out.drew.box 0 _ _ _ rfl⟩ (fun hH => ?_)
   have HF : Hid _ := HF.out.drew
   generalize wk15.drew = wk16 at HF hH ⊢
   refine xV 0 65 (pV b 0) hH <| xV 1 66 (pV b 0) hH <| xV 2 67 (pV b 7) hH <| xL 3 68 72 ⟨b, 7, none⟩ v.ds.v (fun _ hw => ld1 hw.1 7 U72 rfl) hH <| xV 4 69 (pV b 0) hH <| xV 5 70 (pV b 0) hH <| xV 6 71 (pV b 3) hH <| xL 7 72 24 ⟨b, 3, none⟩ v.aa.v (fun _ hw => ld1 hw.1 3 U24 rfl) hH <| xV 8 73 (.int .i64 ((c : Nat) : Int)) hH <| xU 9 74 (pV ga (0 + c * 1)) (fun w' hw => exec_ixS 24 1 E24 F24 _ _ rfl hga (by omega)) hH <| xL 11 76 90 ⟨gk8, 0, none⟩ (.agg (Rz.cells ⟨er, enZ, slZ, ⟨da, z.length, dc⟩, 0, st, 0⟩)) (fun _ hw => run_load_part (cs := Rz.cs ⟨er, enZ, slZ, ⟨da, z.length, dc⟩, 0, st, 0⟩) (sub := Rz.cs ⟨er, enZ, slZ, ⟨da, z.length, dc⟩, 0, st, 0⟩) (hw.2) (Part.all _) U90 rfl S90) hH <| ?_
   try simp only [pS]
   refine xP 10 75 (.int .i64 ((x.at' c : Nat) : Int)) (w' := wk16) (exec_load 3 _ rfl ⟨ga, 0 + c * 1, none⟩ (by kernel_rfl) (.int .i64 ((x.at' c : Nat) : Int)) (load_one (HF.out.wa.aac hga hc) U3 rfl)) hH (fun hH => ?_)
   try simp only [pS]
   refine xU 12 77 (pV gd (0 + (x.at' c) * 16)) (fun w' hw => exec_ixS 72 16 E72 F72 _ _ rfl hgd (by omega)) hH <| xV 13 78 (pV gd (0 + (x.at' c) * 16 + 5)) hH <| ?_
   try simp only [pS]
   have hpi2 : (x.ds.set (x.at' c) { p with en := v.now + 1 })[x.at' c]? = some { p with en := v.now + 1 } := List.getElem?_set_self (by omega)
   have hdi2 : (D.set (x.at' c) { d with en := v.now + 1 })[x.at' c]? = some { d with en := v.now + 1 } := List.getElem?_set_self (by omega)
   have hdd := (HF.out.wa.pt.ds.2 _ _ _ hpi2 hdi2).res er st (HF.out.qs 0 _ rfl)
   obtain ⟨cse, J4, hst, hG⟩ := HF.out.setE (p2 := { p with en := v.now + 1, er := er, st := st, rz := z }) (d2 := { d with en := v.now + 1, r := ⟨er, enZ, slZ, ⟨da, z.length, dc⟩, 0, st, 0⟩ }) (u := .agg (Rz.cells ⟨er, enZ, slZ, ⟨da, z.length, dc⟩, 0, st, 0⟩)) (y := Rz.cs ⟨er, enZ, slZ, ⟨da, z.length, dc⟩, 0, st, 0⟩) (k := 5) hgd hdi2 rfl S90 (Rz.oneL _) (Nat.le_of_ble_eq_true (by kernel_rfl)) rfl hdd
   refine xS 14 90 ⟨gd, 0 + (x.at' c) * 16 + 5, none⟩ (.agg (Rz.cells ⟨er, enZ, slZ, ⟨da, z.length, dc⟩, 0, st, 0⟩)) (w' := wk16.setRow gd cse) hst (⟨hG.wbox, hG.box 0 _ _ _ rfl⟩) (fun hH => ?_)
   try simp only [pS]
   have HF : Hid (Wg w (wk16.setRow gd cse) n0 J J4 b ⟨v.gp, v.hd, v.mm, v.aa, v.rr, v.gn, v.un, v.ds, v.ls, v.now + 1, v.br⟩ ({ x with rd := upN x.rd c s.rd, now := v.now + 1, br := v.br, ds := (x.ds.set (x.at' c) { p with en := v.now + 1 }).set (x.at' c) { p with en := v.now + 1, er := er, st := st, rz := z } }) mp I H U ((D.set (x.at' c) { d with en := v.now + 1 }).set (x.at' c) { d with en := v.now + 1, r := ⟨er, enZ, slZ, ⟨da, z.length, dc⟩, 0, st, 0⟩ }) L [(gk8, 90, Rz.cells ⟨er, enZ, slZ, ⟨da, z.length, dc⟩, 0, st, 0⟩)] [] [(⟨da, z.length, dc⟩, z)]) := hG
   clear hG hst
   generalize wk16.setRow gd cse = wk17 at HF hH ⊢
   clear hdd hpi2 hdi2
   refine wpAnyH_done (by kernel_rfl) ?_ _
   try simp only [pS]
   clear hH
   go_upto_region 7 with fail
   refine WL.start <| uK (pV b 0) <| uK (pV b 0) <| uK (pV b 2) <| uL 69 ⟨b, 2, none⟩ (v.mm.v) (ld1 HF.out.wbox 2 U69 rfl) <| uK (.int .i64 ((c : Nat) : Int)) <| uW (pV gm (0 + c * 1)) (exec_ixS 69 1 E69 F69 _ _ rfl hgm (by omega)) <| ?_
   try simp only [pS]
   obtain ⟨csm, J5, hst, hG⟩ := HF.out.die hgm hc
   refine uT 31 ⟨gm, 0 + c * 1, none⟩ (.nilIface) (wk17.setRow gm csm) hst ?_
   try simp only [pS]
   have HF : Hid (Wg w (wk17.setRow gm csm) n0 J J5 b ⟨v.gp, v.hd, v.mm, v.aa, v.rr, v.gn, v.un, v.ds, v.ls, v.now + 1, v.br⟩ ({ x with rd := upN x.rd c s.rd, now := v.now + 1, br := v.br, ds := (x.ds.set (x.at' c) { p with en := v.now + 1 }).set (x.at' c) { p with en := v.now + 1, er := er, st := st, rz := z }, m := upN x.m c none }) (upN mp c none) (fun i k => i ≠ c ∧ I i k) H U ((D.set (x.at' c) { d with en := v.now + 1 }).set (x.at' c) { d with en := v.now + 1, r := ⟨er, enZ, slZ, ⟨da, z.length, dc⟩, 0, st, 0⟩ }) L [(gk8, 90, Rz.cells ⟨er, enZ, slZ, ⟨da, z.length, dc⟩, 0, st, 0⟩)] [] [(⟨da, z.length, dc⟩, z)]) := hG
   clear hG hst
   generalize wk17.setRow gm csm = wk18 at HF ⊢
   refine WL.nil ?_
   try simp only [pS]
   go_wp2
   rw [HC.out]
   have e1 : lookW x c = { x with rd := upN x.rd c s.rd, now := v.now + 1, br := v.br, ds := (x.ds.set (x.at' c) { p with en := v.now + 1 }).set (x.at' c) { p with en := v.now + 1, er := er, st := st, rz := z }, m := upN x.m c none } := by
    rw [lookW_fin hm (by rw [hdp]), modify_set _ hpi, hdp, List.set_set, hvn, hvb]
    rfl
   rw [e1]
   refine bodyPost_end (v := .tuple #[]) (by kernel_rfl) rfl ⟨rfl, HF.out.out⟩
end Go.Proofs.Ytgiokkcdgoloaaa.Md
