import Derived.Test.YtphiokehcgbldaaPe
namespace Go.Proofs.Ytphiokehcgbldaa
open Go.RowKit Go.Shelf
set_option linter.unusedVariables false
set_option linter.unusedSimpArgs false

def tw (l : List (List Int)) : List (List Int) := l.flatMap (fun z => [z, z])
def kw (xs : List Dt) : List Gx.Ent := xs.flatMap (fun x => [x.en, x.en])
theorem kw_len : ∀ xs : List Dt, (kw xs).length = 2 * xs.length
  | [] => rfl
  | x :: xs => by
    have := kw_len xs
    simp only [kw, List.flatMap_cons, List.length_append, List.length_cons, List.length_nil] at *
    omega
theorem kw_add (xs : List Dt) (x : Dt) : kw (xs ++ [x]) = kw xs ++ [x.en, x.en] := by simp [kw]
theorem kw_at : ∀ (xs : List Dt) (i : Nat) (z : List Int), ((xs.map Dt.bs).flatMap (fun z => [z, z]))[i]? = some z → ∃ d ∈ xs, (kw xs)[i]? = some d.en ∧ d.bs = z
  | [], i, z, h => by simp at h
  | x :: xs, 0, z, h => ⟨x, by simp, by simp [kw], by simpa using h⟩
  | x :: xs, 1, z, h => ⟨x, by simp, by simp [kw], by simpa using h⟩
  | x :: xs, i + 2, z, h => by
    have h1 : ((xs.map Dt.bs).flatMap (fun z => [z, z]))[i]? = some z := by simpa using h
    obtain ⟨d, hd, h2, h3⟩ := kw_at xs i z h1
    exact ⟨d, by simp [hd], by simpa [kw] using h2, h3⟩
theorem take_snoc' {α : Type} {l : List α} {i : Nat} {x : α} (h : l[i]? = some x) : l.take (i + 1) = l.take i ++ [x] := by
  rw [List.take_add_one, h]; rfl
/-- What the told ones' bytes lie in. -/
def TB' (la : Option Addr) (xs : List Tp) : Nat → Prop := fun b => At la b ∨ ∃ x ∈ xs, At x.a b
section
variable {w0 w w' : World} {n : Nat} {s s' : Ns} {ab bb : Nat} {ra : Option Addr} {rc : Nat} {K : List Gx.Ent} {wa : Option Addr} {wc : Nat} {KW : List Gx.Ent} {T T' : Nat → Prop}
/-- Told: what is under way, in a row; the walker holds it. -/
theorem bk_listed (h : Bx w0 w n s ab bb ra rc K wa wc KW (fun _ => False)) (hc : s.came ≤ 1000) {l : Nat} (hl : s.L.length = l) :
    Calls Try.prog 26 #[.pointer (some ⟨n, 0, none⟩)] w (fun e w' => ∃ la lc xs, e = .returned (.tuple #[.slice la l lc, .bool true]) ∧ xs.map Tp.q = s.L ∧ Own 44 6 w' w0.heap.size la lc xs.length (xs.flatMap pkL) ∧ (∀ x ∈ xs, OwnB w' w0.heap.size x.a x.c x.q.zs) ∧ xs.Pairwise (fun x y => ∀ k, At x.a k → ¬ At y.a k) ∧ (∀ x ∈ xs, ∀ k, At x.a k → ¬ At la k) ∧ Bx w0 w' n s ab bb ra rc K wa wc KW (TB' la xs)) := by
  subst hl
  refine (nb_listed h.nb (by omega)).mono ?_
  rintro e w' ⟨la, lc, xs, rfl, hxs, hO, hT, hk⟩
  have hl : s.L.length = xs.length := by rw [← hxs, List.length_map]
  have h0 := h.nb.kept.size
  rw [hl] at hO ⊢
  refine ⟨la, lc, xs, rfl, hxs, Own.lower hO h0, fun x hx => Own.lower (hT.own x hx) h0, hT.dis, fun x hx k e f => own_off (hT.own x hx) hO (by decide) e f, h.tmp hk (fun k e => e.elim) (fun k e => ?_)⟩
  rcases e with e | ⟨x, hx, e⟩
  · exact ⟨.inr (Own.base hO e), Own.ltA hO e⟩
  · exact ⟨.inr (Own.base (hT.own x hx) e), Own.ltA (hT.own x hx) e⟩
/-- What is left when all has been written full. -/
structure Bz (w0 w : World) (n : Nat) (s : Ns) (ab : Nat) (wa : Option Addr) (wc : Nat) (KW : List Gx.Ent) (la : Option Addr) (lc : Nat) (xs : List Tp) (X : Nat → Prop) : Prop where
  nb : Nbs w0 w n s X
  bA : Box w ab 34 #[.bool false, .int .i64 1]
  wnt : Gx.Rw w w0.heap.size wa wc KW
  row : Own 44 6 w w0.heap.size la lc xs.length (xs.flatMap pkL)
  dat : ∀ x ∈ xs, OwnB w w0.heap.size x.a x.c x.q.zs
  inn : X ab ∧ (∀ k, At wa k → X k) ∧ ∀ k, TB' la xs k → X k
section
variable {X : Nat → Prop} {la : Option Addr} {lc : Nat} {xs : List Tp}
theorem Bz.no (h : Bz w0 w n s ab wa wc KW la lc xs X) (hk : Kept No w w') : Bz w0 w' n s ab wa wc KW la lc xs X :=
  ⟨h.nb.no hk, h.bA.kept hk (fun e => e), h.wnt.no hk, h.row.no hk, fun x hx => (h.dat x hx).no hk, h.inn⟩
/-- All is written full and grown. -/
theorem Bx.grown (h : Bx w0 w n s ab bb ra rc K wa wc KW (TB' la xs)) (hO : Own 44 6 w w0.heap.size la lc xs.length (xs.flatMap pkL)) (hD : ∀ x ∈ xs, OwnB w w0.heap.size x.a x.c x.q.zs) (hk : Kept (Gx.EB K) w w') :
    Bz w0 w' n s ab wa wc KW la lc xs (XB ab bb ra wa K (TB' la xs)) := by
  obtain ⟨Z, hZ⟩ := h.ent
  refine ⟨h.nb.own hk (fun k e => .inr (.inr (.inr (.inr (.inl e))))) (fun k e => (hZ.lo e).1) (fun k e => .inl e) (fun k e => Nat.lt_of_lt_of_le (h.nb.lt k e) hk.size), h.bA.kept hk (fun e => ?_), h.wnt.kept hk (fun k e f => h.wnt.apart hZ e f), hO.kept hk (fun k e f => (h.tf k (.inl e)).2.2.2.2.2 f), fun x hx => (hD x hx).kept hk (fun k e f => (h.tf k (.inr ⟨x, hx, e⟩)).2.2.2.2.2 f), .inl rfl, fun k e => .inr (.inr (.inr (.inl e))), fun k e => .inr (.inr (.inr (.inr (.inr e))))⟩
  obtain ⟨_, _, cur, hc⟩ := hZ.lo e
  have hb : w.heap[ab]? = some (.cells _ 34 (0, 0)) := h.bA
  rw [hc] at hb; cases hb
/-- One is delivered. -/
theorem nb_deliver2 (h : Nbs w0 w n s X) (fc : Bool) (fi c : Int) {q : Pq} (hf : s.L.find? (isN ((fc, fi), c)) = some q) :
    ∃ J : Nat → Prop, (∀ k, J k → OfX w0 X k ∧ k < w.heap.size) ∧ ∀ W, Kept No w W → Calls Try.prog 15 #[.pointer (some ⟨n, 0, none⟩), .agg #[.bool fc, .int .i64 fi], .int .i64 c] W (fun e w' => ∃ pa pc, e = .returned (.tuple #[.agg #[.bool fc, .int .i64 fi, .int .i64 c, .bool q.to'.1, .int .i64 q.to'.2, .slice pa q.zs.length pc], .int .i64 0]) ∧ Kept J W w' ∧ (OwnB w' W.heap.size pa pc q.zs ∧ ∃ I', NetM w' n ⟨s.sent, rmN ((fc, fi), c) s.L, s.came⟩ I' ∧ ∀ k, I' k → (J k ∨ W.heap.size ≤ k) ∧ k < w'.heap.size)) := by
  obtain ⟨I, hN, hI⟩ := h.use
  refine ⟨I, hI, fun W hk => ?_⟩
  refine (deliver_yes fc fi c W (hN.no hk) (fun q hq => by have := h.len q hq; omega) hf).mono ?_
  rintro e w' ⟨pa, pc, rfl, hO, hk', hN'⟩
  exact ⟨pa, pc, rfl, W5.kept hk', hO, _, hN'.cut, fun k e => ⟨e.1.1, e.2⟩⟩
/-- .. behind the block that it is laid into. -/
theorem Bz.deliver (h : Bz w0 w n s ab wa wc KW la lc xs X) {J : Nat → Prop} (hJ : ∀ k, J k → OfX w0 X k ∧ k < w.heap.size) {W w' wo : World} {G : Nat} {s' : Ns} {pa : Option Addr} {pc : Nat} {zs : List Int} (hk1 : Kept No w W) (hk2 : Kept J W w') (hO : OwnB w' W.heap.size pa pc zs) (hN : ∃ I', NetM w' n s' I' ∧ ∀ k, I' k → (J k ∨ W.heap.size ≤ k) ∧ k < w'.heap.size) (hk3 : Kept (fun k => k = G) w' wo) (hG : w.heap.size ≤ G) (hG2 : G < W.heap.size ∨ w'.heap.size ≤ G) (hl : ∀ q ∈ s'.L, q.zs.length ≤ 140737488351232) :
    Bz w0 wo n s' ab wa wc KW la lc xs X ∧ OwnB wo w0.heap.size pa pc zs := by
  have hx : ∀ k, X k → k < w.heap.size := h.nb.lt
  have s1 := hk1.size
  have s2 := hk2.size
  have s0 := h.nb.kept.size
  have K : Kept (fun k => J k ∨ k = G) w wo := (hk1.of_no.then (hk2.mono (fun k _ e => .inl e))).then (hk3.mono (fun k _ e => .inr e))
  have off : ∀ k, X k → ¬ (J k ∨ k = G) := fun k e f => by
    rcases f with f | f
    · exact (hJ k f).1.2 e
    · have := hx k e; omega
  refine ⟨⟨⟨?_, h.nb.kept.trans K (fun _ e => e) (fun i hi e => ?_), hl, fun k e => Nat.lt_of_lt_of_le (hx k e) K.size⟩, h.bA.kept K (off _ h.inn.1), h.wnt.kept K (fun k e => off k (h.inn.2.1 k e)), h.row.kept K (fun k e => off k (h.inn.2.2 k (.inl e))), fun x hx' => (h.dat x hx').kept K (fun k e => off k (h.inn.2.2 k (.inr ⟨x, hx', e⟩))), h.inn⟩, ?_⟩
  · obtain ⟨I', hN1, hI'⟩ := hN
    refine ⟨I', hN1.kept hk3 (fun k e _ => ⟨fun f => ?_, e⟩), fun k e => ?_⟩
    · have f : k = G := f
      have h1 := hI' k e
      rcases h1.1 with h2 | h2
      · have := (hJ k h2).2; omega
      · omega
    · have h1 := hI' k e
      rcases h1.1 with h2 | h2
      · exact (hJ k h2).1
      · exact ⟨by omega, fun f => by have := hx k f; omega⟩
  · rcases e with e | e
    · have := (hJ i e).1.1; omega
    · omega
  · refine Own.lower (Own.kept hO hk3 (fun k e f => ?_)) (by omega)
    have f : k = G := f
    have h1 := Own.base hO e
    have h2 := Own.ltA hO e
    omega
end
end
end Go.Proofs.Ytphiokehcgbldaa
