import Derived.Test.YtgiokkcdgoloaaaXr
namespace Go.Proofs.Ytgiokkcdgoloaaa.Md
open Go.RowKit
set_option linter.unusedVariables false
set_option linter.unusedSimpArgs false

/-! A new world, while it is sown. -/
abbrev n4 : Array Value := #[.nilIface, .nilIface, .nilIface, .nilIface]
abbrev i4 : Array Value := #[.int .i64 0, .int .i64 0, .int .i64 0, .int .i64 0]
abbrev b4 : Array Value := #[.bool false, .bool false, .bool false, .bool false]
theorem make69 (w : World) : (Instr.makeSlice 69 (.int .i64 4) (.int .i64 4)).run Try.prog w = .ok (.slice (some ⟨w.heap.size, 0, none⟩) 4 4) (w.alloc (.cells n4 31)) := by kernel_rfl
theorem make24 (w : World) : (Instr.makeSlice 24 (.int .i64 4) (.int .i64 4)).run Try.prog w = .ok (.slice (some ⟨w.heap.size, 0, none⟩) 4 4) (w.alloc (.cells i4 3)) := by kernel_rfl
theorem make70 (w : World) : (Instr.makeSlice 70 (.int .i64 4) (.int .i64 4)).run Try.prog w = .ok (.slice (some ⟨w.heap.size, 0, none⟩) 4 4) (w.alloc (.cells b4 4)) := by kernel_rfl
section
variable {ops : Array Oper} {rest : List Oper} {o : Oper} {a : Act} {w : World} {Q : Exit → Act → World → Prop} {md : Region.Mode} {S : World → Prop}
theorem aT {i : Nat} {oi : Oper} {v : Value} {fuel : Nat} {listed : Array Bool} (hy : ∀ w, S w → (execOp a.eval oi).run Try.prog w = .ok (.value v) w) (hS : S w) (h : wpAnyH Try.prog md ops Q S fuel (listed.setIfInBounds i true) (a.put oi.dst v) w)
    (hi : ops[i]? = some oi := by rfl) (hs : Region.noSelect ops = true := by kernel_rfl) (hf : Region.free md ops listed i = true := by kernel_rfl) (hr : (Region.ready md ops listed).contains i = true := by kernel_rfl)
    (hQ : ∀ c a w, Q (.panic c) (a.put oi.dst v) w → Q (.panic c) a w := by exact fun _ _ _ h => h) (hw : Region.wanted oi (yielded ops a.tmps) = true := by kernel_rfl) : wpAnyH Try.prog md ops Q S (fuel + 1) listed a w :=
  any_take hi hs hf hr hQ hw hy hS h
end
theorem nl {a b : Nat} (h : a ≤ b ∨ No b) : a ≤ b := h.elim id (fun e => e.elim)
theorem meet5 {J G : World → Nat → Nat → Nat → Nat → Nat → Prop} {g : Prop} (h : (∀ W a b c d e, J W a b c d e → G W a b c d e) → g) (t : ∀ W a b c d e, J W a b c d e → G W a b c d e) : g := h t
theorem I57 : (Try.prog.info? 57).map (fun i => (i.zero, i.size, i.bytes)) = some (some (.agg blZ.cells), 3, 40) := by kernel_rfl
theorem b_mulw (x y z : Int) (h : IntKind.i64.wrap (x * y) = z) (w : World) : (binOp .mul 3 (.int .i64 x) (.int .i64 y)).run Try.prog w = .ok (.int .i64 z) w := by rw [← h]; kernel_rfl
theorem own_box4 {W : World} {g base : Nat} {T : TypeId} {cs : Array Value} (h : Box W g T cs) (hb : base ≤ g) (hs : cs.size = 4) : Own T 1 W base (some ⟨g, 0, none⟩) 4 4 cs.toList :=
  ⟨by rw [Array.length_toList]; omega, .inr ⟨g, 4, cs, rfl, hb, h, Nat.le_refl _, by unfold maxLen; omega, by omega, List.take_of_length_le (by rw [Array.length_toList]; omega)⟩⟩
theorem at_blk {g o k : Nat} (e : At (some ⟨g, o, none⟩) k) : k = g := by
  obtain ⟨ad, e1, e2⟩ := e
  cases e1
  exact e2.symm
theorem pick4 {a b c d i : Nat} (h : i ∈ [a, b, c, d]) : i = a ∨ i = b ∨ i = c ∨ i = d := by simpa using h
def srows (gp hd mm aa rr gn : Sl) (i j : Nat) : List Rowx :=
  [(gp, 3, 1, itL ((List.range i).map (fun (k : Nat) => (k : Int) + 1))), (hd, 57, 3, bkL (List.replicate j blZ)), (mm, 31, 1, ifL (c4 (fun _ => none))), (aa, 3, 1, itL (c4i (fun _ => 0))), (rr, 3, 1, itL (c4 (fun _ => 0))), (gn, 4, 1, bnL (c4 (fun _ => false))), (slZ, 52, 30, mgL []), (slZ, 109, 16, dvL []), (slZ, 147, 3, lvL [])]
def swv (gp hd mm aa rr gn : Sl) : Wv := ⟨gp, hd, mm, aa, rr, gn, slZ, slZ, slZ, 0, false⟩
structure Sg (w W : World) (J : Nat → Prop) (b : Nat) (gp hd mm aa rr gn : Sl) (i j : Nat) (l : List (Nat × TypeId × Array Value)) : Prop where
  wl : Wl W w.heap.size J b (Wv.cells (swv gp hd mm aa rr gn)) (srows gp hd mm aa rr gn i j) (fun _ _ => False) (fun _ => none) (fun _ => none)
  fr : Fq No w W l
  li : ∀ (k : Nat) g t cs, l[k]? = some (g, t, cs) → ¬ J g
section
variable {w W W2 : World} {J : Nat → Prop} {b : Nat} {gp hd mm aa rr gn : Sl} {i j : Nat} {l l2 : List (Nat × TypeId × Array Value)}
theorem Sg.no (h : Sg w W J b gp hd mm aa rr gn i j l) (hk : Kept No W W2) : Sg w W2 J b gp hd mm aa rr gn i j l := ⟨h.wl.no hk, h.fr.no hk, h.li⟩
theorem Sg.box (h : Sg w W J b gp hd mm aa rr gn i j l) : ∀ (i : Nat) g T cs, l[i]? = some (g, T, cs) → Box W g T cs := h.fr.box
theorem Sg.wbox (h : Sg w W J b gp hd mm aa rr gn i j l) : Box W b 75 (Wv.cells (swv gp hd mm aa rr gn)) := h.wl.box
theorem Sg.front (h : Sg w W J b gp hd mm aa rr gn i j (l ++ l2)) : Sg w W J b gp hd mm aa rr gn i j l :=
  ⟨h.wl, h.fr.front, fun k g t cs hi => h.li k g t cs (by rw [List.getElem?_append_left (List.getElem?_eq_some_iff.1 hi).1]; exact hi)⟩
theorem Sg.alloc (h : Sg w W J b gp hd mm aa rr gn i j l) (t : TypeId) (cs : Array Value) : Sg w (W.alloc (.cells cs t)) J b gp hd mm aa rr gn i j (l ++ [(W.heap.size, t, cs)]) := by
  refine ⟨h.wl.no ((Kept.refl No _).alloc _), h.fr.alloc t cs, fun k g t' cs' hi => ?_⟩
  rw [List.getElem?_append] at hi
  split at hi
  · exact h.li k g t' cs' hi
  · have := List.mem_of_getElem? hi
    simp at this
    intro e
    have h2 := (h.wl.jl g e).2
    omega
theorem Sg.upd {W3 : World} {J2 : Nat → Prop} {gp2 hd2 : Sl} {i2 j2 : Nat} (h : Sg w W J b gp hd mm aa rr gn i j l) (h1 : Wl W3 w.heap.size J2 b (Wv.cells (swv gp2 hd2 mm aa rr gn)) (srows gp2 hd2 mm aa rr gn i2 j2) (fun _ _ => False) (fun _ => none) (fun _ => none)) (u : Up5 W J W3 J2) : Sg w W3 J2 b gp2 hd2 mm aa rr gn i2 j2 l := by
  have hu : Kept J W W3 := Kept.five u.kept
  refine ⟨h1, ⟨h.fr.kept.trans hu (fun _ e => e) (fun k hk e => by have := (h.wl.jl k e).1; omega), fun k g t cs hi => (h.fr.box k g t cs hi).kept hu (h.li k g t cs hi), h.fr.low, h.fr.inj⟩, fun k g t cs hi e => ?_⟩
  exact (u.sub g e).elim (h.li k g t cs hi) (fun f => by have := (h.fr.box k g t cs hi).lt; omega)
theorem itL_snoc (n : Nat) : itL ((List.range (n + 1)).map (fun (k : Nat) => (k : Int) + 1)) = itL ((List.range n).map (fun (k : Nat) => (k : Int) + 1)) ++ [.int .i64 (((n + 1 : Nat) : Nat) : Int)] := by
  rw [List.range_succ]
  simp [itL]
theorem bkL_snoc (n : Nat) : bkL (List.replicate (n + 1) blZ) = bkL (List.replicate n blZ) ++ blZ.cs := by
  rw [List.replicate_succ']
  simp [bkL]
theorem Sg.push0 (h : Sg w W J b gp hd mm aa rr gn i j l) (hl : i ≤ 1000) (hg : gp.l = i) {g cc : Nat} (hb : Box W g 3 #[.int .i64 (((i + 1 : Nat) : Nat) : Int)]) :
    ∃ a1 k1 W2, (Builtin.append_ #[24, 24] 24 #[gp.v, .slice (some ⟨g, 0, none⟩) 1 cc]).run Try.prog W = .ok (.slice a1 (i + 1) k1) W2 ∧ Box W2 b 75 (Wv.cells (swv gp hd mm aa rr gn)) ∧ ∃ J2, Sg w (W2.setRow b (Wv.cells (swv ⟨a1, i + 1, k1⟩ hd mm aa rr gn))) J2 b ⟨a1, i + 1, k1⟩ hd mm aa rr gn (i + 1) j l := by
  obtain ⟨a1, k1, W2, h1, ho, hk, hn⟩ := h.wl.push (j := 0) (s := gp) rfl 24 8 (.int .i64 0) U24 I3 rfl (by decide) [.int .i64 (((i + 1 : Nat) : Nat) : Int)] rfl ⟨g, 0, none⟩ cc (fun q u hq => by rw [addr_add, Nat.zero_add, hb.cell]; simpa using hq) (by simp [Value.oneCell']) (by omega) (by omega)
  rw [hg] at h1 ho
  rw [← itL_snoc] at ho
  obtain ⟨J2, h2, h3⟩ := h.wl.row (j := 0) rfl hk (s := ⟨a1, i + 1, k1⟩) ho hn
  obtain ⟨h4, h5⟩ := h2.put (Wv.cells (swv ⟨a1, i + 1, k1⟩ hd mm aa rr gn))
  exact ⟨a1, k1, W2, h1, h2.box, J2, h.upd h4 (h3.trans h5)⟩
theorem Sg.push1 (h : Sg w W J b gp hd mm aa rr gn i j l) (hl : j ≤ 1000) (hg : hd.l = j) {g cc : Nat} (hb : Box W g 57 blZ.cells) :
    ∃ a1 k1 W2, (Builtin.append_ #[58, 58] 58 #[hd.v, .slice (some ⟨g, 0, none⟩) 1 cc]).run Try.prog W = .ok (.slice a1 (j + 1) k1) W2 ∧ Box W2 b 75 (Wv.cells (swv gp hd mm aa rr gn)) ∧ ∃ J2, Sg w (W2.setRow b (Wv.cells (swv gp ⟨a1, j + 1, k1⟩ mm aa rr gn))) J2 b gp ⟨a1, j + 1, k1⟩ mm aa rr gn i (j + 1) l := by
  obtain ⟨a1, k1, W2, h1, ho, hk, hn⟩ := h.wl.push (j := 1) (s := hd) rfl 58 40 _ U58 I57 rfl (by decide) blZ.cs rfl ⟨g, 0, none⟩ cc (fun q u hq => by rw [addr_add, Nat.zero_add, hb.cell]; simpa [Bl.cells] using hq) blZ.oneL (by omega) (by omega)
  rw [hg] at h1 ho
  rw [← bkL_snoc] at ho
  obtain ⟨J2, h2, h3⟩ := h.wl.row (j := 1) rfl hk (s := ⟨a1, j + 1, k1⟩) ho hn
  obtain ⟨h4, h5⟩ := h2.put (Wv.cells (swv gp ⟨a1, j + 1, k1⟩ mm aa rr gn))
  exact ⟨a1, k1, W2, h1, h2.box, J2, h.upd h4 (h3.trans h5)⟩
/-- Sown. -/
theorem Sg.done (h : Sg w W J b gp hd mm aa rr gn i i l) (hg : hd.l = i) : WAt W w.heap.size J b (sownW i) := by
  refine ⟨swv gp hd mm aa rr gn, fun _ => none, fun _ _ => False, List.replicate i blZ, [], [], [], ⟨?_, ⟨⟨?_, ?_⟩, ⟨rfl, fun q _ _ e => by cases e⟩, ⟨rfl, fun q _ _ e => by cases e⟩, ⟨rfl, fun q _ _ e => by cases e⟩⟩, rfl, rfl⟩⟩
  · exact h.wl
  · simp [hdsW, sownW]
  · intro q p y hp hy
    have h1 := List.mem_of_getElem? hp
    have h2 := List.mem_of_getElem? hy
    rw [List.eq_of_mem_replicate h2]
    obtain ⟨k, _, rfl⟩ := List.mem_map.1 h1
    exact ⟨rfl, By.nil _ _⟩
/-- The struct and its four rows, newly laid. -/
theorem Sg.init {A B C D : Nat} (hk : Kept No w W) (hA : Box W A 31 n4) (hB : Box W B 3 i4) (hC : Box W C 3 i4) (hD : Box W D 4 b4) (hb : Box W b 75 (Wv.cells (swv slZ slZ ⟨some ⟨A, 0, none⟩, 4, 4⟩ ⟨some ⟨B, 0, none⟩, 4, 4⟩ ⟨some ⟨C, 0, none⟩, 4, 4⟩ ⟨some ⟨D, 0, none⟩, 4, 4⟩)))
    (lA : w.heap.size ≤ A) (lB : w.heap.size ≤ B) (lC : w.heap.size ≤ C) (lD : w.heap.size ≤ D) (lb : w.heap.size ≤ b) (hBC : B ≠ C) : ∃ J, Sg w W J b slZ slZ ⟨some ⟨A, 0, none⟩, 4, 4⟩ ⟨some ⟨B, 0, none⟩, 4, 4⟩ ⟨some ⟨C, 0, none⟩, 4, 4⟩ ⟨some ⟨D, 0, none⟩, 4, 4⟩ 0 0 [] := by
  have key : ∀ (i : Nat) x k, (srows slZ slZ ⟨some ⟨A, 0, none⟩, 4, 4⟩ ⟨some ⟨B, 0, none⟩, 4, 4⟩ ⟨some ⟨C, 0, none⟩, 4, 4⟩ ⟨some ⟨D, 0, none⟩, 4, 4⟩ 0 0)[i]? = some x → At x.1.a k → (i = 2 ∧ k = A) ∨ (i = 3 ∧ k = B) ∨ (i = 4 ∧ k = C) ∨ (i = 5 ∧ k = D) := by
    intro i x k hx e
    match i, hx with
    | 0, hx => cases hx; exact absurd e At.none
    | 1, hx => cases hx; exact absurd e At.none
    | 2, hx => cases hx; exact .inl ⟨rfl, at_blk e⟩
    | 3, hx => cases hx; exact .inr (.inl ⟨rfl, at_blk e⟩)
    | 4, hx => cases hx; exact .inr (.inr (.inl ⟨rfl, at_blk e⟩))
    | 5, hx => cases hx; exact .inr (.inr (.inr ⟨rfl, at_blk e⟩))
    | 6, hx => cases hx; exact absurd e At.none
    | 7, hx => cases hx; exact absurd e At.none
    | 8, hx => cases hx; exact absurd e At.none
    | n + 9, hx => cases hx
  have nAB := box_ne hA hB (by decide)
  have nAC := box_ne hA hC (by decide)
  have nAD := box_ne hA hD (by decide)
  have nBD := box_ne hB hD (by decide)
  have nCD := box_ne hC hD (by decide)
  have sA := hA.lt
  have sB := hB.lt
  have sC := hC.lt
  have sD := hD.lt
  have sb := hb.lt
  refine ⟨fun k => k = A ∨ k = B ∨ k = C ∨ k = D ∨ k = b, ⟨hb, ?_, ?_, ?_, (fun c s e => by cases e), fun _ _ => rfl, fun i j k e => e.elim, fun j k e => e.elim, fun j k i x e => e.elim, fun j k e => e.elim, .inr (.inr (.inr (.inr rfl))), ?_, ?_⟩, ⟨hk, by simp, by simp, by simp⟩, by simp⟩
  · intro i x hx
    match i, hx with
    | 0, hx => cases hx; exact Own.nil _ _ _ _
    | 1, hx => cases hx; exact Own.nil _ _ _ _
    | 2, hx => cases hx; exact own_box4 hA lA rfl
    | 3, hx => cases hx; exact own_box4 hB lB rfl
    | 4, hx => cases hx; exact own_box4 hC lC rfl
    | 5, hx => cases hx; exact own_box4 hD lD rfl
    | 6, hx => cases hx; exact Own.nil _ _ _ _
    | 7, hx => cases hx; exact Own.nil _ _ _ _
    | 8, hx => cases hx; exact Own.nil _ _ _ _
    | n + 9, hx => cases hx
  · intro i x hx
    match i, hx with
    | 0, hx => cases hx; exact ⟨Nat.ne_of_beq_eq_false rfl, Nat.ne_of_beq_eq_false rfl⟩
    | 1, hx => cases hx; exact ⟨Nat.ne_of_beq_eq_false rfl, Nat.ne_of_beq_eq_false rfl⟩
    | 2, hx => cases hx; exact ⟨Nat.ne_of_beq_eq_false rfl, Nat.ne_of_beq_eq_false rfl⟩
    | 3, hx => cases hx; exact ⟨Nat.ne_of_beq_eq_false rfl, Nat.ne_of_beq_eq_false rfl⟩
    | 4, hx => cases hx; exact ⟨Nat.ne_of_beq_eq_false rfl, Nat.ne_of_beq_eq_false rfl⟩
    | 5, hx => cases hx; exact ⟨Nat.ne_of_beq_eq_false rfl, Nat.ne_of_beq_eq_false rfl⟩
    | 6, hx => cases hx; exact ⟨Nat.ne_of_beq_eq_false rfl, Nat.ne_of_beq_eq_false rfl⟩
    | 7, hx => cases hx; exact ⟨Nat.ne_of_beq_eq_false rfl, Nat.ne_of_beq_eq_false rfl⟩
    | 8, hx => cases hx; exact ⟨Nat.ne_of_beq_eq_false rfl, Nat.ne_of_beq_eq_false rfl⟩
    | n + 9, hx => cases hx
  · intro i j x y k hx hy e f
    have h1 := key i x k hx e
    have h2 := key j y k hy f
    omega
  · intro i x k hx e
    have h1 := key i x k hx e
    omega
  · rintro k e
    omega
end
set_option maxRecDepth 100000 in
set_option maxHeartbeats 4000000 in
theorem sown_any (f : Int) (w : World) : Calls Try.prog 41 #[.int .i64 f] w (SownO w (2 * rndW f 4 + 1)) := by
  obtain ⟨C, hC⟩ : ∃ C : Ending → World → Prop, C = (SownO w (2 * rndW f 4 + 1)) := ⟨_, rfl⟩
  have HC : Hid (C = (SownO w (2 * rndW f 4 + 1))) := hC
  rw [← hC]
  clear hC
  obtain ⟨hr1, hr2⟩ := rnd_mod f 4 (by omega)
  clear hr1
  obtain ⟨n, hn⟩ : ∃ n, n = 2 * rndW f 4 + 1 := ⟨_, rfl⟩
  rw [← hn] at HC
  have HF : Hid (Fq No w w []) := Fq.start _ _
  go_enter Try.func41, Try.ntmps41
  go_upto_region 0 with fail
  refine WL.start ?_
  refine tK (.pointer none) ?_
  try simp only [pA, pB, p1, p2, p3]
  refine WL.nil ?_
  try simp only [pA, pB, p1, p2, p3]
  go_upto_region 1 with fail
  refine wp_region_held_drew (S := fun w' => Kept No w w') rfl HF.out.kept.drew (fun hH => ?_)
  have HF : Hid (Fq No w w.drew []) := HF.out.drew
  obtain ⟨wk1, hWd⟩ : ∃ W, W = w.drew := ⟨_, rfl⟩
  rw [← hWd] at HF hH ⊢
  clear hWd
  refine' meet5 (J := fun W A B C D b => Kept No w W ∧ Box W A 31 n4 ∧ Box W B 3 i4 ∧ Box W C 3 i4 ∧ Box W D 4 b4 ∧ Box W b 75 (Wv.cells (swv slZ slZ ⟨some ⟨A, 0, none⟩, 4, 4⟩ ⟨some ⟨B, 0, none⟩, 4, 4⟩ ⟨some ⟨C, 0, none⟩, 4, 4⟩ ⟨some ⟨D, 0, none⟩, 4, 4⟩)) ∧ w.heap.size ≤ A ∧ w.heap.size ≤ B ∧ w.heap.size ≤ C ∧ w.heap.size ≤ D ∧ w.heap.size ≤ b ∧ B ≠ C) (fun hh => ?region) (fun W A B C D b hJ => ?tail)
  case region =>
    refine any_pick (rs := [0, 1, 2, 3]) (by kernel_rfl) (by simp) ?_
    intro i hi
    rcases pick4 hi with rfl | rfl | rfl | rfl
    ·skip
     clear hi
     refine step_run (i := 0) (o := { dst := some 5, op := Op.makeSlice 69 (Operand.const (Value.int IntKind.i64 4)) (Operand.const (Value.int IntKind.i64 4)), type := 69, pos := "world.go:77", after := #[], guard := none }) rfl (by kernel_rfl) (exec_make 69 _ _ rfl (.int .i64 4) (.int .i64 4) (by kernel_rfl) (by kernel_rfl) (make69 _)) (hH.alloc _) (fun hH => ?_)
     try simp only [pA, pB, p1, p2, p3]
     have HF : Hid _ := HF.out.alloc 31 n4
     generalize wk1.alloc (.cells n4 31) = wk3 at HF hH ⊢
     generalize wk1.heap.size = gk2 at HF ⊢
     refine any_pick (rs := [1, 2, 3]) (by kernel_rfl) (by simp) ?_
     intro i hi
     rcases pick3 hi with rfl | rfl | rfl
     ·skip
      clear hi
      refine step_run (i := 1) (o := { dst := some 6, op := Op.makeSlice 24 (Operand.const (Value.int IntKind.i64 4)) (Operand.const (Value.int IntKind.i64 4)), type := 24, pos := "world.go:77", after := #[], guard := none }) rfl (by kernel_rfl) (exec_make 24 _ _ rfl (.int .i64 4) (.int .i64 4) (by kernel_rfl) (by kernel_rfl) (make24 _)) (hH.alloc _) (fun hH => ?_)
      try simp only [pA, pB, p1, p2, p3]
      have HF : Hid _ := HF.out.alloc 3 i4
      generalize wk3.alloc (.cells i4 3) = wk5 at HF hH ⊢
      generalize wk3.heap.size = gk4 at HF ⊢
      refine any_pick (rs := [2, 3]) (by kernel_rfl) (by simp) ?_
      intro i hi
      rcases pick2 hi with rfl | rfl
      ·skip
       clear hi
       refine step_run (i := 2) (o := { dst := some 7, op := Op.makeSlice 24 (Operand.const (Value.int IntKind.i64 4)) (Operand.const (Value.int IntKind.i64 4)), type := 24, pos := "world.go:77", after := #[], guard := none }) rfl (by kernel_rfl) (exec_make 24 _ _ rfl (.int .i64 4) (.int .i64 4) (by kernel_rfl) (by kernel_rfl) (make24 _)) (hH.alloc _) (fun hH => ?_)
       try simp only [pA, pB, p1, p2, p3]
       have HF : Hid _ := HF.out.alloc 3 i4
       generalize wk5.alloc (.cells i4 3) = wk7 at HF hH ⊢
       generalize wk5.heap.size = gk6 at HF ⊢
       refine any_step (i := 3) (o := { dst := some 8, op := Op.makeSlice 70 (Operand.const (Value.int IntKind.i64 4)) (Operand.const (Value.int IntKind.i64 4)), type := 70, pos := "world.go:77", after := #[], guard := none }) rfl (by kernel_rfl) (by kernel_rfl) (exec_make 70 _ _ rfl (.int .i64 4) (.int .i64 4) (by kernel_rfl) (by kernel_rfl) (make70 _)) (hH.alloc _) (fun hH => ?_)
       try simp only [pA, pB, p1, p2, p3]
       have HF : Hid _ := HF.out.alloc 4 b4
       generalize wk7.alloc (.cells b4 4) = wk9 at HF hH ⊢
       generalize wk7.heap.size = gk8 at HF ⊢
       refine aT (i := 4) (oi := { dst := some 9, op := Op.build 75 #[(2, Operand.tmp 5), (3, Operand.tmp 6), (4, Operand.tmp 7), (5, Operand.tmp 8)], type := 75, pos := "world.go:77", after := #[{ on := 0, ground := Ground.data }, { on := 1, ground := Ground.data }, { on := 2, ground := Ground.data }, { on := 3, ground := Ground.data }], guard := none }) (v := .agg (Wv.cells (swv slZ slZ ⟨some ⟨gk2, 0, none⟩, 4, 4⟩ ⟨some ⟨gk4, 0, none⟩, 4, 4⟩ ⟨some ⟨gk6, 0, none⟩, 4, 4⟩ ⟨some ⟨gk8, 0, none⟩, 4, 4⟩))) (fun w' hw => exec_build 75 _ rfl (Wv.cells (swv slZ slZ ⟨some ⟨gk2, 0, none⟩, 4, 4⟩ ⟨some ⟨gk4, 0, none⟩, 4, 4⟩ ⟨some ⟨gk6, 0, none⟩, 4, 4⟩ ⟨some ⟨gk8, 0, none⟩, 4, 4⟩)) (by kernel_rfl)) hH ?_
       try simp only [pA, pB, p1, p2, p3]
       refine any_step (i := 5) (o := { dst := some 10, op := Op.box 75 (Operand.tmp 9), type := 65, pos := "world.go:77", after := #[{ on := 4, ground := Ground.data }], guard := none }) rfl (by kernel_rfl) (by kernel_rfl) (exec_box 75 _ rfl (Wv.cells (swv slZ slZ ⟨some ⟨gk2, 0, none⟩, 4, 4⟩ ⟨some ⟨gk4, 0, none⟩, 4, 4⟩ ⟨some ⟨gk6, 0, none⟩, 4, 4⟩ ⟨some ⟨gk8, 0, none⟩, 4, 4⟩)) (by kernel_rfl)) (hH.alloc _) (fun hH => ?_)
       try simp only [pA, pB, p1, p2, p3]
       have HF : Hid _ := HF.out.alloc 75 (Wv.cells (swv slZ slZ ⟨some ⟨gk2, 0, none⟩, 4, 4⟩ ⟨some ⟨gk4, 0, none⟩, 4, 4⟩ ⟨some ⟨gk6, 0, none⟩, 4, 4⟩ ⟨some ⟨gk8, 0, none⟩, 4, 4⟩))
       generalize wk9.alloc (.cells (Wv.cells (swv slZ slZ ⟨some ⟨gk2, 0, none⟩, 4, 4⟩ ⟨some ⟨gk4, 0, none⟩, 4, 4⟩ ⟨some ⟨gk6, 0, none⟩, 4, 4⟩ ⟨some ⟨gk8, 0, none⟩, 4, 4⟩)) 75) = wk11 at HF hH ⊢
       generalize wk9.heap.size = gk10 at HF ⊢
       refine aT (i := 6) (oi := { dst := some 3, op := Op.assign (Operand.tmp 10), type := 65, pos := "world.go:77", after := #[{ on := 5, ground := Ground.data }, { on := 0, ground := Ground.phase }, { on := 1, ground := Ground.phase }, { on := 2, ground := Ground.phase }, { on := 3, ground := Ground.phase }, { on := 4, ground := Ground.phase }, { on := 5, ground := Ground.phase }], guard := none }) (v := .pointer (some ⟨gk10, 0, none⟩)) (fun _ _ => by kernel_rfl) hH ?_
       try simp only [pA, pB, p1, p2, p3]
       refine wpAnyH_done (by kernel_rfl) ?_ _
       try simp only [pA, pB, p1, p2, p3]
       clear hH
       exact hh _ _ _ _ _ _ ⟨HF.out.kept, HF.out.box 0 _ _ _ rfl, HF.out.box 1 _ _ _ rfl, HF.out.box 2 _ _ _ rfl, HF.out.box 3 _ _ _ rfl, HF.out.box 4 _ _ _ rfl, nl (HF.out.low 0 _ _ _ rfl), nl (HF.out.low 1 _ _ _ rfl), nl (HF.out.low 2 _ _ _ rfl), nl (HF.out.low 3 _ _ _ rfl), nl (HF.out.low 4 _ _ _ rfl), HF.out.ne 1 2 rfl rfl (by decide)⟩
      ·skip
       clear hi
       refine step_run (i := 3) (o := { dst := some 8, op := Op.makeSlice 70 (Operand.const (Value.int IntKind.i64 4)) (Operand.const (Value.int IntKind.i64 4)), type := 70, pos := "world.go:77", after := #[], guard := none }) rfl (by kernel_rfl) (exec_make 70 _ _ rfl (.int .i64 4) (.int .i64 4) (by kernel_rfl) (by kernel_rfl) (make70 _)) (hH.alloc _) (fun hH => ?_)
       try simp only [pA, pB, p1, p2, p3]
       have HF : Hid _ := HF.out.alloc 4 b4
       generalize wk5.alloc (.cells b4 4) = wk13 at HF hH ⊢
       generalize wk5.heap.size = gk12 at HF ⊢
       refine any_step (i := 2) (o := { dst := some 7, op := Op.makeSlice 24 (Operand.const (Value.int IntKind.i64 4)) (Operand.const (Value.int IntKind.i64 4)), type := 24, pos := "world.go:77", after := #[], guard := none }) rfl (by kernel_rfl) (by kernel_rfl) (exec_make 24 _ _ rfl (.int .i64 4) (.int .i64 4) (by kernel_rfl) (by kernel_rfl) (make24 _)) (hH.alloc _) (fun hH => ?_)
       try simp only [pA, pB, p1, p2, p3]
       have HF : Hid _ := HF.out.alloc 3 i4
       generalize wk13.alloc (.cells i4 3) = wk15 at HF hH ⊢
       generalize wk13.heap.size = gk14 at HF ⊢
       refine aT (i := 4) (oi := { dst := some 9, op := Op.build 75 #[(2, Operand.tmp 5), (3, Operand.tmp 6), (4, Operand.tmp 7), (5, Operand.tmp 8)], type := 75, pos := "world.go:77", after := #[{ on := 0, ground := Ground.data }, { on := 1, ground := Ground.data }, { on := 2, ground := Ground.data }, { on := 3, ground := Ground.data }], guard := none }) (v := .agg (Wv.cells (swv slZ slZ ⟨some ⟨gk2, 0, none⟩, 4, 4⟩ ⟨some ⟨gk4, 0, none⟩, 4, 4⟩ ⟨some ⟨gk14, 0, none⟩, 4, 4⟩ ⟨some ⟨gk12, 0, none⟩, 4, 4⟩))) (fun w' hw => exec_build 75 _ rfl (Wv.cells (swv slZ slZ ⟨some ⟨gk2, 0, none⟩, 4, 4⟩ ⟨some ⟨gk4, 0, none⟩, 4, 4⟩ ⟨some ⟨gk14, 0, none⟩, 4, 4⟩ ⟨some ⟨gk12, 0, none⟩, 4, 4⟩)) (by kernel_rfl)) hH ?_
       try simp only [pA, pB, p1, p2, p3]
       refine any_step (i := 5) (o := { dst := some 10, op := Op.box 75 (Operand.tmp 9), type := 65, pos := "world.go:77", after := #[{ on := 4, ground := Ground.data }], guard := none }) rfl (by kernel_rfl) (by kernel_rfl) (exec_box 75 _ rfl (Wv.cells (swv slZ slZ ⟨some ⟨gk2, 0, none⟩, 4, 4⟩ ⟨some ⟨gk4, 0, none⟩, 4, 4⟩ ⟨some ⟨gk14, 0, none⟩, 4, 4⟩ ⟨some ⟨gk12, 0, none⟩, 4, 4⟩)) (by kernel_rfl)) (hH.alloc _) (fun hH => ?_)
       try simp only [pA, pB, p1, p2, p3]
       have HF : Hid _ := HF.out.alloc 75 (Wv.cells (swv slZ slZ ⟨some ⟨gk2, 0, none⟩, 4, 4⟩ ⟨some ⟨gk4, 0, none⟩, 4, 4⟩ ⟨some ⟨gk14, 0, none⟩, 4, 4⟩ ⟨some ⟨gk12, 0, none⟩, 4, 4⟩))
       generalize wk15.alloc (.cells (Wv.cells (swv slZ slZ ⟨some ⟨gk2, 0, none⟩, 4, 4⟩ ⟨some ⟨gk4, 0, none⟩, 4, 4⟩ ⟨some ⟨gk14, 0, none⟩, 4, 4⟩ ⟨some ⟨gk12, 0, none⟩, 4, 4⟩)) 75) = wk17 at HF hH ⊢
       generalize wk15.heap.size = gk16 at HF ⊢
       refine aT (i := 6) (oi := { dst := some 3, op := Op.assign (Operand.tmp 10), type := 65, pos := "world.go:77", after := #[{ on := 5, ground := Ground.data }, { on := 0, ground := Ground.phase }, { on := 1, ground := Ground.phase }, { on := 2, ground := Ground.phase }, { on := 3, ground := Ground.phase }, { on := 4, ground := Ground.phase }, { on := 5, ground := Ground.phase }], guard := none }) (v := .pointer (some ⟨gk16, 0, none⟩)) (fun _ _ => by kernel_rfl) hH ?_
       try simp only [pA, pB, p1, p2, p3]
       refine wpAnyH_done (by kernel_rfl) ?_ _
       try simp only [pA, pB, p1, p2, p3]
       clear hH
       exact hh _ _ _ _ _ _ ⟨HF.out.kept, HF.out.box 0 _ _ _ rfl, HF.out.box 1 _ _ _ rfl, HF.out.box 3 _ _ _ rfl, HF.out.box 2 _ _ _ rfl, HF.out.box 4 _ _ _ rfl, nl (HF.out.low 0 _ _ _ rfl), nl (HF.out.low 1 _ _ _ rfl), nl (HF.out.low 3 _ _ _ rfl), nl (HF.out.low 2 _ _ _ rfl), nl (HF.out.low 4 _ _ _ rfl), HF.out.ne 1 3 rfl rfl (by decide)⟩
     ·skip
      clear hi
      refine step_run (i := 2) (o := { dst := some 7, op := Op.makeSlice 24 (Operand.const (Value.int IntKind.i64 4)) (Operand.const (Value.int IntKind.i64 4)), type := 24, pos := "world.go:77", after := #[], guard := none }) rfl (by kernel_rfl) (exec_make 24 _ _ rfl (.int .i64 4) (.int .i64 4) (by kernel_rfl) (by kernel_rfl) (make24 _)) (hH.alloc _) (fun hH => ?_)
      try simp only [pA, pB, p1, p2, p3]
      have HF : Hid _ := HF.out.alloc 3 i4
      generalize wk3.alloc (.cells i4 3) = wk19 at HF hH ⊢
      generalize wk3.heap.size = gk18 at HF ⊢
      refine any_pick (rs := [1, 3]) (by kernel_rfl) (by simp) ?_
      intro i hi
      rcases pick2 hi with rfl | rfl
      ·skip
       clear hi
       refine step_run (i := 1) (o := { dst := some 6, op := Op.makeSlice 24 (Operand.const (Value.int IntKind.i64 4)) (Operand.const (Value.int IntKind.i64 4)), type := 24, pos := "world.go:77", after := #[], guard := none }) rfl (by kernel_rfl) (exec_make 24 _ _ rfl (.int .i64 4) (.int .i64 4) (by kernel_rfl) (by kernel_rfl) (make24 _)) (hH.alloc _) (fun hH => ?_)
       try simp only [pA, pB, p1, p2, p3]
       have HF : Hid _ := HF.out.alloc 3 i4
       generalize wk19.alloc (.cells i4 3) = wk21 at HF hH ⊢
       generalize wk19.heap.size = gk20 at HF ⊢
       refine any_step (i := 3) (o := { dst := some 8, op := Op.makeSlice 70 (Operand.const (Value.int IntKind.i64 4)) (Operand.const (Value.int IntKind.i64 4)), type := 70, pos := "world.go:77", after := #[], guard := none }) rfl (by kernel_rfl) (by kernel_rfl) (exec_make 70 _ _ rfl (.int .i64 4) (.int .i64 4) (by kernel_rfl) (by kernel_rfl) (make70 _)) (hH.alloc _) (fun hH => ?_)
       try simp only [pA, pB, p1, p2, p3]
       have HF : Hid _ := HF.out.alloc 4 b4
       generalize wk21.alloc (.cells b4 4) = wk23 at HF hH ⊢
       generalize wk21.heap.size = gk22 at HF ⊢
       refine aT (i := 4) (oi := { dst := some 9, op := Op.build 75 #[(2, Operand.tmp 5), (3, Operand.tmp 6), (4, Operand.tmp 7), (5, Operand.tmp 8)], type := 75, pos := "world.go:77", after := #[{ on := 0, ground := Ground.data }, { on := 1, ground := Ground.data }, { on := 2, ground := Ground.data }, { on := 3, ground := Ground.data }], guard := none }) (v := .agg (Wv.cells (swv slZ slZ ⟨some ⟨gk2, 0, none⟩, 4, 4⟩ ⟨some ⟨gk20, 0, none⟩, 4, 4⟩ ⟨some ⟨gk18, 0, none⟩, 4, 4⟩ ⟨some ⟨gk22, 0, none⟩, 4, 4⟩))) (fun w' hw => exec_build 75 _ rfl (Wv.cells (swv slZ slZ ⟨some ⟨gk2, 0, none⟩, 4, 4⟩ ⟨some ⟨gk20, 0, none⟩, 4, 4⟩ ⟨some ⟨gk18, 0, none⟩, 4, 4⟩ ⟨some ⟨gk22, 0, none⟩, 4, 4⟩)) (by kernel_rfl)) hH ?_
       try simp only [pA, pB, p1, p2, p3]
       refine any_step (i := 5) (o := { dst := some 10, op := Op.box 75 (Operand.tmp 9), type := 65, pos := "world.go:77", after := #[{ on := 4, ground := Ground.data }], guard := none }) rfl (by kernel_rfl) (by kernel_rfl) (exec_box 75 _ rfl (Wv.cells (swv slZ slZ ⟨some ⟨gk2, 0, none⟩, 4, 4⟩ ⟨some ⟨gk20, 0, none⟩, 4, 4⟩ ⟨some ⟨gk18, 0, none⟩, 4, 4⟩ ⟨some ⟨gk22, 0, none⟩, 4, 4⟩)) (by kernel_rfl)) (hH.alloc _) (fun hH => ?_)
       try simp only [pA, pB, p1, p2, p3]
       have HF : Hid _ := HF.out.alloc 75 (Wv.cells (swv slZ slZ ⟨some ⟨gk2, 0, none⟩, 4, 4⟩ ⟨some ⟨gk20, 0, none⟩, 4, 4⟩ ⟨some ⟨gk18, 0, none⟩, 4, 4⟩ ⟨some ⟨gk22, 0, none⟩, 4, 4⟩))
       generalize wk23.alloc (.cells (Wv.cells (swv slZ slZ ⟨some ⟨gk2, 0, none⟩, 4, 4⟩ ⟨some ⟨gk20, 0, none⟩, 4, 4⟩ ⟨some ⟨gk18, 0, none⟩, 4, 4⟩ ⟨some ⟨gk22, 0, none⟩, 4, 4⟩)) 75) = wk25 at HF hH ⊢
       generalize wk23.heap.size = gk24 at HF ⊢
       refine aT (i := 6) (oi := { dst := some 3, op := Op.assign (Operand.tmp 10), type := 65, pos := "world.go:77", after := #[{ on := 5, ground := Ground.data }, { on := 0, ground := Ground.phase }, { on := 1, ground := Ground.phase }, { on := 2, ground := Ground.phase }, { on := 3, ground := Ground.phase }, { on := 4, ground := Ground.phase }, { on := 5, ground := Ground.phase }], guard := none }) (v := .pointer (some ⟨gk24, 0, none⟩)) (fun _ _ => by kernel_rfl) hH ?_
       try simp only [pA, pB, p1, p2, p3]
       refine wpAnyH_done (by kernel_rfl) ?_ _
       try simp only [pA, pB, p1, p2, p3]
       clear hH
       exact hh _ _ _ _ _ _ ⟨HF.out.kept, HF.out.box 0 _ _ _ rfl, HF.out.box 2 _ _ _ rfl, HF.out.box 1 _ _ _ rfl, HF.out.box 3 _ _ _ rfl, HF.out.box 4 _ _ _ rfl, nl (HF.out.low 0 _ _ _ rfl), nl (HF.out.low 2 _ _ _ rfl), nl (HF.out.low 1 _ _ _ rfl), nl (HF.out.low 3 _ _ _ rfl), nl (HF.out.low 4 _ _ _ rfl), HF.out.ne 2 1 rfl rfl (by decide)⟩
      ·skip
       clear hi
       refine step_run (i := 3) (o := { dst := some 8, op := Op.makeSlice 70 (Operand.const (Value.int IntKind.i64 4)) (Operand.const (Value.int IntKind.i64 4)), type := 70, pos := "world.go:77", after := #[], guard := none }) rfl (by kernel_rfl) (exec_make 70 _ _ rfl (.int .i64 4) (.int .i64 4) (by kernel_rfl) (by kernel_rfl) (make70 _)) (hH.alloc _) (fun hH => ?_)
       try simp only [pA, pB, p1, p2, p3]
       have HF : Hid _ := HF.out.alloc 4 b4
       generalize wk19.alloc (.cells b4 4) = wk27 at HF hH ⊢
       generalize wk19.heap.size = gk26 at HF ⊢
       refine any_step (i := 1) (o := { dst := some 6, op := Op.makeSlice 24 (Operand.const (Value.int IntKind.i64 4)) (Operand.const (Value.int IntKind.i64 4)), type := 24, pos := "world.go:77", after := #[], guard := none }) rfl (by kernel_rfl) (by kernel_rfl) (exec_make 24 _ _ rfl (.int .i64 4) (.int .i64 4) (by kernel_rfl) (by kernel_rfl) (make24 _)) (hH.alloc _) (fun hH => ?_)
       try simp only [pA, pB, p1, p2, p3]
       have HF : Hid _ := HF.out.alloc 3 i4
       generalize wk27.alloc (.cells i4 3) = wk29 at HF hH ⊢
       generalize wk27.heap.size = gk28 at HF ⊢
       refine aT (i := 4) (oi := { dst := some 9, op := Op.build 75 #[(2, Operand.tmp 5), (3, Operand.tmp 6), (4, Operand.tmp 7), (5, Operand.tmp 8)], type := 75, pos := "world.go:77", after := #[{ on := 0, ground := Ground.data }, { on := 1, ground := Ground.data }, { on := 2, ground := Ground.data }, { on := 3, ground := Ground.data }], guard := none }) (v := .agg (Wv.cells (swv slZ slZ ⟨some ⟨gk2, 0, none⟩, 4, 4⟩ ⟨some ⟨gk28, 0, none⟩, 4, 4⟩ ⟨some ⟨gk18, 0, none⟩, 4, 4⟩ ⟨some ⟨gk26, 0, none⟩, 4, 4⟩))) (fun w' hw => exec_build 75 _ rfl (Wv.cells (swv slZ slZ ⟨some ⟨gk2, 0, none⟩, 4, 4⟩ ⟨some ⟨gk28, 0, none⟩, 4, 4⟩ ⟨some ⟨gk18, 0, none⟩, 4, 4⟩ ⟨some ⟨gk26, 0, none⟩, 4, 4⟩)) (by kernel_rfl)) hH ?_
       try simp only [pA, pB, p1, p2, p3]
       refine any_step (i := 5) (o := { dst := some 10, op := Op.box 75 (Operand.tmp 9), type := 65, pos := "world.go:77", after := #[{ on := 4, ground := Ground.data }], guard := none }) rfl (by kernel_rfl) (by kernel_rfl) (exec_box 75 _ rfl (Wv.cells (swv slZ slZ ⟨some ⟨gk2, 0, none⟩, 4, 4⟩ ⟨some ⟨gk28, 0, none⟩, 4, 4⟩ ⟨some ⟨gk18, 0, none⟩, 4, 4⟩ ⟨some ⟨gk26, 0, none⟩, 4, 4⟩)) (by kernel_rfl)) (hH.alloc _) (fun hH => ?_)
       try simp only [pA, pB, p1, p2, p3]
       have HF : Hid _ := HF.out.alloc 75 (Wv.cells (swv slZ slZ ⟨some ⟨gk2, 0, none⟩, 4, 4⟩ ⟨some ⟨gk28, 0, none⟩, 4, 4⟩ ⟨some ⟨gk18, 0, none⟩, 4, 4⟩ ⟨some ⟨gk26, 0, none⟩, 4, 4⟩))
       generalize wk29.alloc (.cells (Wv.cells (swv slZ slZ ⟨some ⟨gk2, 0, none⟩, 4, 4⟩ ⟨some ⟨gk28, 0, none⟩, 4, 4⟩ ⟨some ⟨gk18, 0, none⟩, 4, 4⟩ ⟨some ⟨gk26, 0, none⟩, 4, 4⟩)) 75) = wk31 at HF hH ⊢
       generalize wk29.heap.size = gk30 at HF ⊢
       refine aT (i := 6) (oi := { dst := some 3, op := Op.assign (Operand.tmp 10), type := 65, pos := "world.go:77", after := #[{ on := 5, ground := Ground.data }, { on := 0, ground := Ground.phase }, { on := 1, ground := Ground.phase }, { on := 2, ground := Ground.phase }, { on := 3, ground := Ground.phase }, { on := 4, ground := Ground.phase }, { on := 5, ground := Ground.phase }], guard := none }) (v := .pointer (some ⟨gk30, 0, none⟩)) (fun _ _ => by kernel_rfl) hH ?_
       try simp only [pA, pB, p1, p2, p3]
       refine wpAnyH_done (by kernel_rfl) ?_ _
       try simp only [pA, pB, p1, p2, p3]
       clear hH
       exact hh _ _ _ _ _ _ ⟨HF.out.kept, HF.out.box 0 _ _ _ rfl, HF.out.box 3 _ _ _ rfl, HF.out.box 1 _ _ _ rfl, HF.out.box 2 _ _ _ rfl, HF.out.box 4 _ _ _ rfl, nl (HF.out.low 0 _ _ _ rfl), nl (HF.out.low 3 _ _ _ rfl), nl (HF.out.low 1 _ _ _ rfl), nl (HF.out.low 2 _ _ _ rfl), nl (HF.out.low 4 _ _ _ rfl), HF.out.ne 3 1 rfl rfl (by decide)⟩
     ·skip
      clear hi
      refine step_run (i := 3) (o := { dst := some 8, op := Op.makeSlice 70 (Operand.const (Value.int IntKind.i64 4)) (Operand.const (Value.int IntKind.i64 4)), type := 70, pos := "world.go:77", after := #[], guard := none }) rfl (by kernel_rfl) (exec_make 70 _ _ rfl (.int .i64 4) (.int .i64 4) (by kernel_rfl) (by kernel_rfl) (make70 _)) (hH.alloc _) (fun hH => ?_)
      try simp only [pA, pB, p1, p2, p3]
      have HF : Hid _ := HF.out.alloc 4 b4
      generalize wk3.alloc (.cells b4 4) = wk33 at HF hH ⊢
      generalize wk3.heap.size = gk32 at HF ⊢
      refine any_pick (rs := [1, 2]) (by kernel_rfl) (by simp) ?_
      intro i hi
      rcases pick2 hi with rfl | rfl
      ·skip
       clear hi
       refine step_run (i := 1) (o := { dst := some 6, op := Op.makeSlice 24 (Operand.const (Value.int IntKind.i64 4)) (Operand.const (Value.int IntKind.i64 4)), type := 24, pos := "world.go:77", after := #[], guard := none }) rfl (by kernel_rfl) (exec_make 24 _ _ rfl (.int .i64 4) (.int .i64 4) (by kernel_rfl) (by kernel_rfl) (make24 _)) (hH.alloc _) (fun hH => ?_)
       try simp only [pA, pB, p1, p2, p3]
       have HF : Hid _ := HF.out.alloc 3 i4
       generalize wk33.alloc (.cells i4 3) = wk35 at HF hH ⊢
       generalize wk33.heap.size = gk34 at HF ⊢
       refine any_step (i := 2) (o := { dst := some 7, op := Op.makeSlice 24 (Operand.const (Value.int IntKind.i64 4)) (Operand.const (Value.int IntKind.i64 4)), type := 24, pos := "world.go:77", after := #[], guard := none }) rfl (by kernel_rfl) (by kernel_rfl) (exec_make 24 _ _ rfl (.int .i64 4) (.int .i64 4) (by kernel_rfl) (by kernel_rfl) (make24 _)) (hH.alloc _) (fun hH => ?_)
       try simp only [pA, pB, p1, p2, p3]
       have HF : Hid _ := HF.out.alloc 3 i4
       generalize wk35.alloc (.cells i4 3) = wk37 at HF hH ⊢
       generalize wk35.heap.size = gk36 at HF ⊢
       refine aT (i := 4) (oi := { dst := some 9, op := Op.build 75 #[(2, Operand.tmp 5), (3, Operand.tmp 6), (4, Operand.tmp 7), (5, Operand.tmp 8)], type := 75, pos := "world.go:77", after := #[{ on := 0, ground := Ground.data }, { on := 1, ground := Ground.data }, { on := 2, ground := Ground.data }, { on := 3, ground := Ground.data }], guard := none }) (v := .agg (Wv.cells (swv slZ slZ ⟨some ⟨gk2, 0, none⟩, 4, 4⟩ ⟨some ⟨gk34, 0, none⟩, 4, 4⟩ ⟨some ⟨gk36, 0, none⟩, 4, 4⟩ ⟨some ⟨gk32, 0, none⟩, 4, 4⟩))) (fun w' hw => exec_build 75 _ rfl (Wv.cells (swv slZ slZ ⟨some ⟨gk2, 0, none⟩, 4, 4⟩ ⟨some ⟨gk34, 0, none⟩, 4, 4⟩ ⟨some ⟨gk36, 0, none⟩, 4, 4⟩ ⟨some ⟨gk32, 0, none⟩, 4, 4⟩)) (by kernel_rfl)) hH ?_
       try simp only [pA, pB, p1, p2, p3]
       refine any_step (i := 5) (o := { dst := some 10, op := Op.box 75 (Operand.tmp 9), type := 65, pos := "world.go:77", after := #[{ on := 4, ground := Ground.data }], guard := none }) rfl (by kernel_rfl) (by kernel_rfl) (exec_box 75 _ rfl (Wv.cells (swv slZ slZ ⟨some ⟨gk2, 0, none⟩, 4, 4⟩ ⟨some ⟨gk34, 0, none⟩, 4, 4⟩ ⟨some ⟨gk36, 0, none⟩, 4, 4⟩ ⟨some ⟨gk32, 0, none⟩, 4, 4⟩)) (by kernel_rfl)) (hH.alloc _) (fun hH => ?_)
       try simp only [pA, pB, p1, p2, p3]
       have HF : Hid _ := HF.out.alloc 75 (Wv.cells (swv slZ slZ ⟨some ⟨gk2, 0, none⟩, 4, 4⟩ ⟨some ⟨gk34, 0, none⟩, 4, 4⟩ ⟨some ⟨gk36, 0, none⟩, 4, 4⟩ ⟨some ⟨gk32, 0, none⟩, 4, 4⟩))
       generalize wk37.alloc (.cells (Wv.cells (swv slZ slZ ⟨some ⟨gk2, 0, none⟩, 4, 4⟩ ⟨some ⟨gk34, 0, none⟩, 4, 4⟩ ⟨some ⟨gk36, 0, none⟩, 4, 4⟩ ⟨some ⟨gk32, 0, none⟩, 4, 4⟩)) 75) = wk39 at HF hH ⊢
       generalize wk37.heap.size = gk38 at HF ⊢
       refine aT (i := 6) (oi := { dst := some 3, op := Op.assign (Operand.tmp 10), type := 65, pos := "world.go:77", after := #[{ on := 5, ground := Ground.data }, { on := 0, ground := Ground.phase }, { on := 1, ground := Ground.phase }, { on := 2, ground := Ground.phase }, { on := 3, ground := Ground.phase }, { on := 4, ground := Ground.phase }, { on := 5, ground := Ground.phase }], guard := none }) (v := .pointer (some ⟨gk38, 0, none⟩)) (fun _ _ => by kernel_rfl) hH ?_
       try simp only [pA, pB, p1, p2, p3]
       refine wpAnyH_done (by kernel_rfl) ?_ _
       try simp only [pA, pB, p1, p2, p3]
       clear hH
       exact hh _ _ _ _ _ _ ⟨HF.out.kept, HF.out.box 0 _ _ _ rfl, HF.out.box 2 _ _ _ rfl, HF.out.box 3 _ _ _ rfl, HF.out.box 1 _ _ _ rfl, HF.out.box 4 _ _ _ rfl, nl (HF.out.low 0 _ _ _ rfl), nl (HF.out.low 2 _ _ _ rfl), nl (HF.out.low 3 _ _ _ rfl), nl (HF.out.low 1 _ _ _ rfl), nl (HF.out.low 4 _ _ _ rfl), HF.out.ne 2 3 rfl rfl (by decide)⟩
      ·skip
       clear hi
       refine step_run (i := 2) (o := { dst := some 7, op := Op.makeSlice 24 (Operand.const (Value.int IntKind.i64 4)) (Operand.const (Value.int IntKind.i64 4)), type := 24, pos := "world.go:77", after := #[], guard := none }) rfl (by kernel_rfl) (exec_make 24 _ _ rfl (.int .i64 4) (.int .i64 4) (by kernel_rfl) (by kernel_rfl) (make24 _)) (hH.alloc _) (fun hH => ?_)
       try simp only [pA, pB, p1, p2, p3]
       have HF : Hid _ := HF.out.alloc 3 i4
       generalize wk33.alloc (.cells i4 3) = wk41 at HF hH ⊢
       generalize wk33.heap.size = gk40 at HF ⊢
       refine any_step (i := 1) (o := { dst := some 6, op := Op.makeSlice 24 (Operand.const (Value.int IntKind.i64 4)) (Operand.const (Value.int IntKind.i64 4)), type := 24, pos := "world.go:77", after := #[], guard := none }) rfl (by kernel_rfl) (by kernel_rfl) (exec_make 24 _ _ rfl (.int .i64 4) (.int .i64 4) (by kernel_rfl) (by kernel_rfl) (make24 _)) (hH.alloc _) (fun hH => ?_)
       try simp only [pA, pB, p1, p2, p3]
       have HF : Hid _ := HF.out.alloc 3 i4
       generalize wk41.alloc (.cells i4 3) = wk43 at HF hH ⊢
       generalize wk41.heap.size = gk42 at HF ⊢
       refine aT (i := 4) (oi := { dst := some 9, op := Op.build 75 #[(2, Operand.tmp 5), (3, Operand.tmp 6), (4, Operand.tmp 7), (5, Operand.tmp 8)], type := 75, pos := "world.go:77", after := #[{ on := 0, ground := Ground.data }, { on := 1, ground := Ground.data }, { on := 2, ground := Ground.data }, { on := 3, ground := Ground.data }], guard := none }) (v := .agg (Wv.cells (swv slZ slZ ⟨some ⟨gk2, 0, none⟩, 4, 4⟩ ⟨some ⟨gk42, 0, none⟩, 4, 4⟩ ⟨some ⟨gk40, 0, none⟩, 4, 4⟩ ⟨some ⟨gk32, 0, none⟩, 4, 4⟩))) (fun w' hw => exec_build 75 _ rfl (Wv.cells (swv slZ slZ ⟨some ⟨gk2, 0, none⟩, 4, 4⟩ ⟨some ⟨gk42, 0, none⟩, 4, 4⟩ ⟨some ⟨gk40, 0, none⟩, 4, 4⟩ ⟨some ⟨gk32, 0, none⟩, 4, 4⟩)) (by kernel_rfl)) hH ?_
       try simp only [pA, pB, p1, p2, p3]
       refine any_step (i := 5) (o := { dst := some 10, op := Op.box 75 (Operand.tmp 9), type := 65, pos := "world.go:77", after := #[{ on := 4, ground := Ground.data }], guard := none }) rfl (by kernel_rfl) (by kernel_rfl) (exec_box 75 _ rfl (Wv.cells (swv slZ slZ ⟨some ⟨gk2, 0, none⟩, 4, 4⟩ ⟨some ⟨gk42, 0, none⟩, 4, 4⟩ ⟨some ⟨gk40, 0, none⟩, 4, 4⟩ ⟨some ⟨gk32, 0, none⟩, 4, 4⟩)) (by kernel_rfl)) (hH.alloc _) (fun hH => ?_)
       try simp only [pA, pB, p1, p2, p3]
       have HF : Hid _ := HF.out.alloc 75 (Wv.cells (swv slZ slZ ⟨some ⟨gk2, 0, none⟩, 4, 4⟩ ⟨some ⟨gk42, 0, none⟩, 4, 4⟩ ⟨some ⟨gk40, 0, none⟩, 4, 4⟩ ⟨some ⟨gk32, 0, none⟩, 4, 4⟩))
       generalize wk43.alloc (.cells (Wv.cells (swv slZ slZ ⟨some ⟨gk2, 0, none⟩, 4, 4⟩ ⟨some ⟨gk42, 0, none⟩, 4, 4⟩ ⟨some ⟨gk40, 0, none⟩, 4, 4⟩ ⟨some ⟨gk32, 0, none⟩, 4, 4⟩)) 75) = wk45 at HF hH ⊢
       generalize wk43.heap.size = gk44 at HF ⊢
       refine aT (i := 6) (oi := { dst := some 3, op := Op.assign (Operand.tmp 10), type := 65, pos := "world.go:77", after := #[{ on := 5, ground := Ground.data }, { on := 0, ground := Ground.phase }, { on := 1, ground := Ground.phase }, { on := 2, ground := Ground.phase }, { on := 3, ground := Ground.phase }, { on := 4, ground := Ground.phase }, { on := 5, ground := Ground.phase }], guard := none }) (v := .pointer (some ⟨gk44, 0, none⟩)) (fun _ _ => by kernel_rfl) hH ?_
       try simp only [pA, pB, p1, p2, p3]
       refine wpAnyH_done (by kernel_rfl) ?_ _
       try simp only [pA, pB, p1, p2, p3]
       clear hH
       exact hh _ _ _ _ _ _ ⟨HF.out.kept, HF.out.box 0 _ _ _ rfl, HF.out.box 3 _ _ _ rfl, HF.out.box 2 _ _ _ rfl, HF.out.box 1 _ _ _ rfl, HF.out.box 4 _ _ _ rfl, nl (HF.out.low 0 _ _ _ rfl), nl (HF.out.low 3 _ _ _ rfl), nl (HF.out.low 2 _ _ _ rfl), nl (HF.out.low 1 _ _ _ rfl), nl (HF.out.low 4 _ _ _ rfl), HF.out.ne 3 2 rfl rfl (by decide)⟩
    ·skip
     clear hi
     refine step_run (i := 1) (o := { dst := some 6, op := Op.makeSlice 24 (Operand.const (Value.int IntKind.i64 4)) (Operand.const (Value.int IntKind.i64 4)), type := 24, pos := "world.go:77", after := #[], guard := none }) rfl (by kernel_rfl) (exec_make 24 _ _ rfl (.int .i64 4) (.int .i64 4) (by kernel_rfl) (by kernel_rfl) (make24 _)) (hH.alloc _) (fun hH => ?_)
     try simp only [pA, pB, p1, p2, p3]
     have HF : Hid _ := HF.out.alloc 3 i4
     generalize wk1.alloc (.cells i4 3) = wk47 at HF hH ⊢
     generalize wk1.heap.size = gk46 at HF ⊢
     refine any_pick (rs := [0, 2, 3]) (by kernel_rfl) (by simp) ?_
     intro i hi
     rcases pick3 hi with rfl | rfl | rfl
     ·skip
      clear hi
      refine step_run (i := 0) (o := { dst := some 5, op := Op.makeSlice 69 (Operand.const (Value.int IntKind.i64 4)) (Operand.const (Value.int IntKind.i64 4)), type := 69, pos := "world.go:77", after := #[], guard := none }) rfl (by kernel_rfl) (exec_make 69 _ _ rfl (.int .i64 4) (.int .i64 4) (by kernel_rfl) (by kernel_rfl) (make69 _)) (hH.alloc _) (fun hH => ?_)
      try simp only [pA, pB, p1, p2, p3]
      have HF : Hid _ := HF.out.alloc 31 n4
      generalize wk47.alloc (.cells n4 31) = wk49 at HF hH ⊢
      generalize wk47.heap.size = gk48 at HF ⊢
      refine any_pick (rs := [2, 3]) (by kernel_rfl) (by simp) ?_
      intro i hi
      rcases pick2 hi with rfl | rfl
      ·skip
       clear hi
       refine step_run (i := 2) (o := { dst := some 7, op := Op.makeSlice 24 (Operand.const (Value.int IntKind.i64 4)) (Operand.const (Value.int IntKind.i64 4)), type := 24, pos := "world.go:77", after := #[], guard := none }) rfl (by kernel_rfl) (exec_make 24 _ _ rfl (.int .i64 4) (.int .i64 4) (by kernel_rfl) (by kernel_rfl) (make24 _)) (hH.alloc _) (fun hH => ?_)
       try simp only [pA, pB, p1, p2, p3]
       have HF : Hid _ := HF.out.alloc 3 i4
       generalize wk49.alloc (.cells i4 3) = wk51 at HF hH ⊢
       generalize wk49.heap.size = gk50 at HF ⊢
       refine any_step (i := 3) (o := { dst := some 8, op := Op.makeSlice 70 (Operand.const (Value.int IntKind.i64 4)) (Operand.const (Value.int IntKind.i64 4)), type := 70, pos := "world.go:77", after := #[], guard := none }) rfl (by kernel_rfl) (by kernel_rfl) (exec_make 70 _ _ rfl (.int .i64 4) (.int .i64 4) (by kernel_rfl) (by kernel_rfl) (make70 _)) (hH.alloc _) (fun hH => ?_)
       try simp only [pA, pB, p1, p2, p3]
       have HF : Hid _ := HF.out.alloc 4 b4
       generalize wk51.alloc (.cells b4 4) = wk53 at HF hH ⊢
       generalize wk51.heap.size = gk52 at HF ⊢
       refine aT (i := 4) (oi := { dst := some 9, op := Op.build 75 #[(2, Operand.tmp 5), (3, Operand.tmp 6), (4, Operand.tmp 7), (5, Operand.tmp 8)], type := 75, pos := "world.go:77", after := #[{ on := 0, ground := Ground.data }, { on := 1, ground := Ground.data }, { on := 2, ground := Ground.data }, { on := 3, ground := Ground.data }], guard := none }) (v := .agg (Wv.cells (swv slZ slZ ⟨some ⟨gk48, 0, none⟩, 4, 4⟩ ⟨some ⟨gk46, 0, none⟩, 4, 4⟩ ⟨some ⟨gk50, 0, none⟩, 4, 4⟩ ⟨some ⟨gk52, 0, none⟩, 4, 4⟩))) (fun w' hw => exec_build 75 _ rfl (Wv.cells (swv slZ slZ ⟨some ⟨gk48, 0, none⟩, 4, 4⟩ ⟨some ⟨gk46, 0, none⟩, 4, 4⟩ ⟨some ⟨gk50, 0, none⟩, 4, 4⟩ ⟨some ⟨gk52, 0, none⟩, 4, 4⟩)) (by kernel_rfl)) hH ?_
       try simp only [pA, pB, p1, p2, p3]
       refine any_step (i := 5) (o := { dst := some 10, op := Op.box 75 (Operand.tmp 9), type := 65, pos := "world.go:77", after := #[{ on := 4, ground := Ground.data }], guard := none }) rfl (by kernel_rfl) (by kernel_rfl) (exec_box 75 _ rfl (Wv.cells (swv slZ slZ ⟨some ⟨gk48, 0, none⟩, 4, 4⟩ ⟨some ⟨gk46, 0, none⟩, 4, 4⟩ ⟨some ⟨gk50, 0, none⟩, 4, 4⟩ ⟨some ⟨gk52, 0, none⟩, 4, 4⟩)) (by kernel_rfl)) (hH.alloc _) (fun hH => ?_)
       try simp only [pA, pB, p1, p2, p3]
       have HF : Hid _ := HF.out.alloc 75 (Wv.cells (swv slZ slZ ⟨some ⟨gk48, 0, none⟩, 4, 4⟩ ⟨some ⟨gk46, 0, none⟩, 4, 4⟩ ⟨some ⟨gk50, 0, none⟩, 4, 4⟩ ⟨some ⟨gk52, 0, none⟩, 4, 4⟩))
       generalize wk53.alloc (.cells (Wv.cells (swv slZ slZ ⟨some ⟨gk48, 0, none⟩, 4, 4⟩ ⟨some ⟨gk46, 0, none⟩, 4, 4⟩ ⟨some ⟨gk50, 0, none⟩, 4, 4⟩ ⟨some ⟨gk52, 0, none⟩, 4, 4⟩)) 75) = wk55 at HF hH ⊢
       generalize wk53.heap.size = gk54 at HF ⊢
       refine aT (i := 6) (oi := { dst := some 3, op := Op.assign (Operand.tmp 10), type := 65, pos := "world.go:77", after := #[{ on := 5, ground := Ground.data }, { on := 0, ground := Ground.phase }, { on := 1, ground := Ground.phase }, { on := 2, ground := Ground.phase }, { on := 3, ground := Ground.phase }, { on := 4, ground := Ground.phase }, { on := 5, ground := Ground.phase }], guard := none }) (v := .pointer (some ⟨gk54, 0, none⟩)) (fun _ _ => by kernel_rfl) hH ?_
       try simp only [pA, pB, p1, p2, p3]
       refine wpAnyH_done (by kernel_rfl) ?_ _
       try simp only [pA, pB, p1, p2, p3]
       clear hH
       exact hh _ _ _ _ _ _ ⟨HF.out.kept, HF.out.box 1 _ _ _ rfl, HF.out.box 0 _ _ _ rfl, HF.out.box 2 _ _ _ rfl, HF.out.box 3 _ _ _ rfl, HF.out.box 4 _ _ _ rfl, nl (HF.out.low 1 _ _ _ rfl), nl (HF.out.low 0 _ _ _ rfl), nl (HF.out.low 2 _ _ _ rfl), nl (HF.out.low 3 _ _ _ rfl), nl (HF.out.low 4 _ _ _ rfl), HF.out.ne 0 2 rfl rfl (by decide)⟩
      ·skip
       clear hi
       refine step_run (i := 3) (o := { dst := some 8, op := Op.makeSlice 70 (Operand.const (Value.int IntKind.i64 4)) (Operand.const (Value.int IntKind.i64 4)), type := 70, pos := "world.go:77", after := #[], guard := none }) rfl (by kernel_rfl) (exec_make 70 _ _ rfl (.int .i64 4) (.int .i64 4) (by kernel_rfl) (by kernel_rfl) (make70 _)) (hH.alloc _) (fun hH => ?_)
       try simp only [pA, pB, p1, p2, p3]
       have HF : Hid _ := HF.out.alloc 4 b4
       generalize wk49.alloc (.cells b4 4) = wk57 at HF hH ⊢
       generalize wk49.heap.size = gk56 at HF ⊢
       refine any_step (i := 2) (o := { dst := some 7, op := Op.makeSlice 24 (Operand.const (Value.int IntKind.i64 4)) (Operand.const (Value.int IntKind.i64 4)), type := 24, pos := "world.go:77", after := #[], guard := none }) rfl (by kernel_rfl) (by kernel_rfl) (exec_make 24 _ _ rfl (.int .i64 4) (.int .i64 4) (by kernel_rfl) (by kernel_rfl) (make24 _)) (hH.alloc _) (fun hH => ?_)
       try simp only [pA, pB, p1, p2, p3]
       have HF : Hid _ := HF.out.alloc 3 i4
       generalize wk57.alloc (.cells i4 3) = wk59 at HF hH ⊢
       generalize wk57.heap.size = gk58 at HF ⊢
       refine aT (i := 4) (oi := { dst := some 9, op := Op.build 75 #[(2, Operand.tmp 5), (3, Operand.tmp 6), (4, Operand.tmp 7), (5, Operand.tmp 8)], type := 75, pos := "world.go:77", after := #[{ on := 0, ground := Ground.data }, { on := 1, ground := Ground.data }, { on := 2, ground := Ground.data }, { on := 3, ground := Ground.data }], guard := none }) (v := .agg (Wv.cells (swv slZ slZ ⟨some ⟨gk48, 0, none⟩, 4, 4⟩ ⟨some ⟨gk46, 0, none⟩, 4, 4⟩ ⟨some ⟨gk58, 0, none⟩, 4, 4⟩ ⟨some ⟨gk56, 0, none⟩, 4, 4⟩))) (fun w' hw => exec_build 75 _ rfl (Wv.cells (swv slZ slZ ⟨some ⟨gk48, 0, none⟩, 4, 4⟩ ⟨some ⟨gk46, 0, none⟩, 4, 4⟩ ⟨some ⟨gk58, 0, none⟩, 4, 4⟩ ⟨some ⟨gk56, 0, none⟩, 4, 4⟩)) (by kernel_rfl)) hH ?_
       try simp only [pA, pB, p1, p2, p3]
       refine any_step (i := 5) (o := { dst := some 10, op := Op.box 75 (Operand.tmp 9), type := 65, pos := "world.go:77", after := #[{ on := 4, ground := Ground.data }], guard := none }) rfl (by kernel_rfl) (by kernel_rfl) (exec_box 75 _ rfl (Wv.cells (swv slZ slZ ⟨some ⟨gk48, 0, none⟩, 4, 4⟩ ⟨some ⟨gk46, 0, none⟩, 4, 4⟩ ⟨some ⟨gk58, 0, none⟩, 4, 4⟩ ⟨some ⟨gk56, 0, none⟩, 4, 4⟩)) (by kernel_rfl)) (hH.alloc _) (fun hH => ?_)
       try simp only [pA, pB, p1, p2, p3]
       have HF : Hid _ := HF.out.alloc 75 (Wv.cells (swv slZ slZ ⟨some ⟨gk48, 0, none⟩, 4, 4⟩ ⟨some ⟨gk46, 0, none⟩, 4, 4⟩ ⟨some ⟨gk58, 0, none⟩, 4, 4⟩ ⟨some ⟨gk56, 0, none⟩, 4, 4⟩))
       generalize wk59.alloc (.cells (Wv.cells (swv slZ slZ ⟨some ⟨gk48, 0, none⟩, 4, 4⟩ ⟨some ⟨gk46, 0, none⟩, 4, 4⟩ ⟨some ⟨gk58, 0, none⟩, 4, 4⟩ ⟨some ⟨gk56, 0, none⟩, 4, 4⟩)) 75) = wk61 at HF hH ⊢
       generalize wk59.heap.size = gk60 at HF ⊢
       refine aT (i := 6) (oi := { dst := some 3, op := Op.assign (Operand.tmp 10), type := 65, pos := "world.go:77", after := #[{ on := 5, ground := Ground.data }, { on := 0, ground := Ground.phase }, { on := 1, ground := Ground.phase }, { on := 2, ground := Ground.phase }, { on := 3, ground := Ground.phase }, { on := 4, ground := Ground.phase }, { on := 5, ground := Ground.phase }], guard := none }) (v := .pointer (some ⟨gk60, 0, none⟩)) (fun _ _ => by kernel_rfl) hH ?_
       try simp only [pA, pB, p1, p2, p3]
       refine wpAnyH_done (by kernel_rfl) ?_ _
       try simp only [pA, pB, p1, p2, p3]
       clear hH
       exact hh _ _ _ _ _ _ ⟨HF.out.kept, HF.out.box 1 _ _ _ rfl, HF.out.box 0 _ _ _ rfl, HF.out.box 3 _ _ _ rfl, HF.out.box 2 _ _ _ rfl, HF.out.box 4 _ _ _ rfl, nl (HF.out.low 1 _ _ _ rfl), nl (HF.out.low 0 _ _ _ rfl), nl (HF.out.low 3 _ _ _ rfl), nl (HF.out.low 2 _ _ _ rfl), nl (HF.out.low 4 _ _ _ rfl), HF.out.ne 0 3 rfl rfl (by decide)⟩
     ·skip
      clear hi
      refine step_run (i := 2) (o := { dst := some 7, op := Op.makeSlice 24 (Operand.const (Value.int IntKind.i64 4)) (Operand.const (Value.int IntKind.i64 4)), type := 24, pos := "world.go:77", after := #[], guard := none }) rfl (by kernel_rfl) (exec_make 24 _ _ rfl (.int .i64 4) (.int .i64 4) (by kernel_rfl) (by kernel_rfl) (make24 _)) (hH.alloc _) (fun hH => ?_)
      try simp only [pA, pB, p1, p2, p3]
      have HF : Hid _ := HF.out.alloc 3 i4
      generalize wk47.alloc (.cells i4 3) = wk63 at HF hH ⊢
      generalize wk47.heap.size = gk62 at HF ⊢
      refine any_pick (rs := [0, 3]) (by kernel_rfl) (by simp) ?_
      intro i hi
      rcases pick2 hi with rfl | rfl
      ·skip
       clear hi
       refine step_run (i := 0) (o := { dst := some 5, op := Op.makeSlice 69 (Operand.const (Value.int IntKind.i64 4)) (Operand.const (Value.int IntKind.i64 4)), type := 69, pos := "world.go:77", after := #[], guard := none }) rfl (by kernel_rfl) (exec_make 69 _ _ rfl (.int .i64 4) (.int .i64 4) (by kernel_rfl) (by kernel_rfl) (make69 _)) (hH.alloc _) (fun hH => ?_)
       try simp only [pA, pB, p1, p2, p3]
       have HF : Hid _ := HF.out.alloc 31 n4
       generalize wk63.alloc (.cells n4 31) = wk65 at HF hH ⊢
       generalize wk63.heap.size = gk64 at HF ⊢
       refine any_step (i := 3) (o := { dst := some 8, op := Op.makeSlice 70 (Operand.const (Value.int IntKind.i64 4)) (Operand.const (Value.int IntKind.i64 4)), type := 70, pos := "world.go:77", after := #[], guard := none }) rfl (by kernel_rfl) (by kernel_rfl) (exec_make 70 _ _ rfl (.int .i64 4) (.int .i64 4) (by kernel_rfl) (by kernel_rfl) (make70 _)) (hH.alloc _) (fun hH => ?_)
       try simp only [pA, pB, p1, p2, p3]
       have HF : Hid _ := HF.out.alloc 4 b4
       generalize wk65.alloc (.cells b4 4) = wk67 at HF hH ⊢
       generalize wk65.heap.size = gk66 at HF ⊢
       refine aT (i := 4) (oi := { dst := some 9, op := Op.build 75 #[(2, Operand.tmp 5), (3, Operand.tmp 6), (4, Operand.tmp 7), (5, Operand.tmp 8)], type := 75, pos := "world.go:77", after := #[{ on := 0, ground := Ground.data }, { on := 1, ground := Ground.data }, { on := 2, ground := Ground.data }, { on := 3, ground := Ground.data }], guard := none }) (v := .agg (Wv.cells (swv slZ slZ ⟨some ⟨gk64, 0, none⟩, 4, 4⟩ ⟨some ⟨gk46, 0, none⟩, 4, 4⟩ ⟨some ⟨gk62, 0, none⟩, 4, 4⟩ ⟨some ⟨gk66, 0, none⟩, 4, 4⟩))) (fun w' hw => exec_build 75 _ rfl (Wv.cells (swv slZ slZ ⟨some ⟨gk64, 0, none⟩, 4, 4⟩ ⟨some ⟨gk46, 0, none⟩, 4, 4⟩ ⟨some ⟨gk62, 0, none⟩, 4, 4⟩ ⟨some ⟨gk66, 0, none⟩, 4, 4⟩)) (by kernel_rfl)) hH ?_
       try simp only [pA, pB, p1, p2, p3]
       refine any_step (i := 5) (o := { dst := some 10, op := Op.box 75 (Operand.tmp 9), type := 65, pos := "world.go:77", after := #[{ on := 4, ground := Ground.data }], guard := none }) rfl (by kernel_rfl) (by kernel_rfl) (exec_box 75 _ rfl (Wv.cells (swv slZ slZ ⟨some ⟨gk64, 0, none⟩, 4, 4⟩ ⟨some ⟨gk46, 0, none⟩, 4, 4⟩ ⟨some ⟨gk62, 0, none⟩, 4, 4⟩ ⟨some ⟨gk66, 0, none⟩, 4, 4⟩)) (by kernel_rfl)) (hH.alloc _) (fun hH => ?_)
       try simp only [pA, pB, p1, p2, p3]
       have HF : Hid _ := HF.out.alloc 75 (Wv.cells (swv slZ slZ ⟨some ⟨gk64, 0, none⟩, 4, 4⟩ ⟨some ⟨gk46, 0, none⟩, 4, 4⟩ ⟨some ⟨gk62, 0, none⟩, 4, 4⟩ ⟨some ⟨gk66, 0, none⟩, 4, 4⟩))
       generalize wk67.alloc (.cells (Wv.cells (swv slZ slZ ⟨some ⟨gk64, 0, none⟩, 4, 4⟩ ⟨some ⟨gk46, 0, none⟩, 4, 4⟩ ⟨some ⟨gk62, 0, none⟩, 4, 4⟩ ⟨some ⟨gk66, 0, none⟩, 4, 4⟩)) 75) = wk69 at HF hH ⊢
       generalize wk67.heap.size = gk68 at HF ⊢
       refine aT (i := 6) (oi := { dst := some 3, op := Op.assign (Operand.tmp 10), type := 65, pos := "world.go:77", after := #[{ on := 5, ground := Ground.data }, { on := 0, ground := Ground.phase }, { on := 1, ground := Ground.phase }, { on := 2, ground := Ground.phase }, { on := 3, ground := Ground.phase }, { on := 4, ground := Ground.phase }, { on := 5, ground := Ground.phase }], guard := none }) (v := .pointer (some ⟨gk68, 0, none⟩)) (fun _ _ => by kernel_rfl) hH ?_
       try simp only [pA, pB, p1, p2, p3]
       refine wpAnyH_done (by kernel_rfl) ?_ _
       try simp only [pA, pB, p1, p2, p3]
       clear hH
       exact hh _ _ _ _ _ _ ⟨HF.out.kept, HF.out.box 2 _ _ _ rfl, HF.out.box 0 _ _ _ rfl, HF.out.box 1 _ _ _ rfl, HF.out.box 3 _ _ _ rfl, HF.out.box 4 _ _ _ rfl, nl (HF.out.low 2 _ _ _ rfl), nl (HF.out.low 0 _ _ _ rfl), nl (HF.out.low 1 _ _ _ rfl), nl (HF.out.low 3 _ _ _ rfl), nl (HF.out.low 4 _ _ _ rfl), HF.out.ne 0 1 rfl rfl (by decide)⟩
      ·skip
       clear hi
       refine step_run (i := 3) (o := { dst := some 8, op := Op.makeSlice 70 (Operand.const (Value.int IntKind.i64 4)) (Operand.const (Value.int IntKind.i64 4)), type := 70, pos := "world.go:77", after := #[], guard := none }) rfl (by kernel_rfl) (exec_make 70 _ _ rfl (.int .i64 4) (.int .i64 4) (by kernel_rfl) (by kernel_rfl) (make70 _)) (hH.alloc _) (fun hH => ?_)
       try simp only [pA, pB, p1, p2, p3]
       have HF : Hid _ := HF.out.alloc 4 b4
       generalize wk63.alloc (.cells b4 4) = wk71 at HF hH ⊢
       generalize wk63.heap.size = gk70 at HF ⊢
       refine any_step (i := 0) (o := { dst := some 5, op := Op.makeSlice 69 (Operand.const (Value.int IntKind.i64 4)) (Operand.const (Value.int IntKind.i64 4)), type := 69, pos := "world.go:77", after := #[], guard := none }) rfl (by kernel_rfl) (by kernel_rfl) (exec_make 69 _ _ rfl (.int .i64 4) (.int .i64 4) (by kernel_rfl) (by kernel_rfl) (make69 _)) (hH.alloc _) (fun hH => ?_)
       try simp only [pA, pB, p1, p2, p3]
       have HF : Hid _ := HF.out.alloc 31 n4
       generalize wk71.alloc (.cells n4 31) = wk73 at HF hH ⊢
       generalize wk71.heap.size = gk72 at HF ⊢
       refine aT (i := 4) (oi := { dst := some 9, op := Op.build 75 #[(2, Operand.tmp 5), (3, Operand.tmp 6), (4, Operand.tmp 7), (5, Operand.tmp 8)], type := 75, pos := "world.go:77", after := #[{ on := 0, ground := Ground.data }, { on := 1, ground := Ground.data }, { on := 2, ground := Ground.data }, { on := 3, ground := Ground.data }], guard := none }) (v := .agg (Wv.cells (swv slZ slZ ⟨some ⟨gk72, 0, none⟩, 4, 4⟩ ⟨some ⟨gk46, 0, none⟩, 4, 4⟩ ⟨some ⟨gk62, 0, none⟩, 4, 4⟩ ⟨some ⟨gk70, 0, none⟩, 4, 4⟩))) (fun w' hw => exec_build 75 _ rfl (Wv.cells (swv slZ slZ ⟨some ⟨gk72, 0, none⟩, 4, 4⟩ ⟨some ⟨gk46, 0, none⟩, 4, 4⟩ ⟨some ⟨gk62, 0, none⟩, 4, 4⟩ ⟨some ⟨gk70, 0, none⟩, 4, 4⟩)) (by kernel_rfl)) hH ?_
       try simp only [pA, pB, p1, p2, p3]
       refine any_step (i := 5) (o := { dst := some 10, op := Op.box 75 (Operand.tmp 9), type := 65, pos := "world.go:77", after := #[{ on := 4, ground := Ground.data }], guard := none }) rfl (by kernel_rfl) (by kernel_rfl) (exec_box 75 _ rfl (Wv.cells (swv slZ slZ ⟨some ⟨gk72, 0, none⟩, 4, 4⟩ ⟨some ⟨gk46, 0, none⟩, 4, 4⟩ ⟨some ⟨gk62, 0, none⟩, 4, 4⟩ ⟨some ⟨gk70, 0, none⟩, 4, 4⟩)) (by kernel_rfl)) (hH.alloc _) (fun hH => ?_)
       try simp only [pA, pB, p1, p2, p3]
       have HF : Hid _ := HF.out.alloc 75 (Wv.cells (swv slZ slZ ⟨some ⟨gk72, 0, none⟩, 4, 4⟩ ⟨some ⟨gk46, 0, none⟩, 4, 4⟩ ⟨some ⟨gk62, 0, none⟩, 4, 4⟩ ⟨some ⟨gk70, 0, none⟩, 4, 4⟩))
       generalize wk73.alloc (.cells (Wv.cells (swv slZ slZ ⟨some ⟨gk72, 0, none⟩, 4, 4⟩ ⟨some ⟨gk46, 0, none⟩, 4, 4⟩ ⟨some ⟨gk62, 0, none⟩, 4, 4⟩ ⟨some ⟨gk70, 0, none⟩, 4, 4⟩)) 75) = wk75 at HF hH ⊢
       generalize wk73.heap.size = gk74 at HF ⊢
       refine aT (i := 6) (oi := { dst := some 3, op := Op.assign (Operand.tmp 10), type := 65, pos := "world.go:77", after := #[{ on := 5, ground := Ground.data }, { on := 0, ground := Ground.phase }, { on := 1, ground := Ground.phase }, { on := 2, ground := Ground.phase }, { on := 3, ground := Ground.phase }, { on := 4, ground := Ground.phase }, { on := 5, ground := Ground.phase }], guard := none }) (v := .pointer (some ⟨gk74, 0, none⟩)) (fun _ _ => by kernel_rfl) hH ?_
       try simp only [pA, pB, p1, p2, p3]
       refine wpAnyH_done (by kernel_rfl) ?_ _
       try simp only [pA, pB, p1, p2, p3]
       clear hH
       exact hh _ _ _ _ _ _ ⟨HF.out.kept, HF.out.box 3 _ _ _ rfl, HF.out.box 0 _ _ _ rfl, HF.out.box 1 _ _ _ rfl, HF.out.box 2 _ _ _ rfl, HF.out.box 4 _ _ _ rfl, nl (HF.out.low 3 _ _ _ rfl), nl (HF.out.low 0 _ _ _ rfl), nl (HF.out.low 1 _ _ _ rfl), nl (HF.out.low 2 _ _ _ rfl), nl (HF.out.low 4 _ _ _ rfl), HF.out.ne 0 1 rfl rfl (by decide)⟩
     ·skip
      clear hi
      refine step_run (i := 3) (o := { dst := some 8, op := Op.makeSlice 70 (Operand.const (Value.int IntKind.i64 4)) (Operand.const (Value.int IntKind.i64 4)), type := 70, pos := "world.go:77", after := #[], guard := none }) rfl (by kernel_rfl) (exec_make 70 _ _ rfl (.int .i64 4) (.int .i64 4) (by kernel_rfl) (by kernel_rfl) (make70 _)) (hH.alloc _) (fun hH => ?_)
      try simp only [pA, pB, p1, p2, p3]
      have HF : Hid _ := HF.out.alloc 4 b4
      generalize wk47.alloc (.cells b4 4) = wk77 at HF hH ⊢
      generalize wk47.heap.size = gk76 at HF ⊢
      refine any_pick (rs := [0, 2]) (by kernel_rfl) (by simp) ?_
      intro i hi
      rcases pick2 hi with rfl | rfl
      ·skip
       clear hi
       refine step_run (i := 0) (o := { dst := some 5, op := Op.makeSlice 69 (Operand.const (Value.int IntKind.i64 4)) (Operand.const (Value.int IntKind.i64 4)), type := 69, pos := "world.go:77", after := #[], guard := none }) rfl (by kernel_rfl) (exec_make 69 _ _ rfl (.int .i64 4) (.int .i64 4) (by kernel_rfl) (by kernel_rfl) (make69 _)) (hH.alloc _) (fun hH => ?_)
       try simp only [pA, pB, p1, p2, p3]
       have HF : Hid _ := HF.out.alloc 31 n4
       generalize wk77.alloc (.cells n4 31) = wk79 at HF hH ⊢
       generalize wk77.heap.size = gk78 at HF ⊢
       refine any_step (i := 2) (o := { dst := some 7, op := Op.makeSlice 24 (Operand.const (Value.int IntKind.i64 4)) (Operand.const (Value.int IntKind.i64 4)), type := 24, pos := "world.go:77", after := #[], guard := none }) rfl (by kernel_rfl) (by kernel_rfl) (exec_make 24 _ _ rfl (.int .i64 4) (.int .i64 4) (by kernel_rfl) (by kernel_rfl) (make24 _)) (hH.alloc _) (fun hH => ?_)
       try simp only [pA, pB, p1, p2, p3]
       have HF : Hid _ := HF.out.alloc 3 i4
       generalize wk79.alloc (.cells i4 3) = wk81 at HF hH ⊢
       generalize wk79.heap.size = gk80 at HF ⊢
       refine aT (i := 4) (oi := { dst := some 9, op := Op.build 75 #[(2, Operand.tmp 5), (3, Operand.tmp 6), (4, Operand.tmp 7), (5, Operand.tmp 8)], type := 75, pos := "world.go:77", after := #[{ on := 0, ground := Ground.data }, { on := 1, ground := Ground.data }, { on := 2, ground := Ground.data }, { on := 3, ground := Ground.data }], guard := none }) (v := .agg (Wv.cells (swv slZ slZ ⟨some ⟨gk78, 0, none⟩, 4, 4⟩ ⟨some ⟨gk46, 0, none⟩, 4, 4⟩ ⟨some ⟨gk80, 0, none⟩, 4, 4⟩ ⟨some ⟨gk76, 0, none⟩, 4, 4⟩))) (fun w' hw => exec_build 75 _ rfl (Wv.cells (swv slZ slZ ⟨some ⟨gk78, 0, none⟩, 4, 4⟩ ⟨some ⟨gk46, 0, none⟩, 4, 4⟩ ⟨some ⟨gk80, 0, none⟩, 4, 4⟩ ⟨some ⟨gk76, 0, none⟩, 4, 4⟩)) (by kernel_rfl)) hH ?_
       try simp only [pA, pB, p1, p2, p3]
       refine any_step (i := 5) (o := { dst := some 10, op := Op.box 75 (Operand.tmp 9), type := 65, pos := "world.go:77", after := #[{ on := 4, ground := Ground.data }], guard := none }) rfl (by kernel_rfl) (by kernel_rfl) (exec_box 75 _ rfl (Wv.cells (swv slZ slZ ⟨some ⟨gk78, 0, none⟩, 4, 4⟩ ⟨some ⟨gk46, 0, none⟩, 4, 4⟩ ⟨some ⟨gk80, 0, none⟩, 4, 4⟩ ⟨some ⟨gk76, 0, none⟩, 4, 4⟩)) (by kernel_rfl)) (hH.alloc _) (fun hH => ?_)
       try simp only [pA, pB, p1, p2, p3]
       have HF : Hid _ := HF.out.alloc 75 (Wv.cells (swv slZ slZ ⟨some ⟨gk78, 0, none⟩, 4, 4⟩ ⟨some ⟨gk46, 0, none⟩, 4, 4⟩ ⟨some ⟨gk80, 0, none⟩, 4, 4⟩ ⟨some ⟨gk76, 0, none⟩, 4, 4⟩))
       generalize wk81.alloc (.cells (Wv.cells (swv slZ slZ ⟨some ⟨gk78, 0, none⟩, 4, 4⟩ ⟨some ⟨gk46, 0, none⟩, 4, 4⟩ ⟨some ⟨gk80, 0, none⟩, 4, 4⟩ ⟨some ⟨gk76, 0, none⟩, 4, 4⟩)) 75) = wk83 at HF hH ⊢
       generalize wk81.heap.size = gk82 at HF ⊢
       refine aT (i := 6) (oi := { dst := some 3, op := Op.assign (Operand.tmp 10), type := 65, pos := "world.go:77", after := #[{ on := 5, ground := Ground.data }, { on := 0, ground := Ground.phase }, { on := 1, ground := Ground.phase }, { on := 2, ground := Ground.phase }, { on := 3, ground := Ground.phase }, { on := 4, ground := Ground.phase }, { on := 5, ground := Ground.phase }], guard := none }) (v := .pointer (some ⟨gk82, 0, none⟩)) (fun _ _ => by kernel_rfl) hH ?_
       try simp only [pA, pB, p1, p2, p3]
       refine wpAnyH_done (by kernel_rfl) ?_ _
       try simp only [pA, pB, p1, p2, p3]
       clear hH
       exact hh _ _ _ _ _ _ ⟨HF.out.kept, HF.out.box 2 _ _ _ rfl, HF.out.box 0 _ _ _ rfl, HF.out.box 3 _ _ _ rfl, HF.out.box 1 _ _ _ rfl, HF.out.box 4 _ _ _ rfl, nl (HF.out.low 2 _ _ _ rfl), nl (HF.out.low 0 _ _ _ rfl), nl (HF.out.low 3 _ _ _ rfl), nl (HF.out.low 1 _ _ _ rfl), nl (HF.out.low 4 _ _ _ rfl), HF.out.ne 0 3 rfl rfl (by decide)⟩
      ·skip
       clear hi
       refine step_run (i := 2) (o := { dst := some 7, op := Op.makeSlice 24 (Operand.const (Value.int IntKind.i64 4)) (Operand.const (Value.int IntKind.i64 4)), type := 24, pos := "world.go:77", after := #[], guard := none }) rfl (by kernel_rfl) (exec_make 24 _ _ rfl (.int .i64 4) (.int .i64 4) (by kernel_rfl) (by kernel_rfl) (make24 _)) (hH.alloc _) (fun hH => ?_)
       try simp only [pA, pB, p1, p2, p3]
       have HF : Hid _ := HF.out.alloc 3 i4
       generalize wk77.alloc (.cells i4 3) = wk85 at HF hH ⊢
       generalize wk77.heap.size = gk84 at HF ⊢
       refine any_step (i := 0) (o := { dst := some 5, op := Op.makeSlice 69 (Operand.const (Value.int IntKind.i64 4)) (Operand.const (Value.int IntKind.i64 4)), type := 69, pos := "world.go:77", after := #[], guard := none }) rfl (by kernel_rfl) (by kernel_rfl) (exec_make 69 _ _ rfl (.int .i64 4) (.int .i64 4) (by kernel_rfl) (by kernel_rfl) (make69 _)) (hH.alloc _) (fun hH => ?_)
       try simp only [pA, pB, p1, p2, p3]
       have HF : Hid _ := HF.out.alloc 31 n4
       generalize wk85.alloc (.cells n4 31) = wk87 at HF hH ⊢
       generalize wk85.heap.size = gk86 at HF ⊢
       refine aT (i := 4) (oi := { dst := some 9, op := Op.build 75 #[(2, Operand.tmp 5), (3, Operand.tmp 6), (4, Operand.tmp 7), (5, Operand.tmp 8)], type := 75, pos := "world.go:77", after := #[{ on := 0, ground := Ground.data }, { on := 1, ground := Ground.data }, { on := 2, ground := Ground.data }, { on := 3, ground := Ground.data }], guard := none }) (v := .agg (Wv.cells (swv slZ slZ ⟨some ⟨gk86, 0, none⟩, 4, 4⟩ ⟨some ⟨gk46, 0, none⟩, 4, 4⟩ ⟨some ⟨gk84, 0, none⟩, 4, 4⟩ ⟨some ⟨gk76, 0, none⟩, 4, 4⟩))) (fun w' hw => exec_build 75 _ rfl (Wv.cells (swv slZ slZ ⟨some ⟨gk86, 0, none⟩, 4, 4⟩ ⟨some ⟨gk46, 0, none⟩, 4, 4⟩ ⟨some ⟨gk84, 0, none⟩, 4, 4⟩ ⟨some ⟨gk76, 0, none⟩, 4, 4⟩)) (by kernel_rfl)) hH ?_
       try simp only [pA, pB, p1, p2, p3]
       refine any_step (i := 5) (o := { dst := some 10, op := Op.box 75 (Operand.tmp 9), type := 65, pos := "world.go:77", after := #[{ on := 4, ground := Ground.data }], guard := none }) rfl (by kernel_rfl) (by kernel_rfl) (exec_box 75 _ rfl (Wv.cells (swv slZ slZ ⟨some ⟨gk86, 0, none⟩, 4, 4⟩ ⟨some ⟨gk46, 0, none⟩, 4, 4⟩ ⟨some ⟨gk84, 0, none⟩, 4, 4⟩ ⟨some ⟨gk76, 0, none⟩, 4, 4⟩)) (by kernel_rfl)) (hH.alloc _) (fun hH => ?_)
       try simp only [pA, pB, p1, p2, p3]
       have HF : Hid _ := HF.out.alloc 75 (Wv.cells (swv slZ slZ ⟨some ⟨gk86, 0, none⟩, 4, 4⟩ ⟨some ⟨gk46, 0, none⟩, 4, 4⟩ ⟨some ⟨gk84, 0, none⟩, 4, 4⟩ ⟨some ⟨gk76, 0, none⟩, 4, 4⟩))
       generalize wk87.alloc (.cells (Wv.cells (swv slZ slZ ⟨some ⟨gk86, 0, none⟩, 4, 4⟩ ⟨some ⟨gk46, 0, none⟩, 4, 4⟩ ⟨some ⟨gk84, 0, none⟩, 4, 4⟩ ⟨some ⟨gk76, 0, none⟩, 4, 4⟩)) 75) = wk89 at HF hH ⊢
       generalize wk87.heap.size = gk88 at HF ⊢
       refine aT (i := 6) (oi := { dst := some 3, op := Op.assign (Operand.tmp 10), type := 65, pos := "world.go:77", after := #[{ on := 5, ground := Ground.data }, { on := 0, ground := Ground.phase }, { on := 1, ground := Ground.phase }, { on := 2, ground := Ground.phase }, { on := 3, ground := Ground.phase }, { on := 4, ground := Ground.phase }, { on := 5, ground := Ground.phase }], guard := none }) (v := .pointer (some ⟨gk88, 0, none⟩)) (fun _ _ => by kernel_rfl) hH ?_
       try simp only [pA, pB, p1, p2, p3]
       refine wpAnyH_done (by kernel_rfl) ?_ _
       try simp only [pA, pB, p1, p2, p3]
       clear hH
       exact hh _ _ _ _ _ _ ⟨HF.out.kept, HF.out.box 3 _ _ _ rfl, HF.out.box 0 _ _ _ rfl, HF.out.box 2 _ _ _ rfl, HF.out.box 1 _ _ _ rfl, HF.out.box 4 _ _ _ rfl, nl (HF.out.low 3 _ _ _ rfl), nl (HF.out.low 0 _ _ _ rfl), nl (HF.out.low 2 _ _ _ rfl), nl (HF.out.low 1 _ _ _ rfl), nl (HF.out.low 4 _ _ _ rfl), HF.out.ne 0 2 rfl rfl (by decide)⟩
    ·skip
     clear hi
     refine step_run (i := 2) (o := { dst := some 7, op := Op.makeSlice 24 (Operand.const (Value.int IntKind.i64 4)) (Operand.const (Value.int IntKind.i64 4)), type := 24, pos := "world.go:77", after := #[], guard := none }) rfl (by kernel_rfl) (exec_make 24 _ _ rfl (.int .i64 4) (.int .i64 4) (by kernel_rfl) (by kernel_rfl) (make24 _)) (hH.alloc _) (fun hH => ?_)
     try simp only [pA, pB, p1, p2, p3]
     have HF : Hid _ := HF.out.alloc 3 i4
     generalize wk1.alloc (.cells i4 3) = wk91 at HF hH ⊢
     generalize wk1.heap.size = gk90 at HF ⊢
     refine any_pick (rs := [0, 1, 3]) (by kernel_rfl) (by simp) ?_
     intro i hi
     rcases pick3 hi with rfl | rfl | rfl
     ·skip
      clear hi
      refine step_run (i := 0) (o := { dst := some 5, op := Op.makeSlice 69 (Operand.const (Value.int IntKind.i64 4)) (Operand.const (Value.int IntKind.i64 4)), type := 69, pos := "world.go:77", after := #[], guard := none }) rfl (by kernel_rfl) (exec_make 69 _ _ rfl (.int .i64 4) (.int .i64 4) (by kernel_rfl) (by kernel_rfl) (make69 _)) (hH.alloc _) (fun hH => ?_)
      try simp only [pA, pB, p1, p2, p3]
      have HF : Hid _ := HF.out.alloc 31 n4
      generalize wk91.alloc (.cells n4 31) = wk93 at HF hH ⊢
      generalize wk91.heap.size = gk92 at HF ⊢
      refine any_pick (rs := [1, 3]) (by kernel_rfl) (by simp) ?_
      intro i hi
      rcases pick2 hi with rfl | rfl
      ·skip
       clear hi
       refine step_run (i := 1) (o := { dst := some 6, op := Op.makeSlice 24 (Operand.const (Value.int IntKind.i64 4)) (Operand.const (Value.int IntKind.i64 4)), type := 24, pos := "world.go:77", after := #[], guard := none }) rfl (by kernel_rfl) (exec_make 24 _ _ rfl (.int .i64 4) (.int .i64 4) (by kernel_rfl) (by kernel_rfl) (make24 _)) (hH.alloc _) (fun hH => ?_)
       try simp only [pA, pB, p1, p2, p3]
       have HF : Hid _ := HF.out.alloc 3 i4
       generalize wk93.alloc (.cells i4 3) = wk95 at HF hH ⊢
       generalize wk93.heap.size = gk94 at HF ⊢
       refine any_step (i := 3) (o := { dst := some 8, op := Op.makeSlice 70 (Operand.const (Value.int IntKind.i64 4)) (Operand.const (Value.int IntKind.i64 4)), type := 70, pos := "world.go:77", after := #[], guard := none }) rfl (by kernel_rfl) (by kernel_rfl) (exec_make 70 _ _ rfl (.int .i64 4) (.int .i64 4) (by kernel_rfl) (by kernel_rfl) (make70 _)) (hH.alloc _) (fun hH => ?_)
       try simp only [pA, pB, p1, p2, p3]
       have HF : Hid _ := HF.out.alloc 4 b4
       generalize wk95.alloc (.cells b4 4) = wk97 at HF hH ⊢
       generalize wk95.heap.size = gk96 at HF ⊢
       refine aT (i := 4) (oi := { dst := some 9, op := Op.build 75 #[(2, Operand.tmp 5), (3, Operand.tmp 6), (4, Operand.tmp 7), (5, Operand.tmp 8)], type := 75, pos := "world.go:77", after := #[{ on := 0, ground := Ground.data }, { on := 1, ground := Ground.data }, { on := 2, ground := Ground.data }, { on := 3, ground := Ground.data }], guard := none }) (v := .agg (Wv.cells (swv slZ slZ ⟨some ⟨gk92, 0, none⟩, 4, 4⟩ ⟨some ⟨gk94, 0, none⟩, 4, 4⟩ ⟨some ⟨gk90, 0, none⟩, 4, 4⟩ ⟨some ⟨gk96, 0, none⟩, 4, 4⟩))) (fun w' hw => exec_build 75 _ rfl (Wv.cells (swv slZ slZ ⟨some ⟨gk92, 0, none⟩, 4, 4⟩ ⟨some ⟨gk94, 0, none⟩, 4, 4⟩ ⟨some ⟨gk90, 0, none⟩, 4, 4⟩ ⟨some ⟨gk96, 0, none⟩, 4, 4⟩)) (by kernel_rfl)) hH ?_
       try simp only [pA, pB, p1, p2, p3]
       refine any_step (i := 5) (o := { dst := some 10, op := Op.box 75 (Operand.tmp 9), type := 65, pos := "world.go:77", after := #[{ on := 4, ground := Ground.data }], guard := none }) rfl (by kernel_rfl) (by kernel_rfl) (exec_box 75 _ rfl (Wv.cells (swv slZ slZ ⟨some ⟨gk92, 0, none⟩, 4, 4⟩ ⟨some ⟨gk94, 0, none⟩, 4, 4⟩ ⟨some ⟨gk90, 0, none⟩, 4, 4⟩ ⟨some ⟨gk96, 0, none⟩, 4, 4⟩)) (by kernel_rfl)) (hH.alloc _) (fun hH => ?_)
       try simp only [pA, pB, p1, p2, p3]
       have HF : Hid _ := HF.out.alloc 75 (Wv.cells (swv slZ slZ ⟨some ⟨gk92, 0, none⟩, 4, 4⟩ ⟨some ⟨gk94, 0, none⟩, 4, 4⟩ ⟨some ⟨gk90, 0, none⟩, 4, 4⟩ ⟨some ⟨gk96, 0, none⟩, 4, 4⟩))
       generalize wk97.alloc (.cells (Wv.cells (swv slZ slZ ⟨some ⟨gk92, 0, none⟩, 4, 4⟩ ⟨some ⟨gk94, 0, none⟩, 4, 4⟩ ⟨some ⟨gk90, 0, none⟩, 4, 4⟩ ⟨some ⟨gk96, 0, none⟩, 4, 4⟩)) 75) = wk99 at HF hH ⊢
       generalize wk97.heap.size = gk98 at HF ⊢
       refine aT (i := 6) (oi := { dst := some 3, op := Op.assign (Operand.tmp 10), type := 65, pos := "world.go:77", after := #[{ on := 5, ground := Ground.data }, { on := 0, ground := Ground.phase }, { on := 1, ground := Ground.phase }, { on := 2, ground := Ground.phase }, { on := 3, ground := Ground.phase }, { on := 4, ground := Ground.phase }, { on := 5, ground := Ground.phase }], guard := none }) (v := .pointer (some ⟨gk98, 0, none⟩)) (fun _ _ => by kernel_rfl) hH ?_
       try simp only [pA, pB, p1, p2, p3]
       refine wpAnyH_done (by kernel_rfl) ?_ _
       try simp only [pA, pB, p1, p2, p3]
       clear hH
       exact hh _ _ _ _ _ _ ⟨HF.out.kept, HF.out.box 1 _ _ _ rfl, HF.out.box 2 _ _ _ rfl, HF.out.box 0 _ _ _ rfl, HF.out.box 3 _ _ _ rfl, HF.out.box 4 _ _ _ rfl, nl (HF.out.low 1 _ _ _ rfl), nl (HF.out.low 2 _ _ _ rfl), nl (HF.out.low 0 _ _ _ rfl), nl (HF.out.low 3 _ _ _ rfl), nl (HF.out.low 4 _ _ _ rfl), HF.out.ne 2 0 rfl rfl (by decide)⟩
      ·skip
       clear hi
       refine step_run (i := 3) (o := { dst := some 8, op := Op.makeSlice 70 (Operand.const (Value.int IntKind.i64 4)) (Operand.const (Value.int IntKind.i64 4)), type := 70, pos := "world.go:77", after := #[], guard := none }) rfl (by kernel_rfl) (exec_make 70 _ _ rfl (.int .i64 4) (.int .i64 4) (by kernel_rfl) (by kernel_rfl) (make70 _)) (hH.alloc _) (fun hH => ?_)
       try simp only [pA, pB, p1, p2, p3]
       have HF : Hid _ := HF.out.alloc 4 b4
       generalize wk93.alloc (.cells b4 4) = wk101 at HF hH ⊢
       generalize wk93.heap.size = gk100 at HF ⊢
       refine any_step (i := 1) (o := { dst := some 6, op := Op.makeSlice 24 (Operand.const (Value.int IntKind.i64 4)) (Operand.const (Value.int IntKind.i64 4)), type := 24, pos := "world.go:77", after := #[], guard := none }) rfl (by kernel_rfl) (by kernel_rfl) (exec_make 24 _ _ rfl (.int .i64 4) (.int .i64 4) (by kernel_rfl) (by kernel_rfl) (make24 _)) (hH.alloc _) (fun hH => ?_)
       try simp only [pA, pB, p1, p2, p3]
       have HF : Hid _ := HF.out.alloc 3 i4
       generalize wk101.alloc (.cells i4 3) = wk103 at HF hH ⊢
       generalize wk101.heap.size = gk102 at HF ⊢
       refine aT (i := 4) (oi := { dst := some 9, op := Op.build 75 #[(2, Operand.tmp 5), (3, Operand.tmp 6), (4, Operand.tmp 7), (5, Operand.tmp 8)], type := 75, pos := "world.go:77", after := #[{ on := 0, ground := Ground.data }, { on := 1, ground := Ground.data }, { on := 2, ground := Ground.data }, { on := 3, ground := Ground.data }], guard := none }) (v := .agg (Wv.cells (swv slZ slZ ⟨some ⟨gk92, 0, none⟩, 4, 4⟩ ⟨some ⟨gk102, 0, none⟩, 4, 4⟩ ⟨some ⟨gk90, 0, none⟩, 4, 4⟩ ⟨some ⟨gk100, 0, none⟩, 4, 4⟩))) (fun w' hw => exec_build 75 _ rfl (Wv.cells (swv slZ slZ ⟨some ⟨gk92, 0, none⟩, 4, 4⟩ ⟨some ⟨gk102, 0, none⟩, 4, 4⟩ ⟨some ⟨gk90, 0, none⟩, 4, 4⟩ ⟨some ⟨gk100, 0, none⟩, 4, 4⟩)) (by kernel_rfl)) hH ?_
       try simp only [pA, pB, p1, p2, p3]
       refine any_step (i := 5) (o := { dst := some 10, op := Op.box 75 (Operand.tmp 9), type := 65, pos := "world.go:77", after := #[{ on := 4, ground := Ground.data }], guard := none }) rfl (by kernel_rfl) (by kernel_rfl) (exec_box 75 _ rfl (Wv.cells (swv slZ slZ ⟨some ⟨gk92, 0, none⟩, 4, 4⟩ ⟨some ⟨gk102, 0, none⟩, 4, 4⟩ ⟨some ⟨gk90, 0, none⟩, 4, 4⟩ ⟨some ⟨gk100, 0, none⟩, 4, 4⟩)) (by kernel_rfl)) (hH.alloc _) (fun hH => ?_)
       try simp only [pA, pB, p1, p2, p3]
       have HF : Hid _ := HF.out.alloc 75 (Wv.cells (swv slZ slZ ⟨some ⟨gk92, 0, none⟩, 4, 4⟩ ⟨some ⟨gk102, 0, none⟩, 4, 4⟩ ⟨some ⟨gk90, 0, none⟩, 4, 4⟩ ⟨some ⟨gk100, 0, none⟩, 4, 4⟩))
       generalize wk103.alloc (.cells (Wv.cells (swv slZ slZ ⟨some ⟨gk92, 0, none⟩, 4, 4⟩ ⟨some ⟨gk102, 0, none⟩, 4, 4⟩ ⟨some ⟨gk90, 0, none⟩, 4, 4⟩ ⟨some ⟨gk100, 0, none⟩, 4, 4⟩)) 75) = wk105 at HF hH ⊢
       generalize wk103.heap.size = gk104 at HF ⊢
       refine aT (i := 6) (oi := { dst := some 3, op := Op.assign (Operand.tmp 10), type := 65, pos := "world.go:77", after := #[{ on := 5, ground := Ground.data }, { on := 0, ground := Ground.phase }, { on := 1, ground := Ground.phase }, { on := 2, ground := Ground.phase }, { on := 3, ground := Ground.phase }, { on := 4, ground := Ground.phase }, { on := 5, ground := Ground.phase }], guard := none }) (v := .pointer (some ⟨gk104, 0, none⟩)) (fun _ _ => by kernel_rfl) hH ?_
       try simp only [pA, pB, p1, p2, p3]
       refine wpAnyH_done (by kernel_rfl) ?_ _
       try simp only [pA, pB, p1, p2, p3]
       clear hH
       exact hh _ _ _ _ _ _ ⟨HF.out.kept, HF.out.box 1 _ _ _ rfl, HF.out.box 3 _ _ _ rfl, HF.out.box 0 _ _ _ rfl, HF.out.box 2 _ _ _ rfl, HF.out.box 4 _ _ _ rfl, nl (HF.out.low 1 _ _ _ rfl), nl (HF.out.low 3 _ _ _ rfl), nl (HF.out.low 0 _ _ _ rfl), nl (HF.out.low 2 _ _ _ rfl), nl (HF.out.low 4 _ _ _ rfl), HF.out.ne 3 0 rfl rfl (by decide)⟩
     ·skip
      clear hi
      refine step_run (i := 1) (o := { dst := some 6, op := Op.makeSlice 24 (Operand.const (Value.int IntKind.i64 4)) (Operand.const (Value.int IntKind.i64 4)), type := 24, pos := "world.go:77", after := #[], guard := none }) rfl (by kernel_rfl) (exec_make 24 _ _ rfl (.int .i64 4) (.int .i64 4) (by kernel_rfl) (by kernel_rfl) (make24 _)) (hH.alloc _) (fun hH => ?_)
      try simp only [pA, pB, p1, p2, p3]
      have HF : Hid _ := HF.out.alloc 3 i4
      generalize wk91.alloc (.cells i4 3) = wk107 at HF hH ⊢
      generalize wk91.heap.size = gk106 at HF ⊢
      refine any_pick (rs := [0, 3]) (by kernel_rfl) (by simp) ?_
      intro i hi
      rcases pick2 hi with rfl | rfl
      ·skip
       clear hi
       refine step_run (i := 0) (o := { dst := some 5, op := Op.makeSlice 69 (Operand.const (Value.int IntKind.i64 4)) (Operand.const (Value.int IntKind.i64 4)), type := 69, pos := "world.go:77", after := #[], guard := none }) rfl (by kernel_rfl) (exec_make 69 _ _ rfl (.int .i64 4) (.int .i64 4) (by kernel_rfl) (by kernel_rfl) (make69 _)) (hH.alloc _) (fun hH => ?_)
       try simp only [pA, pB, p1, p2, p3]
       have HF : Hid _ := HF.out.alloc 31 n4
       generalize wk107.alloc (.cells n4 31) = wk109 at HF hH ⊢
       generalize wk107.heap.size = gk108 at HF ⊢
       refine any_step (i := 3) (o := { dst := some 8, op := Op.makeSlice 70 (Operand.const (Value.int IntKind.i64 4)) (Operand.const (Value.int IntKind.i64 4)), type := 70, pos := "world.go:77", after := #[], guard := none }) rfl (by kernel_rfl) (by kernel_rfl) (exec_make 70 _ _ rfl (.int .i64 4) (.int .i64 4) (by kernel_rfl) (by kernel_rfl) (make70 _)) (hH.alloc _) (fun hH => ?_)
       try simp only [pA, pB, p1, p2, p3]
       have HF : Hid _ := HF.out.alloc 4 b4
       generalize wk109.alloc (.cells b4 4) = wk111 at HF hH ⊢
       generalize wk109.heap.size = gk110 at HF ⊢
       refine aT (i := 4) (oi := { dst := some 9, op := Op.build 75 #[(2, Operand.tmp 5), (3, Operand.tmp 6), (4, Operand.tmp 7), (5, Operand.tmp 8)], type := 75, pos := "world.go:77", after := #[{ on := 0, ground := Ground.data }, { on := 1, ground := Ground.data }, { on := 2, ground := Ground.data }, { on := 3, ground := Ground.data }], guard := none }) (v := .agg (Wv.cells (swv slZ slZ ⟨some ⟨gk108, 0, none⟩, 4, 4⟩ ⟨some ⟨gk106, 0, none⟩, 4, 4⟩ ⟨some ⟨gk90, 0, none⟩, 4, 4⟩ ⟨some ⟨gk110, 0, none⟩, 4, 4⟩))) (fun w' hw => exec_build 75 _ rfl (Wv.cells (swv slZ slZ ⟨some ⟨gk108, 0, none⟩, 4, 4⟩ ⟨some ⟨gk106, 0, none⟩, 4, 4⟩ ⟨some ⟨gk90, 0, none⟩, 4, 4⟩ ⟨some ⟨gk110, 0, none⟩, 4, 4⟩)) (by kernel_rfl)) hH ?_
       try simp only [pA, pB, p1, p2, p3]
       refine any_step (i := 5) (o := { dst := some 10, op := Op.box 75 (Operand.tmp 9), type := 65, pos := "world.go:77", after := #[{ on := 4, ground := Ground.data }], guard := none }) rfl (by kernel_rfl) (by kernel_rfl) (exec_box 75 _ rfl (Wv.cells (swv slZ slZ ⟨some ⟨gk108, 0, none⟩, 4, 4⟩ ⟨some ⟨gk106, 0, none⟩, 4, 4⟩ ⟨some ⟨gk90, 0, none⟩, 4, 4⟩ ⟨some ⟨gk110, 0, none⟩, 4, 4⟩)) (by kernel_rfl)) (hH.alloc _) (fun hH => ?_)
       try simp only [pA, pB, p1, p2, p3]
       have HF : Hid _ := HF.out.alloc 75 (Wv.cells (swv slZ slZ ⟨some ⟨gk108, 0, none⟩, 4, 4⟩ ⟨some ⟨gk106, 0, none⟩, 4, 4⟩ ⟨some ⟨gk90, 0, none⟩, 4, 4⟩ ⟨some ⟨gk110, 0, none⟩, 4, 4⟩))
       generalize wk111.alloc (.cells (Wv.cells (swv slZ slZ ⟨some ⟨gk108, 0, none⟩, 4, 4⟩ ⟨some ⟨gk106, 0, none⟩, 4, 4⟩ ⟨some ⟨gk90, 0, none⟩, 4, 4⟩ ⟨some ⟨gk110, 0, none⟩, 4, 4⟩)) 75) = wk113 at HF hH ⊢
       generalize wk111.heap.size = gk112 at HF ⊢
       refine aT (i := 6) (oi := { dst := some 3, op := Op.assign (Operand.tmp 10), type := 65, pos := "world.go:77", after := #[{ on := 5, ground := Ground.data }, { on := 0, ground := Ground.phase }, { on := 1, ground := Ground.phase }, { on := 2, ground := Ground.phase }, { on := 3, ground := Ground.phase }, { on := 4, ground := Ground.phase }, { on := 5, ground := Ground.phase }], guard := none }) (v := .pointer (some ⟨gk112, 0, none⟩)) (fun _ _ => by kernel_rfl) hH ?_
       try simp only [pA, pB, p1, p2, p3]
       refine wpAnyH_done (by kernel_rfl) ?_ _
       try simp only [pA, pB, p1, p2, p3]
       clear hH
       exact hh _ _ _ _ _ _ ⟨HF.out.kept, HF.out.box 2 _ _ _ rfl, HF.out.box 1 _ _ _ rfl, HF.out.box 0 _ _ _ rfl, HF.out.box 3 _ _ _ rfl, HF.out.box 4 _ _ _ rfl, nl (HF.out.low 2 _ _ _ rfl), nl (HF.out.low 1 _ _ _ rfl), nl (HF.out.low 0 _ _ _ rfl), nl (HF.out.low 3 _ _ _ rfl), nl (HF.out.low 4 _ _ _ rfl), HF.out.ne 1 0 rfl rfl (by decide)⟩
      ·skip
       clear hi
       refine step_run (i := 3) (o := { dst := some 8, op := Op.makeSlice 70 (Operand.const (Value.int IntKind.i64 4)) (Operand.const (Value.int IntKind.i64 4)), type := 70, pos := "world.go:77", after := #[], guard := none }) rfl (by kernel_rfl) (exec_make 70 _ _ rfl (.int .i64 4) (.int .i64 4) (by kernel_rfl) (by kernel_rfl) (make70 _)) (hH.alloc _) (fun hH => ?_)
       try simp only [pA, pB, p1, p2, p3]
       have HF : Hid _ := HF.out.alloc 4 b4
       generalize wk107.alloc (.cells b4 4) = wk115 at HF hH ⊢
       generalize wk107.heap.size = gk114 at HF ⊢
       refine any_step (i := 0) (o := { dst := some 5, op := Op.makeSlice 69 (Operand.const (Value.int IntKind.i64 4)) (Operand.const (Value.int IntKind.i64 4)), type := 69, pos := "world.go:77", after := #[], guard := none }) rfl (by kernel_rfl) (by kernel_rfl) (exec_make 69 _ _ rfl (.int .i64 4) (.int .i64 4) (by kernel_rfl) (by kernel_rfl) (make69 _)) (hH.alloc _) (fun hH => ?_)
       try simp only [pA, pB, p1, p2, p3]
       have HF : Hid _ := HF.out.alloc 31 n4
       generalize wk115.alloc (.cells n4 31) = wk117 at HF hH ⊢
       generalize wk115.heap.size = gk116 at HF ⊢
       refine aT (i := 4) (oi := { dst := some 9, op := Op.build 75 #[(2, Operand.tmp 5), (3, Operand.tmp 6), (4, Operand.tmp 7), (5, Operand.tmp 8)], type := 75, pos := "world.go:77", after := #[{ on := 0, ground := Ground.data }, { on := 1, ground := Ground.data }, { on := 2, ground := Ground.data }, { on := 3, ground := Ground.data }], guard := none }) (v := .agg (Wv.cells (swv slZ slZ ⟨some ⟨gk116, 0, none⟩, 4, 4⟩ ⟨some ⟨gk106, 0, none⟩, 4, 4⟩ ⟨some ⟨gk90, 0, none⟩, 4, 4⟩ ⟨some ⟨gk114, 0, none⟩, 4, 4⟩))) (fun w' hw => exec_build 75 _ rfl (Wv.cells (swv slZ slZ ⟨some ⟨gk116, 0, none⟩, 4, 4⟩ ⟨some ⟨gk106, 0, none⟩, 4, 4⟩ ⟨some ⟨gk90, 0, none⟩, 4, 4⟩ ⟨some ⟨gk114, 0, none⟩, 4, 4⟩)) (by kernel_rfl)) hH ?_
       try simp only [pA, pB, p1, p2, p3]
       refine any_step (i := 5) (o := { dst := some 10, op := Op.box 75 (Operand.tmp 9), type := 65, pos := "world.go:77", after := #[{ on := 4, ground := Ground.data }], guard := none }) rfl (by kernel_rfl) (by kernel_rfl) (exec_box 75 _ rfl (Wv.cells (swv slZ slZ ⟨some ⟨gk116, 0, none⟩, 4, 4⟩ ⟨some ⟨gk106, 0, none⟩, 4, 4⟩ ⟨some ⟨gk90, 0, none⟩, 4, 4⟩ ⟨some ⟨gk114, 0, none⟩, 4, 4⟩)) (by kernel_rfl)) (hH.alloc _) (fun hH => ?_)
       try simp only [pA, pB, p1, p2, p3]
       have HF : Hid _ := HF.out.alloc 75 (Wv.cells (swv slZ slZ ⟨some ⟨gk116, 0, none⟩, 4, 4⟩ ⟨some ⟨gk106, 0, none⟩, 4, 4⟩ ⟨some ⟨gk90, 0, none⟩, 4, 4⟩ ⟨some ⟨gk114, 0, none⟩, 4, 4⟩))
       generalize wk117.alloc (.cells (Wv.cells (swv slZ slZ ⟨some ⟨gk116, 0, none⟩, 4, 4⟩ ⟨some ⟨gk106, 0, none⟩, 4, 4⟩ ⟨some ⟨gk90, 0, none⟩, 4, 4⟩ ⟨some ⟨gk114, 0, none⟩, 4, 4⟩)) 75) = wk119 at HF hH ⊢
       generalize wk117.heap.size = gk118 at HF ⊢
       refine aT (i := 6) (oi := { dst := some 3, op := Op.assign (Operand.tmp 10), type := 65, pos := "world.go:77", after := #[{ on := 5, ground := Ground.data }, { on := 0, ground := Ground.phase }, { on := 1, ground := Ground.phase }, { on := 2, ground := Ground.phase }, { on := 3, ground := Ground.phase }, { on := 4, ground := Ground.phase }, { on := 5, ground := Ground.phase }], guard := none }) (v := .pointer (some ⟨gk118, 0, none⟩)) (fun _ _ => by kernel_rfl) hH ?_
       try simp only [pA, pB, p1, p2, p3]
       refine wpAnyH_done (by kernel_rfl) ?_ _
       try simp only [pA, pB, p1, p2, p3]
       clear hH
       exact hh _ _ _ _ _ _ ⟨HF.out.kept, HF.out.box 3 _ _ _ rfl, HF.out.box 1 _ _ _ rfl, HF.out.box 0 _ _ _ rfl, HF.out.box 2 _ _ _ rfl, HF.out.box 4 _ _ _ rfl, nl (HF.out.low 3 _ _ _ rfl), nl (HF.out.low 1 _ _ _ rfl), nl (HF.out.low 0 _ _ _ rfl), nl (HF.out.low 2 _ _ _ rfl), nl (HF.out.low 4 _ _ _ rfl), HF.out.ne 1 0 rfl rfl (by decide)⟩
     ·skip
      clear hi
      refine step_run (i := 3) (o := { dst := some 8, op := Op.makeSlice 70 (Operand.const (Value.int IntKind.i64 4)) (Operand.const (Value.int IntKind.i64 4)), type := 70, pos := "world.go:77", after := #[], guard := none }) rfl (by kernel_rfl) (exec_make 70 _ _ rfl (.int .i64 4) (.int .i64 4) (by kernel_rfl) (by kernel_rfl) (make70 _)) (hH.alloc _) (fun hH => ?_)
      try simp only [pA, pB, p1, p2, p3]
      have HF : Hid _ := HF.out.alloc 4 b4
      generalize wk91.alloc (.cells b4 4) = wk121 at HF hH ⊢
      generalize wk91.heap.size = gk120 at HF ⊢
      refine any_pick (rs := [0, 1]) (by kernel_rfl) (by simp) ?_
      intro i hi
      rcases pick2 hi with rfl | rfl
      ·skip
       clear hi
       refine step_run (i := 0) (o := { dst := some 5, op := Op.makeSlice 69 (Operand.const (Value.int IntKind.i64 4)) (Operand.const (Value.int IntKind.i64 4)), type := 69, pos := "world.go:77", after := #[], guard := none }) rfl (by kernel_rfl) (exec_make 69 _ _ rfl (.int .i64 4) (.int .i64 4) (by kernel_rfl) (by kernel_rfl) (make69 _)) (hH.alloc _) (fun hH => ?_)
       try simp only [pA, pB, p1, p2, p3]
       have HF : Hid _ := HF.out.alloc 31 n4
       generalize wk121.alloc (.cells n4 31) = wk123 at HF hH ⊢
       generalize wk121.heap.size = gk122 at HF ⊢
       refine any_step (i := 1) (o := { dst := some 6, op := Op.makeSlice 24 (Operand.const (Value.int IntKind.i64 4)) (Operand.const (Value.int IntKind.i64 4)), type := 24, pos := "world.go:77", after := #[], guard := none }) rfl (by kernel_rfl) (by kernel_rfl) (exec_make 24 _ _ rfl (.int .i64 4) (.int .i64 4) (by kernel_rfl) (by kernel_rfl) (make24 _)) (hH.alloc _) (fun hH => ?_)
       try simp only [pA, pB, p1, p2, p3]
       have HF : Hid _ := HF.out.alloc 3 i4
       generalize wk123.alloc (.cells i4 3) = wk125 at HF hH ⊢
       generalize wk123.heap.size = gk124 at HF ⊢
       refine aT (i := 4) (oi := { dst := some 9, op := Op.build 75 #[(2, Operand.tmp 5), (3, Operand.tmp 6), (4, Operand.tmp 7), (5, Operand.tmp 8)], type := 75, pos := "world.go:77", after := #[{ on := 0, ground := Ground.data }, { on := 1, ground := Ground.data }, { on := 2, ground := Ground.data }, { on := 3, ground := Ground.data }], guard := none }) (v := .agg (Wv.cells (swv slZ slZ ⟨some ⟨gk122, 0, none⟩, 4, 4⟩ ⟨some ⟨gk124, 0, none⟩, 4, 4⟩ ⟨some ⟨gk90, 0, none⟩, 4, 4⟩ ⟨some ⟨gk120, 0, none⟩, 4, 4⟩))) (fun w' hw => exec_build 75 _ rfl (Wv.cells (swv slZ slZ ⟨some ⟨gk122, 0, none⟩, 4, 4⟩ ⟨some ⟨gk124, 0, none⟩, 4, 4⟩ ⟨some ⟨gk90, 0, none⟩, 4, 4⟩ ⟨some ⟨gk120, 0, none⟩, 4, 4⟩)) (by kernel_rfl)) hH ?_
       try simp only [pA, pB, p1, p2, p3]
       refine any_step (i := 5) (o := { dst := some 10, op := Op.box 75 (Operand.tmp 9), type := 65, pos := "world.go:77", after := #[{ on := 4, ground := Ground.data }], guard := none }) rfl (by kernel_rfl) (by kernel_rfl) (exec_box 75 _ rfl (Wv.cells (swv slZ slZ ⟨some ⟨gk122, 0, none⟩, 4, 4⟩ ⟨some ⟨gk124, 0, none⟩, 4, 4⟩ ⟨some ⟨gk90, 0, none⟩, 4, 4⟩ ⟨some ⟨gk120, 0, none⟩, 4, 4⟩)) (by kernel_rfl)) (hH.alloc _) (fun hH => ?_)
       try simp only [pA, pB, p1, p2, p3]
       have HF : Hid _ := HF.out.alloc 75 (Wv.cells (swv slZ slZ ⟨some ⟨gk122, 0, none⟩, 4, 4⟩ ⟨some ⟨gk124, 0, none⟩, 4, 4⟩ ⟨some ⟨gk90, 0, none⟩, 4, 4⟩ ⟨some ⟨gk120, 0, none⟩, 4, 4⟩))
       generalize wk125.alloc (.cells (Wv.cells (swv slZ slZ ⟨some ⟨gk122, 0, none⟩, 4, 4⟩ ⟨some ⟨gk124, 0, none⟩, 4, 4⟩ ⟨some ⟨gk90, 0, none⟩, 4, 4⟩ ⟨some ⟨gk120, 0, none⟩, 4, 4⟩)) 75) = wk127 at HF hH ⊢
       generalize wk125.heap.size = gk126 at HF ⊢
       refine aT (i := 6) (oi := { dst := some 3, op := Op.assign (Operand.tmp 10), type := 65, pos := "world.go:77", after := #[{ on := 5, ground := Ground.data }, { on := 0, ground := Ground.phase }, { on := 1, ground := Ground.phase }, { on := 2, ground := Ground.phase }, { on := 3, ground := Ground.phase }, { on := 4, ground := Ground.phase }, { on := 5, ground := Ground.phase }], guard := none }) (v := .pointer (some ⟨gk126, 0, none⟩)) (fun _ _ => by kernel_rfl) hH ?_
       try simp only [pA, pB, p1, p2, p3]
       refine wpAnyH_done (by kernel_rfl) ?_ _
       try simp only [pA, pB, p1, p2, p3]
       clear hH
       exact hh _ _ _ _ _ _ ⟨HF.out.kept, HF.out.box 2 _ _ _ rfl, HF.out.box 3 _ _ _ rfl, HF.out.box 0 _ _ _ rfl, HF.out.box 1 _ _ _ rfl, HF.out.box 4 _ _ _ rfl, nl (HF.out.low 2 _ _ _ rfl), nl (HF.out.low 3 _ _ _ rfl), nl (HF.out.low 0 _ _ _ rfl), nl (HF.out.low 1 _ _ _ rfl), nl (HF.out.low 4 _ _ _ rfl), HF.out.ne 3 0 rfl rfl (by decide)⟩
      ·skip
       clear hi
       refine step_run (i := 1) (o := { dst := some 6, op := Op.makeSlice 24 (Operand.const (Value.int IntKind.i64 4)) (Operand.const (Value.int IntKind.i64 4)), type := 24, pos := "world.go:77", after := #[], guard := none }) rfl (by kernel_rfl) (exec_make 24 _ _ rfl (.int .i64 4) (.int .i64 4) (by kernel_rfl) (by kernel_rfl) (make24 _)) (hH.alloc _) (fun hH => ?_)
       try simp only [pA, pB, p1, p2, p3]
       have HF : Hid _ := HF.out.alloc 3 i4
       generalize wk121.alloc (.cells i4 3) = wk129 at HF hH ⊢
       generalize wk121.heap.size = gk128 at HF ⊢
       refine any_step (i := 0) (o := { dst := some 5, op := Op.makeSlice 69 (Operand.const (Value.int IntKind.i64 4)) (Operand.const (Value.int IntKind.i64 4)), type := 69, pos := "world.go:77", after := #[], guard := none }) rfl (by kernel_rfl) (by kernel_rfl) (exec_make 69 _ _ rfl (.int .i64 4) (.int .i64 4) (by kernel_rfl) (by kernel_rfl) (make69 _)) (hH.alloc _) (fun hH => ?_)
       try simp only [pA, pB, p1, p2, p3]
       have HF : Hid _ := HF.out.alloc 31 n4
       generalize wk129.alloc (.cells n4 31) = wk131 at HF hH ⊢
       generalize wk129.heap.size = gk130 at HF ⊢
       refine aT (i := 4) (oi := { dst := some 9, op := Op.build 75 #[(2, Operand.tmp 5), (3, Operand.tmp 6), (4, Operand.tmp 7), (5, Operand.tmp 8)], type := 75, pos := "world.go:77", after := #[{ on := 0, ground := Ground.data }, { on := 1, ground := Ground.data }, { on := 2, ground := Ground.data }, { on := 3, ground := Ground.data }], guard := none }) (v := .agg (Wv.cells (swv slZ slZ ⟨some ⟨gk130, 0, none⟩, 4, 4⟩ ⟨some ⟨gk128, 0, none⟩, 4, 4⟩ ⟨some ⟨gk90, 0, none⟩, 4, 4⟩ ⟨some ⟨gk120, 0, none⟩, 4, 4⟩))) (fun w' hw => exec_build 75 _ rfl (Wv.cells (swv slZ slZ ⟨some ⟨gk130, 0, none⟩, 4, 4⟩ ⟨some ⟨gk128, 0, none⟩, 4, 4⟩ ⟨some ⟨gk90, 0, none⟩, 4, 4⟩ ⟨some ⟨gk120, 0, none⟩, 4, 4⟩)) (by kernel_rfl)) hH ?_
       try simp only [pA, pB, p1, p2, p3]
       refine any_step (i := 5) (o := { dst := some 10, op := Op.box 75 (Operand.tmp 9), type := 65, pos := "world.go:77", after := #[{ on := 4, ground := Ground.data }], guard := none }) rfl (by kernel_rfl) (by kernel_rfl) (exec_box 75 _ rfl (Wv.cells (swv slZ slZ ⟨some ⟨gk130, 0, none⟩, 4, 4⟩ ⟨some ⟨gk128, 0, none⟩, 4, 4⟩ ⟨some ⟨gk90, 0, none⟩, 4, 4⟩ ⟨some ⟨gk120, 0, none⟩, 4, 4⟩)) (by kernel_rfl)) (hH.alloc _) (fun hH => ?_)
       try simp only [pA, pB, p1, p2, p3]
       have HF : Hid _ := HF.out.alloc 75 (Wv.cells (swv slZ slZ ⟨some ⟨gk130, 0, none⟩, 4, 4⟩ ⟨some ⟨gk128, 0, none⟩, 4, 4⟩ ⟨some ⟨gk90, 0, none⟩, 4, 4⟩ ⟨some ⟨gk120, 0, none⟩, 4, 4⟩))
       generalize wk131.alloc (.cells (Wv.cells (swv slZ slZ ⟨some ⟨gk130, 0, none⟩, 4, 4⟩ ⟨some ⟨gk128, 0, none⟩, 4, 4⟩ ⟨some ⟨gk90, 0, none⟩, 4, 4⟩ ⟨some ⟨gk120, 0, none⟩, 4, 4⟩)) 75) = wk133 at HF hH ⊢
       generalize wk131.heap.size = gk132 at HF ⊢
       refine aT (i := 6) (oi := { dst := some 3, op := Op.assign (Operand.tmp 10), type := 65, pos := "world.go:77", after := #[{ on := 5, ground := Ground.data }, { on := 0, ground := Ground.phase }, { on := 1, ground := Ground.phase }, { on := 2, ground := Ground.phase }, { on := 3, ground := Ground.phase }, { on := 4, ground := Ground.phase }, { on := 5, ground := Ground.phase }], guard := none }) (v := .pointer (some ⟨gk132, 0, none⟩)) (fun _ _ => by kernel_rfl) hH ?_
       try simp only [pA, pB, p1, p2, p3]
       refine wpAnyH_done (by kernel_rfl) ?_ _
       try simp only [pA, pB, p1, p2, p3]
       clear hH
       exact hh _ _ _ _ _ _ ⟨HF.out.kept, HF.out.box 3 _ _ _ rfl, HF.out.box 2 _ _ _ rfl, HF.out.box 0 _ _ _ rfl, HF.out.box 1 _ _ _ rfl, HF.out.box 4 _ _ _ rfl, nl (HF.out.low 3 _ _ _ rfl), nl (HF.out.low 2 _ _ _ rfl), nl (HF.out.low 0 _ _ _ rfl), nl (HF.out.low 1 _ _ _ rfl), nl (HF.out.low 4 _ _ _ rfl), HF.out.ne 2 0 rfl rfl (by decide)⟩
    ·skip
     clear hi
     refine step_run (i := 3) (o := { dst := some 8, op := Op.makeSlice 70 (Operand.const (Value.int IntKind.i64 4)) (Operand.const (Value.int IntKind.i64 4)), type := 70, pos := "world.go:77", after := #[], guard := none }) rfl (by kernel_rfl) (exec_make 70 _ _ rfl (.int .i64 4) (.int .i64 4) (by kernel_rfl) (by kernel_rfl) (make70 _)) (hH.alloc _) (fun hH => ?_)
     try simp only [pA, pB, p1, p2, p3]
     have HF : Hid _ := HF.out.alloc 4 b4
     generalize wk1.alloc (.cells b4 4) = wk135 at HF hH ⊢
     generalize wk1.heap.size = gk134 at HF ⊢
     refine any_pick (rs := [0, 1, 2]) (by kernel_rfl) (by simp) ?_
     intro i hi
     rcases pick3 hi with rfl | rfl | rfl
     ·skip
      clear hi
      refine step_run (i := 0) (o := { dst := some 5, op := Op.makeSlice 69 (Operand.const (Value.int IntKind.i64 4)) (Operand.const (Value.int IntKind.i64 4)), type := 69, pos := "world.go:77", after := #[], guard := none }) rfl (by kernel_rfl) (exec_make 69 _ _ rfl (.int .i64 4) (.int .i64 4) (by kernel_rfl) (by kernel_rfl) (make69 _)) (hH.alloc _) (fun hH => ?_)
      try simp only [pA, pB, p1, p2, p3]
      have HF : Hid _ := HF.out.alloc 31 n4
      generalize wk135.alloc (.cells n4 31) = wk137 at HF hH ⊢
      generalize wk135.heap.size = gk136 at HF ⊢
      refine any_pick (rs := [1, 2]) (by kernel_rfl) (by simp) ?_
      intro i hi
      rcases pick2 hi with rfl | rfl
      ·skip
       clear hi
       refine step_run (i := 1) (o := { dst := some 6, op := Op.makeSlice 24 (Operand.const (Value.int IntKind.i64 4)) (Operand.const (Value.int IntKind.i64 4)), type := 24, pos := "world.go:77", after := #[], guard := none }) rfl (by kernel_rfl) (exec_make 24 _ _ rfl (.int .i64 4) (.int .i64 4) (by kernel_rfl) (by kernel_rfl) (make24 _)) (hH.alloc _) (fun hH => ?_)
       try simp only [pA, pB, p1, p2, p3]
       have HF : Hid _ := HF.out.alloc 3 i4
       generalize wk137.alloc (.cells i4 3) = wk139 at HF hH ⊢
       generalize wk137.heap.size = gk138 at HF ⊢
       refine any_step (i := 2) (o := { dst := some 7, op := Op.makeSlice 24 (Operand.const (Value.int IntKind.i64 4)) (Operand.const (Value.int IntKind.i64 4)), type := 24, pos := "world.go:77", after := #[], guard := none }) rfl (by kernel_rfl) (by kernel_rfl) (exec_make 24 _ _ rfl (.int .i64 4) (.int .i64 4) (by kernel_rfl) (by kernel_rfl) (make24 _)) (hH.alloc _) (fun hH => ?_)
       try simp only [pA, pB, p1, p2, p3]
       have HF : Hid _ := HF.out.alloc 3 i4
       generalize wk139.alloc (.cells i4 3) = wk141 at HF hH ⊢
       generalize wk139.heap.size = gk140 at HF ⊢
       refine aT (i := 4) (oi := { dst := some 9, op := Op.build 75 #[(2, Operand.tmp 5), (3, Operand.tmp 6), (4, Operand.tmp 7), (5, Operand.tmp 8)], type := 75, pos := "world.go:77", after := #[{ on := 0, ground := Ground.data }, { on := 1, ground := Ground.data }, { on := 2, ground := Ground.data }, { on := 3, ground := Ground.data }], guard := none }) (v := .agg (Wv.cells (swv slZ slZ ⟨some ⟨gk136, 0, none⟩, 4, 4⟩ ⟨some ⟨gk138, 0, none⟩, 4, 4⟩ ⟨some ⟨gk140, 0, none⟩, 4, 4⟩ ⟨some ⟨gk134, 0, none⟩, 4, 4⟩))) (fun w' hw => exec_build 75 _ rfl (Wv.cells (swv slZ slZ ⟨some ⟨gk136, 0, none⟩, 4, 4⟩ ⟨some ⟨gk138, 0, none⟩, 4, 4⟩ ⟨some ⟨gk140, 0, none⟩, 4, 4⟩ ⟨some ⟨gk134, 0, none⟩, 4, 4⟩)) (by kernel_rfl)) hH ?_
       try simp only [pA, pB, p1, p2, p3]
       refine any_step (i := 5) (o := { dst := some 10, op := Op.box 75 (Operand.tmp 9), type := 65, pos := "world.go:77", after := #[{ on := 4, ground := Ground.data }], guard := none }) rfl (by kernel_rfl) (by kernel_rfl) (exec_box 75 _ rfl (Wv.cells (swv slZ slZ ⟨some ⟨gk136, 0, none⟩, 4, 4⟩ ⟨some ⟨gk138, 0, none⟩, 4, 4⟩ ⟨some ⟨gk140, 0, none⟩, 4, 4⟩ ⟨some ⟨gk134, 0, none⟩, 4, 4⟩)) (by kernel_rfl)) (hH.alloc _) (fun hH => ?_)
       try simp only [pA, pB, p1, p2, p3]
       have HF : Hid _ := HF.out.alloc 75 (Wv.cells (swv slZ slZ ⟨some ⟨gk136, 0, none⟩, 4, 4⟩ ⟨some ⟨gk138, 0, none⟩, 4, 4⟩ ⟨some ⟨gk140, 0, none⟩, 4, 4⟩ ⟨some ⟨gk134, 0, none⟩, 4, 4⟩))
       generalize wk141.alloc (.cells (Wv.cells (swv slZ slZ ⟨some ⟨gk136, 0, none⟩, 4, 4⟩ ⟨some ⟨gk138, 0, none⟩, 4, 4⟩ ⟨some ⟨gk140, 0, none⟩, 4, 4⟩ ⟨some ⟨gk134, 0, none⟩, 4, 4⟩)) 75) = wk143 at HF hH ⊢
       generalize wk141.heap.size = gk142 at HF ⊢
       refine aT (i := 6) (oi := { dst := some 3, op := Op.assign (Operand.tmp 10), type := 65, pos := "world.go:77", after := #[{ on := 5, ground := Ground.data }, { on := 0, ground := Ground.phase }, { on := 1, ground := Ground.phase }, { on := 2, ground := Ground.phase }, { on := 3, ground := Ground.phase }, { on := 4, ground := Ground.phase }, { on := 5, ground := Ground.phase }], guard := none }) (v := .pointer (some ⟨gk142, 0, none⟩)) (fun _ _ => by kernel_rfl) hH ?_
       try simp only [pA, pB, p1, p2, p3]
       refine wpAnyH_done (by kernel_rfl) ?_ _
       try simp only [pA, pB, p1, p2, p3]
       clear hH
       exact hh _ _ _ _ _ _ ⟨HF.out.kept, HF.out.box 1 _ _ _ rfl, HF.out.box 2 _ _ _ rfl, HF.out.box 3 _ _ _ rfl, HF.out.box 0 _ _ _ rfl, HF.out.box 4 _ _ _ rfl, nl (HF.out.low 1 _ _ _ rfl), nl (HF.out.low 2 _ _ _ rfl), nl (HF.out.low 3 _ _ _ rfl), nl (HF.out.low 0 _ _ _ rfl), nl (HF.out.low 4 _ _ _ rfl), HF.out.ne 2 3 rfl rfl (by decide)⟩
      ·skip
       clear hi
       refine step_run (i := 2) (o := { dst := some 7, op := Op.makeSlice 24 (Operand.const (Value.int IntKind.i64 4)) (Operand.const (Value.int IntKind.i64 4)), type := 24, pos := "world.go:77", after := #[], guard := none }) rfl (by kernel_rfl) (exec_make 24 _ _ rfl (.int .i64 4) (.int .i64 4) (by kernel_rfl) (by kernel_rfl) (make24 _)) (hH.alloc _) (fun hH => ?_)
       try simp only [pA, pB, p1, p2, p3]
       have HF : Hid _ := HF.out.alloc 3 i4
       generalize wk137.alloc (.cells i4 3) = wk145 at HF hH ⊢
       generalize wk137.heap.size = gk144 at HF ⊢
       refine any_step (i := 1) (o := { dst := some 6, op := Op.makeSlice 24 (Operand.const (Value.int IntKind.i64 4)) (Operand.const (Value.int IntKind.i64 4)), type := 24, pos := "world.go:77", after := #[], guard := none }) rfl (by kernel_rfl) (by kernel_rfl) (exec_make 24 _ _ rfl (.int .i64 4) (.int .i64 4) (by kernel_rfl) (by kernel_rfl) (make24 _)) (hH.alloc _) (fun hH => ?_)
       try simp only [pA, pB, p1, p2, p3]
       have HF : Hid _ := HF.out.alloc 3 i4
       generalize wk145.alloc (.cells i4 3) = wk147 at HF hH ⊢
       generalize wk145.heap.size = gk146 at HF ⊢
       refine aT (i := 4) (oi := { dst := some 9, op := Op.build 75 #[(2, Operand.tmp 5), (3, Operand.tmp 6), (4, Operand.tmp 7), (5, Operand.tmp 8)], type := 75, pos := "world.go:77", after := #[{ on := 0, ground := Ground.data }, { on := 1, ground := Ground.data }, { on := 2, ground := Ground.data }, { on := 3, ground := Ground.data }], guard := none }) (v := .agg (Wv.cells (swv slZ slZ ⟨some ⟨gk136, 0, none⟩, 4, 4⟩ ⟨some ⟨gk146, 0, none⟩, 4, 4⟩ ⟨some ⟨gk144, 0, none⟩, 4, 4⟩ ⟨some ⟨gk134, 0, none⟩, 4, 4⟩))) (fun w' hw => exec_build 75 _ rfl (Wv.cells (swv slZ slZ ⟨some ⟨gk136, 0, none⟩, 4, 4⟩ ⟨some ⟨gk146, 0, none⟩, 4, 4⟩ ⟨some ⟨gk144, 0, none⟩, 4, 4⟩ ⟨some ⟨gk134, 0, none⟩, 4, 4⟩)) (by kernel_rfl)) hH ?_
       try simp only [pA, pB, p1, p2, p3]
       refine any_step (i := 5) (o := { dst := some 10, op := Op.box 75 (Operand.tmp 9), type := 65, pos := "world.go:77", after := #[{ on := 4, ground := Ground.data }], guard := none }) rfl (by kernel_rfl) (by kernel_rfl) (exec_box 75 _ rfl (Wv.cells (swv slZ slZ ⟨some ⟨gk136, 0, none⟩, 4, 4⟩ ⟨some ⟨gk146, 0, none⟩, 4, 4⟩ ⟨some ⟨gk144, 0, none⟩, 4, 4⟩ ⟨some ⟨gk134, 0, none⟩, 4, 4⟩)) (by kernel_rfl)) (hH.alloc _) (fun hH => ?_)
       try simp only [pA, pB, p1, p2, p3]
       have HF : Hid _ := HF.out.alloc 75 (Wv.cells (swv slZ slZ ⟨some ⟨gk136, 0, none⟩, 4, 4⟩ ⟨some ⟨gk146, 0, none⟩, 4, 4⟩ ⟨some ⟨gk144, 0, none⟩, 4, 4⟩ ⟨some ⟨gk134, 0, none⟩, 4, 4⟩))
       generalize wk147.alloc (.cells (Wv.cells (swv slZ slZ ⟨some ⟨gk136, 0, none⟩, 4, 4⟩ ⟨some ⟨gk146, 0, none⟩, 4, 4⟩ ⟨some ⟨gk144, 0, none⟩, 4, 4⟩ ⟨some ⟨gk134, 0, none⟩, 4, 4⟩)) 75) = wk149 at HF hH ⊢
       generalize wk147.heap.size = gk148 at HF ⊢
       refine aT (i := 6) (oi := { dst := some 3, op := Op.assign (Operand.tmp 10), type := 65, pos := "world.go:77", after := #[{ on := 5, ground := Ground.data }, { on := 0, ground := Ground.phase }, { on := 1, ground := Ground.phase }, { on := 2, ground := Ground.phase }, { on := 3, ground := Ground.phase }, { on := 4, ground := Ground.phase }, { on := 5, ground := Ground.phase }], guard := none }) (v := .pointer (some ⟨gk148, 0, none⟩)) (fun _ _ => by kernel_rfl) hH ?_
       try simp only [pA, pB, p1, p2, p3]
       refine wpAnyH_done (by kernel_rfl) ?_ _
       try simp only [pA, pB, p1, p2, p3]
       clear hH
       exact hh _ _ _ _ _ _ ⟨HF.out.kept, HF.out.box 1 _ _ _ rfl, HF.out.box 3 _ _ _ rfl, HF.out.box 2 _ _ _ rfl, HF.out.box 0 _ _ _ rfl, HF.out.box 4 _ _ _ rfl, nl (HF.out.low 1 _ _ _ rfl), nl (HF.out.low 3 _ _ _ rfl), nl (HF.out.low 2 _ _ _ rfl), nl (HF.out.low 0 _ _ _ rfl), nl (HF.out.low 4 _ _ _ rfl), HF.out.ne 3 2 rfl rfl (by decide)⟩
     ·skip
      clear hi
      refine step_run (i := 1) (o := { dst := some 6, op := Op.makeSlice 24 (Operand.const (Value.int IntKind.i64 4)) (Operand.const (Value.int IntKind.i64 4)), type := 24, pos := "world.go:77", after := #[], guard := none }) rfl (by kernel_rfl) (exec_make 24 _ _ rfl (.int .i64 4) (.int .i64 4) (by kernel_rfl) (by kernel_rfl) (make24 _)) (hH.alloc _) (fun hH => ?_)
      try simp only [pA, pB, p1, p2, p3]
      have HF : Hid _ := HF.out.alloc 3 i4
      generalize wk135.alloc (.cells i4 3) = wk151 at HF hH ⊢
      generalize wk135.heap.size = gk150 at HF ⊢
      refine any_pick (rs := [0, 2]) (by kernel_rfl) (by simp) ?_
      intro i hi
      rcases pick2 hi with rfl | rfl
      ·skip
       clear hi
       refine step_run (i := 0) (o := { dst := some 5, op := Op.makeSlice 69 (Operand.const (Value.int IntKind.i64 4)) (Operand.const (Value.int IntKind.i64 4)), type := 69, pos := "world.go:77", after := #[], guard := none }) rfl (by kernel_rfl) (exec_make 69 _ _ rfl (.int .i64 4) (.int .i64 4) (by kernel_rfl) (by kernel_rfl) (make69 _)) (hH.alloc _) (fun hH => ?_)
       try simp only [pA, pB, p1, p2, p3]
       have HF : Hid _ := HF.out.alloc 31 n4
       generalize wk151.alloc (.cells n4 31) = wk153 at HF hH ⊢
       generalize wk151.heap.size = gk152 at HF ⊢
       refine any_step (i := 2) (o := { dst := some 7, op := Op.makeSlice 24 (Operand.const (Value.int IntKind.i64 4)) (Operand.const (Value.int IntKind.i64 4)), type := 24, pos := "world.go:77", after := #[], guard := none }) rfl (by kernel_rfl) (by kernel_rfl) (exec_make 24 _ _ rfl (.int .i64 4) (.int .i64 4) (by kernel_rfl) (by kernel_rfl) (make24 _)) (hH.alloc _) (fun hH => ?_)
       try simp only [pA, pB, p1, p2, p3]
       have HF : Hid _ := HF.out.alloc 3 i4
       generalize wk153.alloc (.cells i4 3) = wk155 at HF hH ⊢
       generalize wk153.heap.size = gk154 at HF ⊢
       refine aT (i := 4) (oi := { dst := some 9, op := Op.build 75 #[(2, Operand.tmp 5), (3, Operand.tmp 6), (4, Operand.tmp 7), (5, Operand.tmp 8)], type := 75, pos := "world.go:77", after := #[{ on := 0, ground := Ground.data }, { on := 1, ground := Ground.data }, { on := 2, ground := Ground.data }, { on := 3, ground := Ground.data }], guard := none }) (v := .agg (Wv.cells (swv slZ slZ ⟨some ⟨gk152, 0, none⟩, 4, 4⟩ ⟨some ⟨gk150, 0, none⟩, 4, 4⟩ ⟨some ⟨gk154, 0, none⟩, 4, 4⟩ ⟨some ⟨gk134, 0, none⟩, 4, 4⟩))) (fun w' hw => exec_build 75 _ rfl (Wv.cells (swv slZ slZ ⟨some ⟨gk152, 0, none⟩, 4, 4⟩ ⟨some ⟨gk150, 0, none⟩, 4, 4⟩ ⟨some ⟨gk154, 0, none⟩, 4, 4⟩ ⟨some ⟨gk134, 0, none⟩, 4, 4⟩)) (by kernel_rfl)) hH ?_
       try simp only [pA, pB, p1, p2, p3]
       refine any_step (i := 5) (o := { dst := some 10, op := Op.box 75 (Operand.tmp 9), type := 65, pos := "world.go:77", after := #[{ on := 4, ground := Ground.data }], guard := none }) rfl (by kernel_rfl) (by kernel_rfl) (exec_box 75 _ rfl (Wv.cells (swv slZ slZ ⟨some ⟨gk152, 0, none⟩, 4, 4⟩ ⟨some ⟨gk150, 0, none⟩, 4, 4⟩ ⟨some ⟨gk154, 0, none⟩, 4, 4⟩ ⟨some ⟨gk134, 0, none⟩, 4, 4⟩)) (by kernel_rfl)) (hH.alloc _) (fun hH => ?_)
       try simp only [pA, pB, p1, p2, p3]
       have HF : Hid _ := HF.out.alloc 75 (Wv.cells (swv slZ slZ ⟨some ⟨gk152, 0, none⟩, 4, 4⟩ ⟨some ⟨gk150, 0, none⟩, 4, 4⟩ ⟨some ⟨gk154, 0, none⟩, 4, 4⟩ ⟨some ⟨gk134, 0, none⟩, 4, 4⟩))
       generalize wk155.alloc (.cells (Wv.cells (swv slZ slZ ⟨some ⟨gk152, 0, none⟩, 4, 4⟩ ⟨some ⟨gk150, 0, none⟩, 4, 4⟩ ⟨some ⟨gk154, 0, none⟩, 4, 4⟩ ⟨some ⟨gk134, 0, none⟩, 4, 4⟩)) 75) = wk157 at HF hH ⊢
       generalize wk155.heap.size = gk156 at HF ⊢
       refine aT (i := 6) (oi := { dst := some 3, op := Op.assign (Operand.tmp 10), type := 65, pos := "world.go:77", after := #[{ on := 5, ground := Ground.data }, { on := 0, ground := Ground.phase }, { on := 1, ground := Ground.phase }, { on := 2, ground := Ground.phase }, { on := 3, ground := Ground.phase }, { on := 4, ground := Ground.phase }, { on := 5, ground := Ground.phase }], guard := none }) (v := .pointer (some ⟨gk156, 0, none⟩)) (fun _ _ => by kernel_rfl) hH ?_
       try simp only [pA, pB, p1, p2, p3]
       refine wpAnyH_done (by kernel_rfl) ?_ _
       try simp only [pA, pB, p1, p2, p3]
       clear hH
       exact hh _ _ _ _ _ _ ⟨HF.out.kept, HF.out.box 2 _ _ _ rfl, HF.out.box 1 _ _ _ rfl, HF.out.box 3 _ _ _ rfl, HF.out.box 0 _ _ _ rfl, HF.out.box 4 _ _ _ rfl, nl (HF.out.low 2 _ _ _ rfl), nl (HF.out.low 1 _ _ _ rfl), nl (HF.out.low 3 _ _ _ rfl), nl (HF.out.low 0 _ _ _ rfl), nl (HF.out.low 4 _ _ _ rfl), HF.out.ne 1 3 rfl rfl (by decide)⟩
      ·skip
       clear hi
       refine step_run (i := 2) (o := { dst := some 7, op := Op.makeSlice 24 (Operand.const (Value.int IntKind.i64 4)) (Operand.const (Value.int IntKind.i64 4)), type := 24, pos := "world.go:77", after := #[], guard := none }) rfl (by kernel_rfl) (exec_make 24 _ _ rfl (.int .i64 4) (.int .i64 4) (by kernel_rfl) (by kernel_rfl) (make24 _)) (hH.alloc _) (fun hH => ?_)
       try simp only [pA, pB, p1, p2, p3]
       have HF : Hid _ := HF.out.alloc 3 i4
       generalize wk151.alloc (.cells i4 3) = wk159 at HF hH ⊢
       generalize wk151.heap.size = gk158 at HF ⊢
       refine any_step (i := 0) (o := { dst := some 5, op := Op.makeSlice 69 (Operand.const (Value.int IntKind.i64 4)) (Operand.const (Value.int IntKind.i64 4)), type := 69, pos := "world.go:77", after := #[], guard := none }) rfl (by kernel_rfl) (by kernel_rfl) (exec_make 69 _ _ rfl (.int .i64 4) (.int .i64 4) (by kernel_rfl) (by kernel_rfl) (make69 _)) (hH.alloc _) (fun hH => ?_)
       try simp only [pA, pB, p1, p2, p3]
       have HF : Hid _ := HF.out.alloc 31 n4
       generalize wk159.alloc (.cells n4 31) = wk161 at HF hH ⊢
       generalize wk159.heap.size = gk160 at HF ⊢
       refine aT (i := 4) (oi := { dst := some 9, op := Op.build 75 #[(2, Operand.tmp 5), (3, Operand.tmp 6), (4, Operand.tmp 7), (5, Operand.tmp 8)], type := 75, pos := "world.go:77", after := #[{ on := 0, ground := Ground.data }, { on := 1, ground := Ground.data }, { on := 2, ground := Ground.data }, { on := 3, ground := Ground.data }], guard := none }) (v := .agg (Wv.cells (swv slZ slZ ⟨some ⟨gk160, 0, none⟩, 4, 4⟩ ⟨some ⟨gk150, 0, none⟩, 4, 4⟩ ⟨some ⟨gk158, 0, none⟩, 4, 4⟩ ⟨some ⟨gk134, 0, none⟩, 4, 4⟩))) (fun w' hw => exec_build 75 _ rfl (Wv.cells (swv slZ slZ ⟨some ⟨gk160, 0, none⟩, 4, 4⟩ ⟨some ⟨gk150, 0, none⟩, 4, 4⟩ ⟨some ⟨gk158, 0, none⟩, 4, 4⟩ ⟨some ⟨gk134, 0, none⟩, 4, 4⟩)) (by kernel_rfl)) hH ?_
       try simp only [pA, pB, p1, p2, p3]
       refine any_step (i := 5) (o := { dst := some 10, op := Op.box 75 (Operand.tmp 9), type := 65, pos := "world.go:77", after := #[{ on := 4, ground := Ground.data }], guard := none }) rfl (by kernel_rfl) (by kernel_rfl) (exec_box 75 _ rfl (Wv.cells (swv slZ slZ ⟨some ⟨gk160, 0, none⟩, 4, 4⟩ ⟨some ⟨gk150, 0, none⟩, 4, 4⟩ ⟨some ⟨gk158, 0, none⟩, 4, 4⟩ ⟨some ⟨gk134, 0, none⟩, 4, 4⟩)) (by kernel_rfl)) (hH.alloc _) (fun hH => ?_)
       try simp only [pA, pB, p1, p2, p3]
       have HF : Hid _ := HF.out.alloc 75 (Wv.cells (swv slZ slZ ⟨some ⟨gk160, 0, none⟩, 4, 4⟩ ⟨some ⟨gk150, 0, none⟩, 4, 4⟩ ⟨some ⟨gk158, 0, none⟩, 4, 4⟩ ⟨some ⟨gk134, 0, none⟩, 4, 4⟩))
       generalize wk161.alloc (.cells (Wv.cells (swv slZ slZ ⟨some ⟨gk160, 0, none⟩, 4, 4⟩ ⟨some ⟨gk150, 0, none⟩, 4, 4⟩ ⟨some ⟨gk158, 0, none⟩, 4, 4⟩ ⟨some ⟨gk134, 0, none⟩, 4, 4⟩)) 75) = wk163 at HF hH ⊢
       generalize wk161.heap.size = gk162 at HF ⊢
       refine aT (i := 6) (oi := { dst := some 3, op := Op.assign (Operand.tmp 10), type := 65, pos := "world.go:77", after := #[{ on := 5, ground := Ground.data }, { on := 0, ground := Ground.phase }, { on := 1, ground := Ground.phase }, { on := 2, ground := Ground.phase }, { on := 3, ground := Ground.phase }, { on := 4, ground := Ground.phase }, { on := 5, ground := Ground.phase }], guard := none }) (v := .pointer (some ⟨gk162, 0, none⟩)) (fun _ _ => by kernel_rfl) hH ?_
       try simp only [pA, pB, p1, p2, p3]
       refine wpAnyH_done (by kernel_rfl) ?_ _
       try simp only [pA, pB, p1, p2, p3]
       clear hH
       exact hh _ _ _ _ _ _ ⟨HF.out.kept, HF.out.box 3 _ _ _ rfl, HF.out.box 1 _ _ _ rfl, HF.out.box 2 _ _ _ rfl, HF.out.box 0 _ _ _ rfl, HF.out.box 4 _ _ _ rfl, nl (HF.out.low 3 _ _ _ rfl), nl (HF.out.low 1 _ _ _ rfl), nl (HF.out.low 2 _ _ _ rfl), nl (HF.out.low 0 _ _ _ rfl), nl (HF.out.low 4 _ _ _ rfl), HF.out.ne 1 2 rfl rfl (by decide)⟩
     ·skip
      clear hi
      refine step_run (i := 2) (o := { dst := some 7, op := Op.makeSlice 24 (Operand.const (Value.int IntKind.i64 4)) (Operand.const (Value.int IntKind.i64 4)), type := 24, pos := "world.go:77", after := #[], guard := none }) rfl (by kernel_rfl) (exec_make 24 _ _ rfl (.int .i64 4) (.int .i64 4) (by kernel_rfl) (by kernel_rfl) (make24 _)) (hH.alloc _) (fun hH => ?_)
      try simp only [pA, pB, p1, p2, p3]
      have HF : Hid _ := HF.out.alloc 3 i4
      generalize wk135.alloc (.cells i4 3) = wk165 at HF hH ⊢
      generalize wk135.heap.size = gk164 at HF ⊢
      refine any_pick (rs := [0, 1]) (by kernel_rfl) (by simp) ?_
      intro i hi
      rcases pick2 hi with rfl | rfl
      ·skip
       clear hi
       refine step_run (i := 0) (o := { dst := some 5, op := Op.makeSlice 69 (Operand.const (Value.int IntKind.i64 4)) (Operand.const (Value.int IntKind.i64 4)), type := 69, pos := "world.go:77", after := #[], guard := none }) rfl (by kernel_rfl) (exec_make 69 _ _ rfl (.int .i64 4) (.int .i64 4) (by kernel_rfl) (by kernel_rfl) (make69 _)) (hH.alloc _) (fun hH => ?_)
       try simp only [pA, pB, p1, p2, p3]
       have HF : Hid _ := HF.out.alloc 31 n4
       generalize wk165.alloc (.cells n4 31) = wk167 at HF hH ⊢
       generalize wk165.heap.size = gk166 at HF ⊢
       refine any_step (i := 1) (o := { dst := some 6, op := Op.makeSlice 24 (Operand.const (Value.int IntKind.i64 4)) (Operand.const (Value.int IntKind.i64 4)), type := 24, pos := "world.go:77", after := #[], guard := none }) rfl (by kernel_rfl) (by kernel_rfl) (exec_make 24 _ _ rfl (.int .i64 4) (.int .i64 4) (by kernel_rfl) (by kernel_rfl) (make24 _)) (hH.alloc _) (fun hH => ?_)
       try simp only [pA, pB, p1, p2, p3]
       have HF : Hid _ := HF.out.alloc 3 i4
       generalize wk167.alloc (.cells i4 3) = wk169 at HF hH ⊢
       generalize wk167.heap.size = gk168 at HF ⊢
       refine aT (i := 4) (oi := { dst := some 9, op := Op.build 75 #[(2, Operand.tmp 5), (3, Operand.tmp 6), (4, Operand.tmp 7), (5, Operand.tmp 8)], type := 75, pos := "world.go:77", after := #[{ on := 0, ground := Ground.data }, { on := 1, ground := Ground.data }, { on := 2, ground := Ground.data }, { on := 3, ground := Ground.data }], guard := none }) (v := .agg (Wv.cells (swv slZ slZ ⟨some ⟨gk166, 0, none⟩, 4, 4⟩ ⟨some ⟨gk168, 0, none⟩, 4, 4⟩ ⟨some ⟨gk164, 0, none⟩, 4, 4⟩ ⟨some ⟨gk134, 0, none⟩, 4, 4⟩))) (fun w' hw => exec_build 75 _ rfl (Wv.cells (swv slZ slZ ⟨some ⟨gk166, 0, none⟩, 4, 4⟩ ⟨some ⟨gk168, 0, none⟩, 4, 4⟩ ⟨some ⟨gk164, 0, none⟩, 4, 4⟩ ⟨some ⟨gk134, 0, none⟩, 4, 4⟩)) (by kernel_rfl)) hH ?_
       try simp only [pA, pB, p1, p2, p3]
       refine any_step (i := 5) (o := { dst := some 10, op := Op.box 75 (Operand.tmp 9), type := 65, pos := "world.go:77", after := #[{ on := 4, ground := Ground.data }], guard := none }) rfl (by kernel_rfl) (by kernel_rfl) (exec_box 75 _ rfl (Wv.cells (swv slZ slZ ⟨some ⟨gk166, 0, none⟩, 4, 4⟩ ⟨some ⟨gk168, 0, none⟩, 4, 4⟩ ⟨some ⟨gk164, 0, none⟩, 4, 4⟩ ⟨some ⟨gk134, 0, none⟩, 4, 4⟩)) (by kernel_rfl)) (hH.alloc _) (fun hH => ?_)
       try simp only [pA, pB, p1, p2, p3]
       have HF : Hid _ := HF.out.alloc 75 (Wv.cells (swv slZ slZ ⟨some ⟨gk166, 0, none⟩, 4, 4⟩ ⟨some ⟨gk168, 0, none⟩, 4, 4⟩ ⟨some ⟨gk164, 0, none⟩, 4, 4⟩ ⟨some ⟨gk134, 0, none⟩, 4, 4⟩))
       generalize wk169.alloc (.cells (Wv.cells (swv slZ slZ ⟨some ⟨gk166, 0, none⟩, 4, 4⟩ ⟨some ⟨gk168, 0, none⟩, 4, 4⟩ ⟨some ⟨gk164, 0, none⟩, 4, 4⟩ ⟨some ⟨gk134, 0, none⟩, 4, 4⟩)) 75) = wk171 at HF hH ⊢
       generalize wk169.heap.size = gk170 at HF ⊢
       refine aT (i := 6) (oi := { dst := some 3, op := Op.assign (Operand.tmp 10), type := 65, pos := "world.go:77", after := #[{ on := 5, ground := Ground.data }, { on := 0, ground := Ground.phase }, { on := 1, ground := Ground.phase }, { on := 2, ground := Ground.phase }, { on := 3, ground := Ground.phase }, { on := 4, ground := Ground.phase }, { on := 5, ground := Ground.phase }], guard := none }) (v := .pointer (some ⟨gk170, 0, none⟩)) (fun _ _ => by kernel_rfl) hH ?_
       try simp only [pA, pB, p1, p2, p3]
       refine wpAnyH_done (by kernel_rfl) ?_ _
       try simp only [pA, pB, p1, p2, p3]
       clear hH
       exact hh _ _ _ _ _ _ ⟨HF.out.kept, HF.out.box 2 _ _ _ rfl, HF.out.box 3 _ _ _ rfl, HF.out.box 1 _ _ _ rfl, HF.out.box 0 _ _ _ rfl, HF.out.box 4 _ _ _ rfl, nl (HF.out.low 2 _ _ _ rfl), nl (HF.out.low 3 _ _ _ rfl), nl (HF.out.low 1 _ _ _ rfl), nl (HF.out.low 0 _ _ _ rfl), nl (HF.out.low 4 _ _ _ rfl), HF.out.ne 3 1 rfl rfl (by decide)⟩
      ·skip
       clear hi
       refine step_run (i := 1) (o := { dst := some 6, op := Op.makeSlice 24 (Operand.const (Value.int IntKind.i64 4)) (Operand.const (Value.int IntKind.i64 4)), type := 24, pos := "world.go:77", after := #[], guard := none }) rfl (by kernel_rfl) (exec_make 24 _ _ rfl (.int .i64 4) (.int .i64 4) (by kernel_rfl) (by kernel_rfl) (make24 _)) (hH.alloc _) (fun hH => ?_)
       try simp only [pA, pB, p1, p2, p3]
       have HF : Hid _ := HF.out.alloc 3 i4
       generalize wk165.alloc (.cells i4 3) = wk173 at HF hH ⊢
       generalize wk165.heap.size = gk172 at HF ⊢
       refine any_step (i := 0) (o := { dst := some 5, op := Op.makeSlice 69 (Operand.const (Value.int IntKind.i64 4)) (Operand.const (Value.int IntKind.i64 4)), type := 69, pos := "world.go:77", after := #[], guard := none }) rfl (by kernel_rfl) (by kernel_rfl) (exec_make 69 _ _ rfl (.int .i64 4) (.int .i64 4) (by kernel_rfl) (by kernel_rfl) (make69 _)) (hH.alloc _) (fun hH => ?_)
       try simp only [pA, pB, p1, p2, p3]
       have HF : Hid _ := HF.out.alloc 31 n4
       generalize wk173.alloc (.cells n4 31) = wk175 at HF hH ⊢
       generalize wk173.heap.size = gk174 at HF ⊢
       refine aT (i := 4) (oi := { dst := some 9, op := Op.build 75 #[(2, Operand.tmp 5), (3, Operand.tmp 6), (4, Operand.tmp 7), (5, Operand.tmp 8)], type := 75, pos := "world.go:77", after := #[{ on := 0, ground := Ground.data }, { on := 1, ground := Ground.data }, { on := 2, ground := Ground.data }, { on := 3, ground := Ground.data }], guard := none }) (v := .agg (Wv.cells (swv slZ slZ ⟨some ⟨gk174, 0, none⟩, 4, 4⟩ ⟨some ⟨gk172, 0, none⟩, 4, 4⟩ ⟨some ⟨gk164, 0, none⟩, 4, 4⟩ ⟨some ⟨gk134, 0, none⟩, 4, 4⟩))) (fun w' hw => exec_build 75 _ rfl (Wv.cells (swv slZ slZ ⟨some ⟨gk174, 0, none⟩, 4, 4⟩ ⟨some ⟨gk172, 0, none⟩, 4, 4⟩ ⟨some ⟨gk164, 0, none⟩, 4, 4⟩ ⟨some ⟨gk134, 0, none⟩, 4, 4⟩)) (by kernel_rfl)) hH ?_
       try simp only [pA, pB, p1, p2, p3]
       refine any_step (i := 5) (o := { dst := some 10, op := Op.box 75 (Operand.tmp 9), type := 65, pos := "world.go:77", after := #[{ on := 4, ground := Ground.data }], guard := none }) rfl (by kernel_rfl) (by kernel_rfl) (exec_box 75 _ rfl (Wv.cells (swv slZ slZ ⟨some ⟨gk174, 0, none⟩, 4, 4⟩ ⟨some ⟨gk172, 0, none⟩, 4, 4⟩ ⟨some ⟨gk164, 0, none⟩, 4, 4⟩ ⟨some ⟨gk134, 0, none⟩, 4, 4⟩)) (by kernel_rfl)) (hH.alloc _) (fun hH => ?_)
       try simp only [pA, pB, p1, p2, p3]
       have HF : Hid _ := HF.out.alloc 75 (Wv.cells (swv slZ slZ ⟨some ⟨gk174, 0, none⟩, 4, 4⟩ ⟨some ⟨gk172, 0, none⟩, 4, 4⟩ ⟨some ⟨gk164, 0, none⟩, 4, 4⟩ ⟨some ⟨gk134, 0, none⟩, 4, 4⟩))
       generalize wk175.alloc (.cells (Wv.cells (swv slZ slZ ⟨some ⟨gk174, 0, none⟩, 4, 4⟩ ⟨some ⟨gk172, 0, none⟩, 4, 4⟩ ⟨some ⟨gk164, 0, none⟩, 4, 4⟩ ⟨some ⟨gk134, 0, none⟩, 4, 4⟩)) 75) = wk177 at HF hH ⊢
       generalize wk175.heap.size = gk176 at HF ⊢
       refine aT (i := 6) (oi := { dst := some 3, op := Op.assign (Operand.tmp 10), type := 65, pos := "world.go:77", after := #[{ on := 5, ground := Ground.data }, { on := 0, ground := Ground.phase }, { on := 1, ground := Ground.phase }, { on := 2, ground := Ground.phase }, { on := 3, ground := Ground.phase }, { on := 4, ground := Ground.phase }, { on := 5, ground := Ground.phase }], guard := none }) (v := .pointer (some ⟨gk176, 0, none⟩)) (fun _ _ => by kernel_rfl) hH ?_
       try simp only [pA, pB, p1, p2, p3]
       refine wpAnyH_done (by kernel_rfl) ?_ _
       try simp only [pA, pB, p1, p2, p3]
       clear hH
       exact hh _ _ _ _ _ _ ⟨HF.out.kept, HF.out.box 3 _ _ _ rfl, HF.out.box 2 _ _ _ rfl, HF.out.box 1 _ _ _ rfl, HF.out.box 0 _ _ _ rfl, HF.out.box 4 _ _ _ rfl, nl (HF.out.low 3 _ _ _ rfl), nl (HF.out.low 2 _ _ _ rfl), nl (HF.out.low 1 _ _ _ rfl), nl (HF.out.low 0 _ _ _ rfl), nl (HF.out.low 4 _ _ _ rfl), HF.out.ne 2 1 rfl rfl (by decide)⟩
  case tail =>
    obtain ⟨h0, hA, hB, hC, hD, hb, lA, lB, lC, lD, lb, hBC⟩ := hJ
    have HS := Sg.init h0 hA hB hC hD hb lA lB lC lD lb hBC
    clear HF hH h0 hA hB hC hD hb lA lB lC lD lb hBC
    obtain ⟨J, HS⟩ := HS
    generalize (⟨some ⟨A, 0, none⟩, 4, 4⟩ : Sl) = mm at HS
    generalize (⟨some ⟨B, 0, none⟩, 4, 4⟩ : Sl) = aa at HS
    generalize (⟨some ⟨C, 0, none⟩, 4, 4⟩ : Sl) = rr at HS
    generalize (⟨some ⟨D, 0, none⟩, 4, 4⟩ : Sl) = gn at HS
    have HF : Hid (Sg w W J b slZ slZ mm aa rr gn 0 0 []) := HS
    clear HS
    go_upto_region 2 with fail
    refine WL.start <| uK (.int .i64 0) <| WL.nil <| ?_
    try simp only [pS]
    go_wp2
    go_loopw [4] (fun v4 wr => ∃ (i : Nat) (J : Nat → Prop) (gp hd : Sl), v4 = .int .i64 ((i : Nat) : Int) ∧ i ≤ n ∧ gp.l = i ∧ hd.l = i ∧ Hid (Sg w wr J b gp hd mm aa rr gn i i [])) (fun i _ => n - (intOf i).toNat)
    case atStart => exact ⟨0, J, slZ, slZ, by go_num, by omega, rfl, rfl, HF⟩
    case round =>
      clear HF
      obtain ⟨i, J, gp, hd, rfl, hi, hgp, hhd, HF⟩ := hrel
      by_cases hlt : i < n
      · skip
        go_upto_region 3 with fail
        refine WL.start <| uK (.int .i64 ((i : Nat) : Int)) <| uK (.int .i64 f) <| ?_
        try simp only [pS]
        refine uC 20 #[.int .i64 f, .int .i64 4] (round_any f 4 _ (by omega) (by omega)) ?_
        rintro e wq ⟨rfl, hwq⟩
        rw [hwq]
        clear hwq wq
        refine ⟨.int .i64 ((rndW f 4 : Nat) : Int), rfl, ?_⟩
        try simp only [pS]
        refine uB .mul 3 (.int .i64 2) (.int .i64 ((rndW f 4 : Nat) : Int)) (.int .i64 ((2 * rndW f 4 : Nat) : Int)) (b_mulw _ _ _ (by rw [IntKind.wrap_i64]; omega) _) <| uB .add 3 (.int .i64 ((2 * rndW f 4 : Nat) : Int)) (.int .i64 1) (.int .i64 ((n : Nat) : Int)) (b_addw _ _ _ (by rw [IntKind.wrap_i64]; omega) _) <| uB .lss 3 (.int .i64 ((i : Nat) : Int)) (.int .i64 ((n : Nat) : Int)) (.bool true) (by rw [b_lss, decide_eq_true (by omega)]) <| WL.nil <| ?_
        try simp only [pS]
        go_upto_region 5 with fail
        refine WL.start <| uK (.pointer (some ⟨b, 0, none⟩)) <| uK (.pointer (some ⟨b, 0, none⟩)) <| uK (.pointer (some ⟨b, 0, none⟩)) <| uK (.pointer (some ⟨b, 0, none⟩)) <| uL 24 ⟨b, 0, none⟩ (gp.v) (load_one ((HF.out.wbox).cell 0 |>.trans (by kernel_rfl)) U24 rfl) <| uK (.int .i64 ((i : Nat) : Int)) <| uB .add 3 (.int .i64 ((i : Nat) : Int)) (.int .i64 1) (.int .i64 (((i + 1) : Nat) : Int)) (b_addw _ _ _ (by rw [IntKind.wrap_i64]; omega) _) <| ?_
        try simp only [pS]
        refine uR (.slice (some ⟨wr.heap.size, 0, none⟩) 1 1) (wr.alloc (.cells (#[.int .i64 (((i + 1) : Nat) : Int)]) 3)) (exec_slice2 24 3 _ rfl (#[.int .i64 (((i + 1) : Nat) : Int)]) (.int .i64 (((i + 1) : Nat) : Int)) (by kernel_rfl) (by kernel_rfl)) ?_
        try simp only [pS]
        have HF : Hid (Sg w (wr.alloc (.cells (#[.int .i64 (((i + 1) : Nat) : Int)]) 3)) J b gp hd mm aa rr gn i i [(wr.heap.size, 3, #[.int .i64 (((i + 1) : Nat) : Int)])]) := HF.out.alloc _ _
        generalize wr.alloc (.cells (#[.int .i64 (((i + 1) : Nat) : Int)]) 3) = wk179 at HF ⊢
        generalize wr.heap.size = gk178 at HF ⊢
        obtain ⟨a0, k0, wk180, hap, hbx, J0, HG⟩ := HF.out.push0 (cc := 1) (by omega) hgp (HF.out.box 0 _ _ _ rfl)
        refine uR (.slice a0 (i + 1) k0) wk180 (exec_appN _ _ 24 24 rfl _ _ (by kernel_rfl) (by kernel_rfl) hap) ?_
        try simp only [pS]
        refine uK (.pointer (some ⟨b, 0, none⟩)) <| uK (.pointer (some ⟨b, 0, none⟩)) <| ?_
        try simp only [pS]
        refine uT 24 ⟨b, 0, none⟩ (.slice a0 (i + 1) k0) (wk180.setRow b (Wv.cells (swv ⟨a0, i + 1, k0⟩ hd mm aa rr gn))) (rs (Wv.cs (swv gp hd mm aa rr gn)) ([.slice a0 (i + 1) k0]) (Wv.cs (swv ⟨a0, i + 1, k0⟩ hd mm aa rr gn)) (hbx) S24 (by simp [Value.oneCell', Sl.v])) ?_
        try simp only [pS]
        have HF : Hid (Sg w (wk180.setRow b (Wv.cells (swv ⟨a0, i + 1, k0⟩ hd mm aa rr gn))) J0 b ⟨a0, i + 1, k0⟩ hd mm aa rr gn (i + 1) i [(gk178, 3, #[.int .i64 (((i + 1) : Nat) : Int)])]) := HG
        clear HG hap hbx
        generalize wk180.setRow b (Wv.cells (swv ⟨a0, i + 1, k0⟩ hd mm aa rr gn)) = wk181 at HF ⊢
        have HF : Hid (Sg w wk181 J0 b ⟨a0, i + 1, k0⟩ hd mm aa rr gn (i + 1) i []) := Sg.front (l := []) HF.out
        refine WL.nil ?_
        try simp only [pS]
        go_upto_region 6 with fail
        refine WL.start <| uK (.pointer (some ⟨b, 0, none⟩)) <| uK (.pointer (some ⟨b, 0, none⟩)) <| uK (.pointer (some ⟨b, 0, none⟩)) <| uK (.pointer (some ⟨b, 1, none⟩)) <| uL 58 ⟨b, 1, none⟩ (hd.v) (load_one ((HF.out.wbox).cell 1 |>.trans (by kernel_rfl)) U58 rfl) <| uW (.agg (Bl.cells blZ)) (exec_build 57 _ rfl (Bl.cells blZ) (by kernel_rfl)) <| ?_
        try simp only [pS]
        refine uR (.slice (some ⟨wk181.heap.size, 0, none⟩) 1 1) (wk181.alloc (.cells (Bl.cells blZ) 57)) (exec_slice2 58 57 _ rfl (Bl.cells blZ) (.agg (Bl.cells blZ)) (by kernel_rfl) (by kernel_rfl)) ?_
        try simp only [pS]
        have HF : Hid (Sg w (wk181.alloc (.cells (Bl.cells blZ) 57)) J0 b ⟨a0, i + 1, k0⟩ hd mm aa rr gn (i + 1) i [(wk181.heap.size, 57, Bl.cells blZ)]) := HF.out.alloc _ _
        generalize wk181.alloc (.cells (Bl.cells blZ) 57) = wk183 at HF ⊢
        generalize wk181.heap.size = gk182 at HF ⊢
        obtain ⟨a1, k1, wk184, hap, hbx, J1, HG⟩ := HF.out.push1 (cc := 1) (by omega) hhd (HF.out.box 0 _ _ _ rfl)
        refine uR (.slice a1 (i + 1) k1) wk184 (exec_appN _ _ 58 58 rfl _ _ (by kernel_rfl) (by kernel_rfl) hap) ?_
        try simp only [pS]
        refine uK (.pointer (some ⟨b, 0, none⟩)) <| uK (.pointer (some ⟨b, 1, none⟩)) <| ?_
        try simp only [pS]
        refine uT 58 ⟨b, 1, none⟩ (.slice a1 (i + 1) k1) (wk184.setRow b (Wv.cells (swv ⟨a0, i + 1, k0⟩ ⟨a1, i + 1, k1⟩ mm aa rr gn))) (rs (Wv.cs (swv ⟨a0, i + 1, k0⟩ hd mm aa rr gn)) ([.slice a1 (i + 1) k1]) (Wv.cs (swv ⟨a0, i + 1, k0⟩ ⟨a1, i + 1, k1⟩ mm aa rr gn)) (hbx) S58 (by simp [Value.oneCell', Sl.v])) ?_
        try simp only [pS]
        have HF : Hid (Sg w (wk184.setRow b (Wv.cells (swv ⟨a0, i + 1, k0⟩ ⟨a1, i + 1, k1⟩ mm aa rr gn))) J1 b ⟨a0, i + 1, k0⟩ ⟨a1, i + 1, k1⟩ mm aa rr gn (i + 1) (i + 1) [(gk182, 57, Bl.cells blZ)]) := HG
        clear HG hap hbx
        generalize wk184.setRow b (Wv.cells (swv ⟨a0, i + 1, k0⟩ ⟨a1, i + 1, k1⟩ mm aa rr gn)) = wk185 at HF ⊢
        have HF : Hid (Sg w wk185 J1 b ⟨a0, i + 1, k0⟩ ⟨a1, i + 1, k1⟩ mm aa rr gn (i + 1) (i + 1) []) := Sg.front (l := []) HF.out
        refine WL.nil ?_
        try simp only [pS]
        go_upto_region 4 with fail
        refine WL.start <| uK (.int .i64 ((i : Nat) : Int)) <| uB .add 3 (.int .i64 ((i : Nat) : Int)) (.int .i64 1) (.int .i64 (((i + 1) : Nat) : Int)) (b_addw _ _ _ (by rw [IntKind.wrap_i64]; omega) _) <| uK (.int .i64 (((i + 1) : Nat) : Int)) <| WL.nil <| ?_
        try simp only [pS]
        go_wp2
        go_roundw
        case rel => exact ⟨i + 1, J1, _, _, by go_num, by omega, rfl, rfl, HF⟩
        case measure => simp [intOf]; omega
      · skip
        go_upto_region 3 with fail
        refine WL.start <| uK (.int .i64 ((i : Nat) : Int)) <| uK (.int .i64 f) <| ?_
        try simp only [pS]
        refine uC 20 #[.int .i64 f, .int .i64 4] (round_any f 4 _ (by omega) (by omega)) ?_
        rintro e wq ⟨rfl, hwq⟩
        rw [hwq]
        clear hwq wq
        refine ⟨.int .i64 ((rndW f 4 : Nat) : Int), rfl, ?_⟩
        try simp only [pS]
        refine uB .mul 3 (.int .i64 2) (.int .i64 ((rndW f 4 : Nat) : Int)) (.int .i64 ((2 * rndW f 4 : Nat) : Int)) (b_mulw _ _ _ (by rw [IntKind.wrap_i64]; omega) _) <| uB .add 3 (.int .i64 ((2 * rndW f 4 : Nat) : Int)) (.int .i64 1) (.int .i64 ((n : Nat) : Int)) (b_addw _ _ _ (by rw [IntKind.wrap_i64]; omega) _) <| uB .lss 3 (.int .i64 ((i : Nat) : Int)) (.int .i64 ((n : Nat) : Int)) (.bool false) (by rw [b_lss, decide_eq_false (by omega)]) <| WL.nil <| ?_
        try simp only [pS]
        go_upto_region 7 with fail
        refine WL.start <| uK (.pointer (some ⟨b, 0, none⟩)) <| uK (.pointer (some ⟨b, 0, none⟩)) <| WL.nil <| ?_
        try simp only [pS]
        have hin : i = n := by omega
        subst hin
        go_wp2
        rw [HC.out]
        exact ⟨b, J, rfl, HF.out.done hhd, HF.out.fr.kept⟩

end Go.Proofs.Ytgiokkcdgoloaaa.Md
