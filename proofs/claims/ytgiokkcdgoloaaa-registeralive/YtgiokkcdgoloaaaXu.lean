import Derived.Test.YtgiokkcdgoloaaaXp
namespace Go.Proofs.Ytgiokkcdgoloaaa.Md
open Go.RowKit
set_option linter.unusedVariables false
set_option linter.unusedSimpArgs false
theorem make69 (w : World) : (Instr.makeSlice 69 (.int .i64 4) (.int .i64 4)).run Try.prog w = .ok (.slice (some ⟨w.heap.size, 0, none⟩) 4 4) (w.alloc (.cells #[.nilIface, .nilIface, .nilIface, .nilIface] 31)) := by kernel_rfl
theorem make24 (w : World) : (Instr.makeSlice 24 (.int .i64 4) (.int .i64 4)).run Try.prog w = .ok (.slice (some ⟨w.heap.size, 0, none⟩) 4 4) (w.alloc (.cells #[.int .i64 0, .int .i64 0, .int .i64 0, .int .i64 0] 3)) := by kernel_rfl
theorem make70 (w : World) : (Instr.makeSlice 70 (.int .i64 4) (.int .i64 4)).run Try.prog w = .ok (.slice (some ⟨w.heap.size, 0, none⟩) 4 4) (w.alloc (.cells #[.bool false, .bool false, .bool false, .bool false] 4)) := by kernel_rfl
theorem meet4 {J G : World → Nat → Nat → Nat → Nat → Prop} {g : Prop} (h : (∀ W a b c d, J W a b c d → G W a b c d) → g) (t : ∀ W a b c d, J W a b c d → G W a b c d) : g := h t
theorem I57 : (Try.prog.info? 57).map (fun i => (i.zero, i.size, i.bytes)) = some (some (.agg blZ.cells), 3, 40) := by kernel_rfl
theorem b_mulw (x y z : Int) (h : IntKind.i64.wrap (x * y) = z) (w : World) : (binOp .mul 3 (.int .i64 x) (.int .i64 y)).run Try.prog w = .ok (.int .i64 z) w := by rw [← h]; kernel_rfl
theorem own_box4 {W : World} {g base : Nat} {T : TypeId} {cs : Array Value} (h : Box W g T cs) (hb : base ≤ g) (hs : cs.size = 4) : Own T 1 W base (some ⟨g, 0, none⟩) 4 4 cs.toList :=
 ⟨by rw [Array.length_toList]; omega, .inr ⟨g, 4, cs, rfl, hb, h, Nat.le_refl _, by unfold maxLen; omega, by omega, List.take_of_length_le (by rw [Array.length_toList]; omega)⟩⟩
theorem at_blk {g o k : Nat} (e : At (some ⟨g, o, none⟩) k) : k = g := by
 obtain ⟨ad, e1, e2⟩ := e
 cases e1
 exact e2.symm
theorem pick4 {a b c d i : Nat} (h : i ∈ [a, b, c, d]) : i = a ∨ i = b ∨ i = c ∨ i = d := by simpa using h
abbrev n4 : Array Value := #[.nilIface, .nilIface, .nilIface, .nilIface]
abbrev i4 : Array Value := #[.int .i64 0, .int .i64 0, .int .i64 0, .int .i64 0]
abbrev b4 : Array Value := #[.bool false, .bool false, .bool false, .bool false]
theorem nl {a b : Nat} (h : a ≤ b ∨ No b) : a ≤ b := h.elim id (fun e => e.elim)
theorem Fq.sel4 {w W : World} {l : List (Nat × TypeId × Array Value)} (h : Fq No w W l) (i0 i1 i2 i3 : Nat) {A B C D : Nat} {a b c d : TypeId} {p q r s : Array Value} (e0 : l[i0]? = some (A, a, p)) (e1 : l[i1]? = some (B, b, q)) (e2 : l[i2]? = some (C, c, r)) (e3 : l[i3]? = some (D, d, s)) (hd : i0 ≠ i1 ∧ i0 ≠ i2 ∧ i0 ≠ i3 ∧ i1 ≠ i2 ∧ i1 ≠ i3 ∧ i2 ≠ i3) : Fq No w W [(A, a, p), (B, b, q), (C, c, r), (D, d, s)] := by
 have key : ∀ (k : Nat) g t cs, [(A, a, p), (B, b, q), (C, c, r), (D, d, s)][k]? = some (g, t, cs) → ∃ m, l[m]? = some (g, t, cs) ∧ ((k = 0 ∧ m = i0) ∨ (k = 1 ∧ m = i1) ∨ (k = 2 ∧ m = i2) ∨ (k = 3 ∧ m = i3)) := fun k g t cs hk => by
  match k, hk with
  | 0, hk => cases hk; exact ⟨i0, e0, .inl ⟨rfl, rfl⟩⟩
  | 1, hk => cases hk; exact ⟨i1, e1, .inr (.inl ⟨rfl, rfl⟩)⟩
  | 2, hk => cases hk; exact ⟨i2, e2, .inr (.inr (.inl ⟨rfl, rfl⟩))⟩
  | 3, hk => cases hk; exact ⟨i3, e3, .inr (.inr (.inr ⟨rfl, rfl⟩))⟩
  | n + 4, hk => cases hk
 refine ⟨h.kept, fun k g t cs hk => ?_, fun k g t cs hk => ?_, fun k j g t cs t' cs' hk hj => ?_⟩
 · obtain ⟨m, hm, _⟩ := key k g t cs hk
   exact h.box m _ _ _ hm
 · obtain ⟨m, hm, _⟩ := key k g t cs hk
   exact h.low m _ _ _ hm
 · obtain ⟨m, hm, h1⟩ := key k g t cs hk
   obtain ⟨m', hm', h2⟩ := key j g t' cs' hj
   have := h.inj m m' _ _ _ _ _ hm hm'
   omega
section
variable {ops : Array Oper} {o : Oper} {a : Act} {w W : World} {Q : Exit → Act → World → Prop} {md : Region.Mode} {fuel : Nat} {listed : Array Bool} {l : List (Nat × TypeId × Array Value)} {t u : TypeId} {cs : Array Value}
theorem mkS (i d : Nat) (HF : Hid (Fq No w W l)) (hH : Kept No w W) (hi : ops[i]? = some o) (hd : o.dst = some d) (ho : o.op = .makeSlice t (.const (.int .i64 4)) (.const (.int .i64 4))) (hw : Region.wanted o (yielded ops a.tmps) = true) (hrun : ∀ w : World, (Instr.makeSlice t (.int .i64 4) (.int .i64 4)).run Try.prog w = .ok (.slice (some ⟨w.heap.size, 0, none⟩) 4 4) (w.alloc (.cells cs u)))
 (h : ∀ W' g, Hid (Fq No w W' (l ++ [(g, u, cs)])) → Kept No w W' → wpAnyH Try.prog md ops Q (fun w' => Kept No w w') fuel (listed.setIfInBounds i true) (a.put (some d) (.slice (some ⟨g, 0, none⟩) 4 4)) W') : StepH md ops Q (fun w' => Kept No w w') fuel listed a W i := by
 refine step_run hi hw (exec_make t _ _ ho (.int .i64 4) (.int .i64 4) rfl rfl (hrun W)) (hH.alloc _) (fun hH => ?_)
 rw [hd]
 exact h _ _ (HF.out.alloc _ _) hH
theorem mkA (i d : Nat) (HF : Hid (Fq No w W l)) (hH : Kept No w W) (hi : ops[i]? = some o) (hd : o.dst = some d) (ho : o.op = .makeSlice t (.const (.int .i64 4)) (.const (.int .i64 4))) (hw : Region.ready md ops listed = [i] ∧ Region.wanted o (yielded ops a.tmps) = true) (hrun : ∀ w : World, (Instr.makeSlice t (.int .i64 4) (.int .i64 4)).run Try.prog w = .ok (.slice (some ⟨w.heap.size, 0, none⟩) 4 4) (w.alloc (.cells cs u)))
 (h : ∀ W' g, Hid (Fq No w W' (l ++ [(g, u, cs)])) → Kept No w W' → wpAnyH Try.prog md ops Q (fun w' => Kept No w w') fuel (listed.setIfInBounds i true) (a.put (some d) (.slice (some ⟨g, 0, none⟩) 4 4)) W') : wpAnyH Try.prog md ops Q (fun w' => Kept No w w') (fuel + 1) listed a W := by
 refine any_step hi hw.1 hw.2 (exec_make t _ _ ho (.int .i64 4) (.int .i64 4) rfl rfl (hrun W)) (hH.alloc _) (fun hH => ?_)
 rw [hd]
 exact h _ _ (HF.out.alloc _ _) hH
end
def srows (gp hd mm aa rr gn : Sl) (i j : Nat) : List Rowx :=
 [(gp, 3, 1, itL ((List.range i).map (fun (k : Nat) => (k : Int) + 1))), (hd, 57, 3, bkL (List.replicate j blZ)), (mm, 31, 1, ifL (c4 (fun _ => none))), (aa, 3, 1, itL (c4i (fun _ => 0))), (rr, 3, 1, itL (c4 (fun _ => 0))), (gn, 4, 1, bnL (c4 (fun _ => false))), (slZ, 52, 30, mgL []), (slZ, 109, 16, dvL []), (slZ, 147, 3, lvL [])]
def swv (gp hd mm aa rr gn : Sl) : Wv := ⟨gp, hd, mm, aa, rr, gn, slZ, slZ, slZ, 0, false⟩
structure Sg (w W : World) (J : Nat → Prop) (b : Nat) (gp hd mm aa rr gn : Sl) (i j : Nat) (l : List (Nat × TypeId × Array Value)) : Prop where
 wl : Wl W w.heap.size J b (Wv.cells (swv gp hd mm aa rr gn)) (srows gp hd mm aa rr gn i j) (fun _ _ => False) (fun _ => none) (fun _ => none)
 fr : Fq No w W l
 li : ∀ (k : Nat) g t cs, l[k]? = some (g, t, cs) → ¬ J g
section
variable {w W W2 : World} {J : Nat → Prop} {b : Nat} {gp hd mm aa rr gn : Sl} {i j : Nat} {l l2 : List (Nat × TypeId × Array Value)}
theorem Sg.no (h : Sg w W J b gp hd mm aa rr gn i j l) (hk : Kept No W W2) : Sg w W2 J b gp hd mm aa rr gn i j l := ⟨h.wl.no hk, h.fr.no hk, h.li⟩
theorem Sg.box (h : Sg w W J b gp hd mm aa rr gn i j l) : ∀ (i : Nat) g T cs, l[i]? = some (g, T, cs) → Box W g T cs := h.fr.box
theorem Sg.wbox (h : Sg w W J b gp hd mm aa rr gn i j l) : Box W b 75 (Wv.cells (swv gp hd mm aa rr gn)) := h.wl.box
theorem Sg.front (h : Sg w W J b gp hd mm aa rr gn i j (l ++ l2)) : Sg w W J b gp hd mm aa rr gn i j l :=
 ⟨h.wl, h.fr.front, fun k g t cs hi => h.li k g t cs (by rw [List.getElem?_append_left (List.getElem?_eq_some_iff.1 hi).1]; exact hi)⟩
theorem Sg.alloc (h : Sg w W J b gp hd mm aa rr gn i j l) (t : TypeId) (cs : Array Value) : Sg w (W.alloc (.cells cs t)) J b gp hd mm aa rr gn i j (l ++ [(W.heap.size, t, cs)]) := by
 refine ⟨h.wl.no ((Kept.refl No _).alloc _), h.fr.alloc t cs, fun k g t' cs' hi => ?_⟩
 rw [List.getElem?_append] at hi
 split at hi
 · exact h.li k g t' cs' hi
 · have := List.mem_of_getElem? hi
   simp at this
   intro e
   have h2 := (h.wl.jl g e).2
   omega
theorem Sg.upd {W3 : World} {J2 : Nat → Prop} {gp2 hd2 : Sl} {i2 j2 : Nat} (h : Sg w W J b gp hd mm aa rr gn i j l) (h1 : Wl W3 w.heap.size J2 b (Wv.cells (swv gp2 hd2 mm aa rr gn)) (srows gp2 hd2 mm aa rr gn i2 j2) (fun _ _ => False) (fun _ => none) (fun _ => none)) (u : Up5 W J W3 J2) : Sg w W3 J2 b gp2 hd2 mm aa rr gn i2 j2 l := by
 have hu : Kept J W W3 := Kept.five u.kept
 refine ⟨h1, ⟨h.fr.kept.trans hu (fun _ e => e) (fun k hk e => by have := (h.wl.jl k e).1; omega), fun k g t cs hi => (h.fr.box k g t cs hi).kept hu (h.li k g t cs hi), h.fr.low, h.fr.inj⟩, fun k g t cs hi e => ?_⟩
 exact (u.sub g e).elim (h.li k g t cs hi) (fun f => by have := (h.fr.box k g t cs hi).lt; omega)
theorem itL_snoc (n : Nat) : itL ((List.range (n + 1)).map (fun (k : Nat) => (k : Int) + 1)) = itL ((List.range n).map (fun (k : Nat) => (k : Int) + 1)) ++ [.int .i64 (((n + 1 : Nat) : Nat) : Int)] := by
 rw [List.range_succ]
 simp [itL]
theorem bkL_snoc (n : Nat) : bkL (List.replicate (n + 1) blZ) = bkL (List.replicate n blZ) ++ blZ.cs := by
 rw [List.replicate_succ']
 simp [bkL]
theorem Sg.push0 (h : Sg w W J b gp hd mm aa rr gn i j l) (hl : i ≤ 1000) (hg : gp.l = i) {g cc : Nat} (hb : Box W g 3 #[.int .i64 (((i + 1 : Nat) : Nat) : Int)]) :
 ∃ a1 k1 W2, (Builtin.append_ #[24, 24] 24 #[gp.v, .slice (some ⟨g, 0, none⟩) 1 cc]).run Try.prog W = .ok (.slice a1 (i + 1) k1) W2 ∧ Box W2 b 75 (Wv.cells (swv gp hd mm aa rr gn)) ∧ ∃ J2, Sg w (W2.setRow b (Wv.cells (swv ⟨a1, i + 1, k1⟩ hd mm aa rr gn))) J2 b ⟨a1, i + 1, k1⟩ hd mm aa rr gn (i + 1) j l := by
 obtain ⟨a1, k1, W2, h1, ho, hk, hn⟩ := h.wl.push (j := 0) (s := gp) rfl 24 8 (.int .i64 0) U24 I3 rfl (by decide) [.int .i64 (((i + 1 : Nat) : Nat) : Int)] rfl ⟨g, 0, none⟩ cc (fun q u hq => by rw [addr_add, Nat.zero_add, hb.cell]; simpa using hq) (by simp [Value.oneCell']) (by omega) (by omega)
 rw [hg] at h1 ho
 rw [← itL_snoc] at ho
 obtain ⟨J2, h2, h3⟩ := h.wl.row (j := 0) rfl hk (s := ⟨a1, i + 1, k1⟩) ho hn
 obtain ⟨h4, h5⟩ := h2.put (Wv.cells (swv ⟨a1, i + 1, k1⟩ hd mm aa rr gn))
 exact ⟨a1, k1, W2, h1, h2.box, J2, h.upd h4 (h3.trans h5)⟩
theorem Sg.push1 (h : Sg w W J b gp hd mm aa rr gn i j l) (hl : j ≤ 1000) (hg : hd.l = j) {g cc : Nat} (hb : Box W g 57 blZ.cells) :
 ∃ a1 k1 W2, (Builtin.append_ #[58, 58] 58 #[hd.v, .slice (some ⟨g, 0, none⟩) 1 cc]).run Try.prog W = .ok (.slice a1 (j + 1) k1) W2 ∧ Box W2 b 75 (Wv.cells (swv gp hd mm aa rr gn)) ∧ ∃ J2, Sg w (W2.setRow b (Wv.cells (swv gp ⟨a1, j + 1, k1⟩ mm aa rr gn))) J2 b gp ⟨a1, j + 1, k1⟩ mm aa rr gn i (j + 1) l := by
 obtain ⟨a1, k1, W2, h1, ho, hk, hn⟩ := h.wl.push (j := 1) (s := hd) rfl 58 40 _ U58 I57 rfl (by decide) blZ.cs rfl ⟨g, 0, none⟩ cc (fun q u hq => by rw [addr_add, Nat.zero_add, hb.cell]; simpa [Bl.cells] using hq) blZ.oneL (by omega) (by omega)
 rw [hg] at h1 ho
 rw [← bkL_snoc] at ho
 obtain ⟨J2, h2, h3⟩ := h.wl.row (j := 1) rfl hk (s := ⟨a1, j + 1, k1⟩) ho hn
 obtain ⟨h4, h5⟩ := h2.put (Wv.cells (swv gp ⟨a1, j + 1, k1⟩ mm aa rr gn))
 exact ⟨a1, k1, W2, h1, h2.box, J2, h.upd h4 (h3.trans h5)⟩
theorem Sg.done (h : Sg w W J b gp hd mm aa rr gn i i l) (hg : hd.l = i) : WAt W w.heap.size J b (sownW i) := by
 refine ⟨swv gp hd mm aa rr gn, fun _ => none, fun _ _ => False, List.replicate i blZ, [], [], [], ⟨?_, ⟨⟨?_, ?_⟩, ⟨rfl, fun q _ _ e => by cases e⟩, ⟨rfl, fun q _ _ e => by cases e⟩, ⟨rfl, fun q _ _ e => by cases e⟩⟩, rfl, rfl⟩⟩
 · exact h.wl
 · simp [hdsW, sownW]
 · intro q p y hp hy
   have h1 := List.mem_of_getElem? hp
   have h2 := List.mem_of_getElem? hy
   rw [List.eq_of_mem_replicate h2]
   obtain ⟨k, _, rfl⟩ := List.mem_map.1 h1
   exact ⟨rfl, By.nil _ _⟩
theorem Sg.init {A B C D : Nat} (hk : Kept No w W) (hA : Box W A 31 #[.nilIface, .nilIface, .nilIface, .nilIface]) (hB : Box W B 3 #[.int .i64 0, .int .i64 0, .int .i64 0, .int .i64 0]) (hC : Box W C 3 #[.int .i64 0, .int .i64 0, .int .i64 0, .int .i64 0]) (hD : Box W D 4 #[.bool false, .bool false, .bool false, .bool false]) (hb : Box W b 75 (Wv.cells (swv slZ slZ ⟨some ⟨A, 0, none⟩, 4, 4⟩ ⟨some ⟨B, 0, none⟩, 4, 4⟩ ⟨some ⟨C, 0, none⟩, 4, 4⟩ ⟨some ⟨D, 0, none⟩, 4, 4⟩)))
 (lA : w.heap.size ≤ A) (lB : w.heap.size ≤ B) (lC : w.heap.size ≤ C) (lD : w.heap.size ≤ D) (lb : w.heap.size ≤ b) (hBC : B ≠ C) : ∃ J, Sg w W J b slZ slZ ⟨some ⟨A, 0, none⟩, 4, 4⟩ ⟨some ⟨B, 0, none⟩, 4, 4⟩ ⟨some ⟨C, 0, none⟩, 4, 4⟩ ⟨some ⟨D, 0, none⟩, 4, 4⟩ 0 0 [] := by
 have key : ∀ (i : Nat) x k, (srows slZ slZ ⟨some ⟨A, 0, none⟩, 4, 4⟩ ⟨some ⟨B, 0, none⟩, 4, 4⟩ ⟨some ⟨C, 0, none⟩, 4, 4⟩ ⟨some ⟨D, 0, none⟩, 4, 4⟩ 0 0)[i]? = some x → At x.1.a k → (i = 2 ∧ k = A) ∨ (i = 3 ∧ k = B) ∨ (i = 4 ∧ k = C) ∨ (i = 5 ∧ k = D) := by
  intro i x k hx e
  match i, hx with
  | 0, hx => cases hx; exact absurd e At.none
  | 1, hx => cases hx; exact absurd e At.none
  | 2, hx => cases hx; exact .inl ⟨rfl, at_blk e⟩
  | 3, hx => cases hx; exact .inr (.inl ⟨rfl, at_blk e⟩)
  | 4, hx => cases hx; exact .inr (.inr (.inl ⟨rfl, at_blk e⟩))
  | 5, hx => cases hx; exact .inr (.inr (.inr ⟨rfl, at_blk e⟩))
  | 6, hx => cases hx; exact absurd e At.none
  | 7, hx => cases hx; exact absurd e At.none
  | 8, hx => cases hx; exact absurd e At.none
  | n + 9, hx => cases hx
 have nAB := box_ne hA hB (by decide)
 have nAC := box_ne hA hC (by decide)
 have nAD := box_ne hA hD (by decide)
 have nBD := box_ne hB hD (by decide)
 have nCD := box_ne hC hD (by decide)
 have sA := hA.lt
 have sB := hB.lt
 have sC := hC.lt
 have sD := hD.lt
 have sb := hb.lt
 refine ⟨fun k => k = A ∨ k = B ∨ k = C ∨ k = D ∨ k = b, ⟨hb, ?_, ?_, ?_, (fun c s e => by cases e), fun _ _ => rfl, fun i j k e => e.elim, fun j k e => e.elim, fun j k i x e => e.elim, fun j k e => e.elim, .inr (.inr (.inr (.inr rfl))), ?_, ?_⟩, ⟨hk, by simp, by simp, by simp⟩, by simp⟩
 · intro i x hx
   match i, hx with
   | 0, hx => cases hx; exact Own.nil _ _ _ _
   | 1, hx => cases hx; exact Own.nil _ _ _ _
   | 2, hx => cases hx; exact own_box4 hA lA rfl
   | 3, hx => cases hx; exact own_box4 hB lB rfl
   | 4, hx => cases hx; exact own_box4 hC lC rfl
   | 5, hx => cases hx; exact own_box4 hD lD rfl
   | 6, hx => cases hx; exact Own.nil _ _ _ _
   | 7, hx => cases hx; exact Own.nil _ _ _ _
   | 8, hx => cases hx; exact Own.nil _ _ _ _
   | n + 9, hx => cases hx
 · intro i x hx
   match i, hx with
   | 0, hx => cases hx; exact ⟨Nat.ne_of_beq_eq_false rfl, Nat.ne_of_beq_eq_false rfl⟩
   | 1, hx => cases hx; exact ⟨Nat.ne_of_beq_eq_false rfl, Nat.ne_of_beq_eq_false rfl⟩
   | 2, hx => cases hx; exact ⟨Nat.ne_of_beq_eq_false rfl, Nat.ne_of_beq_eq_false rfl⟩
   | 3, hx => cases hx; exact ⟨Nat.ne_of_beq_eq_false rfl, Nat.ne_of_beq_eq_false rfl⟩
   | 4, hx => cases hx; exact ⟨Nat.ne_of_beq_eq_false rfl, Nat.ne_of_beq_eq_false rfl⟩
   | 5, hx => cases hx; exact ⟨Nat.ne_of_beq_eq_false rfl, Nat.ne_of_beq_eq_false rfl⟩
   | 6, hx => cases hx; exact ⟨Nat.ne_of_beq_eq_false rfl, Nat.ne_of_beq_eq_false rfl⟩
   | 7, hx => cases hx; exact ⟨Nat.ne_of_beq_eq_false rfl, Nat.ne_of_beq_eq_false rfl⟩
   | 8, hx => cases hx; exact ⟨Nat.ne_of_beq_eq_false rfl, Nat.ne_of_beq_eq_false rfl⟩
   | n + 9, hx => cases hx
 · intro i j x y k hx hy e f
   have h1 := key i x k hx e
   have h2 := key j y k hy f
   omega
 · intro i x k hx e
   have h1 := key i x k hx e
   omega
 · rintro k e
   omega
end
set_option maxRecDepth 100000 in
set_option maxHeartbeats 4000000 in
theorem sown_any (f : Int) (w : World) : Calls Try.prog 41 #[.int .i64 f] w (SownO w (2 * rndW f 4 + 1)) := by
 refine hideC fun C HC => ?_
 obtain ⟨hr1, hr2⟩ := rnd_mod f 4 (by omega)
 clear hr1
 obtain ⟨n, hn⟩ : ∃ n, n = 2 * rndW f 4 + 1 := ⟨_, rfl⟩
 rw [← hn] at HC
 have HF : Hid (Fq No w w []) := Fq.start _ _
 go_enter Try.func41, Try.ntmps41
 go_upto_region 0 with fail
 refine WL.start <| uK (.pointer none) <| WL.nil <| ?_
 try simp only [pS]
 go_upto_region 1 with fail
 refine wp_region_held_drew (S := fun w' => Kept No w w') rfl HF.out.kept.drew (fun hH => ?_)
 have HF : Hid _ := HF.out.drew
 obtain ⟨wk1, hWd⟩ : ∃ W, W = w.drew := ⟨_, rfl⟩
 rw [← hWd] at HF hH ⊢
 clear hWd
 refine' meet4 (J := fun W A B C D => Fq No w W [(A, 31, n4), (B, 3, i4), (C, 3, i4), (D, 4, b4)]) (fun hh => ?region) (fun W A B C D hJ => ?tail)
 case region =>
  refine any_pick (rs := [0, 1, 2, 3]) (by kernel_rfl) (by simp) ?_
  intro i hi
  rcases pick4 hi with rfl | rfl | rfl | rfl
  · refine mkS 0 5 (HF) hH rfl rfl rfl (by kernel_rfl) make69 (fun W g HF hH => ?_)
    try simp only [pS]
    refine any_pick (rs := [1, 2, 3]) (by kernel_rfl) (by simp) ?_
    intro i hi
    rcases pick3 hi with rfl | rfl | rfl
    · refine mkS 1 6 (HF) hH rfl rfl rfl (by kernel_rfl) make24 (fun W g HF hH => ?_)
      try simp only [pS]
      refine any_pick (rs := [2, 3]) (by kernel_rfl) (by simp) ?_
      intro i hi
      rcases pick2 hi with rfl | rfl
      · refine mkS 2 7 (HF) hH rfl rfl rfl (by kernel_rfl) make24 (fun W g HF hH => ?_)
        try simp only [pS]
        refine mkA 3 8 (HF) hH rfl rfl rfl ⟨by kernel_rfl, by kernel_rfl⟩ make70 (fun W g HF hH => ?_)
        try simp only [pS]
        exact hh _ _ _ _ _ (HF.out.sel4 0 1 2 3 rfl rfl rfl rfl (by decide))
      · refine mkS 3 8 (HF) hH rfl rfl rfl (by kernel_rfl) make70 (fun W g HF hH => ?_)
        try simp only [pS]
        refine mkA 2 7 (HF) hH rfl rfl rfl ⟨by kernel_rfl, by kernel_rfl⟩ make24 (fun W g HF hH => ?_)
        try simp only [pS]
        exact hh _ _ _ _ _ (HF.out.sel4 0 1 3 2 rfl rfl rfl rfl (by decide))
    · refine mkS 2 7 (HF) hH rfl rfl rfl (by kernel_rfl) make24 (fun W g HF hH => ?_)
      try simp only [pS]
      refine any_pick (rs := [1, 3]) (by kernel_rfl) (by simp) ?_
      intro i hi
      rcases pick2 hi with rfl | rfl
      · refine mkS 1 6 (HF) hH rfl rfl rfl (by kernel_rfl) make24 (fun W g HF hH => ?_)
        try simp only [pS]
        refine mkA 3 8 (HF) hH rfl rfl rfl ⟨by kernel_rfl, by kernel_rfl⟩ make70 (fun W g HF hH => ?_)
        try simp only [pS]
        exact hh _ _ _ _ _ (HF.out.sel4 0 2 1 3 rfl rfl rfl rfl (by decide))
      · refine mkS 3 8 (HF) hH rfl rfl rfl (by kernel_rfl) make70 (fun W g HF hH => ?_)
        try simp only [pS]
        refine mkA 1 6 (HF) hH rfl rfl rfl ⟨by kernel_rfl, by kernel_rfl⟩ make24 (fun W g HF hH => ?_)
        try simp only [pS]
        exact hh _ _ _ _ _ (HF.out.sel4 0 3 1 2 rfl rfl rfl rfl (by decide))
    · refine mkS 3 8 (HF) hH rfl rfl rfl (by kernel_rfl) make70 (fun W g HF hH => ?_)
      try simp only [pS]
      refine any_pick (rs := [1, 2]) (by kernel_rfl) (by simp) ?_
      intro i hi
      rcases pick2 hi with rfl | rfl
      · refine mkS 1 6 (HF) hH rfl rfl rfl (by kernel_rfl) make24 (fun W g HF hH => ?_)
        try simp only [pS]
        refine mkA 2 7 (HF) hH rfl rfl rfl ⟨by kernel_rfl, by kernel_rfl⟩ make24 (fun W g HF hH => ?_)
        try simp only [pS]
        exact hh _ _ _ _ _ (HF.out.sel4 0 2 3 1 rfl rfl rfl rfl (by decide))
      · refine mkS 2 7 (HF) hH rfl rfl rfl (by kernel_rfl) make24 (fun W g HF hH => ?_)
        try simp only [pS]
        refine mkA 1 6 (HF) hH rfl rfl rfl ⟨by kernel_rfl, by kernel_rfl⟩ make24 (fun W g HF hH => ?_)
        try simp only [pS]
        exact hh _ _ _ _ _ (HF.out.sel4 0 3 2 1 rfl rfl rfl rfl (by decide))
  · refine mkS 1 6 (HF) hH rfl rfl rfl (by kernel_rfl) make24 (fun W g HF hH => ?_)
    try simp only [pS]
    refine any_pick (rs := [0, 2, 3]) (by kernel_rfl) (by simp) ?_
    intro i hi
    rcases pick3 hi with rfl | rfl | rfl
    · refine mkS 0 5 (HF) hH rfl rfl rfl (by kernel_rfl) make69 (fun W g HF hH => ?_)
      try simp only [pS]
      refine any_pick (rs := [2, 3]) (by kernel_rfl) (by simp) ?_
      intro i hi
      rcases pick2 hi with rfl | rfl
      · refine mkS 2 7 (HF) hH rfl rfl rfl (by kernel_rfl) make24 (fun W g HF hH => ?_)
        try simp only [pS]
        refine mkA 3 8 (HF) hH rfl rfl rfl ⟨by kernel_rfl, by kernel_rfl⟩ make70 (fun W g HF hH => ?_)
        try simp only [pS]
        exact hh _ _ _ _ _ (HF.out.sel4 1 0 2 3 rfl rfl rfl rfl (by decide))
      · refine mkS 3 8 (HF) hH rfl rfl rfl (by kernel_rfl) make70 (fun W g HF hH => ?_)
        try simp only [pS]
        refine mkA 2 7 (HF) hH rfl rfl rfl ⟨by kernel_rfl, by kernel_rfl⟩ make24 (fun W g HF hH => ?_)
        try simp only [pS]
        exact hh _ _ _ _ _ (HF.out.sel4 1 0 3 2 rfl rfl rfl rfl (by decide))
    · refine mkS 2 7 (HF) hH rfl rfl rfl (by kernel_rfl) make24 (fun W g HF hH => ?_)
      try simp only [pS]
      refine any_pick (rs := [0, 3]) (by kernel_rfl) (by simp) ?_
      intro i hi
      rcases pick2 hi with rfl | rfl
      · refine mkS 0 5 (HF) hH rfl rfl rfl (by kernel_rfl) make69 (fun W g HF hH => ?_)
        try simp only [pS]
        refine mkA 3 8 (HF) hH rfl rfl rfl ⟨by kernel_rfl, by kernel_rfl⟩ make70 (fun W g HF hH => ?_)
        try simp only [pS]
        exact hh _ _ _ _ _ (HF.out.sel4 2 0 1 3 rfl rfl rfl rfl (by decide))
      · refine mkS 3 8 (HF) hH rfl rfl rfl (by kernel_rfl) make70 (fun W g HF hH => ?_)
        try simp only [pS]
        refine mkA 0 5 (HF) hH rfl rfl rfl ⟨by kernel_rfl, by kernel_rfl⟩ make69 (fun W g HF hH => ?_)
        try simp only [pS]
        exact hh _ _ _ _ _ (HF.out.sel4 3 0 1 2 rfl rfl rfl rfl (by decide))
    · refine mkS 3 8 (HF) hH rfl rfl rfl (by kernel_rfl) make70 (fun W g HF hH => ?_)
      try simp only [pS]
      refine any_pick (rs := [0, 2]) (by kernel_rfl) (by simp) ?_
      intro i hi
      rcases pick2 hi with rfl | rfl
      · refine mkS 0 5 (HF) hH rfl rfl rfl (by kernel_rfl) make69 (fun W g HF hH => ?_)
        try simp only [pS]
        refine mkA 2 7 (HF) hH rfl rfl rfl ⟨by kernel_rfl, by kernel_rfl⟩ make24 (fun W g HF hH => ?_)
        try simp only [pS]
        exact hh _ _ _ _ _ (HF.out.sel4 2 0 3 1 rfl rfl rfl rfl (by decide))
      · refine mkS 2 7 (HF) hH rfl rfl rfl (by kernel_rfl) make24 (fun W g HF hH => ?_)
        try simp only [pS]
        refine mkA 0 5 (HF) hH rfl rfl rfl ⟨by kernel_rfl, by kernel_rfl⟩ make69 (fun W g HF hH => ?_)
        try simp only [pS]
        exact hh _ _ _ _ _ (HF.out.sel4 3 0 2 1 rfl rfl rfl rfl (by decide))
  · refine mkS 2 7 (HF) hH rfl rfl rfl (by kernel_rfl) make24 (fun W g HF hH => ?_)
    try simp only [pS]
    refine any_pick (rs := [0, 1, 3]) (by kernel_rfl) (by simp) ?_
    intro i hi
    rcases pick3 hi with rfl | rfl | rfl
    · refine mkS 0 5 (HF) hH rfl rfl rfl (by kernel_rfl) make69 (fun W g HF hH => ?_)
      try simp only [pS]
      refine any_pick (rs := [1, 3]) (by kernel_rfl) (by simp) ?_
      intro i hi
      rcases pick2 hi with rfl | rfl
      · refine mkS 1 6 (HF) hH rfl rfl rfl (by kernel_rfl) make24 (fun W g HF hH => ?_)
        try simp only [pS]
        refine mkA 3 8 (HF) hH rfl rfl rfl ⟨by kernel_rfl, by kernel_rfl⟩ make70 (fun W g HF hH => ?_)
        try simp only [pS]
        exact hh _ _ _ _ _ (HF.out.sel4 1 2 0 3 rfl rfl rfl rfl (by decide))
      · refine mkS 3 8 (HF) hH rfl rfl rfl (by kernel_rfl) make70 (fun W g HF hH => ?_)
        try simp only [pS]
        refine mkA 1 6 (HF) hH rfl rfl rfl ⟨by kernel_rfl, by kernel_rfl⟩ make24 (fun W g HF hH => ?_)
        try simp only [pS]
        exact hh _ _ _ _ _ (HF.out.sel4 1 3 0 2 rfl rfl rfl rfl (by decide))
    · refine mkS 1 6 (HF) hH rfl rfl rfl (by kernel_rfl) make24 (fun W g HF hH => ?_)
      try simp only [pS]
      refine any_pick (rs := [0, 3]) (by kernel_rfl) (by simp) ?_
      intro i hi
      rcases pick2 hi with rfl | rfl
      · refine mkS 0 5 (HF) hH rfl rfl rfl (by kernel_rfl) make69 (fun W g HF hH => ?_)
        try simp only [pS]
        refine mkA 3 8 (HF) hH rfl rfl rfl ⟨by kernel_rfl, by kernel_rfl⟩ make70 (fun W g HF hH => ?_)
        try simp only [pS]
        exact hh _ _ _ _ _ (HF.out.sel4 2 1 0 3 rfl rfl rfl rfl (by decide))
      · refine mkS 3 8 (HF) hH rfl rfl rfl (by kernel_rfl) make70 (fun W g HF hH => ?_)
        try simp only [pS]
        refine mkA 0 5 (HF) hH rfl rfl rfl ⟨by kernel_rfl, by kernel_rfl⟩ make69 (fun W g HF hH => ?_)
        try simp only [pS]
        exact hh _ _ _ _ _ (HF.out.sel4 3 1 0 2 rfl rfl rfl rfl (by decide))
    · refine mkS 3 8 (HF) hH rfl rfl rfl (by kernel_rfl) make70 (fun W g HF hH => ?_)
      try simp only [pS]
      refine any_pick (rs := [0, 1]) (by kernel_rfl) (by simp) ?_
      intro i hi
      rcases pick2 hi with rfl | rfl
      · refine mkS 0 5 (HF) hH rfl rfl rfl (by kernel_rfl) make69 (fun W g HF hH => ?_)
        try simp only [pS]
        refine mkA 1 6 (HF) hH rfl rfl rfl ⟨by kernel_rfl, by kernel_rfl⟩ make24 (fun W g HF hH => ?_)
        try simp only [pS]
        exact hh _ _ _ _ _ (HF.out.sel4 2 3 0 1 rfl rfl rfl rfl (by decide))
      · refine mkS 1 6 (HF) hH rfl rfl rfl (by kernel_rfl) make24 (fun W g HF hH => ?_)
        try simp only [pS]
        refine mkA 0 5 (HF) hH rfl rfl rfl ⟨by kernel_rfl, by kernel_rfl⟩ make69 (fun W g HF hH => ?_)
        try simp only [pS]
        exact hh _ _ _ _ _ (HF.out.sel4 3 2 0 1 rfl rfl rfl rfl (by decide))
  · refine mkS 3 8 (HF) hH rfl rfl rfl (by kernel_rfl) make70 (fun W g HF hH => ?_)
    try simp only [pS]
    refine any_pick (rs := [0, 1, 2]) (by kernel_rfl) (by simp) ?_
    intro i hi
    rcases pick3 hi with rfl | rfl | rfl
    · refine mkS 0 5 (HF) hH rfl rfl rfl (by kernel_rfl) make69 (fun W g HF hH => ?_)
      try simp only [pS]
      refine any_pick (rs := [1, 2]) (by kernel_rfl) (by simp) ?_
      intro i hi
      rcases pick2 hi with rfl | rfl
      · refine mkS 1 6 (HF) hH rfl rfl rfl (by kernel_rfl) make24 (fun W g HF hH => ?_)
        try simp only [pS]
        refine mkA 2 7 (HF) hH rfl rfl rfl ⟨by kernel_rfl, by kernel_rfl⟩ make24 (fun W g HF hH => ?_)
        try simp only [pS]
        exact hh _ _ _ _ _ (HF.out.sel4 1 2 3 0 rfl rfl rfl rfl (by decide))
      · refine mkS 2 7 (HF) hH rfl rfl rfl (by kernel_rfl) make24 (fun W g HF hH => ?_)
        try simp only [pS]
        refine mkA 1 6 (HF) hH rfl rfl rfl ⟨by kernel_rfl, by kernel_rfl⟩ make24 (fun W g HF hH => ?_)
        try simp only [pS]
        exact hh _ _ _ _ _ (HF.out.sel4 1 3 2 0 rfl rfl rfl rfl (by decide))
    · refine mkS 1 6 (HF) hH rfl rfl rfl (by kernel_rfl) make24 (fun W g HF hH => ?_)
      try simp only [pS]
      refine any_pick (rs := [0, 2]) (by kernel_rfl) (by simp) ?_
      intro i hi
      rcases pick2 hi with rfl | rfl
      · refine mkS 0 5 (HF) hH rfl rfl rfl (by kernel_rfl) make69 (fun W g HF hH => ?_)
        try simp only [pS]
        refine mkA 2 7 (HF) hH rfl rfl rfl ⟨by kernel_rfl, by kernel_rfl⟩ make24 (fun W g HF hH => ?_)
        try simp only [pS]
        exact hh _ _ _ _ _ (HF.out.sel4 2 1 3 0 rfl rfl rfl rfl (by decide))
      · refine mkS 2 7 (HF) hH rfl rfl rfl (by kernel_rfl) make24 (fun W g HF hH => ?_)
        try simp only [pS]
        refine mkA 0 5 (HF) hH rfl rfl rfl ⟨by kernel_rfl, by kernel_rfl⟩ make69 (fun W g HF hH => ?_)
        try simp only [pS]
        exact hh _ _ _ _ _ (HF.out.sel4 3 1 2 0 rfl rfl rfl rfl (by decide))
    · refine mkS 2 7 (HF) hH rfl rfl rfl (by kernel_rfl) make24 (fun W g HF hH => ?_)
      try simp only [pS]
      refine any_pick (rs := [0, 1]) (by kernel_rfl) (by simp) ?_
      intro i hi
      rcases pick2 hi with rfl | rfl
      · refine mkS 0 5 (HF) hH rfl rfl rfl (by kernel_rfl) make69 (fun W g HF hH => ?_)
        try simp only [pS]
        refine mkA 1 6 (HF) hH rfl rfl rfl ⟨by kernel_rfl, by kernel_rfl⟩ make24 (fun W g HF hH => ?_)
        try simp only [pS]
        exact hh _ _ _ _ _ (HF.out.sel4 2 3 1 0 rfl rfl rfl rfl (by decide))
      · refine mkS 1 6 (HF) hH rfl rfl rfl (by kernel_rfl) make24 (fun W g HF hH => ?_)
        try simp only [pS]
        refine mkA 0 5 (HF) hH rfl rfl rfl ⟨by kernel_rfl, by kernel_rfl⟩ make69 (fun W g HF hH => ?_)
        try simp only [pS]
        exact hh _ _ _ _ _ (HF.out.sel4 3 2 1 0 rfl rfl rfl rfl (by decide))
 case tail =>
  have HF : Hid (Fq No w W [(A, 31, n4), (B, 3, i4), (C, 3, i4), (D, 4, b4)]) := hJ
  have hH : Kept No w W := HF.out.kept
  clear hJ
  refine xU 4 9 (.agg (Wv.cells (swv slZ slZ ⟨some ⟨A, 0, none⟩, 4, 4⟩ ⟨some ⟨B, 0, none⟩, 4, 4⟩ ⟨some ⟨C, 0, none⟩, 4, 4⟩ ⟨some ⟨D, 0, none⟩, 4, 4⟩))) (fun w' hw => exec_build 75 _ rfl (Wv.cells (swv slZ slZ ⟨some ⟨A, 0, none⟩, 4, 4⟩ ⟨some ⟨B, 0, none⟩, 4, 4⟩ ⟨some ⟨C, 0, none⟩, 4, 4⟩ ⟨some ⟨D, 0, none⟩, 4, 4⟩)) (by kernel_rfl)) hH ?_
  try simp only [pS]
  refine any_step (i := 5) (o := { dst := some 10, op := Op.box 75 (Operand.tmp 9), type := 65, pos := "world.go:77", after := #[{ on := 4, ground := Ground.data }], guard := none }) rfl (by kernel_rfl) (by kernel_rfl) (exec_box 75 _ rfl (Wv.cells (swv slZ slZ ⟨some ⟨A, 0, none⟩, 4, 4⟩ ⟨some ⟨B, 0, none⟩, 4, 4⟩ ⟨some ⟨C, 0, none⟩, 4, 4⟩ ⟨some ⟨D, 0, none⟩, 4, 4⟩)) (by kernel_rfl)) (hH.alloc _) (fun hH => ?_)
  try simp only [pS]
  have HF : Hid _ := HF.out.alloc 75 (Wv.cells (swv slZ slZ ⟨some ⟨A, 0, none⟩, 4, 4⟩ ⟨some ⟨B, 0, none⟩, 4, 4⟩ ⟨some ⟨C, 0, none⟩, 4, 4⟩ ⟨some ⟨D, 0, none⟩, 4, 4⟩))
  generalize W.alloc (.cells (Wv.cells (swv slZ slZ ⟨some ⟨A, 0, none⟩, 4, 4⟩ ⟨some ⟨B, 0, none⟩, 4, 4⟩ ⟨some ⟨C, 0, none⟩, 4, 4⟩ ⟨some ⟨D, 0, none⟩, 4, 4⟩)) 75) = wk3 at HF hH ⊢
  generalize W.heap.size = gk2 at HF ⊢
  refine xV 6 3 (pV gk2 0) hH ?_
  try simp only [pS]
  refine wpAnyH_done (by kernel_rfl) ?_ _
  try simp only [pS]
  clear hH
  have HS := Sg.init HF.out.kept (HF.out.box 0 _ _ _ rfl) (HF.out.box 1 _ _ _ rfl) (HF.out.box 2 _ _ _ rfl) (HF.out.box 3 _ _ _ rfl) (HF.out.box 4 _ _ _ rfl) (nl (HF.out.low 0 _ _ _ rfl)) (nl (HF.out.low 1 _ _ _ rfl)) (nl (HF.out.low 2 _ _ _ rfl)) (nl (HF.out.low 3 _ _ _ rfl)) (nl (HF.out.low 4 _ _ _ rfl)) (HF.out.ne 1 2 rfl rfl (by decide))
  clear HF
  obtain ⟨J, HS⟩ := HS
  generalize gk2 = b at HS ⊢
  generalize (⟨some ⟨A, 0, none⟩, 4, 4⟩ : Sl) = mm at HS
  generalize (⟨some ⟨B, 0, none⟩, 4, 4⟩ : Sl) = aa at HS
  generalize (⟨some ⟨C, 0, none⟩, 4, 4⟩ : Sl) = rr at HS
  generalize (⟨some ⟨D, 0, none⟩, 4, 4⟩ : Sl) = gn at HS
  have HF : Hid (Sg w wk3 J b slZ slZ mm aa rr gn 0 0 []) := HS
  clear HS
  go_upto_region 2 with fail
  refine WL.start <| uK (.int .i64 0) <| WL.nil <| ?_
  try simp only [pS]
  go_wp2
  go_loopw [4] (fun v4 wr => ∃ (i : Nat) (J : Nat → Prop) (gp hd : Sl), v4 = .int .i64 ((i : Nat) : Int) ∧ i ≤ n ∧ gp.l = i ∧ hd.l = i ∧ Hid (Sg w wr J b gp hd mm aa rr gn i i [])) (fun i _ => n - (intOf i).toNat)
  case atStart => exact ⟨0, J, slZ, slZ, by go_num, by omega, rfl, rfl, HF⟩
  case round =>
   clear HF
   obtain ⟨i, J, gp, hd, rfl, hi, hgp, hhd, HF⟩ := hrel
   by_cases hlt : i < n
   · skip
     go_upto_region 3 with fail
     refine WL.start <| uK (.int .i64 ((i : Nat) : Int)) <| uK (.int .i64 f) <| ?_
     try simp only [pS]
     refine uC 20 #[.int .i64 f, .int .i64 4] (round_any f 4 _ (by omega) (by omega)) ?_
     rintro e wq ⟨rfl, hwq⟩
     rw [hwq]
     clear hwq wq
     refine ⟨.int .i64 ((rndW f 4 : Nat) : Int), rfl, ?_⟩
     try simp only [pS]
     refine uB .mul 3 (.int .i64 2) (.int .i64 ((rndW f 4 : Nat) : Int)) (.int .i64 ((2 * rndW f 4 : Nat) : Int)) (b_mulw _ _ _ (by rw [IntKind.wrap_i64]; omega) _) <| uB .add 3 (.int .i64 ((2 * rndW f 4 : Nat) : Int)) (.int .i64 1) (.int .i64 ((n : Nat) : Int)) (b_addw _ _ _ (by rw [IntKind.wrap_i64]; omega) _) <| uB .lss 3 (.int .i64 ((i : Nat) : Int)) (.int .i64 ((n : Nat) : Int)) (.bool true) (by rw [b_lss, decide_eq_true (by omega)]) <| WL.nil <| ?_
     try simp only [pS]
     go_upto_region 5 with fail
     refine WL.start <| uK (pV b 0) <| uK (pV b 0) <| uK (pV b 0) <| uK (pV b 0) <| uL 24 ⟨b, 0, none⟩ (gp.v) (ld1 HF.out.wbox 0 U24 rfl) <| uK (.int .i64 ((i : Nat) : Int)) <| uB .add 3 (.int .i64 ((i : Nat) : Int)) (.int .i64 1) (.int .i64 (((i + 1) : Nat) : Int)) (b_addw _ _ _ (by rw [IntKind.wrap_i64]; omega) _) <| ?_
     try simp only [pS]
     refine uR (.slice (some ⟨wr.heap.size, 0, none⟩) 1 1) (wr.alloc (.cells (#[.int .i64 (((i + 1) : Nat) : Int)]) 3)) (exec_slice2 24 3 _ rfl (#[.int .i64 (((i + 1) : Nat) : Int)]) (.int .i64 (((i + 1) : Nat) : Int)) (by kernel_rfl) (by kernel_rfl)) ?_
     try simp only [pS]
     have HF : Hid _ := HF.out.alloc 3 (#[.int .i64 (((i + 1) : Nat) : Int)])
     generalize wr.alloc (.cells (#[.int .i64 (((i + 1) : Nat) : Int)]) 3) = wk5 at HF ⊢
     generalize wr.heap.size = gk4 at HF ⊢
     obtain ⟨a0, k0, wk6, hap, hbx, J0, HG⟩ := HF.out.push0 (cc := 1) (by omega) hgp (HF.out.box 0 _ _ _ rfl)
     refine uR (.slice a0 (i + 1) k0) wk6 (exec_appN _ _ 24 24 rfl _ _ (by kernel_rfl) (by kernel_rfl) hap) ?_
     try simp only [pS]
     refine uK (pV b 0) <| uK (pV b 0) <| ?_
     try simp only [pS]
     refine uT 24 ⟨b, 0, none⟩ (.slice a0 (i + 1) k0) (wk6.setRow b (Wv.cells (swv ⟨a0, i + 1, k0⟩ hd mm aa rr gn))) (rs (Wv.cs (swv gp hd mm aa rr gn)) ([.slice a0 (i + 1) k0]) (Wv.cs (swv ⟨a0, i + 1, k0⟩ hd mm aa rr gn)) (hbx) S24 (by simp [Value.oneCell', Sl.v])) ?_
     try simp only [pS]
     have HF : Hid (Sg w (wk6.setRow b (Wv.cells (swv ⟨a0, i + 1, k0⟩ hd mm aa rr gn))) J0 b ⟨a0, i + 1, k0⟩ hd mm aa rr gn (i + 1) i [(gk4, 3, #[.int .i64 (((i + 1) : Nat) : Int)])]) := HG
     clear HG hap hbx
     generalize wk6.setRow b (Wv.cells (swv ⟨a0, i + 1, k0⟩ hd mm aa rr gn)) = wk7 at HF ⊢
     have HF : Hid (Sg w wk7 J0 b ⟨a0, i + 1, k0⟩ hd mm aa rr gn (i + 1) i []) := Sg.front (l := []) HF.out
     refine WL.nil ?_
     try simp only [pS]
     go_upto_region 6 with fail
     refine WL.start <| uK (pV b 0) <| uK (pV b 0) <| uK (pV b 0) <| uK (pV b 1) <| uL 58 ⟨b, 1, none⟩ (hd.v) (ld1 HF.out.wbox 1 U58 rfl) <| uW (.agg (Bl.cells blZ)) (exec_build 57 _ rfl (Bl.cells blZ) (by kernel_rfl)) <| ?_
     try simp only [pS]
     refine uR (.slice (some ⟨wk7.heap.size, 0, none⟩) 1 1) (wk7.alloc (.cells (Bl.cells blZ) 57)) (exec_slice2 58 57 _ rfl (Bl.cells blZ) (.agg (Bl.cells blZ)) (by kernel_rfl) (by kernel_rfl)) ?_
     try simp only [pS]
     have HF : Hid _ := HF.out.alloc 57 (Bl.cells blZ)
     generalize wk7.alloc (.cells (Bl.cells blZ) 57) = wk9 at HF ⊢
     generalize wk7.heap.size = gk8 at HF ⊢
     obtain ⟨a1, k1, wk10, hap, hbx, J1, HG⟩ := HF.out.push1 (cc := 1) (by omega) hhd (HF.out.box 0 _ _ _ rfl)
     refine uR (.slice a1 (i + 1) k1) wk10 (exec_appN _ _ 58 58 rfl _ _ (by kernel_rfl) (by kernel_rfl) hap) ?_
     try simp only [pS]
     refine uK (pV b 0) <| uK (pV b 1) <| ?_
     try simp only [pS]
     refine uT 58 ⟨b, 1, none⟩ (.slice a1 (i + 1) k1) (wk10.setRow b (Wv.cells (swv ⟨a0, i + 1, k0⟩ ⟨a1, i + 1, k1⟩ mm aa rr gn))) (rs (Wv.cs (swv ⟨a0, i + 1, k0⟩ hd mm aa rr gn)) ([.slice a1 (i + 1) k1]) (Wv.cs (swv ⟨a0, i + 1, k0⟩ ⟨a1, i + 1, k1⟩ mm aa rr gn)) (hbx) S58 (by simp [Value.oneCell', Sl.v])) ?_
     try simp only [pS]
     have HF : Hid (Sg w (wk10.setRow b (Wv.cells (swv ⟨a0, i + 1, k0⟩ ⟨a1, i + 1, k1⟩ mm aa rr gn))) J1 b ⟨a0, i + 1, k0⟩ ⟨a1, i + 1, k1⟩ mm aa rr gn (i + 1) (i + 1) [(gk8, 57, Bl.cells blZ)]) := HG
     clear HG hap hbx
     generalize wk10.setRow b (Wv.cells (swv ⟨a0, i + 1, k0⟩ ⟨a1, i + 1, k1⟩ mm aa rr gn)) = wk11 at HF ⊢
     have HF : Hid (Sg w wk11 J1 b ⟨a0, i + 1, k0⟩ ⟨a1, i + 1, k1⟩ mm aa rr gn (i + 1) (i + 1) []) := Sg.front (l := []) HF.out
     refine WL.nil ?_
     try simp only [pS]
     go_upto_region 4 with fail
     refine WL.start <| uK (.int .i64 ((i : Nat) : Int)) <| uB .add 3 (.int .i64 ((i : Nat) : Int)) (.int .i64 1) (.int .i64 (((i + 1) : Nat) : Int)) (b_addw _ _ _ (by rw [IntKind.wrap_i64]; omega) _) <| uK (.int .i64 (((i + 1) : Nat) : Int)) <| WL.nil <| ?_
     try simp only [pS]
     go_wp2
     go_roundw
     case rel => exact ⟨i + 1, J1, _, _, by go_num, by omega, rfl, rfl, HF⟩
     case measure => simp [intOf]; omega
   · skip
     go_upto_region 3 with fail
     refine WL.start <| uK (.int .i64 ((i : Nat) : Int)) <| uK (.int .i64 f) <| ?_
     try simp only [pS]
     refine uC 20 #[.int .i64 f, .int .i64 4] (round_any f 4 _ (by omega) (by omega)) ?_
     rintro e wq ⟨rfl, hwq⟩
     rw [hwq]
     clear hwq wq
     refine ⟨.int .i64 ((rndW f 4 : Nat) : Int), rfl, ?_⟩
     try simp only [pS]
     refine uB .mul 3 (.int .i64 2) (.int .i64 ((rndW f 4 : Nat) : Int)) (.int .i64 ((2 * rndW f 4 : Nat) : Int)) (b_mulw _ _ _ (by rw [IntKind.wrap_i64]; omega) _) <| uB .add 3 (.int .i64 ((2 * rndW f 4 : Nat) : Int)) (.int .i64 1) (.int .i64 ((n : Nat) : Int)) (b_addw _ _ _ (by rw [IntKind.wrap_i64]; omega) _) <| uB .lss 3 (.int .i64 ((i : Nat) : Int)) (.int .i64 ((n : Nat) : Int)) (.bool false) (by rw [b_lss, decide_eq_false (by omega)]) <| WL.nil <| ?_
     try simp only [pS]
     go_upto_region 7 with fail
     refine WL.start <| uK (pV b 0) <| uK (pV b 0) <| WL.nil <| ?_
     try simp only [pS]
     have hin : i = n := by omega
     subst hin
     go_wp2
     rw [HC.out]
     exact ⟨b, J, rfl, HF.out.done hhd, HF.out.fr.kept⟩
end Go.Proofs.Ytgiokkcdgoloaaa.Md
