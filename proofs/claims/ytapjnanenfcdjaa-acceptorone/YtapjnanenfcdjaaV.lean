import Derived.Test.YtapjnanenfcdjaaU
namespace Go.Proofs.Ytapjnanenfcdjaa
open Go.RowKit
set_option linter.unusedVariables false
set_option linter.unusedSimpArgs false

theorem slice1_int (v : Int) (w : World) : (Instr.buildSlice 33 1 #[(0, .int .i64 v)]).run Try.prog w = .ok (.slice (some ⟨w.heap.size, 0, none⟩) 1 1) (w.alloc (.cells #[.int .i64 v] 3)) := by kernel_rfl
theorem slice1_pro (x : Px) (w : World) : (Instr.buildSlice 67 1 #[(0, .agg x.cells)]).run Try.prog w = .ok (.slice (some ⟨w.heap.size, 0, none⟩) 1 1) (w.alloc (.cells x.cells 87)) := by kernel_rfl

theorem Own.lt {t : TypeId} {c : Nat} {w : World} {base : Nat} {a : Option Addr} {cap n : Nat} {vs : List Value} (h : Own t c w base a cap n vs) {k : Nat} (hk : At a k) : k < w.heap.size := by
  obtain ⟨ad, e, rfl⟩ := hk
  rcases h.2 with ⟨hv, _⟩ | ⟨g, cap', cur, hv, hb, hg, rest⟩
  · simp only [Value.slice.injEq] at hv; rw [hv.1] at e; cases e
  · simp only [Value.slice.injEq] at hv; rw [hv.1] at e; cases e; exact (Array.getElem?_eq_some_iff.1 hg).1
theorem own_box {t t' : TypeId} {c : Nat} {w : World} {base : Nat} {a : Option Addr} {cap n g : Nat} {vs : List Value} {cs : Array Value} (h : Own t c w base a cap n vs) (hb : Box w g t' cs) (ht : t' ≠ t) {k : Nat} (hk : At a k) : k ≠ g := by
  rintro rfl
  obtain ⟨ad, e, rfl⟩ := hk
  rcases h.2 with ⟨hv, _⟩ | ⟨g', cap', cur, hv, _, hg, _⟩
  · simp only [Value.slice.injEq] at hv; rw [hv.1] at e; cases e
  · simp only [Value.slice.injEq] at hv; rw [hv.1] at e; cases e
    unfold Box at hb
    rw [hb] at hg
    simp at hg
    exact ht hg.2
theorem own_own {t t' : TypeId} {c c' : Nat} {w : World} {b b' : Nat} {a a' : Option Addr} {cap cap' n n' : Nat} {vs vs' : List Value} (h : Own t c w b a cap n vs) (h' : Own t' c' w b' a' cap' n' vs') (ht : t ≠ t') {k : Nat} (hk : At a k) : ¬ At a' k := by
  intro hk'
  rcases h'.2 with ⟨hv, _⟩ | ⟨g', q', cur, hv, _, hg, _⟩
  · obtain ⟨ad, e, -⟩ := hk'
    simp only [Value.slice.injEq] at hv; rw [hv.1] at e; cases e
  · obtain ⟨ad, e, e2⟩ := hk'
    simp only [Value.slice.injEq] at hv; rw [hv.1] at e; cases e
    have e2 : g' = k := e2
    subst e2
    exact own_box h (show Box w g' t' cur from hg) (fun e => ht e.symm) hk rfl

/-- The play's blocks lie below. -/
structure PB (B p bI : Nat) (la : Option Addr) (xs : List Px) : Prop where
  p : p < B
  i : bI < B
  l : ∀ k, At la k → k < B
  pa : ∀ (k : Nat) (x : Px), xs[k]? = some x → ∀ g, At x.pa g → g < B
  aa : ∀ (k : Nat) (x : Px), xs[k]? = some x → ∀ g, At x.aa g → g < B
section
variable {w0 w w' : World} {p bI : Nat} {la : Option Addr} {lc : Nat} {st : PS} {xs : List Px} {hole : Option (Nat × Bool)}
theorem PM.below (h : PM w0 w p bI la lc st xs none) : PB w.heap.size p bI la xs :=
  ⟨h.box.lt, h.ins.lt, fun k hk => h.row.lt hk, fun k x hx g hg => (h.pown k x hx (by simp)).lt hg, fun k x hx g hg => (h.aown k x hx (by simp)).lt hg⟩
theorem PM.far (h : PM w0 w p bI la lc st xs hole) {B : Nat} (hB : PB B p bI la xs) {S : Nat → Prop} (hk : Kept S w w') (hS : ∀ g, S g → B ≤ g) : PM w0 w' p bI la lc st xs hole := by
  have out : ∀ g, g < B → ¬ S g := fun g hg e => by have := hS g e; omega
  exact ⟨h.box.kept hk (out _ hB.p), h.ins.kept hk (out _ hB.i), h.vals, h.row.kept hk (fun k e => out _ (hB.l k e)), fun k x hx hh => (h.pown k x hx hh).kept hk (fun g e => out _ (hB.pa k x hx g e)), fun k x hx hh => (h.aown k x hx hh).kept hk (fun g e => out _ (hB.aa k x hx g e)), h.ap, h.np, h.ni⟩
theorem in_rows (l : List In) : ∀ r ∈ l.map In.cs, r.length = 14 := by
  intro r hr
  obtain ⟨i, -, rfl⟩ := List.mem_map.1 hr
  rfl
theorem px_rows (l : List Px) : ∀ r ∈ l.map Px.cs, r.length = 16 := by
  intro r hr
  obtain ⟨i, -, rfl⟩ := List.mem_map.1 hr
  rfl
theorem PM.loadI (h : PM w0 w p bI la lc st xs hole) {s : Nat} {i : In} (hi : st.is[s]? = some i) : (loadVar 29 ⟨bI, 0 + s * 14, none⟩).run Try.prog w = .ok (.agg i.cells) w := by
  refine run_load_cells (sub := i.cs) (fun j v hv => ?_) Try.und29 rfl Try.size29
  rw [h.ins.cell, List.getElem?_toArray, Nat.zero_add]
  exact flat_get (in_rows _) (by simp [hi]) hv
theorem PM.la_some (h : PM w0 w p bI la lc st xs hole) {k : Nat} {x : Px} (hx : xs[k]? = some x) : ∃ g, la = some ⟨g, 0, none⟩ := by
  have hk := (List.getElem?_eq_some_iff.1 hx).1
  rcases h.row.2 with ⟨hv, h0⟩ | ⟨g, cap', cur, hv, _⟩
  · omega
  · simp only [Value.slice.injEq] at hv; exact ⟨g, hv.1⟩
theorem PM.loadL {g : Nat} (h : PM w0 w p bI (some ⟨g, 0, none⟩) lc st xs hole) {k : Nat} {x : Px} (hx : xs[k]? = some x) : (loadVar 87 ⟨g, 0 + k * 16, none⟩).run Try.prog w = .ok (.agg x.cells) w := by
  refine run_load_cells (sub := x.cs) (fun j v hv => ?_) Try.und87 rfl Try.size87
  rcases h.row.cases (flat_len (px_rows _) |>.trans (by simp)) with ⟨e, _⟩ | ⟨g', e, _, _, sp, hg, _⟩
  · cases e
  · cases e
    have hb : Box w g 87 ((xs.map Px.cs).flatten ++ sp).toArray := hg
    rw [hb.cell, List.getElem?_toArray, Nat.zero_add]
    have := flat_get (px_rows xs) (k := k) (by simp [hx]) hv
    rw [List.getElem?_append_left (List.getElem?_eq_some_iff.1 this).1]
    exact this
/-- A ballot of the row. -/
theorem PM.loadB {g : Nat} (h : PM w0 w p bI (some ⟨g, 0, none⟩) lc st xs hole) {k : Nat} {x : Px} (hx : xs[k]? = some x) : (loadVar 23 ⟨g, 0 + k * 16, none⟩).run Try.prog w = .ok (.agg #[.int .i64 x.v.b.n, .int .i64 x.v.b.c]) w := by
  refine run_load_cells (sub := [.int .i64 x.v.b.n, .int .i64 x.v.b.c]) (fun j v hv => ?_) Try.und23 rfl Try.size23
  rcases h.row.cases (flat_len (px_rows _) |>.trans (by simp)) with ⟨e, _⟩ | ⟨g', e, _, _, sp, hg, _⟩
  · cases e
  · cases e
    have hb : Box w g 87 ((xs.map Px.cs).flatten ++ sp).toArray := hg
    rw [hb.cell, List.getElem?_toArray, Nat.zero_add]
    have hv' := x.partB j v hv
    rw [Nat.zero_add] at hv'
    have := flat_get (px_rows xs) (k := k) (by simp [hx]) hv'
    rw [List.getElem?_append_left (List.getElem?_eq_some_iff.1 this).1]
    exact this
/-- An instance laid anew. -/
theorem PM.setI (h : PM w0 w p bI la lc st xs hole) {s : Nat} (hs : s < st.is.length) (i : In) :
    ∃ cs : Array Value, (storeVar 29 ⟨bI, 0 + s * 14, none⟩ (.agg i.cells)).run Try.prog w = .ok () (w.setRow bI cs) ∧ PM w0 (w.setRow bI cs) p bI la lc { st with is := st.is.set s i } xs hole := by
  refine ⟨((st.is.set s i).map In.cs).flatten.toArray, ?_, ?_⟩
  · have hl : (st.is.map In.cs).flatten.length = st.is.length * 14 := by rw [flat_len (in_rows _)]; simp
    have hr := run_store_at (ty := 29) (off := 0 + s * 14) (vs := i.cs) h.ins (v := .agg i.cells) rfl Try.size29 (by rw [hl, In.len]; omega) (list_one (x := []) i.one)
    rw [hr]
    have hp := flat_put (n := 14) (q := i.cs) rfl [] (in_rows st.is) (k := s) (by simpa using hs)
    simp only [List.append_nil] at hp
    rw [Nat.zero_add, hp, List.map_set]
  · have hpi : p ≠ bI := box_ne h.box h.ins (by decide)
    have hk := Kept.setRow w bI ((st.is.set s i).map In.cs).flatten.toArray
    refine ⟨?_, Box.setRow h.ins _, h.vals, h.row.kept hk (fun k hk e => own_box h.row h.ins (by decide) hk e), fun k x hx hh => (h.pown k x hx hh).kept hk (fun g hg e => own_box (h.pown k x hx hh) h.ins (by decide) hg e), fun k x hx hh => (h.aown k x hx hh).kept hk (fun g hg e => own_box (h.aown k x hx hh) h.ins (by decide) hg e), h.ap, h.np, h.ni⟩
    have := h.box.kept hk (fun e => hpi e)
    simpa using this
/-- What is decided, laid anew. -/
theorem PM.setD (h : PM w0 w p bI la lc st xs hole) (d : Cm) :
    ∃ cs : Array Value, (storeVar 27 ⟨p, 3, none⟩ (.agg d.cells)).run Try.prog w = .ok () (w.setRow p cs) ∧ PM w0 (w.setRow p cs) p bI la lc { st with dec := d } xs hole := by
  refine ⟨(playC st.f bI st.is.length la xs.length lc d).toArray, ?_, ?_⟩
  · exact run_store_at (ty := 27) (off := 3) (vs := d.cs) h.box (v := .agg d.cells) rfl Try.size27 (by rw [playC_len, Cm.len]; omega) (list_one (x := []) d.one)
  · have hpi : bI ≠ p := fun e => box_ne h.box h.ins (by decide) e.symm
    have hk := Kept.setRow w p (playC st.f bI st.is.length la xs.length lc d).toArray
    exact ⟨Box.setRow h.box _, h.ins.kept hk (fun e => hpi e), h.vals, h.row.kept hk (fun k hk e => own_box h.row h.box (by decide) hk e), fun k x hx hh => (h.pown k x hx hh).kept hk (fun g hg e => own_box (h.pown k x hx hh) h.box (by decide) hg e), fun k x hx hh => (h.aown k x hx hh).kept hk (fun g hg e => own_box (h.aown k x hx hh) h.box (by decide) hg e), h.ap, h.np, h.ni⟩
/-- A proposal laid anew, with its two lists. -/
theorem PM.setL {g : Nat} (h : PM w0 w p bI (some ⟨g, 0, none⟩) lc st xs hole) {k : Nat} {x y : Px} (hx : xs[k]? = some x) (hh : hole = none ∨ hole = some (k, false) ∨ hole = some (k, true))
    (hp : Own 3 1 w w0.heap.size y.pa y.pc y.v.pr.length (ints y.v.pr)) (ha : Own 3 1 w w0.heap.size y.aa y.ac y.v.ac.length (ints y.v.ac))
    (hap : ∀ (j : Nat) (z : Px), xs[j]? = some z → j ≠ k → ∀ g, (At y.pa g → ¬ At z.pa g ∧ ¬ At z.aa g) ∧ (At y.aa g → ¬ At z.pa g ∧ ¬ At z.aa g)) (hself : ∀ g, At y.pa g → ¬ At y.aa g) :
    ∃ cs : Array Value, (storeVar 87 ⟨g, 0 + k * 16, none⟩ (.agg y.cells)).run Try.prog w = .ok () (w.setRow g cs) ∧ PM w0 (w.setRow g cs) p bI (some ⟨g, 0, none⟩) lc { st with ls := st.ls.set k y.v } (xs.set k y) none := by
  have hkl := (List.getElem?_eq_some_iff.1 hx).1
  obtain ⟨r1, r2⟩ := h.row
  rcases r2 with ⟨hv, h0⟩ | ⟨g', cap', cur, hv, hb, hg, hle, hm, hs, ht⟩
  · cases hv
  · simp only [Value.slice.injEq, Option.some.injEq, Addr.mk.injEq, and_true, true_and] at hv
    obtain ⟨rfl, rfl⟩ := hv
    have hfl : (xs.map Px.cs).flatten.length = xs.length * 16 := by rw [flat_len (px_rows _)]; simp
    obtain ⟨sp, hsp⟩ : ∃ sp, cur.toList = (xs.map Px.cs).flatten ++ sp := ⟨cur.toList.drop (xs.length * 16), by rw [← ht, List.take_append_drop]⟩
    have hcur : cur = ((xs.map Px.cs).flatten ++ sp).toArray := by rw [← hsp]
    have hbx : Box w g 87 ((xs.map Px.cs).flatten ++ sp).toArray := by rw [← hcur]; exact hg
    have hput := flat_put (n := 16) (q := y.cs) rfl sp (px_rows xs) (k := k) (by simpa using hkl)
    rw [← List.map_set] at hput
    have hk := Kept.setRow w g (((xs.set k y).map Px.cs).flatten ++ sp).toArray
    refine ⟨(((xs.set k y).map Px.cs).flatten ++ sp).toArray, ?_, ?_⟩
    · have hr := run_store_at (ty := 87) (off := 0 + k * 16) (vs := y.cs) hbx (v := .agg y.cells) rfl Try.size87 (by rw [List.length_append, hfl, Px.len]; omega) (list_one (x := []) y.one)
      rw [hr, Nat.zero_add, hput]
    · have hg1 : ∀ {a : Option Addr} {cap n : Nat} {vs : List Value}, Own 3 1 w w0.heap.size a cap n vs → Own 3 1 (w.setRow g (((xs.set k y).map Px.cs).flatten ++ sp).toArray) w0.heap.size a cap n vs := fun ho => ho.kept hk (fun q hq e => own_box ho hbx (by decide) hq e)
      refine ⟨?_, h.ins.kept hk (fun e => box_ne h.ins hbx (by decide) e), ?_, ?_, ?_, ?_, ?_, h.np, h.ni⟩
      · have := h.box.kept hk (fun e => box_ne h.box hbx (by decide) e)
        simpa using this
      · rw [List.map_set, h.vals]
      · have hfl2 : ((xs.set k y).map Px.cs).flatten.length = xs.length * 16 := by rw [flat_len (px_rows _)]; simp
        rw [List.length_set]
        refine ⟨hfl2, .inr ⟨g, lc, _, rfl, hb, Box.setRow hbx _, hle, hm, ?_, ?_⟩⟩
        · have h1 : cur.toList.length = lc * 16 := by simpa using hs
          rw [hsp, List.length_append, hfl] at h1
          simp only [List.size_toArray, List.length_append, hfl2]
          exact h1
        · simp only [List.take_append, hfl2, Nat.sub_self, List.take_zero, List.append_nil]
          exact List.take_of_length_le (by omega)
      · intro j z hz _
        rcases get_set hz with ⟨rfl, rfl⟩ | ⟨hne, e⟩
        · exact hg1 hp
        · exact hg1 (h.pown j z e (by rcases hh with rfl | rfl | rfl <;> simp; exact fun q => hne q.symm))
      · intro j z hz _
        rcases get_set hz with ⟨rfl, rfl⟩ | ⟨hne, e⟩
        · exact hg1 ha
        · exact hg1 (h.aown j z e (by rcases hh with rfl | rfl | rfl <;> simp; exact fun q => hne q.symm))
      · intro i j u z hu hz q
        rcases get_set hu with ⟨rfl, rfl⟩ | ⟨n1, e1⟩ <;> rcases get_set hz with ⟨rfl, rfl⟩ | ⟨n2, e2⟩
        · exact ⟨fun _ _ => rfl, fun _ _ => rfl, fun hq => hself q hq⟩
        · have := hap j z e2 n2 q
          exact ⟨fun a b => absurd b (this.1 a).1, fun a b => absurd b (this.2 a).2, fun a => (this.1 a).2⟩
        · have := hap i u e1 n1 q
          exact ⟨fun a b => absurd a (this.1 b).1, fun a b => absurd a (this.2 b).2, fun a b => absurd a (this.2 b).1⟩
        · exact h.ap i j u z e1 e2 q
end

end Go.Proofs.Ytapjnanenfcdjaa
