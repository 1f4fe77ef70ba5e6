import Derived.Test.YtphiokehcgbldaaNb
namespace Go.Proofs.Ytphiokehcgbldaa
open Go.RowKit
set_option linter.unusedVariables false
set_option linter.unusedSimpArgs false

/-- Places: a row of rising numbers somewhere in a block of its own. -/
structure PlA (w : World) (b off cap : Nat) (ps : List Nat) : Prop where
  ex : ∃ cs, w.heap[b]? = some (.cells cs 3 (0, 0)) ∧ off + cap ≤ cs.size ∧ ps.length ≤ cap ∧ ∀ i p, ps[i]? = some p → cs[off + i]? = some (.int .i64 (p : Nat))
theorem PlA.lt {w : World} {b off cap : Nat} {ps : List Nat} (h : PlA w b off cap ps) : b < w.heap.size := by
  obtain ⟨cs, h, _⟩ := h
  exact (Array.getElem?_eq_some_iff.1 h).1
theorem PlA.kept {S : Nat → Prop} {w w' : World} {b off cap : Nat} {ps : List Nat} (h : PlA w b off cap ps) (hk : Kept S w w') (hS : ¬ S b) : PlA w' b off cap ps := by
  have hl := h.lt
  obtain ⟨cs, h1, h2⟩ := h
  exact ⟨cs, (hk.block b hl hS).trans h1, h2⟩
theorem PlA.typ {w : World} {b off cap : Nat} {ps : List Nat} (h : PlA w b off cap ps) : ∃ cs, w.heap[b]? = some (.cells cs 3 (0, 0)) := by
  obtain ⟨cs, h1, _⟩ := h
  exact ⟨cs, h1⟩
/-- All but the first. -/
theorem PlA.tail {w : World} {b off cap p : Nat} {ps : List Nat} (h : PlA w b off cap (p :: ps)) : PlA w b (off + 1) (cap - 1) ps := by
  obtain ⟨cs, h1, h2, h3, h4⟩ := h
  simp only [List.length_cons] at h3
  refine ⟨cs, h1, by omega, by omega, fun i q hq => ?_⟩
  have := h4 (i + 1) q (by simpa using hq)
  rw [show off + 1 + i = off + (i + 1) by omega]
  exact this
theorem info3 : ∃ i, Try.prog.info? 3 = some i ∧ i.size = 1 ∧ i.bytes = 8 ∧ i.zero = some (.int .i64 0) := by
  have h : (Try.prog.info? 3).map (fun i => (i.zero, i.size, i.bytes)) = some (some (.int .i64 0), 1, 8) := by kernel_rfl
  cases hq : Try.prog.info? 3 with
  | none => rw [hq] at h; cases h
  | some i =>
    rw [hq] at h
    simp only [Option.map_some, Option.some.injEq, Prod.mk.injEq] at h
    exact ⟨i, rfl, h.2.1, h.2.2, h.1⟩
theorem und57 : Try.prog.underlying 57 = some (.slice 3) := by kernel_rfl
/-- One place more, where there is room. -/
theorem room1 {w : World} {b off n cap g ty : Nat} {cs : Array Value} {x : Int} (hg : w.heap[b]? = some (.cells cs 3 (0, 0))) (hf : off + cap ≤ cs.size) (hn : n + 1 ≤ cap) (hx : w.cell? ⟨g, 0, none⟩ = some (.int .i64 x)) :
    (Builtin.append_ #[57, 57] ty #[.slice (some ⟨b, off, none⟩) n cap, .slice (some ⟨g, 0, none⟩) 1 1]).run Try.prog w = .ok (.slice (some ⟨b, off, none⟩) (n + 1) cap) (w.setRow b (cs.toList.take (off + n) ++ [Value.int .i64 x] ++ cs.toList.drop (off + n + 1)).toArray) := by
  obtain ⟨i, hi, hs, hb, hz⟩ := info3
  have hfc := run_firstCells_some (P := Try.prog) w i.size 1 ⟨g, 0, none⟩ 1 1 [.int .i64 x] (by simp [hs]) (fun j u hu => by
    match j, hu with
    | 0, hu => simp at hu; subst hu; simpa [Addr.add] using hx
    | j + 1, hu => simp at hu)
  rw [hs] at hfc
  have hst := Go.run_storeCells_at Try.prog b (off + n) 3 [.int .i64 x] 0 cs w hg (by simp; omega) (fun v hv => by rw [List.mem_singleton.1 hv]; rfl)
  simp only [Nat.add_zero, List.length_singleton] at hst
  simp [Builtin.append_, run_underlying und57, sizeOf, typeInfo, hi, Builtin.lenOf, hfc, hn, hs, Addr.add_mid, hst]
theorem PlA.room {w : World} {b off cap : Nat} {ps : List Nat} (cs : Array Value) (hg : w.heap[b]? = some (.cells cs 3 (0, 0))) (hf : off + cap ≤ cs.size) (hn : ps.length + 1 ≤ cap) (h4 : ∀ i p, ps[i]? = some p → cs[off + i]? = some (.int .i64 (p : Nat))) (x : Nat) :
    PlA (w.setRow b (cs.toList.take (off + ps.length) ++ [Value.int .i64 (x : Nat)] ++ cs.toList.drop (off + ps.length + 1)).toArray) b off cap (ps ++ [x]) := by
  refine ⟨_, setRow_heap w b cs _ 3 (0, 0) hg, ?_, by simpa using hn, fun i p hp => ?_⟩
  · simp; omega
  · rw [List.getElem?_toArray]
    by_cases hi : i < ps.length
    · rw [List.getElem?_append_left hi] at hp
      have := h4 i p hp
      rw [List.append_assoc, List.getElem?_append_left (by simp; omega), List.getElem?_take_of_lt (by omega)]
      simpa using this
    · have hl := (List.getElem?_eq_some_iff.1 hp).1
      simp only [List.length_append, List.length_singleton] at hl
      obtain rfl : i = ps.length := by omega
      simp at hp
      subst hp
      rw [List.append_assoc, List.getElem?_append_right (by simp; omega)]
      have : (List.take (off + ps.length) cs.toList).length = off + ps.length := by simp; omega
      rw [this]
      simp
/-- One place more. -/
theorem appPl {w : World} {b off cap g ty : Nat} {ps : List Nat} (h : PlA w b off cap ps) (x : Nat) (hx : w.cell? ⟨g, 0, none⟩ = some (.int .i64 (x : Nat))) (hlen : ps.length < 1000000000) :
    ∃ b' off' cap' w', (Builtin.append_ #[57, 57] ty #[.slice (some ⟨b, off, none⟩) ps.length cap, .slice (some ⟨g, 0, none⟩) 1 1]).run Try.prog w = .ok (.slice (some ⟨b', off', none⟩) (ps.length + 1) cap') w' ∧ PlA w' b' off' cap' (ps ++ [x]) ∧ (b' = b ∨ b' = w.heap.size) ∧ Kept (Only b) w w' := by
  obtain ⟨cs, h1, h2, h3, h4⟩ := h
  by_cases hr : ps.length + 1 ≤ cap
  · exact ⟨b, off, cap, _, room1 h1 h2 hr hx, PlA.room cs h1 h2 hr h4 x, .inl rfl, Wa.Kept.setRow _ _ _⟩
  · obtain ⟨i, hi, hs, hb, hz⟩ := info3
    have hrun := run_append_grow (P := Try.prog) w 57 ty 3 i (.int .i64 0) und57 hi hz ⟨b, off, none⟩ ps.length cap (ps.map (fun p => .int .i64 ((p : Nat) : Int))) (by simp [hs]) (fun j v hv => by
      rw [List.getElem?_map] at hv
      cases hp : ps[j]? with
      | none => rw [hp] at hv; cases hv
      | some p =>
        rw [hp] at hv
        cases hv
        rw [Addr.add_mid, cell_of_row w b (off + j) cs 3 (0, 0) h1]
        exact h4 j p hp) ⟨g, 0, none⟩ 1 1 [.int .i64 (x : Nat)] (by simp [hs]) (fun j u hu => by
      match j, hu with
      | 0, hu => simp at hu; subst hu; simpa [Addr.add] using hx
      | j + 1, hu => simp at hu) (by omega) (by omega) (growslice_fits (by omega) (by rw [hb]; omega))
    have hge := grownCap_ge w (ps.length + 1) cap 3
    refine ⟨w.heap.size, 0, _, _, hrun, ⟨_, heap_alloc_new w.drew _, ?_, ?_, fun j p hp => ?_⟩, .inr rfl, ((Kept.refl _ _).drew).alloc _⟩
    · simp only [Array.size_append, List.size_toArray, List.length_map, List.length_singleton, size_zeroCells]
      have : (Value.int IntKind.i64 0).cells.size = 1 := rfl
      rw [this]
      omega
    · simp; omega
    · rw [Array.getElem?_append_left (by have := (List.getElem?_eq_some_iff.1 hp).1; simp at this ⊢; omega)]
      have e : (List.map (fun p : Nat => Value.int IntKind.i64 (p : Int)) ps).toArray ++ [Value.int IntKind.i64 (x : Int)].toArray = ((ps ++ [x]).map (fun p : Nat => Value.int IntKind.i64 (p : Int))).toArray := by simp
      rw [e, Nat.zero_add, List.getElem?_toArray, List.getElem?_map, hp]
      rfl
theorem appNl {w : World} {g ty : Nat} (x : Nat) (hx : w.cell? ⟨g, 0, none⟩ = some (.int .i64 (x : Nat))) :
    ∃ cap' w', (Builtin.append_ #[57, 57] ty #[.slice none 0 0, .slice (some ⟨g, 0, none⟩) 1 1]).run Try.prog w = .ok (.slice (some ⟨w.heap.size, 0, none⟩) 1 cap') w' ∧ PlA w' w.heap.size 0 cap' [x] ∧ Kept No w w' := by
  obtain ⟨i, hi, hs, hb, hz⟩ := info3
  have hrun := run_append_nil (P := Try.prog) w 57 ty 3 i (.int .i64 0) und57 hi hz ⟨g, 0, none⟩ 1 1 [.int .i64 (x : Nat)] (by simp [hs]) (fun j u hu => by
    match j, hu with
    | 0, hu => simp at hu; subst hu; simpa [Addr.add] using hx
    | j + 1, hu => simp at hu) (by omega) (by omega) (by rw [hb]; omega)
  have hge := grownCap_ge w 1 0 3
  refine ⟨_, _, hrun, ⟨_, heap_alloc_new w.drew _, ?_, by simp; omega, fun j p hp => ?_⟩, ((Kept.refl _ _).drew).alloc _⟩
  · simp only [Array.size_append, List.size_toArray, List.length_singleton, size_zeroCells]
    have : (Value.int IntKind.i64 0).cells.size = 1 := rfl
    rw [this]
    omega
  · have hj := (List.getElem?_eq_some_iff.1 hp).1
    simp only [List.length_singleton] at hj
    obtain rfl : j = 0 := by omega
    simp at hp
    subst hp
    rw [Array.getElem?_append_left (by simp)]
    rfl

end Go.Proofs.Ytphiokehcgbldaa
