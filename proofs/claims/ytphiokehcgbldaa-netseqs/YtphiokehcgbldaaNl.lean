import Derived.Test.YtphiokehcgbldaaNk
import Derived.Maps.Range
namespace Go.Proofs.Ytphiokehcgbldaa
open Go.RowKit
open Go.ChangeMaps (setBlock)
set_option linter.unusedVariables false
set_option linter.unusedSimpArgs false
set_option linter.unusedSectionVars false

section
variable {K : Type} [DecidableEq K] {mk : K → Value}
/-- A map that is gone over: what is still to come. -/
def RgI (mk : K → Value) (w : World) (r b : Nat) (g : K → Option Value) (td : List K) : Prop :=
  ∃ es clock seen c0, w.heap[b]? = some (.map es clock) ∧ EntG mk es clock g ∧ w.heap[r]? = some (.mapIter (some b) clock seen c0) ∧ clock ≤ c0 ∧ (leftOf es seen).toList.map (·.key) = td.map mk
theorem keysG {g : K → Option Value} : ∀ l : List MapEntry, (∀ e ∈ l, ∃ x, e.key = mk x ∧ g x = some e.val) → ∃ td : List K, l.map (·.key) = td.map mk ∧ ∀ x ∈ td, (g x).isSome
  | [], _ => ⟨[], rfl, by simp⟩
  | e :: l, h => by
    obtain ⟨td, h1, h2⟩ := keysG l (fun e' he => h e' (by simp [he]))
    obtain ⟨x, hx, hg⟩ := h e (by simp)
    refine ⟨x :: td, by simp [h1, hx], fun y hy => ?_⟩
    rcases List.mem_cons.1 hy with rfl | hy
    · rw [hg]; rfl
    · exact h2 y hy
theorem rgI_start {k t e : TypeId} (inj : ∀ x y, mk x = mk y → x = y) {w : World} {b : Nat} {g : K → Option Value} (h : MapG mk w b g) (ht : Try.prog.underlying t = some (.map k e)) :
    ∃ w', (Instr.range t (.map (some b))).run Try.prog w = .ok (.pointer (some ⟨w.heap.size, 0, none⟩)) w' ∧ Kept No w w' ∧ w'.heap.size = w.heap.size + 1 ∧ ∃ td, RgI mk w' w.heap.size b g td ∧ td.Nodup ∧ ∀ x, x ∈ td ↔ (g x).isSome := by
  have hlt := h.lt
  obtain ⟨es, c, hb, he⟩ := h
  refine ⟨_, run_range_map w t k e b es c ht hb, (Kept.refl No w).alloc _, by simp, ?_⟩
  obtain ⟨td, h1, h2⟩ := keysG es.toList he.2.1
  have hl : (leftOf es #[]).toList = es.toList := by simp [leftOf]
  refine ⟨td, ⟨es, c, #[], c, by rw [heap_alloc_old w _ hlt, hb], he, heap_alloc_new w _, Nat.le_refl _, by rw [hl, h1]⟩, ?_, fun x => ⟨h2 x, fun hx => ?_⟩⟩
  · have := he.1.2.2
    rw [h1] at this
    exact (List.pairwise_map.1 this).imp (fun h e => h (by rw [e]))
  · cases hg : g x with
    | none => rw [hg] at hx; cases hx
    | some v =>
      obtain ⟨e', he', hk⟩ := he.2.2 x v hg
      have : mk x ∈ td.map mk := by rw [← h1]; exact List.mem_map.2 ⟨e', he', hk⟩
      obtain ⟨y, hy, e⟩ := List.mem_map.1 this
      rw [← inj _ _ e]; exact hy
theorem RgI.kept {S : Nat → Prop} {w w' : World} {r b : Nat} {g : K → Option Value} {td : List K} (h : RgI mk w r b g td) (hk : Kept S w w') (hr : ¬ S r) (hb : ¬ S b) : RgI mk w' r b g td := by
  obtain ⟨es, c, seen, c0, h1, h2, h3, h4⟩ := h
  exact ⟨es, c, seen, c0, (hk.block b (Array.getElem?_eq_some_iff.1 h1).1 hb).trans h1, h2, (hk.block r (Array.getElem?_eq_some_iff.1 h3).1 hr).trans h3, h4⟩
theorem RgI.lt {w : World} {r b : Nat} {g : K → Option Value} {td : List K} (h : RgI mk w r b g td) : r < w.heap.size := by
  obtain ⟨es, c, seen, c0, h1, h2, h3, h4⟩ := h
  exact (Array.getElem?_eq_some_iff.1 h3).1
theorem RgI.left {w : World} {r b : Nat} {g : K → Option Value} {td : List K} (h : RgI mk w r b g td) : w.rangeLeft b r = td.length := by
  obtain ⟨es, c, seen, c0, h1, h2, h3, h4, h5⟩ := h
  unfold World.rangeLeft
  rw [h1, h3]
  have := congrArg List.length h5
  simpa using this
theorem RgI.neOwn {w : World} {r b : Nat} {g : K → Option Value} {td : List K} (h : RgI mk w r b g td) {T : TypeId} {c base : Nat} {a : Option Addr} {cap n : Nat} {vs : List Value} (ho : Own T c w base a cap n vs) : ¬ At a r := fun e => by
  obtain ⟨c, h1⟩ := Gx.own_type ho e
  obtain ⟨es, c, seen, c0, _, _, h3, _⟩ := h
  rw [h1] at h3
  cases h3
theorem RgI.map {w : World} {r b : Nat} {g : K → Option Value} {td : List K} (h : RgI mk w r b g td) : MapG mk w b g := by
  obtain ⟨es, c, seen, c0, h1, h2, _⟩ := h
  exact ⟨es, c, h1, h2⟩
theorem rgI_next (inj : ∀ x y, mk x = mk y → x = y) {w : World} {r b : Nat} {g : K → Option Value} {td : List K} (h : RgI mk w r b g td) :
    (td = [] ∧ ∀ ty, (Instr.next (.pointer (some ⟨r, 0, none⟩)) false ty).run Try.prog w = .ok (.tuple #[.bool false]) w) ∨
    ∃ x v w', x ∈ td ∧ g x = some v ∧ (∀ ty, (Instr.next (.pointer (some ⟨r, 0, none⟩)) false ty).run Try.prog w = .ok (.tuple #[.bool true, mk x, v]) w') ∧ Kept (Only r) w w' ∧ w'.heap.size = w.heap.size ∧ RgI mk w' r b g (td.filter (fun y => decide (y ≠ x))) ∧ (Instr.entry (.pointer (some ⟨r, 0, none⟩))).run Try.prog w' = .ok (.tuple #[mk x, v]) w' := by
  classical
  obtain ⟨es, c, seen, c0, h1, h2, h3, h4, h5⟩ := h
  have hrb : b ≠ r := fun e => by rw [e, h3] at h1; cases h1
  rcases run_next_at (P := Try.prog) w 0 r b c c0 seen es c h3 h1 h2.1.1 h4 with ⟨h0, hrun⟩ | ⟨e, he, w1, hw1, hrun⟩
  · refine .inl ⟨?_, fun ty => hrun⟩
    have : (leftOf es seen).toList = [] := List.eq_nil_of_length_eq_zero (by simpa using h0)
    rw [this] at h5
    simpa using h5.symm
  · have hmem : e ∈ es.toList := by unfold leftOf at he; simp at he ⊢; exact he.1
    obtain ⟨x, hx, hg⟩ := h2.2.1 e hmem
    have hk1 : Kept (Only r) w w1 := by
      rcases hw1 with rfl | rfl
      · exact Kept.refl _ _
      · exact (Kept.refl _ w).drew
    have hs1 : w1.heap = w.heap := by rcases hw1 with rfl | rfl <;> rfl
    have hk2 : Kept (Only r) w1 (setBlock w1 r (.mapIter (some b) c (seen.push e.born) c)) := kept_setBlock
    have hlt : r < w1.heap.size := by rw [hs1]; exact (Array.getElem?_eq_some_iff.1 h3).1
    have hr' : (setBlock w1 r (.mapIter (some b) c (seen.push e.born) c)).heap[r]? = some (.mapIter (some b) c (seen.push e.born) c) := by
      simp [setBlock, Array.getElem?_setIfInBounds, hlt]
    have hb' : (setBlock w1 r (.mapIter (some b) c (seen.push e.born) c)).heap[b]? = some (.map es c) := by
      rw [(hk1.then hk2).block b (Array.getElem?_eq_some_iff.1 h1).1 hrb, h1]
    refine .inr ⟨x, e.val, _, ?_, hg, fun ty => hx ▸ hrun, hk1.then hk2, by simp [setBlock, hs1], ⟨es, c, seen.push e.born, c, hb', h2, hr', Nat.le_refl _, ?_⟩, ?_⟩
    · have : mk x ∈ td.map mk := by rw [← h5]; exact List.mem_map.2 ⟨e, he, hx⟩
      obtain ⟨y, hy, e'⟩ := List.mem_map.1 this
      rw [← inj _ _ e']; exact hy
    · have e1 : (leftOf es (seen.push e.born)).toList = (leftOf es seen).toList.filter (fun e' => decide (e'.key ≠ mk x)) := by
        unfold leftOf
        rw [Array.toList_filter, Array.toList_filter, List.filter_filter]
        refine List.filter_congr (fun e' he' => ?_)
        have hb : e'.born = e.born ↔ e'.key = mk x := by
          constructor
          · intro f
            have : e' = e := by
              have hn := h2.1.2.1
              obtain ⟨i, hi, e1⟩ := List.getElem_of_mem he'
              obtain ⟨j, hj, e2⟩ := List.getElem_of_mem hmem
              have hi' : (es.toList.map (·.born))[i]? = some e.born := by rw [List.getElem?_map, List.getElem?_eq_getElem hi, e1, Option.map_some, f]
              have hj' : (es.toList.map (·.born))[j]? = some e.born := by rw [List.getElem?_map, List.getElem?_eq_getElem hj, e2]; rfl
              have hij := (List.getElem?_inj (by simpa using hi) hn).1 (hi'.trans hj'.symm)
              subst hij
              exact e1.symm.trans e2
            rw [this, hx]
          · intro f
            have : e' = e := entry_eq_of_key (List.pairwise_map.1 h2.1.2.2) he' hmem (f.trans hx.symm)
            rw [this]
        by_cases f : e'.key = mk x
        · simp [f, hb.2 f]
        · have f' : ¬ e'.born = e.born := fun q => f (hb.1 q)
          simp [f, f']
      rw [e1]
      have e2 : ((leftOf es seen).toList.filter (fun e' => decide (e'.key ≠ mk x))).map (·.key) = ((leftOf es seen).toList.map (·.key)).filter (fun y => decide (y ≠ mk x)) := by
        rw [List.filter_map]; rfl
      rw [e2, h5, List.filter_map]
      congr 1
      refine List.filter_congr (fun y _ => ?_)
      show decide (mk y ≠ mk x) = decide (y ≠ x)
      by_cases f : y = x
      · simp [f]
      · have f' : ¬ mk y = mk x := fun q => f (inj _ _ q)
        simp [f, f']
    · rw [run_entry_at (P := Try.prog) _ r b c seen es c e hr' hb' hmem h2.1.2.1, hx]
theorem filter_ne_perm {td : List K} {x : K} (hx : x ∈ td) (hn : td.Nodup) : (x :: td.filter (fun y => decide (y ≠ x))).Perm td := by
  have h := List.perm_cons_erase hx
  rw [List.Nodup.erase_eq_filter hn] at h
  refine (List.Perm.trans h ?_).symm
  refine List.Perm.of_eq ?_
  congr 1
  refine List.filter_congr (fun y _ => ?_)
  by_cases f : y = x <;> simp [f]
theorem filter_ne_lt {td : List K} {x : K} (hx : x ∈ td) (hn : td.Nodup) : (td.filter (fun y => decide (y ≠ x))).length + 1 = td.length := by
  have := (filter_ne_perm hx hn).length_eq
  simpa using this
end
/-- All of some names, name by name, are those of L that have one of them. -/
theorem flat_perm (L : List Pq) : ∀ ks : List Nm, ks.Nodup → (ks.flatMap (fun k => L.filter (isN k))).Perm (L.filter (fun q => decide (q.nm ∈ ks)))
  | [], _ => by simp
  | k :: ks, hn => by
    have ih := flat_perm L ks (List.nodup_cons.1 hn).2
    have hk := (List.nodup_cons.1 hn).1
    rw [List.flatMap_cons]
    refine (List.Perm.append_left _ ih).trans ?_
    have h1 := List.filter_append_perm (isN k) (L.filter (fun q => decide (q.nm ∈ k :: ks)))
    have e1 : (L.filter (fun q => decide (q.nm ∈ k :: ks))).filter (isN k) = L.filter (isN k) := by
      rw [List.filter_filter]
      refine List.filter_congr (fun q _ => ?_)
      by_cases f : q.nm = k <;> simp [isN, f]
    have e2 : (L.filter (fun q => decide (q.nm ∈ k :: ks))).filter (fun q => !isN k q) = L.filter (fun q => decide (q.nm ∈ ks)) := by
      rw [List.filter_filter]
      refine List.filter_congr (fun q _ => ?_)
      by_cases f : q.nm = k
      · simp [isN, f, hk]
      · simp [isN, f]
    rw [e1, e2] at h1
    exact h1
theorem flat_all {L : List Pq} {ks : List Nm} (hn : ks.Nodup) (h : ∀ q ∈ L, q.nm ∈ ks) : (ks.flatMap (fun k => L.filter (isN k))).Perm L := by
  have := flat_perm L ks hn
  rwa [List.filter_eq_self.2 (fun q hq => by simpa using h q hq)] at this
/-- Two lists of the same packets, both by rising places, are one. -/
theorem perm_ris : ∀ {l m : List Pq}, l.Perm m → l.Pairwise (fun p q => p.pl ≤ q.pl) → m.Pairwise (fun p q => p.pl < q.pl) → l = m
  | [], m, hp, _, _ => (List.Perm.nil_eq hp)
  | a :: l, [], hp, _, _ => by have := hp.length_eq; simp at this
  | a :: l, b :: m, hp, h1, h2 => by
    obtain ⟨a1, a2⟩ := List.pairwise_cons.1 h1
    obtain ⟨b1, b2⟩ := List.pairwise_cons.1 h2
    have hab : a = b := by
      have ha : a ∈ b :: m := hp.mem_iff.1 (by simp)
      have hb : b ∈ a :: l := hp.mem_iff.2 (by simp)
      rcases List.mem_cons.1 ha with e | ha
      · exact e
      · rcases List.mem_cons.1 hb with e | hb
        · exact e.symm
        · have := b1 a ha; have := a1 b hb; omega
    subst hab
    rw [perm_ris ((List.perm_cons a).1 hp) a2 b2]
end Go.Proofs.Ytphiokehcgbldaa
