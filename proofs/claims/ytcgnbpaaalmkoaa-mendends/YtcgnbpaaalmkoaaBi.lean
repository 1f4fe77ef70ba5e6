import Derived.Test.YtcgnbpaaalmkoaaBg
namespace Go.Proofs.Ytcgnbpaaalmkoaa
open Go.RowKit
set_option linter.unusedVariables false
set_option linter.unusedSimpArgs false
theorem Fr.of_no {S : Nat → Prop} {w0 w : World} {l : List (Nat × TypeId × Array Value)} (h : Fr No w0 w l) : Fr S w0 w l := ⟨h.kept.of_no, h.box, h.low, h.inj⟩

/-- The row rises; how far it goes on without a gap. -/
def RiseL (u : Int) : List Pl → Prop
  | [] => True
  | p :: r => u < p.n ∧ RiseL p.n r
def refK (u : Int) : List Pl → Nat
  | [] => 0
  | p :: r => if p.n = u + 1 ∧ p.i.d = true then refK (u + 1) r + 1 else 0
theorem rise_of : ∀ (ps : List Pl) (u : Int), (∀ i, i < ps.length → (i = 0 → u < (pAt ps i).n) ∧ (0 < i → (pAt ps (i - 1)).n < (pAt ps i).n)) → RiseL u ps
  | [], u, _ => trivial
  | p :: r, u, h => by
    refine ⟨(h 0 (by simp)).1 rfl, rise_of r p.n (fun i hi => ⟨fun e => ?_, fun e => ?_⟩)⟩
    · subst e
      exact (h 1 (by simp only [List.length_cons]; omega)).2 (by omega)
    · obtain ⟨j, rfl⟩ : ∃ j, i = j + 1 := ⟨i - 1, by omega⟩
      exact (h (j + 2) (by simp only [List.length_cons]; omega)).2 (by omega)
theorem MayP.rise {h : Hd} {ps : List Pl} (H : MayP h ps) : RiseL h.k.up ps := rise_of ps _ (fun i hi => ⟨fun _ => (H.2.2 i hi).1.1, (H.2.2 i hi).2.1⟩)
theorem edge_far : ∀ (ps : List Pl) (u v : Int), RiseL v ps → u + 1 ≤ v → edgeF u (decd ps) = u
  | [], u, v, _, _ => rfl
  | p :: r, u, v, h, hv => by
    have h1 := h.1
    have h2 := edge_far r u p.n h.2 (by omega)
    unfold decd at h2 ⊢
    rw [List.filterMap_cons]
    cases hd : p.i.d
    · simpa using h2
    · simp only [if_true]
      exact (show (if p.n = u + 1 then edgeF p.n _ else u) = u from if_neg (by omega))
theorem edge_ref : ∀ (ps : List Pl) (u : Int), RiseL u ps → edgeF u (decd ps) = u + refK u ps
  | [], u, _ => by simp [decd, edgeF, refK]
  | p :: r, u, h => by
    have h1 := h.1
    have h2 := h.2
    by_cases hd : p.i.d = true
    · have hdec : decd (p :: r) = (p.n, p.i.c) :: decd r := by simp [decd, hd]
      rw [hdec]
      by_cases hn : p.n = u + 1
      · have hk : refK u (p :: r) = refK (u + 1) r + 1 := show (if p.n = u + 1 ∧ p.i.d = true then refK (u + 1) r + 1 else 0) = refK (u + 1) r + 1 from if_pos ⟨hn, hd⟩
        have he : edgeF u ((p.n, p.i.c) :: decd r) = edgeF p.n (decd r) := show (if p.n = u + 1 then edgeF p.n (decd r) else u) = edgeF p.n (decd r) from if_pos hn
        rw [he, hk, hn, edge_ref r (u + 1) (hn ▸ h2)]
        omega
      · have hk : refK u (p :: r) = 0 := show (if p.n = u + 1 ∧ p.i.d = true then refK (u + 1) r + 1 else 0) = 0 from if_neg (fun e => hn e.1)
        have he : edgeF u ((p.n, p.i.c) :: decd r) = u := show (if p.n = u + 1 then edgeF p.n (decd r) else u) = u from if_neg hn
        rw [he, hk]; omega
    · have hdec : decd (p :: r) = decd r := by simp [decd, hd]
      have hk : refK u (p :: r) = 0 := show (if p.n = u + 1 ∧ p.i.d = true then refK (u + 1) r + 1 else 0) = 0 from if_neg (fun e => hd e.2)
      rw [hdec, hk, edge_far r u p.n h2 (by omega)]; omega
theorem refN_K : ∀ (ps : List Pl) (u : Int) (k : Nat), refN u ps k → (k < ps.length → ¬ ((pAt ps k).n = u + k + 1 ∧ (pAt ps k).i.d = true)) → k = refK u ps
  | [], u, k, h, _ => by have := h.1; simp at this; subst this; rfl
  | p :: r, u, 0, h, hs => by
    have := hs (by simp)
    exact (show (if p.n = u + 1 ∧ p.i.d = true then refK (u + 1) r + 1 else 0) = 0 from if_neg (fun e => this ⟨by show p.n = u + ((0 : Nat) : Int) + 1; rw [e.1]; omega, e.2⟩)).symm
  | p :: r, u, k + 1, h, hs => by
    have h0 : p.n = u + ((0 : Nat) : Int) + 1 ∧ p.i.d = true := h.2 0 (by omega)
    rw [show refK u (p :: r) = refK (u + 1) r + 1 from (show (if p.n = u + 1 ∧ p.i.d = true then refK (u + 1) r + 1 else 0) = refK (u + 1) r + 1 from if_pos ⟨by omega, h0.2⟩)]
    have := refN_K r (u + 1) k ⟨by have := h.1; simp only [List.length_cons] at this; omega, fun j hj => by
      have h1 : (pAt r j).n = u + ((j + 1 : Nat) : Int) + 1 ∧ (pAt r j).i.d = true := h.2 (j + 1) (by omega)
      exact ⟨by omega, h1.2⟩⟩ (fun hk e => hs (by simp only [List.length_cons]; omega) ⟨by show (pAt r k).n = u + ((k + 1 : Nat) : Int) + 1; omega, e.2⟩)
    omega
theorem MayP.edge {h : Hd} {ps : List Pl} (H : MayP h ps) {k : Nat} (h1 : refN h.k.up ps k) (h2 : k < ps.length → ¬ ((pAt ps k).n = h.k.up + k + 1 ∧ (pAt ps k).i.d = true)) : h.k.up + k = edgeF h.k.up (decd ps) := by
  rw [edge_ref ps _ H.rise, ← refN_K ps _ k h1 h2]
theorem decd_mem {ps : List Pl} {x : Int × Cm} (h : x ∈ decd ps) : ∃ i, i < ps.length ∧ (pAt ps i).i.d = true ∧ x = ((pAt ps i).n, (pAt ps i).i.c) := by
  unfold decd at h
  obtain ⟨p, hp, hx⟩ := List.mem_filterMap.1 h
  obtain ⟨i, hi, rfl⟩ := List.mem_iff_getElem.1 hp
  have e : pAt ps i = ps[i] := by unfold pAt; rw [List.getElem?_eq_getElem hi]; rfl
  cases hd : ps[i].i.d
  · rw [hd] at hx; simp at hx
  · rw [hd] at hx; simp at hx
    exact ⟨i, hi, by rw [e]; exact hd, by rw [e]; exact hx.symm⟩
theorem MayP.rng {h : Hd} {ps : List Pl} (H : MayP h ps) : Rng h.k.up ps := by
  refine ⟨by have := H.1; omega, fun x hx => ?_⟩
  obtain ⟨i, hi, _, rfl⟩ := decd_mem hx
  have h1 := (H.2.2 i hi).1
  have h2 := H.1
  show -4611686018427387904 ≤ (pAt ps i).n ∧ (pAt ps i).n ≤ 4611686018427387904
  omega
theorem edgeF_le : ∀ (l : List (Int × Cm)) (u : Int) (hi : Int), u ≤ hi → (∀ x ∈ l, x.1 ≤ hi) → u ≤ edgeF u l ∧ edgeF u l ≤ hi
  | [], u, hi, h, _ => ⟨Int.le_refl _, h⟩
  | x :: r, u, hi, h, hx => by
    show u ≤ (if x.1 = u + 1 then edgeF x.1 r else u) ∧ (if x.1 = u + 1 then edgeF x.1 r else u) ≤ hi
    split
    · rename_i e
      have h1 := edgeF_le r x.1 hi (hx x (by simp)) (fun y hy => hx y (by simp [hy]))
      exact ⟨by omega, h1.2⟩
    · exact ⟨Int.le_refl _, h⟩
theorem MayP.edge_le {h : Hd} {ps : List Pl} (H : MayP h ps) : 0 ≤ edgeF h.k.up (decd ps) ∧ edgeF h.k.up (decd ps) ≤ 1048576 := by
  have h1 := edgeF_le (decd ps) h.k.up 1048576 H.1.2 (fun x hx => by
    obtain ⟨i, hi, _, rfl⟩ := decd_mem hx
    exact (H.2.2 i hi).1.2)
  have := H.1
  omega
end Go.Proofs.Ytcgnbpaaalmkoaa
