import Derived.Test.YtcgnbpaaalmkoaaFe
namespace Go.Proofs.Ytcgnbpaaalmkoaa
open Go.RowKit
set_option linter.unusedVariables false
set_option linter.unusedSimpArgs false


/-- What is read behind something laid down, or behind a trim. -/
theorem at_ins : ∀ (ps : List Pl) (u kb : Int) (i : In) (q : Int), RiseL u ps → atF q (insP kb i ps) = if q = kb then i else atF q ps
 | [], u, kb, i, q, _ => by
  show (if kb = q then i else inZ) = _
  by_cases e : q = kb
  · rw [if_pos e, if_pos e.symm]
  · rw [if_neg e, if_neg (fun h => e h.symm)]; rfl
 | p :: r, u, kb, i, q, h => by
  have h1 := h.1
  show atF q (if kb ≤ p.n then (if p.n = kb then ⟨kb, i⟩ :: r else ⟨kb, i⟩ :: p :: r) else p :: insP kb i r) = _
  by_cases hk : kb ≤ p.n
  · rw [if_pos hk]
    by_cases hp : p.n = kb
    · rw [if_pos hp, atF_cons, atF_cons, hp]
      by_cases e : q = kb
      · rw [if_pos e, if_pos e.symm]
      · rw [if_neg e, if_neg (fun h => e h.symm), if_neg (fun h => e h.symm)]
    · rw [if_neg hp, atF_cons]
      by_cases e : q = kb
      · rw [if_pos e, if_pos e.symm]
      · rw [if_neg e, if_neg (fun h => e h.symm)]
  · rw [if_neg hk, atF_cons, atF_cons, at_ins r p.n kb i q h.2]
    by_cases e : q = kb
    · rw [if_pos e, if_pos e, if_neg (by omega)]
    · rw [if_neg e, if_neg e]
theorem at_fil : ∀ (ps : List Pl) (v q : Int), v < q → atF q (ps.filter (fun x => decide (v < x.n))) = atF q ps
 | [], v, q, _ => rfl
 | p :: r, v, q, h => by
  by_cases e : v < p.n
  · rw [List.filter_cons_of_pos (by simpa using e), atF_cons, atF_cons, at_fil r v q h]
  · rw [List.filter_cons_of_neg (by simpa using e), atF_cons, if_neg (by omega), at_fil r v q h]
theorem know_iff (h : Hd) (ps : List Pl) (i : Int) : knowB h ps i = true ↔ i ≤ h.k.up ∨ (atF i ps).d = true := by
 unfold knowB; simp
/-- What is known stays known. -/
theorem know_ins {h : Hd} {ps : List Pl} (H : MayP h ps) {s' : Sl} {kb : Int} {i : In} (hd : i.d = true) (q : Int) (hq : knowB h ps q = true) : knowB ⟨h.b, h.k, s'⟩ (insP kb i ps) q = true := by
 rw [know_iff] at hq ⊢
 rcases hq with e | e
 · exact .inl e
 · right
   rw [at_ins ps _ kb i q H.rise]
   split
   · exact hd
   · exact e
theorem know_new {h : Hd} {ps : List Pl} (H : MayP h ps) {s' : Sl} {kb : Int} {i : In} (hd : i.d = true) : knowB ⟨h.b, h.k, s'⟩ (insP kb i ps) kb = true := by
 rw [know_iff]; right
 rw [at_ins ps _ kb i kb H.rise, if_pos rfl]; exact hd
theorem know_fil {h : Hd} {ps : List Pl} {s' : Sl} {k : Bv} (hu : h.k.up ≤ k.up) (q : Int) (hq : knowB h ps q = true) : knowB ⟨h.b, k, s'⟩ (ps.filter (fun x => decide (k.up < x.n))) q = true := by
 rw [know_iff] at hq ⊢
 by_cases e : q ≤ k.up
 · exact .inl e
 · rcases hq with f | f
   · exact absurd (Int.le_trans f hu) e
   · right; rw [at_fil ps k.up q (by omega)]; exact f
/-- How far all is known. -/
theorem ref_ge : ∀ (ps : List Pl) (u : Int) (j : Nat), RiseL u ps → (∀ i : Int, u < i → i ≤ u + j → (atF i ps).d = true) → j ≤ refK u ps
 | ps, u, 0, _, _ => Nat.zero_le _
 | [], u, j + 1, _, h => by have := h (u + 1) (by omega) (by omega); simp [atF, inZ] at this
 | p :: r, u, j + 1, h, hk => by
  have h1 := h.1
  have h2 := hk (u + 1) (by omega) (by omega)
  rw [atF_cons] at h2
  by_cases e : p.n = u + 1
  · rw [if_pos e] at h2
    have e2 : refK u (p :: r) = refK (u + 1) r + 1 := show (if p.n = u + 1 ∧ p.i.d = true then refK (u + 1) r + 1 else 0) = refK (u + 1) r + 1 from if_pos ⟨e, h2⟩
    rw [e2]
    have := ref_ge r (u + 1) j (e ▸ h.2) (fun i hi hj => by
     have h3 := hk i (by omega) (by omega)
     rw [atF_cons, if_neg (by omega)] at h3
     exact h3)
    omega
  · rw [if_neg e, at_far r (u + 1) p.n h.2 (by omega)] at h2
    simp [inZ] at h2
theorem ref_at : ∀ (ps : List Pl) (u i : Int), RiseL u ps → u < i → i ≤ u + refK u ps → (atF i ps).d = true
 | [], u, i, _, h1, h2 => by simp [refK] at h2; omega
 | p :: r, u, i, h, h1, h2 => by
  by_cases e : p.n = u + 1 ∧ p.i.d = true
  · have e2 : refK u (p :: r) = refK (u + 1) r + 1 := show (if p.n = u + 1 ∧ p.i.d = true then refK (u + 1) r + 1 else 0) = refK (u + 1) r + 1 from if_pos e
    rw [e2] at h2
    rw [atF_cons]
    by_cases f : p.n = i
    · rw [if_pos f]; exact e.2
    · rw [if_neg f]
      exact ref_at r (u + 1) i (e.1 ▸ h.2) (by omega) (by omega)
  · have e2 : refK u (p :: r) = 0 := show (if p.n = u + 1 ∧ p.i.d = true then refK (u + 1) r + 1 else 0) = 0 from if_neg e
    rw [e2] at h2
    omega
theorem ref_len : ∀ (ps : List Pl) (u : Int), refK u ps ≤ ps.length
 | [], u => Nat.le_refl _
 | p :: r, u => by
  show (if p.n = u + 1 ∧ p.i.d = true then refK (u + 1) r + 1 else 0) ≤ _
  have := ref_len r (u + 1)
  split <;> simp <;> omega
theorem know_edge {h : Hd} {ps : List Pl} (H : MayP h ps) (i : Int) (hi : i ≤ edgeF h.k.up (decd ps)) : knowB h ps i = true := by
 rw [know_iff]
 rw [edge_ref ps h.k.up H.rise] at hi
 by_cases e : i ≤ h.k.up
 · exact .inl e
 · exact .inr (ref_at ps h.k.up i H.rise (by omega) hi)
/-- The law's edge is the edge. -/
theorem edL_eq {h : Hd} {ps : List Pl} (H : MayP h ps) (hl : ps.length = h.r.l) {n : Nat} (h1 : h.k.up ≤ n) (h3 : ∀ i : Nat, 1 ≤ i → i ≤ n → knowB h ps i = true) (h4 : ¬ ((n : Int) ≤ h.k.up + h.r.l ∧ knowB h ps ((n + 1 : Nat) : Int) = true)) : ((n : Nat) : Int) = edgeF h.k.up (decd ps) := by
 have h0 := H.1.1
 rw [edge_ref ps h.k.up H.rise]
 have hlen := ref_len ps h.k.up
 have hge := ref_ge ps h.k.up ((n : Int) - h.k.up).toNat H.rise (fun i hi hj => by
  have h5 := h3 i.toNat (by omega) (by omega)
  rw [know_iff] at h5
  rcases h5 with e | e
  · omega
  · rw [show ((i.toNat : Nat) : Int) = i by omega] at e; exact e)
 by_cases e : ((n : Nat) : Int) < h.k.up + refK h.k.up ps
 · refine absurd ⟨by omega, ?_⟩ h4
   rw [know_iff]
   exact .inr (ref_at ps h.k.up _ H.rise (by omega) (by omega))
 · omega
theorem edge_mono {h g : Hd} {ps qs : List Pl} (H : MayP h ps) (G : MayP g qs) (hm : ∀ i, knowB h ps i = true → knowB g qs i = true) : edgeF h.k.up (decd ps) ≤ edgeF g.k.up (decd qs) := by
 rw [edge_ref qs g.k.up G.rise]
 have hge := ref_ge qs g.k.up (edgeF h.k.up (decd ps) - g.k.up).toNat G.rise (fun i hi hj => by
  have h5 := hm i (know_edge H i (by omega))
  rw [know_iff] at h5
  rcases h5 with e | e
  · omega
  · exact e)
 omega
/-- Nothing is known past the top. -/
theorem at_mem : ∀ (ps : List Pl) (q : Int), (atF q ps).d = true → ∃ x ∈ ps, x.n = q ∧ x.i.d = true ∧ atF q ps = x.i
 | [], q, h => by simp [atF, inZ] at h
 | p :: r, q, h => by
  rw [atF_cons] at h
  by_cases e : p.n = q
  · rw [if_pos e] at h
    exact ⟨p, by simp, e, h, by rw [atF_cons, if_pos e]⟩
  · rw [if_neg e] at h
    obtain ⟨x, hx, h1, h2, h3⟩ := at_mem r q h
    exact ⟨x, List.mem_cons_of_mem _ hx, h1, h2, by rw [atF_cons, if_neg e]; exact h3⟩
theorem top_ge : ∀ (ps : List Pl) (u v : Int), RiseL u ps → v ≤ u → v ≤ topF v (decd ps) ∧ ∀ x ∈ ps, x.i.d = true → x.n ≤ topF v (decd ps)
 | [], u, v, _, _ => ⟨Int.le_refl _, fun x hx => by cases hx⟩
 | p :: r, u, v, h, hv => by
  have h1 := h.1
  by_cases hd : p.i.d = true
  · have e : decd (p :: r) = (p.n, p.i.c) :: decd r := by simp [decd, hd]
    rw [e]
    show v ≤ topF p.n (decd r) ∧ _
    have ih := top_ge r p.n p.n h.2 (Int.le_refl _)
    refine ⟨by omega, fun x hx hxd => ?_⟩
    show x.n ≤ topF p.n (decd r)
    rcases List.mem_cons.1 hx with e | e
    · rw [e]; exact ih.1
    · exact ih.2 x e hxd
  · have e : decd (p :: r) = decd r := by simp [decd, hd]
    rw [e]
    have ih := top_ge r p.n v h.2 (by omega)
    refine ⟨ih.1, fun x hx hxd => ?_⟩
    rcases List.mem_cons.1 hx with f | f
    · rw [f] at hxd; exact absurd hxd hd
    · exact ih.2 x f hxd
theorem know_top {h : Hd} {ps : List Pl} (H : MayP h ps) (i : Int) (hk : knowB h ps i = true) : i ≤ topF h.k.up (decd ps) := by
 have ht := top_ge ps h.k.up h.k.up H.rise (Int.le_refl _)
 rw [know_iff] at hk
 rcases hk with e | e
 · omega
 · obtain ⟨x, hx, h1, h2, _⟩ := at_mem ps i e
   rw [← h1]; exact ht.2 x hx h2

end Go.Proofs.Ytcgnbpaaalmkoaa
