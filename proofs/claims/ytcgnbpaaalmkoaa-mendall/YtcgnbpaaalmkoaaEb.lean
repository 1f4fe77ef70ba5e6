import Derived.Test.YtcgnbpaaalmkoaaDc
namespace Go.Proofs.Ytcgnbpaaalmkoaa
open Go.RowKit
set_option linter.unusedVariables false
set_option linter.unusedSimpArgs false

def insP (kb : Int) (i : In) : List Pl → List Pl
 | [] => [⟨kb, i⟩]
 | x :: r => if kb ≤ x.n then (if x.n = kb then ⟨kb, i⟩ :: r else ⟨kb, i⟩ :: x :: r) else x :: insP kb i r
/-- A place that may be; what may be is kept by what is laid down. -/
def GoodP (x : Pl) : Prop := x.n ≤ 1048576 ∧ (x.i.d = true → x.i.p = spZ ∧ x.i.a = spZ ∧ 1 ≤ x.i.c.k)
theorem rise_low : ∀ (ps : List Pl) (u v : Int), RiseL u ps → v ≤ u → ∀ x ∈ ps, v < x.n
 | [], u, v, _, _, x, hx => by cases hx
 | p :: r, u, v, h, hv, x, hx => by
  rcases List.mem_cons.1 hx with e | e
  · subst e; have := h.1; omega
  · exact rise_low r p.n v h.2 (by have := h.1; omega) x e
theorem rise_at : ∀ (ps : List Pl) (u : Int), RiseL u ps → ∀ i, i < ps.length → (0 < i → (pAt ps (i - 1)).n < (pAt ps i).n)
 | [], u, _, i, hi => by simp at hi
 | p :: r, u, h, 0, _ => fun e => absurd e (Nat.lt_irrefl _)
 | p :: r, u, h, 1, hi => fun _ => by
  cases r with
  | nil => simp at hi
  | cons q r' => exact h.2.1
 | p :: r, u, h, i + 2, hi => fun _ => rise_at r p.n h.2 (i + 1) (by simp only [List.length_cons] at hi; omega) (by omega)
theorem may_of {u : Int} {ps : List Pl} (h : RiseL u ps) (hg : ∀ x ∈ ps, GoodP x) : MayR u ps ps.length := by
 intro i hi
 have hm : pAt ps i ∈ ps := List.mem_of_getElem? (pAt_some hi)
 have g := hg _ hm
 exact ⟨⟨rise_low ps u u h (Int.le_refl _) _ hm, g.1⟩, rise_at ps u h i hi, g.2⟩
theorem good_of {u : Int} {ps : List Pl} (h : MayR u ps ps.length) : ∀ x ∈ ps, GoodP x := by
 intro x hx
 obtain ⟨i, hi, rfl⟩ := List.mem_iff_getElem.1 hx
 have e : pAt ps i = ps[i] := by unfold pAt; rw [List.getElem?_eq_getElem hi]; rfl
 have := h i hi
 rw [e] at this
 exact ⟨this.1.2, this.2.2⟩
theorem rise_len : ∀ (ps : List Pl) (u N : Int), RiseL u ps → (∀ x ∈ ps, x.n ≤ N) → u ≤ N → ((ps.length : Nat) : Int) ≤ N - u
 | [], u, N, _, _, h => by simp; omega
 | p :: r, u, N, h, hN, hu => by
  have h1 := h.1
  have h2 := hN p (by simp)
  have := rise_len r p.n N h.2 (fun x hx => hN x (by simp [hx])) h2
  simp only [List.length_cons]
  omega
theorem MayP.len {h : Hd} {ps : List Pl} (H : MayP h ps) : ps.length ≤ 1048577 := by
 have h1 := rise_len ps h.k.up 1048576 H.rise (fun x hx => (good_of H.2.2 x hx).1) H.1.2
 have := H.1
 omega
theorem ins_rise : ∀ (ps : List Pl) (u kb : Int) (i : In), RiseL u ps → u < kb → RiseL u (insP kb i ps)
 | [], u, kb, i, _, hu => ⟨hu, trivial⟩
 | p :: r, u, kb, i, h, hu => by
  show RiseL u (if kb ≤ p.n then (if p.n = kb then ⟨kb, i⟩ :: r else ⟨kb, i⟩ :: p :: r) else p :: insP kb i r)
  split
  · split
    · rename_i e
      have h2 := h.2
      rw [e] at h2
      exact ⟨hu, h2⟩
    · rename_i h1 h2
      exact ⟨hu, ⟨by show kb < p.n; omega, h.2⟩⟩
  · rename_i h1
    exact ⟨h.1, ins_rise r p.n kb i h.2 (by omega)⟩
theorem ins_mem : ∀ (ps : List Pl) (kb : Int) (i : In) (x : Pl), x ∈ insP kb i ps → x = ⟨kb, i⟩ ∨ x ∈ ps
 | [], kb, i, x, h => by simp [insP] at h; exact .inl h
 | p :: r, kb, i, x, h => by
  have h : x ∈ (if kb ≤ p.n then (if p.n = kb then ⟨kb, i⟩ :: r else ⟨kb, i⟩ :: p :: r) else p :: insP kb i r) := h
  split at h
  · split at h
    · rcases List.mem_cons.1 h with e | e
      · exact .inl e
      · exact .inr (by simp [e])
    · rcases List.mem_cons.1 h with e | e
      · exact .inl e
      · exact .inr e
  · rcases List.mem_cons.1 h with e | e
    · exact .inr (by simp [e])
    · rcases ins_mem r kb i x e with e2 | e2
      · exact .inl e2
      · exact .inr (by simp [e2])
theorem fil_rise : ∀ (ps : List Pl) (u v : Int), RiseL u ps → RiseL v (ps.filter (fun x => decide (v < x.n)))
 | [], u, v, _ => trivial
 | p :: r, u, v, h => by
  have h2 := h.2
  rw [List.filter_cons]
  by_cases e : v < p.n
  · rw [if_pos (by simpa using e)]
    refine ⟨e, ?_⟩
    have hr := fil_rise r p.n v h2
    have hall : r.filter (fun x => decide (v < x.n)) = r := List.filter_eq_self.2 (fun x hx => by have := rise_low r p.n p.n h2 (Int.le_refl _) x hx; simp; omega)
    rw [hall]
    exact h2
  · rw [if_neg (by simpa using e)]
    exact fil_rise r p.n v h2
theorem MayP.ins {h : Hd} {ps : List Pl} (H : MayP h ps) {s' : Sl} {kb : Int} {i : In} (hk : h.k.up < kb) (hg : GoodP ⟨kb, i⟩) : MayP ⟨h.b, h.k, s'⟩ (insP kb i ps) :=
 ⟨H.1, H.2.1, may_of (ins_rise ps _ kb i H.rise hk) (fun x hx => by
  rcases ins_mem ps kb i x hx with e | e
  · rw [e]; exact hg
  · exact good_of H.2.2 x e)⟩
theorem MayP.fil {h : Hd} {ps : List Pl} (H : MayP h ps) {s' : Sl} {k : Bv} (h1 : 1 ≤ k.up) (h2 : k.up ≤ 1048576) : MayP ⟨h.b, k, s'⟩ (ps.filter (fun x => decide (k.up < x.n))) :=
 ⟨⟨by show 0 ≤ k.up; omega, h2⟩, fun e => by have e : k.up = 0 := e; omega, may_of (fil_rise ps _ k.up H.rise) (fun x hx => good_of H.2.2 x (List.mem_filter.1 hx).1)⟩
/-- A change that may be laid down. -/
def ChOk (u : Int) (c : Ch) : Prop := (c.ky.k == 1) = true ∨ ((c.ky.k == 1) = false ∧ (c.ky.k == 2) = true ∧ 1 ≤ c.bk.up ∧ c.bk.up ≤ 1048576) ∨ ((c.ky.k == 1) = false ∧ (c.ky.k == 2) = false ∧ u < c.ky.b ∧ GoodP ⟨c.ky.b, c.i⟩)
def QOk (q : Mg) (b : Hd) (t : Nat) : Prop := t = 0 ∨ (q.k = 21 ∧ q.ky.k = 2 ∧ b.k.up < q.st.n ∧ q.st.n ≤ 1048577 ∧ 1 ≤ t ∧ ((64 * (t - 1) + 1 : Nat) : Int) ≤ q.st.n)
theorem QOk.lt {q : Mg} {b : Hd} {t : Nat} (h : QOk q b t) : t < 17000 := by
 rcases h with h | ⟨_, _, _, h1, h2, h3⟩
 · omega
 · omega
theorem tab_cAt {c : Nat} {f : Nat → Cm} {i : Nat} (h : eqC (cAt (tab c f) i) cZ = false) : i < c ∧ cAt (tab c f) i = f i := by
 by_cases hi : i < c
 · refine ⟨hi, ?_⟩
   unfold cAt
   rw [tab_get hi]; rfl
 · have e : cAt (tab c f) i = cZ := by unfold cAt; rw [List.getElem?_eq_none (by rw [tab_len]; omega)]; rfl
   rw [e, eqC_refl] at h
   cases h
end Go.Proofs.Ytcgnbpaaalmkoaa
