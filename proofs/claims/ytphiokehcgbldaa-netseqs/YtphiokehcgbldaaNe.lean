import Derived.Test.YtphiokehcgbldaaNc
namespace Go.Proofs.Ytphiokehcgbldaa
open Go.RowKit
set_option linter.unusedVariables false
set_option linter.unusedSimpArgs false

/-- A packet under way: its name, to whom, where its bytes lie, what they are, its place. -/
structure Pq where
  nm : Nm
  to' : Ad
  da : Option Addr
  dc : Nat
  zs : List Int
  pl : Nat
def isN (k : Nm) (q : Pq) : Bool := decide (q.nm = k)
def isP (p : Pr) (q : Pq) : Bool := decide ((q.nm.1, q.to') = p)
def pls (L : List Pq) (k : Nm) : List Nat := (L.filter (isN k)).map (·.pl)
def cnP (L : List Pq) (p : Pr) : Nat := (L.filter (isP p)).length
def alV (q : Pq) (pv : Value) : Value := .agg #[.bool q.to'.1, .int .i64 q.to'.2, .slice q.da q.zs.length q.dc, pv]
def plV (P : Nm → Nat × Nat × Nat) (k : Nm) (n : Nat) : Value := .slice (some ⟨(P k).1, (P k).2.1, none⟩) n (P k).2.2
def gS (f : Ad → Nat) : Ad → Option Value := fun a => if f a = 0 then none else some (.int .i64 (f a : Nat))
def gP (L : List Pq) : Pr → Option Value := fun p => if cnP L p = 0 then none else some (.int .i64 (cnP L p : Nat))
def gN (L : List Pq) (P : Nm → Nat × Nat × Nat) : Nm → Option Value := fun k => (L.find? (isN k)).map fun q => alV q (plV P k (pls L k).length)
structure Ns where
  sent : Ad → Nat
  L : List Pq
  came : Nat
def ns0 : Ns := ⟨fun _ => 0, [], 0⟩
def SameP (p q : Pq) : Prop := p.to' = q.to' ∧ p.da = q.da ∧ p.dc = q.dc ∧ p.zs = q.zs
structure NOk (s : Ns) : Prop where
  ris : s.L.Pairwise (fun p q => p.pl < q.pl)
  le : ∀ q ∈ s.L, q.pl ≤ s.came
  alike : ∀ p ∈ s.L, ∀ q ∈ s.L, p.nm = q.nm → SameP p q
  cnt : ∀ q ∈ s.L, 1 ≤ q.nm.2 ∧ q.nm.2 ≤ (s.sent q.nm.1 : Nat)
  way : ∀ p, cnP s.L p ≤ 64
theorem ns0_ok : NOk ns0 := ⟨List.Pairwise.nil, fun q h => by simp [ns0] at h, fun q h => by simp [ns0] at h, fun q h => by simp [ns0] at h, fun p => by simp [ns0, cnP]⟩
theorem isN_iff {k : Nm} {q : Pq} : isN k q = true ↔ q.nm = k := by simp [isN]
theorem isP_iff {p : Pr} {q : Pq} : isP p q = true ↔ (q.nm.1, q.to') = p := by simp [isP]
theorem pls_add (L : List Pq) (q : Pq) (k : Nm) : pls (L ++ [q]) k = pls L k ++ (if q.nm = k then [q.pl] else []) := by
  unfold pls
  rw [List.filter_append, List.map_append]
  by_cases h : q.nm = k
  · simp [isN, h]
  · simp [isN, h]
theorem cnP_add (L : List Pq) (q : Pq) (p : Pr) : cnP (L ++ [q]) p = cnP L p + (if (q.nm.1, q.to') = p then 1 else 0) := by
  unfold cnP
  rw [List.filter_append, List.length_append]
  by_cases h : (q.nm.1, q.to') = p
  · simp [isP, h]
  · simp [isP, h]
theorem gP_add (L : List Pq) (q : Pq) : gP (L ++ [q]) = upG (gP L) (q.nm.1, q.to') (some (.int .i64 ((cnP L (q.nm.1, q.to') + 1 : Nat) : Int))) := by
  funext p
  unfold gP upG
  rw [cnP_add]
  by_cases h : (q.nm.1, q.to') = p
  · rw [if_pos h, if_pos h.symm, if_neg (by omega), h]
  · rw [if_neg h, if_neg (Ne.symm h), Nat.add_zero]
theorem gP_get (L : List Pq) (p : Pr) : (gP L p).getD (.int .i64 0) = .int .i64 ((cnP L p : Nat) : Int) := by
  unfold gP
  split
  · rename_i h; rw [h]; rfl
  · rfl
theorem gS_get (f : Ad → Nat) (a : Ad) : (gS f a).getD (.int .i64 0) = .int .i64 ((f a : Nat) : Int) := by
  unfold gS
  split
  · rename_i h; rw [h]; rfl
  · rfl
theorem gS_up (f : Ad → Nat) (a : Ad) : upG (gS f) a (some (.int .i64 ((f a + 1 : Nat) : Int))) = gS (fun x => if x = a then f a + 1 else f x) := by
  funext x
  unfold gS upG
  by_cases h : x = a
  · simp [h]
  · simp [h]
def upP (P : Nm → Nat × Nat × Nat) (k : Nm) (v : Nat × Nat × Nat) : Nm → Nat × Nat × Nat := fun x => if x = k then v else P x
theorem find_mem {L : List Pq} {k : Nm} {q : Pq} (h : L.find? (isN k) = some q) : q ∈ L ∧ q.nm = k := ⟨List.mem_of_find?_eq_some h, isN_iff.1 (List.find?_some h)⟩
theorem find_none {L : List Pq} {k : Nm} (h : L.find? (isN k) = none) : pls L k = [] ∧ ∀ q ∈ L, q.nm ≠ k := by
  have h' := List.find?_eq_none.1 h
  refine ⟨?_, fun q hq e => h' q hq (isN_iff.2 e)⟩
  unfold pls
  rw [List.map_eq_nil_iff, List.filter_eq_nil_iff]
  exact h'
theorem pls_pos {L : List Pq} {k : Nm} {q : Pq} (hq : q ∈ L) (h : q.nm = k) : 0 < (pls L k).length := by
  unfold pls
  rw [List.length_map]
  exact List.length_pos_of_mem (List.mem_filter.2 ⟨hq, isN_iff.2 h⟩)
theorem sameP_al {p q : Pq} (h : SameP p q) (v : Value) : alV p v = alV q v := by
  unfold alV
  rw [h.1, h.2.1, h.2.2.1, h.2.2.2]
theorem gN_add {s : Ns} (ok : NOk s) (q : Pq) (hs : ∀ p ∈ s.L, p.nm = q.nm → SameP p q) (P : Nm → Nat × Nat × Nat) (v : Nat × Nat × Nat) : gN (s.L ++ [q]) (upP P q.nm v) = upG (gN s.L P) q.nm (some (alV q (plV (upP P q.nm v) q.nm ((pls s.L q.nm).length + 1)))) := by
  funext k
  unfold gN upG
  rw [List.find?_append, pls_add]
  by_cases h : k = q.nm
  · subst h
    rw [if_pos rfl, if_pos rfl, List.length_append, List.length_singleton]
    cases hf : s.L.find? (isN q.nm) with
    | none => simp [isN]
    | some p =>
      obtain ⟨h1, h2⟩ := find_mem hf
      simp only [Option.some_or, Option.map_some]
      rw [sameP_al (hs p h1 h2)]
  · have h' : ¬ q.nm = k := fun e => h e.symm
    rw [if_neg h, if_neg h', List.append_nil]
    have hq : [q].find? (isN k) = none := by simp [isN, h']
    rw [hq, Option.or_none]
    have hv : plV (upP P q.nm v) k = plV P k := by funext n; simp [plV, upP, h]
    rw [hv]
theorem pls_le {s : Ns} (ok : NOk s) (k : Nm) : (pls s.L k).length ≤ 64 := by
  cases hf : s.L.find? (isN k) with
  | none => rw [(find_none hf).1]; simp
  | some q =>
    obtain ⟨h1, h2⟩ := find_mem hf
    refine Nat.le_trans ?_ (ok.way (k.1, q.to'))
    unfold pls cnP
    rw [List.length_map, ← List.countP_eq_length_filter, ← List.countP_eq_length_filter]
    refine List.countP_mono_left (fun p hp e => ?_)
    have e := isN_iff.1 e
    rw [isP_iff, e, (ok.alike p hp q h1 (e.trans h2.symm)).1]
theorem ok_add {s : Ns} (ok : NOk s) (q : Pq) (hs : ∀ p ∈ s.L, p.nm = q.nm → SameP p q) (hc : 1 ≤ q.nm.2 ∧ q.nm.2 ≤ (s.sent q.nm.1 : Nat)) (hw : cnP s.L (q.nm.1, q.to') < 64) (hp : q.pl = s.came + 1) : NOk ⟨s.sent, s.L ++ [q], s.came + 1⟩ where
  ris := by
    rw [List.pairwise_append]
    refine ⟨ok.ris, List.pairwise_singleton _ _, fun p hp' r hr => ?_⟩
    rw [List.mem_singleton.1 hr]
    have := ok.le p hp'
    omega
  le := fun p hp' => by
    rcases List.mem_append.1 hp' with h | h
    · have := ok.le p h; show p.pl ≤ s.came + 1; omega
    · rw [List.mem_singleton.1 h]; show q.pl ≤ s.came + 1; omega
  alike := fun p hp' r hr e => by
    rcases List.mem_append.1 hp' with h | h <;> rcases List.mem_append.1 hr with h' | h'
    · exact ok.alike p h r h' e
    · rw [List.mem_singleton.1 h'] at e ⊢; exact hs p h e
    · rw [List.mem_singleton.1 h] at e ⊢
      obtain ⟨a, b, c, d⟩ := hs r h' e.symm
      exact ⟨a.symm, b.symm, c.symm, d.symm⟩
    · rw [List.mem_singleton.1 h, List.mem_singleton.1 h']; exact ⟨rfl, rfl, rfl, rfl⟩
  cnt := fun p hp' => by
    rcases List.mem_append.1 hp' with h | h
    · exact ok.cnt p h
    · rw [List.mem_singleton.1 h]; exact hc
  way := fun p => by
    show cnP (s.L ++ [q]) p ≤ 64
    rw [cnP_add]
    by_cases h : (q.nm.1, q.to') = p
    · rw [if_pos h, ← h]; omega
    · rw [if_neg h]; have := ok.way p; omega
/-- The first of a name leaves. -/
def rmN (k : Nm) (L : List Pq) : List Pq := L.eraseP (isN k)
theorem pls_rm (k j : Nm) : ∀ L : List Pq, pls (rmN k L) j = if j = k then (pls L j).tail else pls L j
  | [] => by simp [rmN, pls]
  | q :: L => by
    have ih := pls_rm k j L
    unfold rmN pls at *
    by_cases h : q.nm = k
    · rw [List.eraseP_cons_of_pos (isN_iff.2 h)]
      by_cases e : j = k
      · subst e
        rw [if_pos rfl, List.filter_cons_of_pos (isN_iff.2 h)]
        rfl
      · rw [if_neg e, List.filter_cons_of_neg (fun f => e ((isN_iff.1 f).symm.trans h))]
    · rw [List.eraseP_cons_of_neg (fun f => h (isN_iff.1 f))]
      by_cases e : q.nm = j
      · have ne : ¬ j = k := fun f => h (e.trans f)
        rw [if_neg ne] at ih ⊢
        rw [List.filter_cons_of_pos (isN_iff.2 e), List.filter_cons_of_pos (isN_iff.2 e), List.map_cons, List.map_cons, ih]
      · rw [List.filter_cons_of_neg (fun f => e (isN_iff.1 f)), List.filter_cons_of_neg (fun f => e (isN_iff.1 f)), ih]
theorem cnP_rm (k : Nm) (p : Pr) : ∀ (L : List Pq) (q : Pq), L.find? (isN k) = some q → cnP L p = cnP (rmN k L) p + (if (q.nm.1, q.to') = p then 1 else 0)
  | [], q, h => by simp at h
  | r :: L, q, h => by
    unfold rmN cnP at *
    by_cases hr : r.nm = k
    · rw [List.find?_cons_of_pos (isN_iff.2 hr)] at h
      cases h
      rw [List.eraseP_cons_of_pos (isN_iff.2 hr)]
      by_cases e : (r.nm.1, r.to') = p
      · rw [if_pos e, List.filter_cons_of_pos (isP_iff.2 e)]; rfl
      · rw [if_neg e, List.filter_cons_of_neg (fun f => e (isP_iff.1 f))]; rfl
    · rw [List.find?_cons_of_neg (fun f => hr (isN_iff.1 f))] at h
      have ih := cnP_rm k p L q h
      unfold rmN cnP at ih
      rw [List.eraseP_cons_of_neg (fun f => hr (isN_iff.1 f))]
      by_cases e : (r.nm.1, r.to') = p
      · rw [List.filter_cons_of_pos (isP_iff.2 e), List.filter_cons_of_pos (isP_iff.2 e), List.length_cons, List.length_cons]; omega
      · rw [List.filter_cons_of_neg (fun f => e (isP_iff.1 f)), List.filter_cons_of_neg (fun f => e (isP_iff.1 f))]; exact ih
theorem rm_sub (k : Nm) (L : List Pq) : (rmN k L).Sublist L := List.eraseP_sublist
theorem ok_rm {s : Ns} (ok : NOk s) (k : Nm) : NOk ⟨s.sent, rmN k s.L, s.came⟩ where
  ris := ok.ris.sublist (rm_sub k s.L)
  le := fun q hq => ok.le q ((rm_sub k s.L).subset hq)
  alike := fun p hp q hq => ok.alike p ((rm_sub k s.L).subset hp) q ((rm_sub k s.L).subset hq)
  cnt := fun q hq => ok.cnt q ((rm_sub k s.L).subset hq)
  way := fun p => Nat.le_trans (List.Sublist.length_le ((rm_sub k s.L).filter _)) (ok.way p)
theorem rm_find {s : Ns} (ok : NOk s) {k : Nm} {q : Pq} (h : s.L.find? (isN k) = some q) (j : Nm) (f : Pq → Value) (hf : ∀ p r, SameP p r → f p = f r) : ((rmN k s.L).find? (isN j)).map f = if j = k then (if (pls s.L k).tail = [] then none else some (f q)) else (s.L.find? (isN j)).map f := by
  by_cases e : j = k
  · subst e
    rw [if_pos rfl]
    cases hr : (rmN j s.L).find? (isN j) with
    | none =>
      have := (find_none hr).1
      rw [pls_rm, if_pos rfl] at this
      rw [if_pos this]; rfl
    | some p =>
      obtain ⟨h1, h2⟩ := find_mem hr
      have := pls_pos h1 h2
      rw [pls_rm, if_pos rfl] at this
      rw [if_neg (fun e => by rw [e] at this; simp at this)]
      obtain ⟨h3, h4⟩ := find_mem h
      simp only [Option.map_some]
      rw [hf p q (ok.alike p ((rm_sub j s.L).subset h1) q h3 (h2.trans h4.symm))]
  · rw [if_neg e]
    congr 1
    clear h
    generalize s.L = L
    unfold rmN
    induction L with
    | nil => rfl
    | cons r L ih =>
      by_cases hr : r.nm = k
      · rw [List.eraseP_cons_of_pos (isN_iff.2 hr), List.find?_cons_of_neg (fun f => e ((isN_iff.1 f).symm.trans hr))]
      · rw [List.eraseP_cons_of_neg (fun f => hr (isN_iff.1 f))]
        by_cases hj : r.nm = j
        · rw [List.find?_cons_of_pos (isN_iff.2 hj), List.find?_cons_of_pos (isN_iff.2 hj)]
        · rw [List.find?_cons_of_neg (fun f => hj (isN_iff.1 f)), List.find?_cons_of_neg (fun f => hj (isN_iff.1 f)), ih]
theorem rm_none {L : List Pq} {k : Nm} (h : L.find? (isN k) = none) : rmN k L = L := by
  unfold rmN
  exact List.eraseP_of_forall_not (fun a ha f => (find_none h).2 a ha (isN_iff.1 f))

end Go.Proofs.Ytphiokehcgbldaa
