import Derived.Test.YtgiokkcdgoloaaaUb
namespace Go.Proofs.Ytgiokkcdgoloaaa.Md
open Go.RowKit
set_option linter.unusedVariables false
set_option linter.unusedSimpArgs false

/-! P709, pure: stamps in their order, majorities, a machine that keeps to what the servers hold (no memory in it). -/
def sle (a b : Sp) : Prop := a.n < b.n ∨ (a.n = b.n ∧ a.c ≤ b.c)
def slt (a b : Sp) : Prop := a.n < b.n ∨ (a.n = b.n ∧ a.c < b.c)
theorem sle.refl (a : Sp) : sle a a := .inr ⟨rfl, Int.le_refl _⟩
theorem sle.trans {a b c : Sp} (h : sle a b) (k : sle b c) : sle a c := by unfold sle at *; omega
theorem sle.lt {a b c : Sp} (h : sle a b) (k : slt b c) : slt a c := by unfold sle slt at *; omega
theorem slt.le {a b c : Sp} (h : slt a b) (k : sle b c) : slt a c := by unfold sle slt at *; omega
theorem slt.sle {a b : Sp} (h : slt a b) : sle a b := by unfold Md.sle slt at *; omega
theorem slt.ne {a b : Sp} (h : slt a b) : a ≠ b := fun e => by subst e; unfold slt at h; omega
theorem ls_sle {a b : Bp} : lsP a b = true ↔ slt a.st b.st := by
  unfold lsP lessB slt
  simp
theorem ls_not {a b : Bp} (h : lsP a b = false) : sle b.st a.st := by
  unfold lsP lessB at h
  unfold sle
  simp at h
  omega
theorem best_max : ∀ (n : Nat) (l : List Bp), l.length = n → ∀ b ∈ l, sle b.st (bestB l).st := by
  intro n
  induction n with
  | zero => intro l hl b hb; rw [List.eq_nil_of_length_eq_zero hl] at hb; cases hb
  | succ n ih =>
    intro l hl b hb
    have hne : l ≠ [] := fun e => by rw [e] at hl; cases hl
    obtain ⟨l', x, rfl⟩ : ∃ l' x, l = l' ++ [x] := ⟨l.dropLast, l.getLast hne, (List.dropLast_concat_getLast hne).symm⟩
    have hl' : l'.length = n := by simpa using hl
    by_cases h0 : l' = []
    · subst h0
      have : b = x := by simpa using hb
      subst this
      have := best_mem (l := [b]) (by simp)
      rw [List.nil_append]
      rw [List.mem_singleton.1 this]
      exact sle.refl _
    · rw [best_snoc x h0]
      rcases List.mem_append.1 hb with h | h
      · have h1 := ih l' hl' b h
        split
        · rename_i hx; exact h1.trans (ls_sle.1 hx).sle
        · exact h1
      · have : b = x := by simpa using h
        subst this
        split
        · exact sle.refl _
        · rename_i hx; exact ls_not (by simpa using hx)
/-- More than half of the group. -/
def Maj (zs : List Int) (q : Int → Bool) : Prop := zs.length < 2 * zs.countP q
theorem meet_cnt (zs : List Int) (p q : Int → Bool) (h : zs.length < zs.countP p + zs.countP q) : ∃ a, a ∈ zs ∧ p a = true ∧ q a = true := by
  induction zs with
  | nil => simp at h
  | cons x l ih =>
    simp only [List.countP_cons, List.length_cons] at h
    cases hp : p x <;> cases hq : q x
    · rw [hp, hq] at h; simp at h; obtain ⟨a, ha, e⟩ := ih (by omega); exact ⟨a, List.mem_cons_of_mem _ ha, e⟩
    · rw [hp, hq] at h; simp at h; obtain ⟨a, ha, e⟩ := ih (by omega); exact ⟨a, List.mem_cons_of_mem _ ha, e⟩
    · rw [hp, hq] at h; simp at h; obtain ⟨a, ha, e⟩ := ih (by omega); exact ⟨a, List.mem_cons_of_mem _ ha, e⟩
    · exact ⟨x, List.mem_cons_self, hp, hq⟩
theorem Maj.meet {zs : List Int} {p q : Int → Bool} (h : Maj zs p) (k : Maj zs q) : ∃ a, a ∈ zs ∧ p a = true ∧ q a = true :=
  meet_cnt zs p q (by unfold Maj at h k; omega)
/-- Most had no more than t (less, if a block is laid anew) when it began; most hold t now. -/
def Low (zs : List Int) (B : Int → Sp) (wr : Bool) (t : Sp) : Prop := ∃ q, Maj zs q ∧ ∀ i, i ∈ zs → q i = true → if wr then slt (B i) t else sle (B i) t
def Hold (zs : List Int) (H : Int → Sp) (t : Sp) : Prop := ∃ q, Maj zs q ∧ ∀ i, i ∈ zs → q i = true → sle t (H i)
theorem Hold.low {zs : List Int} {B : Int → Sp} {wr : Bool} {a t : Sp} (h : Hold zs B a) (k : Low zs B wr t) : if wr then slt a t else sle a t := by
  obtain ⟨p, hp, h1⟩ := h
  obtain ⟨q, hq, h2⟩ := k
  obtain ⟨i, hi, e1, e2⟩ := hp.meet hq
  have a1 := h1 i hi e1
  have a2 := h2 i hi e2
  cases wr with
  | true => exact a1.lt a2
  | false => exact a1.trans a2
theorem Hold.mono {zs : List Int} {H H' : Int → Sp} {t : Sp} (h : Hold zs H t) (hH : ∀ i, sle (H i) (H' i)) : Hold zs H' t := by
  obtain ⟨q, hq, h1⟩ := h
  exact ⟨q, hq, fun i hi e => (h1 i hi e).trans (hH i)⟩
/-- What a machine is for: what it knows of the servers. B: what they held when it began; H: what they hold; V: a stamp and its block. -/
def PhK (zs : List Int) (B H : Int → Sp) (V : Sp → List Int → Prop) (s : RM) : Rp → Prop
  | .fresh => True
  | .ask X => X.g = zs ∧ X.need = s.need ∧ (cnt X : Int) < s.need ∧ ∀ i b, X.v i = some b → sle (B i) b.st ∧ sle b.st (H i) ∧ (s.isW = false → V b.st b.z)
  | .lay b U => U.g = zs ∧ U.need = s.need ∧ (cnt U : Int) < s.need ∧ (∀ i u, U.v i = some u → sle b.st (H i)) ∧ Low zs B s.isW b.st ∧ V b.st b.z ∧ (s.isW = true → b.st.c = s.cl ∧ s.aim = .wr b.z) ∧ ((∀ i, sle spZ (B i)) → slt spZ b.st)
  | .fin er st z => er = 0 → Low zs B s.isW st ∧ Hold zs H st ∧ (s.isW = false → V st z) ∧ (s.isW = true → st.c = s.cl ∧ z = [])
structure MK (zs : List Int) (B H : Int → Sp) (V : Sp → List Int → Prop) (s : RM) : Prop where
  gz : s.zs = zs
  ph : PhK zs B H V s s.ph
theorem MK.mono {zs : List Int} {B H H' : Int → Sp} {V V' : Sp → List Int → Prop} {s : RM} (h : MK zs B H V s) (hH : ∀ i, sle (H i) (H' i)) (hV : ∀ t z, V t z → V' t z) : MK zs B H' V' s := by
  refine ⟨h.gz, ?_⟩
  have hp := h.ph
  cases e : s.ph with
  | fresh => trivial
  | ask X =>
    rw [e] at hp
    obtain ⟨h1, h2, h3, h4⟩ := hp
    exact ⟨h1, h2, h3, fun i b hb => ⟨(h4 i b hb).1, (h4 i b hb).2.1.trans (hH i), fun hw => hV _ _ ((h4 i b hb).2.2 hw)⟩⟩
  | lay b U =>
    rw [e] at hp
    obtain ⟨h1, h2, h3, h4, h5, h6, h7⟩ := hp
    exact ⟨h1, h2, h3, fun i u hu => (h4 i u hu).trans (hH i), h5, hV _ _ h6, h7⟩
  | fin er st z =>
    rw [e] at hp
    intro h0
    obtain ⟨h1, h2, h3, h4⟩ := hp h0
    exact ⟨h1, h2.mono hH, fun hw => hV _ _ (h3 hw), h4⟩
theorem maj_cnt {α : Type} {zs : List Int} {X : TS α} (hg : X.g = zs) (h : (zs.length : Int) / 2 + 1 ≤ cnt X) : Maj zs (fun i => (X.v i).isSome) := by
  unfold Maj
  unfold cnt at h
  rw [hg] at h
  omega
end Go.Proofs.Ytgiokkcdgoloaaa.Md
namespace Go.Proofs.Ytgiokkcdgoloaaa.Md
open Go.RowKit
set_option linter.unusedVariables false
set_option linter.unusedSimpArgs false

theorem got_in {α : Type} {X : TS α} {b : α} (h : b ∈ (gotL X).map Prod.snd) : ∃ i, i ∈ X.g ∧ X.v i = some b := by
  rw [got_fm] at h
  exact List.mem_filterMap.1 h
theorem in_got {α : Type} {X : TS α} {i : Int} {b : α} (hi : i ∈ X.g) (h : X.v i = some b) : b ∈ (gotL X).map Prod.snd := by
  rw [got_fm]
  exact List.mem_filterMap.2 ⟨i, hi, h⟩
theorem may_cnt {α : Type} {X : TS α} {i : Int} {b : α} (hn : X.g.Nodup) (hm : mayB X i = true) : takeS X i b = putS X i b ∧ cnt (putS X i b) = cnt X + 1 ∧ i ∈ X.g := by
  have h : (i ∈ X.g ∧ (X.v i).isNone = true) ∧ enB X = false := by simpa [mayB] using hm
  exact ⟨if_pos hm, cnt_put hn h.1.1 (Option.isNone_iff_eq_none.1 h.1.2), h.1.1⟩
section
variable {zs : List Int} {B H : Int → Sp} {V : Sp → List Int → Prop} {s : RM}
/-- A block is laid, or the rounds are worn. -/
theorem lay_MK (hz : s.zs = zs) (hnd : zs.Nodup) {b : Bp} (h1 : Low zs B s.isW b.st) (h2 : V b.st b.z) (h3 : s.isW = true → b.st.c = s.cl ∧ s.aim = .wr b.z) (h4 : (∀ i, sle spZ (B i)) → slt spZ b.st) : MK zs B H V (layP s b).1 := by
  unfold layP
  split
  · exact ⟨hz, fun e => by cases e⟩
  · refine ⟨hz, (?_ : uq s.zs = zs), rfl, ?_, fun i u hu => (by cases hu), h1, h2, h3, h4⟩
    · rw [hz]; exact uq_nd hnd
    · show ((cnt (tNew Unit s.zs s.need) : Nat) : Int) < s.need
      rw [cnt_new]
      unfold RM.need
      omega
theorem set_MK (hz : s.zs = zs) (hnd : zs.Nodup) {X : TS Bp} (hg : X.g = zs) (hc : s.need ≤ cnt X) (ha : ∀ i b, X.v i = some b → sle (B i) b.st ∧ sle b.st (H i) ∧ (s.isW = false → V b.st b.z)) (hV : ∀ z t, s.aim = .wr z → t.c = s.cl → Low zs B true t → V t z) :
    MK zs B H V (setP s ((gotL X).map Prod.snd)).1 := by
  have hmaj : Maj zs (fun i => (X.v i).isSome) := maj_cnt hg (by rw [← hz]; exact hc)
  have hne : (gotL X).map Prod.snd ≠ [] := fun e => by
    have h1 : ((gotL X).map Prod.snd).length = 0 := by rw [e]; rfl
    rw [List.length_map, gotL_len] at h1
    unfold RM.need at hc
    omega
  generalize hl : (gotL X).map Prod.snd = l at hne
  have hmax : ∀ i b, X.v i = some b → i ∈ zs → sle b.st (bestB l).st := fun i b hb hi => best_max _ l rfl b (by rw [← hl]; exact in_got (by rw [hg]; exact hi) hb)
  obtain ⟨j, hj, hjb⟩ : ∃ i, i ∈ X.g ∧ X.v i = some (bestB l) := got_in (by rw [hl]; exact best_mem hne)
  have low : ∀ t, (∀ b : Sp, sle b (bestB l).st → if s.isW then slt b t else sle b t) → Low zs B s.isW t := fun t ht => ⟨_, hmaj, fun i hi hs => by
    obtain ⟨b, hb⟩ := Option.isSome_iff_exists.1 hs
    exact ht _ ((ha i b hb).1.trans (hmax i b hb hi))⟩
  unfold setP
  cases hA : s.aim with
  | wr z =>
    have hw : s.isW = true := by unfold RM.isW; rw [hA]
    dsimp only
    split
    · exact ⟨hz, fun e => by cases e⟩
    · have hlow : Low zs B s.isW ⟨(bestB l).st.n + 1, s.cl⟩ := low _ (fun b hb => by rw [hw, if_pos rfl]; unfold sle at hb; unfold slt; dsimp only; omega)
      exact lay_MK hz hnd hlow (hV z _ hA rfl (by rw [hw] at hlow; exact hlow)) (fun _ => ⟨rfl, hA⟩) (fun hB => by
        have q := (hB j).trans (ha j _ hjb).1
        unfold sle at q
        unfold slt
        have e0 : spZ.n = 0 := rfl
        dsimp only
        omega)
  | rd n =>
    have hw : s.isW = false := by unfold RM.isW; rw [hA]
    have hlow : Low zs B s.isW (bestB l).st := low _ (fun b hb => by rw [hw]; exact hb)
    have hv : V (bestB l).st (bestB l).z := (ha j _ hjb).2.2 hw
    dsimp only
    split
    · rename_i hany
      refine lay_MK hz hnd hlow hv (fun e => by rw [hw] at e; cases e) (fun hB => ?_)
      obtain ⟨b, hb, ho⟩ := List.any_eq_true.1 hany
      obtain ⟨i, hi, hib⟩ := got_in (X := X) (by rw [hl]; exact hb)
      have q1 := (hB i).trans (ha i b hib).1
      have q2 := hmax i b hib (by rw [← hg]; exact hi)
      unfold othP at ho
      simp at ho
      unfold sle at q1 q2
      unfold slt
      omega
    · rename_i hany
      refine ⟨hz, fun _ => ⟨(by rw [hw] at hlow; exact hlow), ⟨_, hmaj, fun i hi hs => ?_⟩, fun _ => hv, fun e => ?_⟩⟩
      · obtain ⟨b, hb⟩ := Option.isSome_iff_exists.1 hs
        have h1 : othP (bestB l) b = false := by
          cases ho : othP (bestB l) b with
          | false => rfl
          | true => exact absurd (List.any_eq_true.2 ⟨b, by rw [← hl]; exact in_got (by rw [hg]; exact hi) hb, ho⟩) hany
        have h2 := (ha i b hb).2.1
        unfold othP at h1
        simp at h1
        unfold sle at h2 ⊢
        omega
      · have h' : false = true := e
        cases h'
/-- A machine takes a message: what it knows stays true. -/
theorem take_MK (h : MK zs B H V s) (hnd : zs.Nodup) (d : Mg) (z : List Int)
    (h1 : ∀ X, s.ph = .ask X → hitP s 11 d = true → d.fr.id ∈ zs → sle (B d.fr.id) d.st ∧ sle d.st (H d.fr.id) ∧ (¬ (d.st.n = 0 ∧ d.st.c = 0) → V d.st z))
    (h2 : ∀ b U, s.ph = .lay b U → hitP s 12 d = true → d.fr.id ∈ zs → sle b.st (H d.fr.id))
    (hV0 : ∀ n, s.aim = .rd n → V spZ (List.replicate n 0)) (hV : ∀ z t, s.aim = .wr z → t.c = s.cl → Low zs B true t → V t z) : MK zs B H V (takP s d z).1 := by
  have hz := h.gz
  have hp := h.ph
  unfold takP
  cases e : s.ph with
  | fresh => exact h
  | fin er st z => exact h
  | ask X =>
    rw [e] at hp
    obtain ⟨g1, g2, g3, g4⟩ := hp
    dsimp only
    cases hh : hitP s 11 d with
    | false => exact h
    | true =>
      rw [if_pos rfl]
      have key : d.fr.id ∈ zs → sle (B d.fr.id) (keepP s d z).st ∧ sle (keepP s d z).st (H d.fr.id) ∧ (s.isW = false → V (keepP s d z).st (keepP s d z).z) := fun hi => by
        obtain ⟨q1, q2, q3⟩ := h1 X e hh hi
        unfold keepP
        cases hA : s.aim with
        | wr z => exact ⟨q1, q2, fun hw => by unfold RM.isW at hw; rw [hA] at hw; cases hw⟩
        | rd n =>
          dsimp only
          by_cases h0 : d.st.n = 0 ∧ d.st.c = 0
          · rw [if_pos h0]
            have e0 : d.st = spZ := by
              cases hd : d.st with
              | mk a b =>
                rw [hd] at h0
                have h01 : a = 0 := h0.1
                have h02 : b = 0 := h0.2
                rw [h01, h02]
                rfl
            rw [e0] at q1 q2
            exact ⟨q1, q2, fun _ => hV0 n hA⟩
          · rw [if_neg h0]
            exact ⟨q1, q2, fun _ => q3 h0⟩
      have ans : ∀ i b, (takeS X d.fr.id (keepP s d z)).v i = some b → sle (B i) b.st ∧ sle b.st (H i) ∧ (s.isW = false → V b.st b.z) := fun i b hb => by
        rw [takeS_v] at hb
        split at hb
        · rename_i hm
          cases hb
          obtain ⟨hm1, rfl⟩ := hm
          exact key (by rw [← g1]; exact (may_cnt (b := keepP s d z) (by rw [g1]; exact hnd) hm1).2.2)
        · exact g4 i b hb
      cases ht : takeB X d.fr.id with
      | true =>
        rw [if_pos rfl]
        have ht' : mayB X d.fr.id = true ∧ X.need ≤ cnt X + 1 := by simpa [takeB] using ht
        obtain ⟨t1, t2, t3⟩ := may_cnt (b := keepP s d z) (by rw [g1]; exact hnd) ht'.1
        exact set_MK hz hnd (by rw [takeS_g, g1]) (by rw [t1, t2]; have := ht'.2; rw [g2] at this; omega) ans hV
      | false =>
        rw [if_neg (by simp)]
        refine ⟨hz, (by rw [takeS_g, g1] : _ = _), ?_, ?_, ans⟩
        · show (takeS X d.fr.id (keepP s d z)).need = s.need
          rw [← g2]; unfold takeS; split <;> rfl
        · show ((cnt (takeS X d.fr.id (keepP s d z)) : Nat) : Int) < s.need
          cases hm : mayB X d.fr.id with
          | false => rw [show takeS X d.fr.id (keepP s d z) = X from if_neg (by rw [hm]; simp)]; exact g3
          | true =>
            obtain ⟨t1, t2, t3⟩ := may_cnt (b := keepP s d z) (by rw [g1]; exact hnd) hm
            rw [t1, t2]
            have : ¬ X.need ≤ cnt X + 1 := by simpa [takeB, hm] using ht
            rw [g2] at this
            omega
  | lay b U =>
    rw [e] at hp
    obtain ⟨g1, g2, g3, g4, g5, g6, g7, g8⟩ := hp
    dsimp only
    cases hh : hitP s 12 d with
    | false => exact h
    | true =>
      rw [if_pos rfl]
      have ans : ∀ i u, (takeS U d.fr.id ()).v i = some u → sle b.st (H i) := fun i u hu => by
        rw [takeS_v] at hu
        split at hu
        · rename_i hm
          obtain ⟨hm1, rfl⟩ := hm
          exact h2 b U e hh (by rw [← g1]; exact (may_cnt (b := ()) (by rw [g1]; exact hnd) hm1).2.2)
        · exact g4 i u hu
      cases ht : takeB U d.fr.id with
      | true =>
        rw [if_pos rfl]
        have ht' : mayB U d.fr.id = true ∧ U.need ≤ cnt U + 1 := by simpa [takeB] using ht
        obtain ⟨t1, t2, t3⟩ := may_cnt (b := ()) (by rw [g1]; exact hnd) ht'.1
        have hmaj : Maj zs (fun i => ((takeS U d.fr.id ()).v i).isSome) := maj_cnt (by rw [takeS_g, g1]) (by rw [t1, t2]; have := ht'.2; rw [g2] at this; unfold RM.need at this; rw [hz] at this; omega)
        refine ⟨hz, fun _ => ⟨g5, ⟨_, hmaj, fun i hi hs => ?_⟩, fun hw => ?_, fun hw => ?_⟩⟩
        · obtain ⟨u, hu⟩ := Option.isSome_iff_exists.1 hs
          exact ans i u hu
        · have hw : s.isW = false := hw
          show V b.st (resP s b)
          unfold resP
          cases hA : s.aim with
          | wr z => unfold RM.isW at hw; rw [hA] at hw; cases hw
          | rd n => exact g6
        · have hw : s.isW = true := hw
          refine ⟨(g7 hw).1, ?_⟩
          show resP s b = []
          unfold resP
          rw [(g7 hw).2]
      | false =>
        rw [if_neg (by simp)]
        refine ⟨hz, (by rw [takeS_g, g1] : _ = _), ?_, ?_, ans, g5, g6, g7, g8⟩
        · show (takeS U d.fr.id ()).need = s.need
          rw [← g2]; unfold takeS; split <;> rfl
        · show ((cnt (takeS U d.fr.id ()) : Nat) : Int) < s.need
          cases hm : mayB U d.fr.id with
          | false => rw [show takeS U d.fr.id () = U from if_neg (by rw [hm]; simp)]; exact g3
          | true =>
            obtain ⟨t1, t2, t3⟩ := may_cnt (b := ()) (by rw [g1]; exact hnd) hm
            rw [t1, t2]
            have : ¬ U.need ≤ cnt U + 1 := by simpa [takeB, hm] using ht
            rw [g2] at this
            omega
end
end Go.Proofs.Ytgiokkcdgoloaaa.Md
namespace Go.Proofs.Ytgiokkcdgoloaaa.Md
open Go.RowKit
set_option linter.unusedVariables false
set_option linter.unusedSimpArgs false

/-! The world of P709 and P710, pure: servers, clients with their machines, what is under way. -/
/-- A message under way; a deed; a world. -/
structure Pm where
  k : Int
  fr : Ad
  too : Ad
  op : Int
  rd : Int
  ky : Ky
  st : Sp
  z : List Int
def mgP (p : Pm) : Mg := ⟨p.k, p.fr, p.too, p.op, p.rd, p.ky, p.st, spZ, slZ, cZ, bvZ, slZ, false⟩
structure Dd where
  wr : Bool
  cl : Int
  beg : Int
  en : Int
  z : List Int
  er : Int
  st : Sp
  rz : List Int
structure Wd where
  n : Nat
  held : Int → Bp
  m : Nat → Option RM
  at' : Nat → Nat
  rd : Nat → Int
  gone : Nat → Bool
  un : List Pm
  ds : List Dd
  ls : List (Sp × List Int)
  now : Int
  br : Bool
def upN {α : Type} (f : Nat → α) (c : Nat) (v : α) : Nat → α := fun k => if k = c then v else f k
def upI {α : Type} (f : Int → α) (c : Int) (v : α) : Int → α := fun k => if k = c then v else f k
def wdG (w : Wd) : List Int := (List.range w.n).map (fun (i : Nat) => (i : Int) + 1)
def sownW (n : Nat) : Wd := ⟨n, fun _ => bpZ, fun _ => none, fun _ => 0, fun _ => 0, fun _ => false, [], [], [], 0, false⟩
/-- What a machine tells, as messages. -/
def outs (o : RM × To) : List Pm := o.2.ss.map (fun sv => ⟨o.2.k, ⟨true, o.1.cl⟩, ⟨false, sv⟩, o.1.op, o.1.rd, o.1.ky, o.2.st, o.2.z⟩)
def laidW (w : Wd) (t : Sp) (z : List Int) : Wd := match w.ls.find? (fun e => e.1.n == t.n && e.1.c == t.c) with
  | some e => { w with br := w.br || !(decide (e.2 = z)) }
  | none => { w with ls := w.ls ++ [(t, z)] }
def send1 (w : Wd) (p : Pm) : Wd :=
  let v := if p.k = 2 then laidW w p.st p.z else w
  if v.un.length < 300 then { v with un := v.un ++ [p] } else v
def sendW (w : Wd) (l : List Pm) : Wd := l.foldl send1 w
def endD (d : Dd) (now : Int) (er : Int) (st : Sp) (z : List Int) : Dd := { d with en := now, er := er, st := st, rz := z }
def lookW (w : Wd) (c : Nat) : Wd := match w.m c with
  | none => w
  | some s => match s.ph with
    | .fin er st z => { w with rd := upN w.rd c s.rd, now := w.now + 1, ds := w.ds.modify (w.at' c) (fun d => endD d (w.now + 1) er st z), m := upN w.m c none }
    | _ => { w with rd := upN w.rd c s.rd }
def keyW : Ky := ⟨1, 1, 1, 0⟩
def machW (w : Wd) (c : Nat) (wr : Bool) (z : List Int) : RM := ⟨(c : Int) + 1, (w.ds.length : Int) + 1, keyW, wdG w, w.rd c + 1, if wr then .wr z else .rd 3, .fresh⟩
def begW (w : Wd) (c : Nat) (wr : Bool) (z : List Int) : Wd :=
  if (w.m c).isSome || w.gone c then w else
    let o := begP (machW w c wr z)
    lookW (sendW { w with m := upN w.m c (some o.1), now := w.now + 1, at' := upN w.at' c w.ds.length, ds := w.ds ++ [⟨wr, (c : Int) + 1, w.now + 1, 0, z, 0, spZ, []⟩] } (outs o)) c
def newW (b : Bp) (t : Sp) (z : List Int) : Bp := if lessB b.st.n b.st.c t.n t.c then ⟨t, z⟩ else b
def servW (w : Wd) (p : Pm) : Wd :=
  if p.k = 1 then sendW w [⟨11, p.too, p.fr, p.op, p.rd, p.ky, (w.held p.too.id).st, (w.held p.too.id).z⟩]
  else if p.k = 2 then sendW { w with held := upI w.held p.too.id (newW (w.held p.too.id) p.st p.z) } [⟨12, p.too, p.fr, p.op, p.rd, p.ky, spZ, []⟩]
  else sendW { w with br := true } [⟨0, p.too, p.fr, p.op, p.rd, p.ky, spZ, []⟩]
def clieW (w : Wd) (p : Pm) (c : Nat) : Wd := match w.m c with
  | none => w
  | some s => if w.gone c then w else
    let o := takP s (mgP p) p.z
    lookW (sendW { w with m := upN w.m c (some o.1) } (outs o)) c
def delW (w : Wd) (p : Pm) : Wd :=
  if p.too.cl then (if p.too.id - 1 < 0 ∨ 4 ≤ p.too.id - 1 then { w with br := true } else clieW w p (p.too.id - 1).toNat)
  else if p.too.id - 1 < 0 ∨ (w.n : Int) ≤ p.too.id - 1 then { w with br := true } else servW w p
def tickW (w : Wd) (c : Nat) : Wd := match w.m c with
  | none => w
  | some s => if w.gone c then w else sendW w (outs (s, tikP s))
/-- One event: what is done to what is under way is said by a place. -/
def rndW (a : Int) (n : Nat) : Nat := (a % (n : Int)).toNat
def evW (w : Wd) (k a : Int) (z : List Int) : Wd :=
  let c := rndW a 4
  let v := if k = 1 then begW w c true z else if k = 2 then begW w c false [] else if k = 6 then tickW w c else if k = 7 then { w with gone := upN w.gone c true } else w
  if v.un.length = 0 ∨ k < 3 ∨ 5 < k then v else
    let i := rndW a v.un.length
    match v.un[i]? with
    | none => v
    | some p =>
      let u := { v with un := v.un.take i ++ v.un.drop (i + 1) }
      if k = 3 then delW u p else if k = 5 then (if u.un.length < 300 then { u with un := u.un ++ [p, p] } else u) else u
end Go.Proofs.Ytgiokkcdgoloaaa.Md
namespace Go.Proofs.Ytgiokkcdgoloaaa.Md
open Go.RowKit
set_option linter.unusedVariables false
set_option linter.unusedSimpArgs false

/-- A tag and its block: some Write's, which is not at its end, or whose tag it is; of a block nobody wrote, zeros. -/
def Wrote (w : Wd) (T : Nat → Option Sp) (t : Sp) (z : List Int) (by' : Int) : Prop := ∃ (j : Nat) (d : Dd), w.ds[j]? = some d ∧ d.wr = true ∧ d.cl = t.c ∧ d.z = z ∧ d.beg ≤ by' ∧ T j = some t
def Told (w : Wd) (T : Nat → Option Sp) (t : Sp) (z : List Int) (by' : Int) : Prop := (t = spZ ∧ z = List.replicate 3 0) ∨ Wrote w T t z by'
/-- What the servers hold, as stamps. -/
def hs (w : Wd) : Int → Sp := fun i => (w.held i).st
/-- A message under way. -/
def UnOk (w : Wd) (G : Nat → Int → Sp) (T : Nat → Option Sp) (p : Pm) : Prop :=
  ∃ (j : Nat) (d : Dd), w.ds[j]? = some d ∧ p.op = (j : Int) + 1 ∧ p.ky = keyW ∧
    ((p.too.cl = false ∧ p.too.id ∈ wdG w ∧ p.fr = ⟨true, d.cl⟩ ∧ (p.k = 1 ∨ (p.k = 2 ∧ T j = some p.st ∧ Wrote w T p.st p.z w.now))) ∨
     (p.too = ⟨true, d.cl⟩ ∧ p.fr.cl = false ∧ p.fr.id ∈ wdG w ∧ ((p.k = 11 ∧ sle (G j p.fr.id) p.st ∧ sle p.st (hs w p.fr.id) ∧ (¬ (p.st.n = 0 ∧ p.st.c = 0) → Wrote w T p.st p.z w.now)) ∨ (p.k = 12 ∧ ∃ t, T j = some t ∧ sle t (hs w p.fr.id)))))
/-- What holds at any time. G: what the servers held when a deed began; T: the tag that it lays. -/
structure WInv (w : Wd) (G : Nat → Int → Sp) (T : Nat → Option Sp) : Prop where
  br : w.br = false
  act : ∀ c s, w.m c = some s → c < 4 ∧ s.cl = (c : Int) + 1 ∧ s.op = (w.at' c : Int) + 1 ∧ s.ky = keyW ∧ MK (wdG w) (G (w.at' c)) (hs w) (fun t z => Told w T t z w.now) s ∧
    (∃ d : Dd, w.ds[w.at' c]? = some d ∧ d.en = 0 ∧ d.cl = (c : Int) + 1 ∧ d.wr = s.isW ∧ (s.isW = true → s.aim = .wr d.z) ∧ (s.isW = false → s.aim = .rd 3)) ∧ (match s.ph with | .lay b _ => T (w.at' c) = some b.st | .ask _ => T (w.at' c) = none | _ => False)
  open' : ∀ (j : Nat) (d : Dd), w.ds[j]? = some d → d.en = 0 → ∃ c s, w.m c = some s ∧ w.at' c = j
  fin : ∀ (j : Nat) (d : Dd), w.ds[j]? = some d → d.en ≠ 0 → d.er = 0 → Low (wdG w) (G j) d.wr d.st ∧ Hold (wdG w) (hs w) d.st ∧ (d.wr = false → Told w T d.st d.rz d.en) ∧ (d.wr = true → d.st.c = d.cl ∧ d.rz = [])
  time : ∀ (j : Nat) (d : Dd), w.ds[j]? = some d → d.beg ≤ w.now ∧ (d.en ≠ 0 → d.beg < d.en ∧ d.en ≤ w.now)
  cls : ∀ (j : Nat) (d : Dd), w.ds[j]? = some d → 1 ≤ d.cl ∧ d.cl ≤ 4
  seq : ∀ (i j : Nat) (a b : Dd), i < j → w.ds[i]? = some a → w.ds[j]? = some b → a.cl = b.cl → a.en ≠ 0 ∧ a.en < b.beg
  past : ∀ (i j : Nat) (a b : Dd), w.ds[i]? = some a → w.ds[j]? = some b → a.en ≠ 0 → a.er = 0 → a.en < b.beg → Hold (wdG w) (G j) a.st
  tg : ∀ (j : Nat) (d : Dd) (t : Sp), w.ds[j]? = some d → T j = some t → Low (wdG w) (G j) d.wr t ∧ (d.wr = true → t.c = d.cl) ∧ (d.en ≠ 0 → d.er = 0 ∧ d.st = t)
  nn : 0 ≤ w.now
  tn : ∀ j : Nat, w.ds.length ≤ j → T j = none
  low : ∀ j i, sle spZ (G j i)
  low' : ∀ i, sle spZ (hs w i)
  mono : ∀ j i, sle (G j i) (hs w i)
  held : ∀ i, ¬ ((hs w i).n = 0 ∧ (hs w i).c = 0) → Wrote w T (w.held i).st (w.held i).z w.now
  msg : ∀ p, p ∈ w.un → UnOk w G T p
  laid : ∀ e, e ∈ w.ls → Wrote w T e.1 e.2 w.now
/-- P709 of all deeds that ended well. -/
def RestsW (w : Wd) (a : Dd) : Prop := if a.wr = true then a.st.c = a.cl ∧ a.rz = [] else if a.st.n = 0 ∧ a.st.c = 0 then a.rz = List.replicate 3 0 else ∃ (j : Nat) (d : Dd), w.ds[j]? = some d ∧ d.wr = true ∧ d.cl = a.st.c ∧ d.z = a.rz ∧ d.beg ≤ a.en ∧ (d.en = 0 ∨ d.er ≠ 0 ∨ d.st = a.st)
def RightW (w : Wd) : Prop := w.br = false ∧ ∀ (i : Nat) (a : Dd), w.ds[i]? = some a → a.en ≠ 0 → a.er = 0 → RestsW w a ∧ ∀ (k : Nat) (b : Dd), k ≠ i → w.ds[k]? = some b → b.en ≠ 0 → b.er = 0 → ¬ (a.wr = true ∧ b.wr = true ∧ a.st = b.st) ∧ (a.en < b.beg → if b.wr then slt a.st b.st else sle a.st b.st)
section
variable {w : Wd} {G : Nat → Int → Sp} {T : Nat → Option Sp}
theorem WInv.pair (h : WInv w G T) {i k : Nat} {a b : Dd} (ha : w.ds[i]? = some a) (hb : w.ds[k]? = some b) (ea : a.en ≠ 0) (oa : a.er = 0) (eb : b.en ≠ 0) (ob : b.er = 0) (hlt : a.en < b.beg) : if b.wr then slt a.st b.st else sle a.st b.st :=
  (h.past i k a b ha hb ea oa hlt).low (h.fin k b hb eb ob).1
/-- Two Writes of one client have unlike tags. -/
theorem WInv.two (h : WInv w G T) {i k : Nat} {a b : Dd} (hik : k ≠ i) (ha : w.ds[i]? = some a) (hb : w.ds[k]? = some b) (ea : a.en ≠ 0) (oa : a.er = 0) (eb : b.en ≠ 0) (ob : b.er = 0) (wa : a.wr = true) (wb : b.wr = true) : a.st ≠ b.st := fun e => by
  have c1 := ((h.fin i a ha ea oa).2.2.2 wa).1
  have c2 := ((h.fin k b hb eb ob).2.2.2 wb).1
  have hc : a.cl = b.cl := by rw [← c1, ← c2, e]
  rcases Nat.lt_or_gt_of_ne hik with hlt | hlt
  · have q := h.seq k i b a hlt hb ha hc.symm
    have p := h.pair hb ha eb ob ea oa q.2
    rw [wa, if_pos rfl] at p
    exact p.ne e.symm
  · have q := h.seq i k a b hlt ha hb hc
    have p := h.pair ha hb ea oa eb ob q.2
    rw [wb, if_pos rfl] at p
    exact p.ne e
theorem WInv.right (h : WInv w G T) : RightW w := by
  refine ⟨h.br, fun i a ha ea oa => ⟨?_, fun k b hik hb eb ob => ⟨fun e => h.two hik ha hb ea oa eb ob e.1 e.2.1 e.2.2, fun hlt => h.pair ha hb ea oa eb ob hlt⟩⟩⟩
  obtain ⟨f1, f2, f3, f4⟩ := h.fin i a ha ea oa
  unfold RestsW
  by_cases hw : a.wr = true
  · rw [if_pos hw]; exact f4 hw
  · rw [if_neg hw]
    have hw' : a.wr = false := by simpa using hw
    rcases f3 hw' with ⟨e1, e2⟩ | ⟨j, d, q1, q2, q3, q4, q5, q6⟩
    · rw [if_pos (by rw [e1]; exact ⟨rfl, rfl⟩)]; exact e2
    · split
      · rename_i h0
        -- no Write lays the tag of what nobody wrote: clients count from 1
        exfalso
        have hcl : d.cl = 0 := by rw [q3]; exact h0.2
        have := (h.cls j d q1).1
        omega
      · refine ⟨j, d, q1, q2, q3, q4, q5, ?_⟩
        by_cases he : d.en = 0
        · exact .inl he
        · exact .inr (.inr ((h.tg j d _ q1 q6).2.2 he).2)
end
end Go.Proofs.Ytgiokkcdgoloaaa.Md
namespace Go.Proofs.Ytgiokkcdgoloaaa.Md
open Go.RowKit
set_option linter.unusedVariables false
set_option linter.unusedSimpArgs false

section
variable {w v : Wd} {G : Nat → Int → Sp} {T : Nat → Option Sp}
/-- A tag has one block. -/
theorem WInv.one (h : WInv w G T) {t : Sp} {z z' : List Int} {x x' : Int} (h1 : Wrote w T t z x) (h2 : Wrote w T t z' x') : z = z' := by
  obtain ⟨i, a, a1, a2, a3, a4, a5, a6⟩ := h1
  obtain ⟨k, b, b1, b2, b3, b4, b5, b6⟩ := h2
  have lt : ∀ (i k : Nat) (a b : Dd), i < k → w.ds[i]? = some a → w.ds[k]? = some b → a.cl = b.cl → T i = some t → T k = some t → b.wr = true → False := fun i k a b hik ha hb hc ta tb wb => by
    have q := h.seq i k a b hik ha hb hc
    have e := (h.tg i a t ha ta).2.2 q.1
    have p := h.past i k a b ha hb q.1 e.1 q.2
    have l := p.low (h.tg k b t hb tb).1
    rw [wb, if_pos rfl, e.2] at l
    exact l.ne rfl
  rcases Nat.lt_trichotomy i k with hik | rfl | hik
  · exact (lt i k a b hik a1 b1 (a3.trans b3.symm) a6 b6 b2).elim
  · rw [a1] at b1
    cases b1
    rw [← a4, ← b4]
  · exact (lt k i b a hik b1 a1 (b3.trans a3.symm) b6 a6 a2).elim
/-- Worlds that differ in what is under way and in what was noted alone. -/
structure Like (w v : Wd) : Prop where
  n : v.n = w.n
  held : v.held = w.held
  m : v.m = w.m
  at' : v.at' = w.at'
  ds : v.ds = w.ds
  now : v.now = w.now
theorem Like.refl (w : Wd) : Like w w := ⟨rfl, rfl, rfl, rfl, rfl, rfl⟩
theorem Like.trans {w v u : Wd} (h : Like w v) (k : Like v u) : Like w u := ⟨k.n.trans h.n, k.held.trans h.held, k.m.trans h.m, k.at'.trans h.at', k.ds.trans h.ds, k.now.trans h.now⟩
theorem Like.g (h : Like w v) : wdG v = wdG w := by unfold wdG; rw [h.n]
theorem Like.hs (h : Like w v) : Md.hs v = Md.hs w := by unfold Md.hs; rw [h.held]
theorem Like.wrote (h : Like w v) {t : Sp} {z : List Int} {x : Int} : Wrote v T t z x = Wrote w T t z x := by unfold Wrote; rw [h.ds]
theorem Like.told (h : Like w v) {t : Sp} {z : List Int} {x : Int} : Told v T t z x = Told w T t z x := by unfold Told; rw [h.wrote]
theorem Like.unok (h : Like w v) {p : Pm} : UnOk v G T p = UnOk w G T p := by unfold UnOk; simp only [h.ds, h.g, h.hs, h.wrote, h.now]
theorem WInv.like (h : WInv w G T) (k : Like w v) (hb : v.br = false) (hm : ∀ p, p ∈ v.un → UnOk w G T p) (hl : ∀ e, e ∈ v.ls → Wrote w T e.1 e.2 w.now) : WInv v G T := by
  refine ⟨hb, ?_, ?_, ?_, ?_, ?_, ?_, ?_, ?_, (by rw [k.now]; exact h.nn), (by rw [k.ds]; exact h.tn), h.low, (by rw [k.hs]; exact h.low'), ?_, ?_, ?_, ?_⟩
  · have := h.act; simp only [k.m, k.at', k.ds, k.g, k.hs, k.told, k.now]; exact this
  · have := h.open'; simp only [k.m, k.at', k.ds]; exact this
  · have := h.fin; simp only [k.ds, k.g, k.hs, k.told]; exact this
  · have := h.time; simp only [k.ds, k.now]; exact this
  · have := h.cls; simp only [k.ds]; exact this
  · have := h.seq; simp only [k.ds]; exact this
  · have := h.past; simp only [k.ds, k.g]; exact this
  · have := h.tg; simp only [k.ds, k.g]; exact this
  · have := h.mono; simp only [k.hs]; exact this
  · have := h.held; simp only [k.hs, k.held, k.wrote, k.now]; exact this
  · intro p hp; rw [k.unok]; exact hm p hp
  · intro e he; rw [k.wrote, k.now]; exact hl e he
theorem like_laid (w : Wd) (t : Sp) (z : List Int) : Like w (laidW w t z) := by
  unfold laidW
  split <;> exact ⟨rfl, rfl, rfl, rfl, rfl, rfl⟩
theorem un_laid (w : Wd) (t : Sp) (z : List Int) : (laidW w t z).un = w.un := by
  unfold laidW
  split <;> rfl
theorem WInv.laidW (h : WInv w G T) {t : Sp} {z : List Int} (hw : Wrote w T t z w.now) : WInv (Md.laidW w t z) G T := by
  refine h.like (like_laid w t z) ?_ (by rw [un_laid]; exact h.msg) ?_
  · unfold Md.laidW
    split
    · rename_i e he
      have hm := List.mem_of_find?_eq_some he
      have hq := List.find?_some he
      simp only [Bool.and_eq_true, beq_iff_eq] at hq
      have ht : e.1 = t := by
        obtain ⟨⟨a, b⟩, y⟩ := e
        obtain ⟨c, d⟩ := t
        have h1 : a = c := hq.1
        have h2 : b = d := hq.2
        rw [h1, h2]
      have h1 := h.laid e hm
      rw [ht] at h1
      show (w.br || !(decide (e.2 = z))) = false
      rw [h.br, h.one h1 hw]
      simp
    · exact h.br
  · unfold Md.laidW
    split
    · exact h.laid
    · intro e he
      rcases List.mem_append.1 he with he | he
      · exact h.laid e he
      · rw [List.mem_singleton.1 he]; exact hw
theorem like_send1 (w : Wd) (p : Pm) : Like w (send1 w p) := by
  unfold send1
  dsimp only
  split <;> split <;> first | exact Like.refl w | exact like_laid w _ _ | exact ⟨rfl, rfl, rfl, rfl, rfl, rfl⟩ | (have k := like_laid w p.st p.z; exact ⟨k.n, k.held, k.m, k.at', k.ds, k.now⟩)
theorem WInv.send1 (h : WInv w G T) {p : Pm} (hp : UnOk w G T p) : WInv (Md.send1 w p) G T := by
  have h2 : p.k = 2 → Wrote w T p.st p.z w.now := fun e => by
    obtain ⟨j, d, _, _, _, q⟩ := hp
    rcases q with ⟨_, _, _, q⟩ | ⟨_, _, _, q⟩
    · rcases q with q | q
      · omega
      · exact q.2.2
    · rcases q with q | q <;> omega
  have hv : WInv (if p.k = 2 then Md.laidW w p.st p.z else w) G T ∧ Like w (if p.k = 2 then Md.laidW w p.st p.z else w) := by
    split
    · rename_i e; exact ⟨h.laidW (h2 e), like_laid w _ _⟩
    · exact ⟨h, Like.refl w⟩
  unfold Md.send1
  dsimp only
  generalize (if p.k = 2 then Md.laidW w p.st p.z else w) = u at hv
  obtain ⟨hu, k⟩ := hv
  split
  · refine hu.like ⟨rfl, rfl, rfl, rfl, rfl, rfl⟩ hu.br (fun q hq => ?_) hu.laid
    rcases List.mem_append.1 hq with hq | hq
    · exact hu.msg q hq
    · rw [List.mem_singleton.1 hq, k.unok]; exact hp
  · exact hu
theorem WInv.sendW (h : WInv w G T) : ∀ (l : List Pm) (u : Wd), Like w u → WInv u G T → (∀ p, p ∈ l → UnOk w G T p) → WInv (Md.sendW u l) G T ∧ Like w (Md.sendW u l)
  | [], u, k, hu, _ => ⟨hu, k⟩
  | p :: l, u, k, hu, hl => by
    have h1 : WInv (Md.send1 u p) G T := hu.send1 (by rw [k.unok]; exact hl p List.mem_cons_self)
    exact WInv.sendW h l (Md.send1 u p) (k.trans (like_send1 u p)) h1 (fun q hq => hl q (List.mem_cons_of_mem _ hq))
end
end Go.Proofs.Ytgiokkcdgoloaaa.Md
namespace Go.Proofs.Ytgiokkcdgoloaaa.Md
open Go.RowKit
set_option linter.unusedVariables false
set_option linter.unusedSimpArgs false

section
variable {w : Wd} {G : Nat → Int → Sp} {T : Nat → Option Sp}
/-- A server holds a later block. -/
theorem UnOk.grow {p : Pm} (h : UnOk w G T p) {f : Int → Bp} (hH : ∀ i, sle (hs w i) (f i).st) : UnOk { w with held := f } G T p := by
  obtain ⟨j, d, h1, h2, h3, h4⟩ := h
  refine ⟨j, d, h1, h2, h3, ?_⟩
  rcases h4 with h4 | ⟨q1, q2, q3, q4⟩
  · exact .inl h4
  · refine .inr ⟨q1, q2, q3, ?_⟩
    rcases q4 with ⟨k, a, b, c⟩ | ⟨k, t, a, b⟩
    · exact .inl ⟨k, a, b.trans (hH _), c⟩
    · exact .inr ⟨k, t, a, b.trans (hH _)⟩
theorem WInv.grow (h : WInv w G T) {f : Int → Bp} (hH : ∀ i, sle (hs w i) (f i).st) (hw : ∀ i, ¬ ((f i).st.n = 0 ∧ (f i).st.c = 0) → Wrote w T (f i).st (f i).z w.now) : WInv { w with held := f } G T := by
  refine ⟨h.br, fun c s hs' => ?_, h.open', fun j d hd he ho => ?_, h.time, h.cls, h.seq, h.past, h.tg, h.nn, h.tn, h.low, fun i => (h.low' i).trans (hH i), fun j i => (h.mono j i).trans (hH i), hw, fun p hp => (h.msg p hp).grow hH, h.laid⟩
  · obtain ⟨a1, a2, a3, a4, a5, a6, a7⟩ := h.act c s hs'
    exact ⟨a1, a2, a3, a4, a5.mono hH (fun _ _ e => e), a6, a7⟩
  · obtain ⟨f1, f2, f3, f4⟩ := h.fin j d hd he ho
    exact ⟨f1, f2.mono hH, f3, f4⟩
theorem new_sle (b : Bp) (t : Sp) (z : List Int) : sle b.st (newW b t z).st ∧ sle t (newW b t z).st ∧ (newW b t z = b ∨ newW b t z = ⟨t, z⟩) := by
  unfold newW
  cases e : lessB b.st.n b.st.c t.n t.c with
  | true =>
    rw [if_pos rfl]
    have : slt b.st t := ls_sle (a := b) (b := ⟨t, z⟩) |>.1 e
    exact ⟨this.sle, sle.refl _, .inr rfl⟩
  | false =>
    rw [if_neg (by simp)]
    exact ⟨sle.refl _, ls_not (a := b) (b := ⟨t, z⟩) e, .inl rfl⟩
/-- A server answers. -/
theorem WInv.serv (h : WInv w G T) {p : Pm} (hp : UnOk w G T p) (hc : p.too.cl = false) : WInv (servW w p) G T := by
  obtain ⟨j, d, h1, h2, h3, h4⟩ := hp
  rcases h4 with ⟨q1, q2, q3, q4⟩ | ⟨q1, _⟩
  · unfold servW
    rcases q4 with hk | ⟨hk, ht, hw⟩
    · rw [if_pos hk]
      refine (h.sendW _ w (Like.refl w) h (fun q hq => ?_)).1
      rw [List.mem_singleton.1 hq]
      exact ⟨j, d, h1, h2, h3, .inr ⟨q3, q1, q2, .inl ⟨rfl, h.mono j _, sle.refl _, h.held _⟩⟩⟩
    · rw [if_neg (by omega), if_pos hk]
      obtain ⟨n1, n2, n3⟩ := new_sle (w.held p.too.id) p.st p.z
      have hH : ∀ i, sle (hs w i) (upI w.held p.too.id (newW (w.held p.too.id) p.st p.z) i).st := fun i => by
        unfold upI
        split
        · rename_i e; subst e; exact n1
        · exact sle.refl _
      have g : WInv { w with held := upI w.held p.too.id (newW (w.held p.too.id) p.st p.z) } G T := h.grow hH (fun i hi => by
        unfold upI at hi ⊢
        split
        · rename_i e
          rw [if_pos e] at hi
          rcases n3 with n3 | n3
          · rw [n3] at hi ⊢; exact h.held _ hi
          · rw [n3]; exact hw
        · rename_i e
          rw [if_neg e] at hi
          exact h.held _ hi)
      refine (g.sendW _ _ (Like.refl _) g (fun q hq => ?_)).1
      rw [List.mem_singleton.1 hq]
      refine ⟨j, d, h1, h2, h3, .inr ⟨q3, q1, q2, .inr ⟨rfl, p.st, ht, ?_⟩⟩⟩
      show sle p.st (upI w.held p.too.id (newW (w.held p.too.id) p.st p.z) p.too.id).st
      unfold upI
      rw [if_pos rfl]
      exact n2
  · rw [q1] at hc; cases hc
/-- A message is taken off what is under way, or doubled. -/
theorem WInv.less (h : WInv w G T) {l : List Pm} (hl : ∀ p, p ∈ l → p ∈ w.un) : WInv { w with un := l } G T :=
  h.like ⟨rfl, rfl, rfl, rfl, rfl, rfl⟩ h.br (fun p hp => h.msg p (hl p hp)) h.laid
end
end Go.Proofs.Ytgiokkcdgoloaaa.Md
