import Derived.Test.YtgiokkcdgoloaaaZa
import Derived.Test.YtgiokkcdgoloaaaVd
namespace Go.Proofs.Ytgiokkcdgoloaaa.Md
open Go.RowKit
set_option linter.unusedVariables false
set_option linter.unusedSimpArgs false
def AnsTo (s : RM) (k sv : Int) (p : Pm) : Prop := p.k = k ∧ p.fr = ⟨false, sv⟩ ∧ p.too = ⟨true, s.cl⟩ ∧ p.op = s.op ∧ p.rd = s.rd ∧ p.ky = s.ky
theorem AnsTo.hit {s : RM} {k sv : Int} {p : Pm} (h : AnsTo s k sv p) : hitP s k (mgP p) = true := by
  obtain ⟨h1, h2, h3, h4, h5, h6⟩ := h
  unfold hitP hitB RM.x mdOf mgP
  simp [h1, h2, h3, h4, h5, h6]
theorem takeS_some {α : Type} {X : TS α} {i j : Int} {b : α} (h : (X.v j).isSome = true) : ((takeS X i b).v j).isSome = true := by
  rw [takeS_v]
  split
  · rfl
  · exact h
theorem takeS_got {α : Type} {X : TS α} {i : Int} {b : α} (hi : i ∈ X.g) (hc : (cnt X : Int) < X.need) : ((takeS X i b).v i).isSome = true := by
  rw [takeS_v]
  split
  · rfl
  · rename_i h
    have h : ¬ mayB X i = true := fun e => h ⟨e, rfl⟩
    unfold mayB enB at h
    cases hv : X.v i with
    | some _ => rfl
    | none =>
      exfalso
      apply h
      rw [hv, decide_eq_true hi, decide_eq_false (by omega)]
      rfl
theorem take_ask {s : RM} {X : TS Bp} (hs : s.ph = .ask X) (hc : (cnt X : Int) < X.need) (d : Mg) (z : List Int) :
    (∃ X', (takP s d z).1 = { s with ph := .ask X' } ∧ X'.g = X.g ∧ (∀ sv, (X.v sv).isSome = true → (X'.v sv).isSome = true) ∧ (hitP s 11 d = true → d.fr.id ∈ X.g → (X'.v d.fr.id).isSome = true) ∧ (∀ i b, X'.v i = some b → X.v i = some b ∨ (hitP s 11 d = true ∧ b = keepP s d z))) ∨
    (∃ l : List Bp, takP s d z = setP s l ∧ ∀ b, b ∈ l → (∃ i, X.v i = some b) ∨ (hitP s 11 d = true ∧ b = keepP s d z)) := by
  have new : ∀ i b, (takeS X d.fr.id (keepP s d z)).v i = some b → X.v i = some b ∨ b = keepP s d z := fun i b hb => by
    rw [takeS_v] at hb
    split at hb
    · cases hb; exact .inr rfl
    · exact .inl hb
  unfold takP
  rw [hs]
  dsimp only
  by_cases hh : hitP s 11 d = true
  · rw [if_pos hh]
    by_cases ht : takeB X d.fr.id = true
    · rw [if_pos ht]
      refine .inr ⟨_, rfl, fun b hb => ?_⟩
      obtain ⟨i, _, hi⟩ := got_in hb
      exact (new i b hi).imp (fun e => ⟨i, e⟩) (fun e => ⟨hh, e⟩)
    · rw [if_neg ht]
      exact .inl ⟨_, rfl, takeS_g _ _ _, fun sv h => takeS_some h, fun _ h => takeS_got h hc, fun i b hb => (new i b hb).imp id (fun e => ⟨hh, e⟩)⟩
  · rw [if_neg hh]
    exact .inl ⟨X, by rw [← hs], rfl, fun _ h => h, fun e => absurd e hh, fun i b hb => .inl hb⟩
theorem take_lay {s : RM} {b : Bp} {U : TS Unit} (hs : s.ph = .lay b U) (hc : (cnt U : Int) < U.need) (d : Mg) (z : List Int) :
    (∃ U', (takP s d z).1 = { s with ph := .lay b U' } ∧ U'.g = U.g ∧ (∀ sv, (U.v sv).isSome = true → (U'.v sv).isSome = true) ∧ (hitP s 12 d = true → d.fr.id ∈ U.g → (U'.v d.fr.id).isSome = true)) ∨
    (∃ er st y, (takP s d z).1.ph = .fin er st y) := by
  unfold takP
  rw [hs]
  dsimp only
  by_cases hh : hitP s 12 d = true
  · rw [if_pos hh]
    by_cases ht : takeB U d.fr.id = true
    · rw [if_pos ht]
      exact .inr ⟨_, _, _, rfl⟩
    · rw [if_neg ht]
      exact .inl ⟨_, rfl, takeS_g _ _ _, fun sv h => takeS_some h, fun _ h => takeS_got h hc⟩
  · rw [if_neg hh]
    exact .inl ⟨U, by rw [← hs], rfl, fun _ h => h, fun e => absurd e hh⟩
theorem set_ph (s : RM) (l : List Bp) : (∃ b U, (setP s l).1.ph = .lay b U) ∨ (∃ er st y, (setP s l).1.ph = .fin er st y) := by
  have hl : ∀ b, (∃ b' U, (layP s b).1.ph = .lay b' U) ∨ (∃ er st y, (layP s b).1.ph = .fin er st y) := fun b => by
    unfold layP
    split
    · exact .inr ⟨_, _, _, rfl⟩
    · exact .inl ⟨_, _, rfl⟩
  unfold setP
  split
  · split
    · exact .inr ⟨_, _, _, rfl⟩
    · exact hl _
  · split
    · exact hl _
    · exact .inr ⟨_, _, _, rfl⟩
theorem set_alike {s : RM} {l : List Bp} {n : Nat} {t : Sp} (ha : s.aim = .rd n) (h : ∀ b, b ∈ l → b.st = t) (hl : l ≠ []) : ∃ er st y, (setP s l).1.ph = .fin er st y := by
  have hb : (bestB l).st = t := by
    unfold bestB bpAt
    have hlt : ∀ k (lt : Nat → Nat → Bool), bi lt k ≤ k := fun k lt => by
      induction k with
      | zero => exact Nat.le_refl _
      | succ k ih =>
        unfold bi
        split
        · exact Nat.le_refl _
        · omega
    have h1 := hlt (l.length - 1) (fun i j => lsP (l[i]?.getD bpZ) (l[j]?.getD bpZ))
    have h2 : 0 < l.length := List.length_pos_iff.2 hl
    have h3 : bi (fun i j => lsP (l[i]?.getD bpZ) (l[j]?.getD bpZ)) (l.length - 1) < l.length := by omega
    rw [List.getElem?_eq_getElem h3]
    exact h _ (List.getElem_mem _)
  unfold setP
  rw [ha]
  dsimp only
  rw [if_neg]
  · exact ⟨_, _, _, rfl⟩
  · intro e
    obtain ⟨p, hp, ho⟩ := List.any_eq_true.1 e
    unfold othP at ho
    rw [h p hp, hb] at ho
    simp at ho
section
variable {w x y : Wd} {G : Nat → Int → Sp} {T : Nat → Option Sp} {c : Nat} {s : RM} {up : List Bool}
theorem look_m (y : Wd) (c c' : Nat) (h : c' ≠ c) : (lookW y c').m c = y.m c := by
  unfold lookW
  split
  · rfl
  · split
    · show upN y.m c' none c = _
      unfold upN
      rw [if_neg (fun e => h e.symm)]
    · rfl
theorem clie_ne (y : Wd) (p : Pm) {c c' : Nat} (h : c' ≠ c) : (clieW y p c').m c = y.m c := by
  unfold clieW
  split
  · rfl
  · split
    · rfl
    · rw [look_m _ _ _ h, (sendW_fix _ _).2.2.2.m]
      show upN y.m c' _ c = _
      unfold upN
      rw [if_neg (fun e => h e.symm)]
theorem clie_eq {p : Pm} (hm : y.m c = some s) (hg : y.gone c = false) : (clieW y p c).m c = (match (takP s (mgP p) p.z).1.ph with | .fin _ _ _ => none | _ => some (takP s (mgP p) p.z).1) := by
  unfold clieW
  rw [hm]
  dsimp only
  rw [hg]
  generalize takP s (mgP p) p.z = o
  have h1 := (sendW_fix (outs o) { y with m := upN y.m c (some o.1) }).2.2.2.m
  generalize sendW { y with m := upN y.m c (some o.1) } (outs o) = v at h1
  have h2 : v.m c = some o.1 := by rw [h1]; show upN y.m c _ c = _; unfold upN; rw [if_pos rfl]
  show (lookW v c).m c = _
  unfold lookW
  rw [h2]
  dsimp only
  split
  · rename_i e
    rw [e]
    show upN v.m c none c = none
    unfold upN; rw [if_pos rfl]
  · rename_i e
    show v.m c = _
    rw [h2]
    split
    · rename_i q; exact absurd q (e _ _ _)
    · rfl
theorem serv_m (y : Wd) (p : Pm) : (servW y p).m = y.m := by
  unfold servW
  split
  · rw [(sendW_fix _ _).2.2.2.m]
  · split
    · rw [(sendW_fix _ _).2.2.2.m]
    · rw [(sendW_fix _ _).2.2.2.m]
def AskG (al : Bool) (t0 : Sp) (s : RM) (c : Nat) (up : List Bool) (zs : List Int) (y : Wd) (r : List Pm) : Prop :=
  y.m c = none ∨ (al = false ∧ ∃ s' b U, y.m c = some s' ∧ s'.ph = .lay b U) ∨
    ∃ X, y.m c = some { s with ph := .ask X } ∧ (∀ sv, sv ∈ zs → upAt up sv = true → (X.v sv).isSome = true ∨ ∃ p, p ∈ r ∧ AnsTo s 11 sv p) ∧ (al = true → ∀ i b, X.v i = some b → b.st = t0)
def LayG (s : RM) (b : Bp) (c : Nat) (up : List Bool) (zs : List Int) (y : Wd) (r : List Pm) : Prop :=
  y.m c = none ∨ ∃ U, y.m c = some { s with ph := .lay b U } ∧ (∀ sv, sv ∈ zs → upAt up sv = true → (U.v sv).isSome = true ∨ ∃ p, p ∈ r ∧ AnsTo s 12 sv p)
theorem keep_st (s : RM) (d : Mg) (z : List Int) : (keepP s d z).st = d.st := by
  unfold keepP
  split
  · rfl
  · split
    · rename_i h
      show spZ = d.st
      have : d.st = ⟨d.st.n, d.st.c⟩ := rfl
      rw [this, h.1, h.2]
      rfl
    · rfl
theorem hit_k {s : RM} {k : Int} {p : Pm} (h : hitP s k (mgP p) = true) : p.k = k := (hit_op h).1
theorem AskG.step {al : Bool} {t0 : Sp} {zs : List Int} {p : Pm} {r : List Pm} (hz : zs = wdG y) (hI : WInv y G T) (hc : s.cl = (c : Int) + 1) (hg : y.gone c = false) (h : AskG al t0 s c up zs y (p :: r)) (ha : al = true → (∃ n, s.aim = .rd n) ∧ (p.k = 11 → p.st = t0)) (hcl : p.too.cl = true) : AskG al t0 s c up zs (delW y p) r := by
  unfold delW
  rw [if_pos hcl]
  by_cases hid : p.too.id - 1 < 0 ∨ 4 ≤ p.too.id - 1
  · rw [if_pos hid]
    rcases h with h | h | ⟨X, h1, h2, h3⟩
    · exact .inl h
    · exact .inr (.inl h)
    · refine .inr (.inr ⟨X, h1, fun sv q1 q2 => (h2 sv q1 q2).imp id ?_, h3⟩)
      rintro ⟨q, hq, ht⟩
      rcases List.mem_cons.1 hq with rfl | hq
      · exfalso
        obtain ⟨_, _, e3, _⟩ := ht
        have hlt : (c : Int) < 4 := by have := (hI.act c _ h1).1; omega
        rw [e3] at hid
        dsimp only at hid
        omega
      · exact ⟨q, hq, ht⟩
  · rw [if_neg hid]
    by_cases hcc : (p.too.id - 1).toNat = c
    · rw [hcc]
      rcases h with h | ⟨h0, s', b, U, h1, h2⟩ | ⟨X, h1, h2, h3⟩
      · left
        unfold clieW
        rw [h]
        exact h
      · rw [h0]
        have hk := (hI.act c s' h1).2.2.2.2.1.ph
        rw [h2] at hk
        obtain ⟨k1, k2, k3, _⟩ := hk
        have e := clie_eq (p := p) h1 hg
        rcases take_lay h2 (by rw [k2]; exact k3) (mgP p) p.z with ⟨U', e1, _⟩ | ⟨er, st, z, e1⟩
        · rw [e1] at e
          exact .inr (.inl ⟨rfl, _, b, U', e, rfl⟩)
        · rw [e1] at e
          exact .inl e
      · have hk := (hI.act c _ h1).2.2.2.2.1.ph
        obtain ⟨k1, k2, k3, _⟩ := hk
        have e := clie_eq (p := p) h1 hg
        have hst : ∀ b : Bp, al = true → hitP s 11 (mgP p) = true → b = keepP s (mgP p) p.z → b.st = t0 := fun b hal hh hb => by
          rw [hb, keep_st]
          exact (ha hal).2 (hit_k hh)
        rcases take_ask (s := { s with ph := .ask X }) rfl (by rw [k2]; exact k3) (mgP p) p.z with ⟨X', e1, e2, e3, e4, e5⟩ | ⟨l, e1, e2⟩
        · rw [e1] at e
          refine .inr (.inr ⟨X', e, fun sv q1 q2 => ?_, fun hal i b hb => (e5 i b hb).elim (h3 hal i b) (fun q => hst b hal q.1 q.2)⟩)
          rcases h2 sv q1 q2 with q | ⟨q, hq, ht⟩
          · exact .inl (e3 sv q)
          · rcases List.mem_cons.1 hq with rfl | hq
            · left
              have f : (mgP q).fr.id = sv := by show q.fr.id = sv; rw [ht.2.1]
              rw [← f]
              exact e4 ht.hit (by rw [f, k1, ← hz]; exact q1)
            · exact .inr ⟨q, hq, ht⟩
        · rw [e1] at e
          cases hal : al with
          | false =>
            rcases set_ph { s with ph := .ask X } l with ⟨b, U, f⟩ | ⟨er, st, z, f⟩
            · rw [f] at e
              exact .inr (.inl ⟨rfl, _, b, U, e, f⟩)
            · rw [f] at e
              exact .inl e
          | true =>
            obtain ⟨n, hn⟩ := (ha hal).1
            by_cases hl : l = []
            · rcases set_ph { s with ph := .ask X } l with ⟨b, U, f⟩ | ⟨er, st, z, f⟩
              · exfalso
                subst hl
                unfold setP at f
                rw [hn] at f
                dsimp only at f
                rw [if_neg (by simp)] at f
                cases f
              · rw [f] at e
                exact .inl e
            · obtain ⟨er, st, z, f⟩ := set_alike (s := { s with ph := .ask X }) (t := t0) hn (fun b hb => (e2 b hb).elim (fun q => by obtain ⟨i, q⟩ := q; exact h3 hal i b q) (fun q => hst b hal q.1 q.2)) hl
              rw [f] at e
              exact .inl e
    · have hne := clie_ne y p hcc
      rcases h with h | ⟨h0, s', b, U, h1, h2⟩ | ⟨X, h1, h2, h3⟩
      · exact .inl (hne.trans h)
      · exact .inr (.inl ⟨h0, s', b, U, hne.trans h1, h2⟩)
      · refine .inr (.inr ⟨X, hne.trans h1, fun sv q1 q2 => (h2 sv q1 q2).imp id ?_, h3⟩)
        rintro ⟨q, hq, ht⟩
        rcases List.mem_cons.1 hq with rfl | hq
        · exfalso
          obtain ⟨_, _, e3, _⟩ := ht
          apply hcc
          rw [e3]
          show (s.cl - 1).toNat = c
          rw [hc]
          omega
        · exact ⟨q, hq, ht⟩
theorem LayG.step {b : Bp} {zs : List Int} {p : Pm} {r : List Pm} (hz : zs = wdG y) (hI : WInv y G T) (hc : s.cl = (c : Int) + 1) (hg : y.gone c = false) (h : LayG s b c up zs y (p :: r)) (hcl : p.too.cl = true) : LayG s b c up zs (delW y p) r := by
  unfold delW
  rw [if_pos hcl]
  by_cases hid : p.too.id - 1 < 0 ∨ 4 ≤ p.too.id - 1
  · rw [if_pos hid]
    rcases h with h | ⟨U, h1, h2⟩
    · exact .inl h
    · refine .inr ⟨U, h1, fun sv q1 q2 => (h2 sv q1 q2).imp id ?_⟩
      rintro ⟨q, hq, ht⟩
      rcases List.mem_cons.1 hq with rfl | hq
      · exfalso
        obtain ⟨_, _, e3, _⟩ := ht
        have hlt : (c : Int) < 4 := by have := (hI.act c _ h1).1; omega
        rw [e3] at hid
        dsimp only at hid
        omega
      · exact ⟨q, hq, ht⟩
  · rw [if_neg hid]
    by_cases hcc : (p.too.id - 1).toNat = c
    · rw [hcc]
      rcases h with h | ⟨U, h1, h2⟩
      · left
        unfold clieW
        rw [h]
        exact h
      · have hk := (hI.act c _ h1).2.2.2.2.1.ph
        obtain ⟨k1, k2, k3, _⟩ := hk
        have e := clie_eq (p := p) h1 hg
        rcases take_lay (s := { s with ph := .lay b U }) rfl (by rw [k2]; exact k3) (mgP p) p.z with ⟨U', e1, e2, e3, e4⟩ | ⟨er, st, z, e1⟩
        · rw [e1] at e
          refine .inr ⟨U', e, fun sv q1 q2 => ?_⟩
          rcases h2 sv q1 q2 with q | ⟨q, hq, ht⟩
          · exact .inl (e3 sv q)
          · rcases List.mem_cons.1 hq with rfl | hq
            · left
              have f : (mgP q).fr.id = sv := by show q.fr.id = sv; rw [ht.2.1]
              rw [← f]
              exact e4 ht.hit (by rw [f, k1, ← hz]; exact q1)
            · exact .inr ⟨q, hq, ht⟩
        · rw [e1] at e
          exact .inl e
    · have hne := clie_ne y p hcc
      rcases h with h | ⟨U, h1, h2⟩
      · exact .inl (hne.trans h)
      · refine .inr ⟨U, hne.trans h1, fun sv q1 q2 => (h2 sv q1 q2).imp id ?_⟩
        rintro ⟨q, hq, ht⟩
        rcases List.mem_cons.1 hq with rfl | hq
        · exfalso
          obtain ⟨_, _, e3, _⟩ := ht
          apply hcc
          rw [e3]
          show (s.cl - 1).toNat = c
          rw [hc]
          omega
        · exact ⟨q, hq, ht⟩
end
end Go.Proofs.Ytgiokkcdgoloaaa.Md
namespace Go.Proofs.Ytgiokkcdgoloaaa.Md
open Go.RowKit
set_option linter.unusedVariables false
set_option linter.unusedSimpArgs false
def RfAt (w : World) (r : Nat) (x : Rx) (g : Sl) : Option (Nat × Nat) → Prop
  | none => RfG w r x g slZ slZ
  | some p => RfL w r x g p.1 p.2
def Jx (r : Nat) (g : Sl) (LV : Option (Nat × Nat)) : Nat → Prop := fun k => k = r ∨ At g.a k ∨ ∃ p, LV = some p ∧ (k = p.1 ∨ k = p.2)
theorem RfAt.gg {w : World} {r : Nat} {x : Rx} {g : Sl} {LV : Option (Nat × Nat)} (h : RfAt w r x g LV) : ∃ an vv, RfG w r x g an vv := by
  cases LV with
  | none => exact ⟨_, _, h⟩
  | some p => exact ⟨_, _, RfL.g h⟩
theorem RfAt.lt {w : World} {r : Nat} {x : Rx} {g : Sl} {LV : Option (Nat × Nat)} (h : RfAt w r x g LV) {k : Nat} (hk : Jx r g LV k) : k < w.heap.size := by
  obtain ⟨an, vv, hg⟩ := h.gg
  rcases hk with rfl | hk | ⟨p, rfl, hk⟩
  · exact hg.box.lt
  · exact hg.gr.own.lt hk
  · rcases hk with rfl | rfl
    · exact (show RfL w r x g p.1 p.2 from h).ba.lt
    · exact (show RfL w r x g p.1 p.2 from h).bv.lt
theorem RfAt.kept {S : Nat → Prop} {w w' : World} {r : Nat} {x : Rx} {g : Sl} {LV : Option (Nat × Nat)} (h : RfAt w r x g LV) (hk : Kept S w w') (hS : ∀ k, Jx r g LV k → ¬ S k) : RfAt w' r x g LV := by
  cases LV with
  | none => exact RfG.kept h hk (hS r (.inl rfl)) (fun k e => hS k (.inr (.inl e)))
  | some p => exact RfL.kept h hk (hS r (.inl rfl)) (fun k e => hS k (.inr (.inl e))) (hS _ (.inr (.inr ⟨p, rfl, .inl rfl⟩))) (hS _ (.inr (.inr ⟨p, rfl, .inr rfl⟩)))
def Bw (H : Nat → Prop) (w : World) (I J : Nat → Prop) (l : Sl) (z : List Int) : Prop := RdB w l z ∧ l.l ≤ 140737488351232 ∧ (z ≠ [] → ∀ k, At l.a k → k < w.heap.size ∧ ¬ I k ∧ ¬ J k ∧ H k)
theorem Bw.to {S I J I' J' H : Nat → Prop} {w w' : World} {l : Sl} {z : List Int} (h : Bw H w I J l z) (hk : Kept S w w') (hS : ∀ k, k < w.heap.size → ¬ I k → ¬ J k → ¬ S k ∧ ¬ I' k ∧ ¬ J' k) : Bw H w' I' J' l z := by
  have hs := hk.size
  refine ⟨h.1.kept0 hk (fun hne k e => (hS k (h.2.2 hne k e).1 (h.2.2 hne k e).2.1 (h.2.2 hne k e).2.2.1).1), h.2.1, fun hne k e => ?_⟩
  have q := hS k (h.2.2 hne k e).1 (h.2.2 hne k e).2.1 (h.2.2 hne k e).2.2.1
  exact ⟨by have := (h.2.2 hne k e).1; omega, q.2.1, q.2.2, (h.2.2 hne k e).2.2.2⟩
structure Wq (w0 w : World) (I : Nat → Prop) (m r : Nat) (g : Sl) (LV : Option (Nat × Nat)) (s : RM) (x : Rx) : Prop where
  mch : Mch w I m s
  ref : RfAt w r x g LV
  ia : ∀ k, I k → w0.heap.size ≤ k ∧ k < w.heap.size ∧ ¬ Jx r g LV k
  jb : ∀ k, Jx r g LV k → w0.heap.size ≤ k
  kp : Kept (fun k => w0.heap.size ≤ k) w0 w
  lv : x.ph = 1 ∨ x.ph = 2 → LV ≠ none
section
variable {w0 w w' : World} {I I' S H : Nat → Prop} {m r : Nat} {g : Sl} {LV LV' : Option (Nat × Nat)} {s s' : RM} {x x' : Rx} {o : RM × To} {e : Ending}
theorem Wq.no (h : Wq w0 w I m r g LV s x) (hk : Kept No w w') : Wq w0 w' I m r g LV s x :=
  ⟨h.mch.no hk, h.ref.kept hk (fun _ _ e => e), fun k e => ⟨(h.ia k e).1, by have := (h.ia k e).2.1; have := hk.size; omega, (h.ia k e).2.2⟩, h.jb, h.kp.then hk.of_no, h.lv⟩
theorem Wq.off (h : Wq w0 w I m r g LV s x) (hk : Kept S w w') (hS : ∀ k, S k → w0.heap.size ≤ k ∧ ¬ I k ∧ ¬ Jx r g LV k) : Wq w0 w' I m r g LV s x :=
  ⟨h.mch.kept hk (fun k e _ => ⟨fun f => (hS k f).2.1 e, e⟩), h.ref.kept hk (fun k e f => (hS k f).2.2 e), fun k e => ⟨(h.ia k e).1, by have := (h.ia k e).2.1; have := hk.size; omega, (h.ia k e).2.2⟩, h.jb, h.kp.trans hk (fun _ e => e) (fun k _ e => (hS k e).1), h.lv⟩
def TlM (w : World) (N : Nat) (la : Option Addr) (n lc : Nat) (o : RM × To) : Prop := ∃ qs, qs.length = n ∧ qs.map Qm.sv = o.2.ss ∧ Msgs w N la lc o.1.x ⟨o.2.k, o.2.st.n, o.2.st.c, o.2.z.length⟩ o.2.z qs
theorem TlM.kept {N n lc : Nat} {la : Option Addr} (h : TlM w N la n lc o) (hk : Kept S w w') (hS : ∀ k, N ≤ k → ¬ S k) : TlM w' N la n lc o := by
  obtain ⟨qs, h1, h2, h3⟩ := h
  exact ⟨qs, h1, h2, ⟨Own.kept h3.row hk (fun k e => hS k (Own.base h3.row e)), fun q hq => Own.kept (h3.own q hq) hk (fun k e => hS k (Own.base (h3.own q hq) e)), h3.ord, h3.len⟩⟩
theorem Wq.prog (h : Wq w0 w I m r g LV s x) (ho : MOut w I m o e w') : ∃ la n lc I', e = .returned (.slice la n lc) ∧ TlM w' w.heap.size la n lc o ∧ Wq w0 w' I' m r g LV o.1 x ∧ (∀ l z, Bw H w I (Jx r g LV) l z → Bw H w' I' (Jx r g LV) l z) ∧ Kept I w w' ∧ (∀ k, I' k → I k ∨ w.heap.size ≤ k) := by
  obtain ⟨la, lc, qs, I', he, hq, hM, hm, hI, hk⟩ := ho
  have hs := hk.size
  refine ⟨la, _, lc, I', he, ⟨qs, rfl, hq, hM⟩, ⟨hm, h.ref.kept hk (fun k e f => (h.ia k f).2.2 e), fun k e => ?_, h.jb, h.kp.trans hk (fun _ e => e) (fun k _ e => (h.ia k e).1), h.lv⟩, fun l z hb => hb.to hk (fun k l1 l2 l3 => ⟨l2, fun f => ?_, l3⟩), hk, fun k e => (hI k e).1⟩
  · have h0 := h.kp.size
    rcases (hI k e).1 with f | f
    · exact ⟨(h.ia k f).1, (hI k e).2, (h.ia k f).2.2⟩
    · exact ⟨by omega, (hI k e).2, fun j => by have := h.ref.lt j; omega⟩
  · rcases (hI k f).1 with f | f
    · exact l2 f
    · omega
end
end Go.Proofs.Ytgiokkcdgoloaaa.Md
namespace Go.Proofs.Ytgiokkcdgoloaaa.Md
open Go.RowKit
set_option linter.unusedVariables false
set_option linter.unusedSimpArgs false
def RefO (H : Nat → Prop) (w0 w : World) (I : Nat → Prop) (m r : Nat) (g : Sl) (LV : Option (Nat × Nat)) (s : RM) (o : RM × To) (e : Ending) (w' : World) : Prop :=
  ∃ t l LV' x', e = .returned (Sl.v t) ∧ RdM w' t l ∧ l.length ≤ 1000 ∧ Wq w0 w' I m r g LV' s x' ∧ Rel (Bw H w' I (Jx r g LV')) o.1 x' ∧ LikeT (Bw H w' I (Jx r g LV')) x' o l ∧ Kept (Jx r g LV) w w' ∧ ∀ k, Jx r g LV' k → Jx r g LV k ∨ w.heap.size ≤ k
theorem rdM_nil (w : World) : RdM w slZ [] := ⟨RowsAt.nil _ _ _, rfl⟩
theorem likeT_nil (B : Sl → List Int → Prop) (x : Rx) (s : RM) : LikeT B x (s, toZ) [] := ⟨rfl, fun e => absurd rfl e⟩
theorem LikeT.mono {B B' : Sl → List Int → Prop} {x : Rx} {o : RM × To} {l : List Mg} (h : LikeT B x o l) (hB : ∀ l z, B l z → B' l z) : LikeT B' x o l :=
  ⟨h.eq, fun e => by obtain ⟨a, b, c, d, f⟩ := h.ok e; exact ⟨a, b, c, d, f.imp id (fun q => ⟨q.1, q.2.1, q.2.2.1, hB _ _ q.2.2.2⟩)⟩⟩
section
variable {w0 w : World} {I H : Nat → Prop} {m r : Nat} {g : Sl} {LV : Option (Nat × Nat)} {s s0 : RM} {x : Rx}
theorem RefO.same {e : Ending} {w' : World} (h : Wq w0 w I m r g LV s x) (hr : Rel (Bw H w I (Jx r g LV)) s0 x) (he : e = .returned (.slice none 0 0)) (hk : Kept No w w') : RefO H w0 w I m r g LV s (s0, toZ) e w' :=
  ⟨slZ, [], LV, x, he, rdM_nil _, by simp, h.no hk, hr.mono (fun l z hb => hb.to hk (fun k _ l2 l3 => ⟨fun f => f, l2, l3⟩)), likeT_nil _ _ _, hk.of_no, fun k e => .inl e⟩
end
end Go.Proofs.Ytgiokkcdgoloaaa.Md
namespace Go.Proofs.Ytgiokkcdgoloaaa.Md
open Go.RowKit
set_option linter.unusedVariables false
set_option linter.unusedSimpArgs false
theorem U31 : Try.prog.underlying 31 = some ((Try.prog.underlying 31).getD .bool) := by kernel_rfl
theorem V31 : (match (Try.prog.underlying 31).getD .bool with | .struct _ | .array _ _ => true | _ => false) = false := by kernel_rfl
end Go.Proofs.Ytgiokkcdgoloaaa.Md
namespace Go.Proofs.Ytgiokkcdgoloaaa.Md
open Go.RowKit
set_option linter.unusedVariables false
set_option linter.unusedSimpArgs false
theorem b_remI (a : Int) (n : Nat) (h0 : 0 < n) (w : World) : (binOp .rem 3 (.int .i64 a) (.int .i64 (n : Int))).run Try.prog w = .ok (.int .i64 (a.tmod (n : Int))) w := by
  rw [binOp_rem]
  unfold Op.intDiv
  rw [if_neg (by omega)]
  rfl
end Go.Proofs.Ytgiokkcdgoloaaa.Md
