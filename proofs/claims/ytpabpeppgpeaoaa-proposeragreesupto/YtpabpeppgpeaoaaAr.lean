import Derived.Test.YtpabpeppgpeaoaaAp
/-! The hall's steps: numbers stay small, nobody is worn out; a refusal is noted. -/

namespace Go.Proofs.Ytpabpeppgpeaoaa
open Go.RowKit Gt
set_option linter.unusedVariables false
set_option linter.unusedSimpArgs false

namespace Pax

def Al : Ph → Prop
  | .tri _ _ _ => False
  | .worn => False
  | _ => True
def rfP : Ph → Bool
  | .pre _ _ rf => rf
  | .acc _ _ _ rf => rf
  | _ => false
structure NumP (e : Int) (s : PS) : Prop where
  n1 : 1 ≤ s.n
  nt : s.n ≤ s.top
  te : s.top ≤ e
  r1 : 1 ≤ s.rd
  re : s.rd ≤ e
  al : Al s.ph
theorem NumP.mono {e e' : Int} {s : PS} (h : NumP e s) (l : e ≤ e') : NumP e' s := ⟨h.n1, h.nt, Int.le_trans h.te l, h.r1, Int.le_trans h.re l, h.al⟩
theorem num_prep {e : Int} {s : PS} (h : NumP e s) {n r : Int} (n1 : 1 ≤ n) (ne : n ≤ e) (r1 : 1 ≤ r) (re : r ≤ e) (he : e ≤ 1099511627776) :
    NumP e (prepS s n r).1 ∧ (∀ m, m ∈ (prepS s n r).2 → m.st.n ≤ e) ∧ rfP (prepS s n r).1.ph = false ∧ (prepS s n r).2.length = s.zs.length := by
  have ho : (okN n && okN r) = true := by rw [Bool.and_eq_true, okN_iff, okN_iff]; omega
  unfold prepS
  rw [if_pos ho]
  refine ⟨⟨n1, ?_, ?_, r1, re, trivial⟩, fun m hm => ?_, rfl, List.length_map _⟩
  · show n ≤ max s.top n; omega
  · show max s.top n ≤ e; have := h.te; omega
  · obtain ⟨z, _, rfl⟩ := List.mem_map.1 hm
    exact ne
theorem num_beg {e : Int} {s : PS} (h : NumP e s) (he : e ≤ 1099511627776) : NumP e (begS s).1 ∧ (∀ m, m ∈ (begS s).2 → m.st.n ≤ e) ∧ (rfP (begS s).1.ph = true → rfP s.ph = true ∧ (begS s).1.rd = s.rd) := by
  unfold begS
  cases hs : s.ph with
  | fresh =>
    obtain ⟨h1, h2, h3, _⟩ := num_prep h h.n1 (Int.le_trans h.nt h.te) h.r1 h.re he
    exact ⟨h1, h2, fun e => absurd e (by show ¬ (rfP (prepS s s.n s.rd).1.ph = true); rw [h3]; decide)⟩
  | _ => exact ⟨h, fun m hm => absurd hm (by simp), fun e => ⟨by rw [hs] at e; exact e, rfl⟩⟩
theorem num_tick {e : Int} {s : PS} (h : NumP e s) (he : e + 1 ≤ 1099511627776) : NumP (e + 1) (tickS s).1 ∧ (∀ m, m ∈ (tickS s).2 → m.st.n ≤ e + 1) ∧ rfP (tickS s).1.ph = false := by
  have hm := h.mono (show e ≤ e + 1 by omega)
  have a1 := h.n1; have a2 := h.nt; have a3 := h.te; have a4 := h.r1; have a5 := h.re
  have w1 := wr1_ok (n := s.top) (by omega) (by omega)
  have w2 := wr1_ok (n := s.rd) (by omega) (by omega)
  have P := num_prep hm (n := wr1 s.top) (r := wr1 s.rd) (by omega) (by omega) (by omega) (by omega) he
  unfold tickS
  cases hs : s.ph with
  | pre x y rf =>
    cases rf with
    | false =>
      refine ⟨hm, fun m hm => ?_, by show rfP s.ph = false; rw [hs]; rfl⟩
      obtain ⟨z, _, rfl⟩ := List.mem_map.1 hm
      show s.n ≤ e + 1; omega
    | true => exact ⟨P.1, P.2.1, P.2.2.1⟩
  | acc c x y rf =>
    cases rf with
    | false =>
      refine ⟨hm, fun m hm => ?_, by show rfP s.ph = false; rw [hs]; rfl⟩
      obtain ⟨z, _, rfl⟩ := List.mem_map.1 hm
      show s.n ≤ e + 1; omega
    | true => exact ⟨P.1, P.2.1, P.2.2.1⟩
  | _ => exact ⟨hm, fun m hm => absurd hm (by simp), by show rfP s.ph = false; rw [hs]; rfl⟩
theorem num_acc {e : Int} {s : PS} (h : NumP e s) (he : e + 1 ≤ 1099511627776) (c : Cm) : NumP (e + 1) (accS s c).1 ∧ (∀ m, m ∈ (accS s c).2 → m.st.n ≤ e + 1) ∧ rfP (accS s c).1.ph = false ∧ (accS s c).2.length = s.zs.length := by
  have a1 := h.n1; have a2 := h.nt; have a3 := h.te; have a4 := h.r1; have a5 := h.re
  have w2 := wr1_ok (n := s.rd) (by omega) (by omega)
  have ho : (okN s.n && okN (wr1 s.rd)) = true := by rw [Bool.and_eq_true, okN_iff, okN_iff]; omega
  unfold accS
  rw [if_pos ho]
  refine ⟨⟨a1, ?_, ?_, ?_, ?_, trivial⟩, fun m hm => ?_, rfl, List.length_map _⟩
  · show s.n ≤ max s.top s.n; omega
  · show max s.top s.n ≤ e + 1; omega
  · show 1 ≤ wr1 s.rd; omega
  · show wr1 s.rd ≤ e + 1; omega
  · obtain ⟨z, _, rfl⟩ := List.mem_map.1 hm
    show s.n ≤ e + 1; omega
theorem ansB_rd {s : PS} {m : Ms} (h : ansB s.v0 s.zs m = true) : m.rd = s.rd := by
  unfold ansB at h
  simp only [Bool.and_eq_true, beq_iff_eq] at h
  exact h.2.2.1
/-- What a message does to the numbers and to what was refused. -/
structure TkN (e : Int) (s : PS) (m : Ms) (t : PS × List Ms) : Prop where
  num : NumP (e + 1) t.1
  way : ∀ k, k ∈ t.2 → k.st.n ≤ e + 1
  rf : rfP t.1.ph = true → t.1.rd = s.rd ∧ (rfP s.ph = true ∨ (m.k = 14 ∧ m.rd = s.rd))
theorem TkN.same {e : Int} {s : PS} {m : Ms} (h : NumP e s) : TkN e s m (s, []) := ⟨h.mono (by omega), fun k hk => absurd hk (by simp), fun r => ⟨rfl, .inl r⟩⟩
theorem num_oth {e : Int} {s : PS} (h : NumP e s) (x : TS Unit) (nk : TS Unit → Ph) (hnk : ∀ y, Al (nk y)) {m : Ms} (hm : m.st.n ≤ e) (h17 : m.k ≠ 17) {t : PS × List Ms} (ht : TkN e s m t) : TkN e s m (othS s x nk m [] [] t) := by
  unfold othS
  cases ha : ansB s.v0 s.zs m
  · rw [if_neg (by decide)]; exact .same h
  · rw [if_pos rfl]
    have hr := ansB_rd ha
    cases h16 : m.k == 16
    · rw [if_neg (by decide)]
      rw [if_neg (by rw [beq_iff_eq]; exact h17)]
      cases h14 : m.k == 14
      · rw [if_neg (by decide)]
        split
        · exact ht
        · exact .same h
      · rw [if_pos rfl]
        have h14 := eq_of_beq h14
        split
        · refine ⟨⟨h.n1, ?_, ?_, h.r1, ?_, hnk _⟩, fun k hk => absurd hk (by simp), fun _ => ⟨rfl, .inr ⟨h14, hr⟩⟩⟩
          · show s.n ≤ max s.top m.st.n; have := h.nt; omega
          · show max s.top m.st.n ≤ e + 1; have := h.te; omega
          · show s.rd ≤ e + 1; have := h.re; omega
        · exact .same h
    · rw [if_pos rfl]
      refine ⟨⟨h.n1, h.nt, ?_, h.r1, ?_, trivial⟩, fun k hk => absurd hk (by simp), fun e => nomatch e⟩
      · show s.top ≤ e + 1; have := h.te; omega
      · show s.rd ≤ e + 1; have := h.re; omega
theorem num_tak {e : Int} {s : PS} (h : NumP e s) (he : e + 1 ≤ 1099511627776) {m : Ms} (hm : m.st.n ≤ e) (h17 : m.k ≠ 17) : TkN e s m (taksS s m [] []) := by
  have hM := h.mono (show e ≤ e + 1 by omega)
  unfold taksS
  cases hs : s.ph with
  | pre x y rf =>
    refine num_oth h x (fun x' => .pre x' y true) (fun _ => trivial) hm h17 ?_
    unfold takP
    split
    · split
      · obtain ⟨q1, q2, q3, _⟩ := num_acc h he (choiceS s (takeS y m.fi (msV m)))
        exact ⟨q1, q2, fun r => absurd r (by rw [q3]; decide)⟩
      · refine ⟨⟨h.n1, h.nt, hM.te, h.r1, hM.re, trivial⟩, fun k hk => absurd hk (by simp), fun r => ⟨rfl, .inl ?_⟩⟩
        rw [hs]; exact r
    · exact .same h
  | acc c x y rf =>
    refine num_oth h x (fun x' => .acc c x' y true) (fun _ => trivial) hm h17 ?_
    unfold takA
    split
    · split
      · refine ⟨⟨h.n1, h.nt, hM.te, h.r1, hM.re, trivial⟩, fun k hk => ?_, fun r => nomatch r⟩
        obtain ⟨z, _, rfl⟩ := List.mem_map.1 hk
        show (0 : Int) ≤ e + 1; have := h.n1; have := h.nt; have := h.te; omega
      · refine ⟨⟨h.n1, h.nt, hM.te, h.r1, hM.re, trivial⟩, fun k hk => absurd hk (by simp), fun r => ⟨rfl, .inl ?_⟩⟩
        rw [hs]; exact r
    · exact .same h
  | _ => exact .same h

/-- The hall's numbers. -/
structure Num (e : Int) (h : Hl) : Prop where
  e0 : 0 ≤ e
  ps : ∀ s, s ∈ h.ps → NumP e s
  ins : ∀ i, i ∈ h.ins → i.p.n ≤ e
  way : ∀ m, m ∈ h.way → m.st.n ≤ e
  nks : ∀ (j : Nat) x, h.nks[j]? = some x → 0 ≤ x ∧ x ≤ e
  nkd : ∀ (j : Nat) s, h.ps[j]? = some s → rfP s.ph = true → h.nkd[j]? = some s.rd
  ln : h.nkd.length = h.ps.length
  ls : h.nks.length = h.ps.length
theorem Num.mono {e e' : Int} {h : Hl} (n : Num e h) (l : e ≤ e') : Num e' h :=
  ⟨by have := n.e0; omega, fun s hs => (n.ps s hs).mono l, fun i hi => Int.le_trans (n.ins i hi) l, fun m hm => Int.le_trans (n.way m hm) l, fun j x hx => ⟨(n.nks j x hx).1, Int.le_trans (n.nks j x hx).2 l⟩, n.nkd, n.ln, n.ls⟩
theorem Num.send {e : Int} {h : Hl} (n : Num e h) {l : List Ms} (hl : ∀ m, m ∈ l → m.st.n ≤ e) : Num e (sendH h l) :=
  ⟨n.e0, n.ps, n.ins, fun m hm => (mem_sendW hm).elim (n.way m) (hl m), n.nks, n.nkd, n.ln, n.ls⟩
theorem Num.gone {e : Int} {h : Hl} (n : Num e h) {l : List Ms} (hl : ∀ m, m ∈ l → m ∈ h.way) : Num e { h with way := l } :=
  ⟨n.e0, n.ps, n.ins, fun m hm => n.way m (hl m hm), n.nks, n.nkd, n.ln, n.ls⟩
theorem Num.look {e : Int} {h : Hl} (n : Num e h) : Num e (lookH h) := ⟨n.e0, n.ps, n.ins, n.way, n.nks, n.nkd, n.ln, n.ls⟩
theorem Num.play {e : Int} {h : Hl} (n : Num e h) {j : Nat} {t : PS × List Ms} (hp : NumP e t.1) (hm : ∀ m, m ∈ t.2 → m.st.n ≤ e) (hr : rfP t.1.ph = true → j < h.ps.length → h.nkd[j]? = some t.1.rd) : Num e (playH h j t) := by
  refine Num.send (h := { h with ps := h.ps.set j t.1 }) ⟨n.e0, fun s hs => ?_, n.ins, n.way, n.nks, fun i s hi r => ?_, ?_, ?_⟩ hm
  · rcases List.mem_or_eq_of_mem_set hs with hs | rfl
    · exact n.ps s hs
    · exact hp
  · replace hi : (h.ps.set j t.1)[i]? = some s := hi
    rw [List.getElem?_set] at hi
    by_cases e : j = i
    · subst e
      rw [if_pos rfl] at hi
      by_cases l : j < h.ps.length
      · rw [if_pos l] at hi; cases Option.some.inj hi; exact hr r l
      · rw [if_neg l] at hi; exact nomatch hi
    · rw [if_neg e] at hi
      exact n.nkd i s hi r
  · show h.nkd.length = (h.ps.set j t.1).length; rw [List.length_set]; exact n.ln
  · show h.nks.length = (h.ps.set j t.1).length; rw [List.length_set]; exact n.ls
theorem pa_num {i : In} {m : Ms} {e : Int} (e0 : 0 ≤ e) (hi : i.p.n ≤ e) (hm : m.st.n ≤ e) : (prepA i m).1.p.n ≤ e ∧ (prepA i m).2.st.n ≤ e := by
  unfold prepA
  split
  · exact ⟨hi, e0⟩
  · split
    · exact ⟨hi, hi⟩
    · exact ⟨hm, hm⟩
theorem aa_num {i : In} {m : Ms} {e : Int} (e0 : 0 ≤ e) (hi : i.p.n ≤ e) (hm : m.st.n ≤ e) : (accA i m).1.p.n ≤ e ∧ (accA i m).2.st.n ≤ e := by
  unfold accA
  split
  · exact ⟨hi, e0⟩
  · split
    · exact ⟨hi, hi⟩
    · exact ⟨hm, hm⟩
theorem la_num {i : In} {m : Ms} {e : Int} (e0 : 0 ≤ e) (hi : i.p.n ≤ e) : (lrnA i m).p.n ≤ e := by
  unfold lrnA
  split
  · exact hi
  · exact e0
theorem Num.setI {e : Int} {h : Hl} (n : Num e h) (i : Nat) {x : In} (hx : x.p.n ≤ e) : Num e { h with ins := h.ins.set i x } :=
  ⟨n.e0, n.ps, fun y hy => (List.mem_or_eq_of_mem_set hy).elim (n.ins y) (fun e => e ▸ hx), n.way, n.nks, n.nkd, n.ln, n.ls⟩
theorem Num.hits {e : Int} {h : Hl} (n : Num e h) {m : Ms} (hm : m.st.n ≤ e) (i : Nat) : Num e (hitsH m h i) := by
  unfold hitsH
  split
  · have hx : (h.ins[i]?.getD ⟨sZ, sZ, cZ, false⟩).p.n ≤ e := by
      cases hi : h.ins[i]? with
      | none => exact n.e0
      | some y => exact n.ins y (List.mem_of_getElem? hi)
    generalize h.ins[i]?.getD ⟨sZ, sZ, cZ, false⟩ = x at *
    unfold hitH
    split
    · exact (n.setI i (pa_num n.e0 hx hm).1).send (fun k hk => by rw [List.mem_singleton] at hk; rw [hk]; exact (pa_num n.e0 hx hm).2)
    · split
      · exact (n.setI i (aa_num n.e0 hx hm).1).send (fun k hk => by rw [List.mem_singleton] at hk; rw [hk]; exact (aa_num n.e0 hx hm).2)
      · split
        · exact n.setI i (la_num n.e0 hx)
        · exact n.send (fun k hk => by rw [List.mem_singleton] at hk; rw [hk]; exact n.e0)
  · exact n
theorem Num.hitsAll {e : Int} {m : Ms} (hm : m.st.n ≤ e) : ∀ (l : List Nat) {h : Hl}, Num e h → Num e (l.foldl (hitsH m) h)
  | [], h, n => n
  | i :: l, h, n => Num.hitsAll hm l (n.hits hm i)
theorem nack_nks (h : Hl) (j : Nat) (m : Ms) (s : PS) : (nackH h j m s).nks = h.nks ∨ (m.k = 14 ∧ m.rd = s.rd ∧ (nackH h j m s).nks = h.nks.set j (wr1 (h.nks[j]?.getD 0))) := by
  unfold nackH
  split
  · next e => exact .inr ⟨e.1, e.2, rfl⟩
  · exact .inl rfl
theorem Num.nack {e : Int} {h : Hl} (n : Num e h) (he : e + 1 ≤ 1099511627776) {j : Nat} {m : Ms} {s : PS} (hj : h.ps[j]? = some s) : Num (e + 1) (nackH h j m s) := by
  have n' := n.mono (show e ≤ e + 1 by omega)
  unfold nackH
  split
  · next ec =>
    have hlt : j < h.ps.length := (List.getElem?_eq_some_iff.1 hj).1
    refine ⟨n'.e0, n'.ps, n'.ins, n'.way, fun i x hi => ?_, fun i t hi r => ?_, ?_, ?_⟩
    · replace hi : (h.nks.set j (wr1 (h.nks[j]?.getD 0)))[i]? = some x := hi
      rw [List.getElem?_set] at hi
      by_cases e1 : j = i
      · subst e1
        rw [if_pos rfl] at hi
        by_cases l : j < h.nks.length
        · rw [if_pos l] at hi
          cases Option.some.inj hi
          have hb : 0 ≤ h.nks[j]?.getD 0 ∧ h.nks[j]?.getD 0 ≤ e := by
            cases hq : h.nks[j]? with
            | none => exact ⟨Int.le_refl _, n.e0⟩
            | some q => exact n.nks j q hq
          have := wr1_ok (n := h.nks[j]?.getD 0) hb.1 (by omega)
          omega
        · rw [if_neg l] at hi; exact nomatch hi
      · rw [if_neg e1] at hi; exact n'.nks i x hi
    · show (h.nkd.set j m.rd)[i]? = _
      rw [List.getElem?_set]
      by_cases e1 : j = i
      · subst e1
        replace hi : h.ps[j]? = some t := hi
        rw [hj] at hi
        cases Option.some.inj hi
        rw [if_pos rfl, if_pos (by rw [n.ln]; exact hlt), ec.2]
      · rw [if_neg e1]; exact n'.nkd i t hi r
    · show (h.nkd.set j m.rd).length = h.ps.length; rw [List.length_set]; exact n.ln
    · show (h.nks.set j _).length = h.ps.length; rw [List.length_set]; exact n.ls
  · exact n'
/-- A message comes. -/
theorem Num.deliver {e : Int} {h : Hl} (n : Num e h) (he : e + 1 ≤ 1099511627776) {m : Ms} (hm : m.st.n ≤ e) (h17 : m.k ≠ 17) : Num (e + 1) (deliverH h m) := by
  unfold deliverH
  split
  · split
    · next s hs =>
      split
      · have hs' : (nackH h (m.ti - 1).toNat m s).ps[(m.ti - 1).toNat]? = some s := by rw [nack_ps]; exact hs
        have N := n.nack he (m := m) hs
        obtain ⟨q1, q2, q3⟩ := num_tak (n.ps s (List.mem_of_getElem? hs)) he hm h17
        refine (N.play q1 q2 (fun r l => ?_)).look
        obtain ⟨e1, e2⟩ := q3 r
        rw [e1]
        rcases e2 with e2 | ⟨e2, e3⟩
        · exact N.nkd _ s hs' e2
        · unfold nackH
          rw [if_pos ⟨e2, e3⟩]
          show (h.nkd.set _ _)[_]? = _
          rw [List.getElem?_set_self (by rw [n.ln]; exact (List.getElem?_eq_some_iff.1 hs).1), e3]
      · exact n.mono (by omega)
    · exact n.mono (by omega)
  · exact (Num.hitsAll hm _ n).mono (by omega)

end Pax

end Go.Proofs.Ytpabpeppgpeaoaa
/-! The hall's steps keep all that is known of it; an exchange as the hall plays it. -/

namespace Go.Proofs.Ytpabpeppgpeaoaa
open Go.RowKit Gt
set_option linter.unusedVariables false
set_option linter.unusedSimpArgs false

namespace Pax

theorem hits_zs (m : Ms) (h : Hl) (i : Nat) : (hitsH m h i).zs = h.zs ∧ (hitsH m h i).ps = h.ps := by
  unfold hitsH hitH sendH
  repeat (first | split | exact ⟨rfl, rfl⟩)
theorem hitsAll_zs (m : Ms) : ∀ (l : List Nat) (h : Hl), (l.foldl (hitsH m) h).zs = h.zs ∧ (l.foldl (hitsH m) h).ps = h.ps
  | [], h => ⟨rfl, rfl⟩
  | i :: l, h => by
    obtain ⟨a, b⟩ := hitsAll_zs m l (hitsH m h i)
    obtain ⟨c, d⟩ := hits_zs m h i
    exact ⟨a.trans c, b.trans d⟩
theorem nack_zs (h : Hl) (j : Nat) (m : Ms) (s : PS) : (nackH h j m s).zs = h.zs ∧ (nackH h j m s).ins = h.ins ∧ (nackH h j m s).way = h.way := by
  unfold nackH; split <;> exact ⟨rfl, rfl, rfl⟩
theorem deliver_zs (h : Hl) (m : Ms) : (deliverH h m).zs = h.zs := by
  unfold deliverH
  split
  · split
    · split
      · exact (nack_zs h _ m _).1
      · rfl
    · rfl
  · exact (hitsAll_zs m _ h).1
theorem deliver_ps (h : Hl) (m : Ms) : (deliverH h m).ps = h.ps ∨ ∃ (j : Nat) (s : PS), h.ps[j]? = some s ∧ (deliverH h m).ps = h.ps.set j (taksS s m [] []).1 := by
  unfold deliverH
  split
  · split
    · next s hs =>
      split
      · refine .inr ⟨_, s, hs, ?_⟩
        show (nackH h _ m s).ps.set _ _ = _
        rw [nack_ps]
      · exact .inl rfl
    · exact .inl rfl
  · exact .inl (hitsAll_zs m _ h).2
theorem sendW_len {way l : List Ms} (h : way.length ≤ 4000) : (sendW way l).length ≤ 4000 := by
  unfold sendW
  rw [List.length_append, List.length_take]
  omega
theorem hits_len {m : Ms} {h : Hl} (i : Nat) (l : h.way.length ≤ 4000) : (hitsH m h i).way.length ≤ 4000 := by
  unfold hitsH hitH sendH
  repeat (first | split | exact l | exact sendW_len l)
theorem hitsAll_len {m : Ms} : ∀ (l : List Nat) {h : Hl}, h.way.length ≤ 4000 → (l.foldl (hitsH m) h).way.length ≤ 4000
  | [], h, k => k
  | i :: l, h, k => hitsAll_len l (hits_len i k)
theorem deliver_len {h : Hl} {m : Ms} (l : h.way.length ≤ 4000) : (deliverH h m).way.length ≤ 4000 := by
  unfold deliverH
  split
  · split
    · split
      · refine sendW_len ?_
        show (nackH h _ m _).way.length ≤ 4000
        rw [(nack_zs h _ m _).2.2]; exact l
      · exact l
    · exact l
  · exact hitsAll_len _ l

/-- All that is known of the hall. -/
structure Iv (zs : List Int) (P : Cm → Prop) (t : Hist Cm) (e : Int) (h : Hl) : Prop where
  hi : HInv zs P t h
  nu : Num e h
  lk : ∀ s, s ∈ h.ps → Lok zs s.ph
theorem Iv.mono {zs : List Int} {P : Cm → Prop} {t : Hist Cm} {e e' : Int} {h : Hl} (v : Iv zs P t e h) (l : e ≤ e') : Iv zs P t e' h := ⟨v.hi, v.nu.mono l, v.lk⟩
theorem Iv.gone {zs : List Int} {P : Cm → Prop} {t : Hist Cm} {e : Int} {h : Hl} (v : Iv zs P t e h) {l : List Ms} (hl : ∀ m, m ∈ l → m ∈ h.way) : Iv zs P t e { h with way := l } := ⟨v.hi.gone hl, v.nu.gone hl, v.lk⟩
theorem Iv.look {zs : List Int} {P : Cm → Prop} {t : Hist Cm} {e : Int} {h : Hl} (v : Iv zs P t e h) : Iv zs P t e (lookH h) := ⟨v.hi.look, v.nu.look, v.lk⟩
theorem Mok.k17 {zs : List Int} {t : Hist Cm} {m : Ms} (h : Mok zs t m) : m.k ≠ 17 := fun e => by
  have := h.kind
  rw [e] at this
  revert this; decide
theorem Iv.deliver {zs : List Int} {P : Cm → Prop} {t : Hist Cm} {e : Int} {h : Hl} (v : Iv zs P t e h) (he : e + 1 ≤ 1099511627776) {m : Ms} (hm : Mok zs t m) (hn : m.st.n ≤ e) : ∃ t', Le t t' ∧ Iv zs P t' (e + 1) (deliverH h m) := by
  obtain ⟨t', l, k⟩ := v.hi.deliver hm
  refine ⟨t', l, k, v.nu.deliver he hn hm.k17, fun s hs => ?_⟩
  rcases deliver_ps h m with e1 | ⟨j, s0, e1, e2⟩
  · rw [e1] at hs; exact v.lk s hs
  · rw [e2] at hs
    have h0 := List.mem_of_getElem? e1
    rcases List.mem_or_eq_of_mem_set hs with hs | rfl
    · exact v.lk s hs
    · exact lok_take v.hi.nd (v.hi.ps j s0 e1).1.g (v.lk s0 h0) m [] []
theorem Iv.delivers {zs : List Int} {P : Cm → Prop} : ∀ (l : List Ms) {t : Hist Cm} {e : Int} {h : Hl}, Iv zs P t e h → e + l.length ≤ 1099511627776 → (∀ m, m ∈ l → Mok zs t m ∧ m.st.n ≤ e) → ∃ t', Le t t' ∧ Iv zs P t' (e + l.length) (l.foldl deliverH h)
  | [], t, e, h, v, _, _ => ⟨t, Le.refl t, by simpa using v⟩
  | m :: l, t, e, h, v, he, hl => by
    have hm := hl m List.mem_cons_self
    simp only [List.length_cons] at he
    obtain ⟨t1, l1, v1⟩ := v.deliver (by omega) hm.1 hm.2
    obtain ⟨t2, l2, v2⟩ := Iv.delivers l v1 (by omega) (fun k hk => ⟨(hl k (List.mem_cons_of_mem _ hk)).1.le l1, by have := (hl k (List.mem_cons_of_mem _ hk)).2; omega⟩)
    refine ⟨t2, l1.trans l2, ?_⟩
    have e1 : e + ((m :: l).length : Int) = e + 1 + l.length := by simp only [List.length_cons]; omega
    rw [e1]
    exact v2
theorem Iv.begin {zs : List Int} {P : Cm → Prop} {t : Hist Cm} {e : Int} {h : Hl} (v : Iv zs P t e h) (he : e ≤ 1099511627776) {j : Nat} {s : PS} (hj : h.ps[j]? = some s) : ∃ t', Le t t' ∧ Iv zs P t' e (playH h j (begS s)) := by
  obtain ⟨t', l, k⟩ := v.hi.begin hj
  have h0 := List.mem_of_getElem? hj
  obtain ⟨q1, q2, q3⟩ := num_beg (v.nu.ps s h0) he
  refine ⟨t', l, k, v.nu.play q1 q2 (fun r _ => ?_), fun x hx => ?_⟩
  · obtain ⟨r1, r2⟩ := q3 r
    rw [r2]; exact v.nu.nkd j s hj r1
  · rcases List.mem_or_eq_of_mem_set hx with hx | rfl
    · exact v.lk x hx
    · exact lok_beg v.hi.nd (v.hi.ps j s hj).1.g (v.lk s h0)
theorem Iv.tick {zs : List Int} {P : Cm → Prop} {t : Hist Cm} {e : Int} {h : Hl} (v : Iv zs P t e h) (he : e + 1 ≤ 1099511627776) {j : Nat} {s : PS} (hj : h.ps[j]? = some s) : ∃ t', Le t t' ∧ Iv zs P t' (e + 1) (playH h j (tickS s)) := by
  obtain ⟨t', l, k⟩ := v.hi.tick hj
  have h0 := List.mem_of_getElem? hj
  obtain ⟨q1, q2, q3⟩ := num_tick (v.nu.ps s h0) he
  refine ⟨t', l, k, (v.nu.mono (by omega)).play q1 q2 (fun r _ => by rw [q3] at r; exact nomatch r), fun x hx => ?_⟩
  rcases List.mem_or_eq_of_mem_set hx with hx | rfl
  · exact v.lk x hx
  · exact lok_tick v.hi.nd (v.hi.ps j s hj).1.g (v.lk s h0)
theorem play_nil (h : Hl) (j : Nat) (s : PS) : playH h j (s, []) = { h with ps := h.ps.set j s } := by
  unfold playH sendH sendW
  simp
/-- A proposer is asked, what it tells is taken elsewhere. -/
theorem Iv.ask {zs : List Int} {P : Cm → Prop} {t : Hist Cm} {e : Int} {h : Hl} (v : Iv zs P t e h) (he : e + 1 ≤ 1099511627776) {j : Nat} {s : PS} (hj : h.ps[j]? = some s) :
    ∃ t', Le t t' ∧ Iv zs P t' (e + 1) { h with ps := h.ps.set j (tickS s).1 } ∧ ∀ m, m ∈ (tickS s).2 → Mok zs t' m ∧ m.st.n ≤ e + 1 := by
  have p := (v.hi.ps j s hj).1
  obtain ⟨o1, o2⟩ := tick_ok v.hi.nd p
  have h0 := List.mem_of_getElem? hj
  obtain ⟨q1, q2, q3⟩ := num_tick (v.nu.ps s h0) he
  obtain ⟨t', l, k⟩ := v.hi.play hj (o := ((tickS s).1, [])) (.of v.hi.ok ⟨o1, fun m hm => absurd hm (by simp)⟩ (tick_cl s))
  have n2 := (v.nu.mono (show e ≤ e + 1 by omega)).play (j := j) (t := ((tickS s).1, [])) q1 (fun m hm => absurd hm (by simp)) (fun r _ => by have r : rfP (tickS s).1.ph = true := r; rw [q3] at r; exact nomatch r)
  rw [play_nil] at k n2
  refine ⟨t', l, ⟨k, n2, fun x hx => ?_⟩, fun m hm => ⟨(o2 m hm).le l, q2 m hm⟩⟩
  rcases List.mem_or_eq_of_mem_set hx with hx | rfl
  · exact v.lk x hx
  · exact lok_tick v.hi.nd p.g (v.lk s h0)
theorem Iv.ask0 {zs : List Int} {P : Cm → Prop} {t : Hist Cm} {e : Int} {h : Hl} (v : Iv zs P t e h) (he : e ≤ 1099511627776) {j : Nat} {s : PS} (hj : h.ps[j]? = some s) :
    ∃ t', Le t t' ∧ Iv zs P t' e { h with ps := h.ps.set j (begS s).1 } := by
  have p := (v.hi.ps j s hj).1
  obtain ⟨o1, o2⟩ := begin_ok v.hi.nd p
  have h0 := List.mem_of_getElem? hj
  obtain ⟨q1, q2, q3⟩ := num_beg (v.nu.ps s h0) he
  obtain ⟨t', l, k⟩ := v.hi.play hj (o := ((begS s).1, [])) (.of v.hi.ok ⟨o1, fun m hm => absurd hm (by simp)⟩ (beg_cl s))
  have n2 := v.nu.play (j := j) (t := ((begS s).1, [])) q1 (fun m hm => absurd hm (by simp)) (fun r _ => by obtain ⟨r1, r2⟩ := q3 r; rw [r2]; exact v.nu.nkd j s hj r1)
  rw [play_nil] at k n2
  refine ⟨t', l, ⟨k, n2, fun x hx => ?_⟩⟩
  rcases List.mem_or_eq_of_mem_set hx with hx | rfl
  · exact v.lk x hx
  · exact lok_beg v.hi.nd p.g (v.lk s h0)

/-- A pick. -/
def pickH (h : Hl) (v : Int) : Option PS := h.ps[(v / 8 % (h.ps.length : Int)).toNat]?
def actH (h : Hl) (v : Int) : Hl :=
  if v % 8 = 0 then (match pickH h v with | some s => lookH (playH h (v / 8 % (h.ps.length : Int)).toNat (begS s)) | none => h)
  else if v % 8 = 1 then (match pickH h v with | some s => lookH (playH h (v / 8 % (h.ps.length : Int)).toNat (tickS s)) | none => h)
  else match h.way[(v / 8 % (h.way.length : Int)).toNat]? with
    | none => h
    | some m =>
      if v % 8 = 2 then { h with way := h.way ++ [m] }
      else if v % 8 = 3 then lookH { h with way := h.way.take (v / 8 % (h.way.length : Int)).toNat ++ h.way.drop ((v / 8 % (h.way.length : Int)).toNat + 1) }
      else lookH (deliverH { h with way := h.way.take (v / 8 % (h.way.length : Int)).toNat ++ h.way.drop ((v / 8 % (h.way.length : Int)).toNat + 1) } m)
theorem Iv.act {zs : List Int} {P : Cm → Prop} {t : Hist Cm} {e : Int} {h : Hl} (v : Iv zs P t e h) (he : e + 1 ≤ 1099511627776) (x : Int) : ∃ t', Le t t' ∧ Iv zs P t' (e + 1) (actH h x) := by
  have v1 := v.mono (show e ≤ e + 1 by omega)
  unfold actH
  split
  · split
    · next s hs =>
      obtain ⟨t', l, k⟩ := v.begin (by omega) hs
      exact ⟨t', l, (k.mono (by omega)).look⟩
    · exact ⟨t, Le.refl t, v1⟩
  · split
    · split
      · next s hs =>
        obtain ⟨t', l, k⟩ := v.tick he hs
        exact ⟨t', l, k.look⟩
      · exact ⟨t, Le.refl t, v1⟩
    · split
      · exact ⟨t, Le.refl t, v1⟩
      · next m hm =>
        have hm' := List.mem_of_getElem? hm
        have hsub : ∀ k, k ∈ h.way.take (x / 8 % (h.way.length : Int)).toNat ++ h.way.drop ((x / 8 % (h.way.length : Int)).toNat + 1) → k ∈ h.way := fun k hk => by
          rw [List.mem_append] at hk
          exact hk.elim List.mem_of_mem_take List.mem_of_mem_drop
        split
        · refine ⟨t, Le.refl t, v1.gone (fun k hk => ?_)⟩
          rw [List.mem_append, List.mem_singleton] at hk
          exact hk.elim id (fun e => e ▸ hm')
        · split
          · exact ⟨t, Le.refl t, (v1.gone hsub).look⟩
          · obtain ⟨t', l, k⟩ := (v.gone hsub).deliver he (v.hi.way m hm') (v.nu.way m hm')
            exact ⟨t', l, k.look⟩

/-- An exchange. -/
def relayH (up : Nat → Bool) (m : Ms) (h : Hl) (k : Nat) : Hl := if h.zs[k]? = some m.ti ∧ up k = true then deliverH h m else h
def relays (up : Nat → Bool) (h : Hl) (m : Ms) : Hl := (List.range h.zs.length).foldl (relayH up m) h
def fromJ (j : Nat) (m : Ms) : Bool := m.fc && decide (m.fi = (j : Int) + 1)
def exchH (up : Nat → Bool) (h : Hl) (j : Nat) (s : PS) : Hl :=
  let h2 := (h.way.filter (fromJ j) ++ (tickS s).2).foldl (relays up) { h with ps := h.ps.set j (tickS s).1, way := [] }
  h2.way.foldl deliverH { h2 with way := [] }
def live (zs : List Int) (up : Nat → Bool) (a : Int) : Bool := (List.range zs.length).any (fun k => decide (zs[k]? = some a) && up k)
theorem fold_once {α : Type} (f g : α → Nat → α) (c : Nat → Prop) (I : α → Prop) (h1 : ∀ h k, I h → c k → f h k = g h k) (h2 : ∀ h k, I h → ¬ c k → f h k = h) (h3 : ∀ h k, I h → c k → I (g h k)) :
    ∀ (l : List Nat), l.Nodup → (∀ a b, a ∈ l → b ∈ l → c a → c b → a = b) → ∀ h, I h → (∀ i, i ∈ l → c i → l.foldl f h = g h i) ∧ ((∀ i, i ∈ l → ¬ c i) → l.foldl f h = h)
  | [], _, _, h, _ => ⟨fun i hi => absurd hi (by simp), fun _ => rfl⟩
  | k :: l, hn, hu, h, hI => by
    rw [List.nodup_cons] at hn
    have hu' : ∀ a b, a ∈ l → b ∈ l → c a → c b → a = b := fun a b ha hb => hu a b (List.mem_cons_of_mem _ ha) (List.mem_cons_of_mem _ hb)
    by_cases hc : c k
    · refine ⟨fun i hi ci => ?_, fun hno => absurd hc (hno k List.mem_cons_self)⟩
      have e := hu i k hi List.mem_cons_self ci hc
      subst e
      rw [List.foldl_cons, h1 h i hI hc]
      refine (fold_once f g c I h1 h2 h3 l hn.2 hu' (g h i) (h3 h i hI hc)).2 (fun q hq cq => ?_)
      have e2 := hu q i (List.mem_cons_of_mem _ hq) hi cq hc
      subst e2
      exact hn.1 hq
    · rw [List.foldl_cons, h2 h k hI hc]
      obtain ⟨q1, q2⟩ := fold_once f g c I h1 h2 h3 l hn.2 hu' h hI
      refine ⟨fun i hi ci => ?_, fun hno => q2 (fun i hi => hno i (List.mem_cons_of_mem _ hi))⟩
      rcases List.mem_cons.1 hi with rfl | hi
      · exact absurd ci hc
      · exact q1 i hi ci
theorem zs_inj {zs : List Int} (hz : zs.Nodup) {a b : Nat} {x : Int} (ha : zs[a]? = some x) (hb : zs[b]? = some x) : a = b := lit_nodup zs hz a b x ha hb
theorem relays_eq {zs : List Int} (hz : zs.Nodup) (up : Nat → Bool) {h : Hl} (e : h.zs = zs) (m : Ms) : relays up h m = if live zs up m.ti then deliverH h m else h := by
  obtain ⟨q1, q2⟩ := fold_once (relayH up m) (fun h _ => deliverH h m) (fun k => zs[k]? = some m.ti ∧ up k = true) (fun h => h.zs = zs)
    (fun h k hI hc => by unfold relayH; rw [hI, if_pos hc]) (fun h k hI hc => by unfold relayH; rw [hI, if_neg hc]) (fun h k hI _ => (deliver_zs h m).trans hI)
    (List.range zs.length) List.nodup_range (fun a b _ _ ca cb => zs_inj hz ca.1 cb.1) h e
  unfold relays
  rw [e]
  cases hl : live zs up m.ti
  · rw [if_neg (by decide)]
    refine q2 (fun i hi ci => ?_)
    unfold live at hl
    rw [List.any_eq_false] at hl
    refine hl i hi ?_
    rw [Bool.and_eq_true, decide_eq_true_eq]
    exact ci
  · rw [if_pos rfl]
    unfold live at hl
    rw [List.any_eq_true] at hl
    obtain ⟨i, hi, ci⟩ := hl
    rw [Bool.and_eq_true, decide_eq_true_eq] at ci
    exact q1 i hi ci
theorem relays_all {zs : List Int} (hz : zs.Nodup) (up : Nat → Bool) : ∀ (l : List Ms) {h : Hl}, h.zs = zs → l.foldl (relays up) h = (l.filter (fun m => live zs up m.ti)).foldl deliverH h
  | [], h, _ => rfl
  | m :: l, h, e => by
    rw [List.foldl_cons, relays_eq hz up e, List.filter_cons]
    cases live zs up m.ti
    · rw [if_neg (by decide), if_neg (by decide)]; exact relays_all hz up l e
    · rw [if_pos rfl, if_pos rfl, List.foldl_cons]; exact relays_all hz up l ((deliver_zs h m).trans e)
theorem fold_len : ∀ (l : List Ms) {h : Hl}, h.way.length ≤ 4000 → (l.foldl deliverH h).way.length ≤ 4000
  | [], h, k => k
  | m :: l, h, k => fold_len l (deliver_len k)
theorem tick_len {zs : List Int} {s : PS} (g : s.zs = zs) (k : Lok zs s.ph) : (tickS s).2.length ≤ zs.length := by
  have hp : ∀ n r, (prepS s n r).2.length ≤ zs.length := fun n r => by
    unfold prepS
    split
    · rw [List.length_map, g]; exact Nat.le_refl _
    · exact Nat.zero_le _
  have hm : ∀ {x : TS Unit} (M : Ms), x.g = zs → ((missL x).map M.to).length ≤ zs.length := fun {x} M e => by
    rw [List.length_map, ← e]; unfold missL; exact List.length_filter_le _ _
  unfold tickS
  revert k
  cases s.ph with
  | pre x y rf => intro k; cases rf; exact hm _ k.gx; exact hp _ _
  | acc c x y rf => intro k; cases rf; exact hm _ k.gx; exact hp _ _
  | _ => exact fun _ => Nat.zero_le _
theorem Iv.exch {zs : List Int} {P : Cm → Prop} {t : Hist Cm} {e : Int} {h : Hl} (v : Iv zs P t e h) (he : e + 20000 ≤ 1099511627776) (hw : h.way.length ≤ 4000) (hz9 : zs.length ≤ 100) (up : Nat → Bool) {j : Nat} {s : PS} (hj : h.ps[j]? = some s) :
    ∃ t', Le t t' ∧ Iv zs P t' (e + 10000) (exchH up h j s) ∧ (exchH up h j s).way.length ≤ 4000 := by
  have g := (v.hi.ps j s hj).1.g
  obtain ⟨t1, l1, v1, hm⟩ := v.ask (by omega) hj
  have tl := tick_len g (v.lk s (List.mem_of_getElem? hj))
  have v2 := v1.gone (l := []) (fun m hm => absurd hm (by simp))
  have e1 := relays_all v.hi.nd up (h.way.filter (fromJ j) ++ (tickS s).2) (h := { h with ps := h.ps.set j (tickS s).1, way := [] }) v.hi.z
  have hfl : (h.way.filter (fromJ j)).length ≤ h.way.length := List.length_filter_le _ _
  have hll : ((h.way.filter (fromJ j) ++ (tickS s).2).filter (fun m => live zs up m.ti)).length ≤ 4100 := by
    refine Nat.le_trans (List.length_filter_le _ _) ?_
    rw [List.length_append]; omega
  have hout : ∀ m, m ∈ (h.way.filter (fromJ j) ++ (tickS s).2).filter (fun m => live zs up m.ti) → Mok zs t1 m ∧ m.st.n ≤ e + 1 := fun m hm' => by
    rw [List.mem_filter, List.mem_append, List.mem_filter] at hm'
    rcases hm'.1 with hm' | hm'
    · exact ⟨(v.hi.way m hm'.1).le l1, by have := v.nu.way m hm'.1; omega⟩
    · exact hm m hm'
  unfold exchH
  simp only
  rw [e1]
  generalize (h.way.filter (fromJ j) ++ (tickS s).2).filter (fun m => live zs up m.ti) = out at *
  obtain ⟨t2, l2, v3⟩ := Iv.delivers out v2 (by omega) hout
  have w3 : (out.foldl deliverH { h with ps := h.ps.set j (tickS s).1, way := [] }).way.length ≤ 4000 := fold_len out (h := { h with ps := h.ps.set j (tickS s).1, way := [] }) (by simp)
  generalize out.foldl deliverH { h with ps := h.ps.set j (tickS s).1, way := [] } = h2 at *
  obtain ⟨t3, l3, v4⟩ := Iv.delivers h2.way (v3.gone (l := []) (fun m hm => absurd hm (by simp))) (by omega) (fun m hm => ⟨v3.hi.way m hm, v3.nu.way m hm⟩)
  exact ⟨t3, (l1.trans l2).trans l3, v4.mono (by omega), fold_len h2.way (h := { h2 with way := [] }) (by simp)⟩

end Pax

end Go.Proofs.Ytpabpeppgpeaoaa
