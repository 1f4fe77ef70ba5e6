import Derived.Test.YtpabpeppgpeaoaaAj
/-! The hall of ProposerAgrees and ProposerEnds as a pure state: proposers, servers, what is under way; whatever is picked, what is decided is known. -/

namespace Go.Proofs.Ytpabpeppgpeaoaa
open Go.RowKit Gt
set_option linter.unusedVariables false
set_option linter.unusedSimpArgs false

namespace Pax

structure Hl where
  zs : List Int
  ins : List In
  ps : List PS
  way : List Ms
  dec : List Cm
  nkd : List Int
  nks : List Int
def sendW (way l : List Ms) : List Ms := way ++ l.take (4000 - way.length)
def sendH (h : Hl) (l : List Ms) : Hl := { h with way := sendW h.way l }
def lookC (d : List Cm) (s : PS) : List Cm := if (decO s).2 then (if 50 < (d ++ [(decO s).1]).length then (d ++ [(decO s).1]).drop 25 else d ++ [(decO s).1]) else d
def lookH (h : Hl) : Hl := { h with dec := h.ps.foldl lookC h.dec }
def playH (h : Hl) (j : Nat) (t : PS × List Ms) : Hl := sendH { h with ps := h.ps.set j t.1 } t.2
/-- A message comes to a server. -/
def hitH (h : Hl) (m : Ms) (i : Nat) (x : In) : Hl :=
  if m.k = 3 then sendH { h with ins := h.ins.set i (prepA x m).1 } [(prepA x m).2] else if m.k = 4 then sendH { h with ins := h.ins.set i (accA x m).1 } [(accA x m).2] else
    if m.k = 5 then { h with ins := h.ins.set i (lrnA x m) } else sendH h [ans m 0 sZ sZ cZ]
def hitsH (m : Ms) (h : Hl) (i : Nat) : Hl := if h.zs[i]? = some m.ti then hitH h m i (h.ins[i]?.getD ⟨sZ, sZ, cZ, false⟩) else h
def nackH (h : Hl) (j : Nat) (m : Ms) (s : PS) : Hl := if m.k = 14 ∧ m.rd = s.rd then { h with nkd := h.nkd.set j m.rd, nks := h.nks.set j (wr1 (h.nks[j]?.getD 0)) } else h
def deliverH (h : Hl) (m : Ms) : Hl :=
  if m.tc then (match h.ps[(m.ti - 1).toNat]? with
      | some s => if 1 ≤ m.ti then lookH (playH (nackH h (m.ti - 1).toNat m s) (m.ti - 1).toNat (taksS s m [] [])) else h
      | none => h)
    else (List.range h.zs.length).foldl (hitsH m) h

/-- All that the hall holds keeps to the history. -/
structure HInv (zs : List Int) (P : Cm → Prop) (t : Hist Cm) (h : Hl) : Prop where
  z : h.zs = zs
  nd : zs.Nodup
  ok : Ok zs P t
  len : h.ins.length = zs.length
  ins : ∀ (i : Nat) (a : Int) (x : In), zs[i]? = some a → h.ins[i]? = some x → Aok zs t a x
  ps : ∀ (j : Nat) (s : PS), h.ps[j]? = some s → Pok zs P t s ∧ s.cl = (j : Int) + 1
  few : h.ps.length ≤ 200
  way : ∀ m, m ∈ h.way → Mok zs t m
  dec : ∀ c, c ∈ h.dec → Known zs t c
theorem mem_sendW {way l : List Ms} {m : Ms} (h : m ∈ sendW way l) : m ∈ way ∨ m ∈ l := by
  unfold sendW at h
  rw [List.mem_append] at h
  exact h.imp id List.mem_of_mem_take
theorem HInv.send {zs : List Int} {P : Cm → Prop} {t : Hist Cm} {h : Hl} (k : HInv zs P t h) {l : List Ms} (hl : ∀ m, m ∈ l → Mok zs t m) : HInv zs P t (sendH h l) :=
  { k with way := fun m hm => (mem_sendW hm).elim (k.way m) (hl m) }
theorem HInv.gone {zs : List Int} {P : Cm → Prop} {t : Hist Cm} {h : Hl} (k : HInv zs P t h) {l : List Ms} (hl : ∀ m, m ∈ l → m ∈ h.way) : HInv zs P t { h with way := l } :=
  { k with way := fun m hm => k.way m (hl m hm) }
theorem lookC_ok {zs : List Int} {P : Cm → Prop} {t : Hist Cm} {s : PS} (p : Pok zs P t s) {d : List Cm} (hd : ∀ c, c ∈ d → Known zs t c) : ∀ c, c ∈ lookC d s → Known zs t c := by
  unfold lookC
  cases e : (decO s).2
  · exact hd
  · have h2 : ∀ c, c ∈ d ++ [(decO s).1] → Known zs t c := fun c hc => by
      rw [List.mem_append, List.mem_singleton] at hc
      rcases hc with hc | rfl
      · exact hd c hc
      · exact dec_ok p e
    rw [if_pos rfl]
    split
    · exact fun c hc => h2 c (List.mem_of_mem_drop hc)
    · exact h2
theorem looks_ok {zs : List Int} {P : Cm → Prop} {t : Hist Cm} : ∀ (l : List PS) (d : List Cm), (∀ s, s ∈ l → Pok zs P t s) → (∀ c, c ∈ d → Known zs t c) → ∀ c, c ∈ l.foldl lookC d → Known zs t c
  | [], _, _, hd => hd
  | s :: l, d, hp, hd => looks_ok l (lookC d s) (fun x hx => hp x (List.mem_cons_of_mem _ hx)) (lookC_ok (hp s List.mem_cons_self) hd)
theorem HInv.look {zs : List Int} {P : Cm → Prop} {t : Hist Cm} {h : Hl} (k : HInv zs P t h) : HInv zs P t (lookH h) :=
  { k with dec := looks_ok h.ps h.dec (fun s hs => by obtain ⟨j, hj, e⟩ := List.getElem_of_mem hs; exact (k.ps j s (by rw [List.getElem?_eq_getElem hj, e])).1) k.dec }
/-- A proposer's step. -/
theorem HInv.play {zs : List Int} {P : Cm → Prop} {t : Hist Cm} {h : Hl} (k : HInv zs P t h) {j : Nat} {s : PS} (hj : h.ps[j]? = some s) {o : PS × List Ms} (ho : TakOut zs P t s o) : ∃ t', Le t t' ∧ HInv zs P t' (playH h j o) := by
  obtain ⟨t', st, p, ec, hm⟩ := ho
  obtain ⟨p0, e0⟩ := k.ps j s hj
  have hlt : j < h.ps.length := by
    rcases Nat.lt_or_ge j h.ps.length with l | l
    · exact l
    · rw [List.getElem?_eq_none l] at hj; exact nomatch hj
  refine ⟨t', st.le, HInv.send (h := { h with ps := h.ps.set j o.1 }) ⟨k.z, k.nd, st.ok, k.len, fun i a x e1 e2 => st.aok (k.ins i a x e1 e2), fun i x hi => ?_, ?_, fun m hm => (k.way m hm).le st.le, fun c hc => (k.dec c hc).le st.le⟩ hm⟩
  · by_cases e : i = j
    · subst e
      have hi : (h.ps.set i o.1)[i]? = some x := hi
      rw [List.getElem?_set_self hlt] at hi
      cases Option.some.inj hi
      exact ⟨p, ec.trans e0⟩
    · have hi : (h.ps.set j o.1)[i]? = some x := hi
      rw [List.getElem?_set_ne (Ne.symm e)] at hi
      obtain ⟨q1, q2⟩ := k.ps i x hi
      exact ⟨st.pok (by rw [q2, e0]; omega) q1, q2⟩
  · show (h.ps.set j o.1).length ≤ 200
    rw [List.length_set]; exact k.few
theorem TakOut.of {zs : List Int} {P : Cm → Prop} {t : Hist Cm} (o : Ok zs P t) {s : PS} {x : PS × List Ms} (h : Pok zs P t x.1 ∧ ∀ m, m ∈ x.2 → Mok zs t m) (e : x.1.cl = s.cl) : TakOut zs P t s x := ⟨t, .same o _, h.1, e, h.2⟩
theorem prep_cl (s : PS) (n r : Int) : (prepS s n r).1.cl = s.cl := by unfold prepS; split <;> rfl
theorem beg_cl (s : PS) : (begS s).1.cl = s.cl := by unfold begS; cases s.ph <;> first | rfl | exact prep_cl s _ _
theorem tick_cl (s : PS) : (tickS s).1.cl = s.cl := by
  unfold tickS
  cases s.ph with
  | pre x y rf => cases rf; rfl; exact prep_cl s _ _
  | acc c x y rf => cases rf; rfl; exact prep_cl s _ _
  | _ => rfl
theorem HInv.begin {zs : List Int} {P : Cm → Prop} {t : Hist Cm} {h : Hl} (k : HInv zs P t h) {j : Nat} {s : PS} (hj : h.ps[j]? = some s) : ∃ t', Le t t' ∧ HInv zs P t' (playH h j (begS s)) :=
  k.play hj (.of k.ok (begin_ok k.nd (k.ps j s hj).1) (beg_cl s))
theorem HInv.tick {zs : List Int} {P : Cm → Prop} {t : Hist Cm} {h : Hl} (k : HInv zs P t h) {j : Nat} {s : PS} (hj : h.ps[j]? = some s) : ∃ t', Le t t' ∧ HInv zs P t' (playH h j (tickS s)) :=
  k.play hj (.of k.ok (tick_ok k.nd (k.ps j s hj).1) (tick_cl s))
theorem HInv.nack {zs : List Int} {P : Cm → Prop} {t : Hist Cm} {h : Hl} (k : HInv zs P t h) {j : Nat} {m : Ms} {s : PS} : HInv zs P t (nackH h j m s) := by
  unfold nackH
  split
  · exact { k with }
  · exact k
theorem nack_ps (h : Hl) (j : Nat) (m : Ms) (s : PS) : (nackH h j m s).ps = h.ps := by unfold nackH; split <;> rfl
/-- A server's step. -/
theorem HInv.serve {zs : List Int} {P : Cm → Prop} {t t' : Hist Cm} {h : Hl} (k : HInv zs P t h) {i : Nat} {a : Int} (hi : zs[i]? = some a) (st : SvStep zs P t t' a) {x : In} (hx : Aok zs t' a x) {l : List Ms} (hl : ∀ m, m ∈ l → Mok zs t' m) :
    HInv zs P t' (sendH { h with ins := h.ins.set i x } l) := by
  refine HInv.send (h := { h with ins := h.ins.set i x }) ⟨k.z, k.nd, st.ok, ?_, fun j b y e1 e2 => ?_, fun j s e => ⟨(k.ps j s e).1.step st, (k.ps j s e).2⟩, k.few, fun m hm => (k.way m hm).le st.le, fun c hc => (k.dec c hc).le st.le⟩ hl
  · show (h.ins.set i x).length = _; rw [List.length_set]; exact k.len
  · have e2 : (h.ins.set i x)[j]? = some y := e2
    by_cases e : i = j
    · subst e
      have hlt : i < h.ins.length := by
        rcases Nat.lt_or_ge i zs.length with l | l
        · rw [k.len]; exact l
        · rw [List.getElem?_eq_none l] at hi; exact nomatch hi
      rw [List.getElem?_set_self hlt] at e2
      cases Option.some.inj e2
      rw [hi] at e1
      cases Option.some.inj e1
      exact hx
    · rw [List.getElem?_set_ne e] at e2
      refine st.aok (fun eb => e ?_) (k.ins j b y e1 e2)
      subst eb
      have l1 : i < zs.length := by
        rcases Nat.lt_or_ge i zs.length with l | l
        · exact l
        · rw [List.getElem?_eq_none l] at hi; exact nomatch hi
      have l2 : j < zs.length := by
        rcases Nat.lt_or_ge j zs.length with l | l
        · exact l
        · rw [List.getElem?_eq_none l] at e1; exact nomatch e1
      rw [List.getElem?_eq_getElem l1] at hi
      rw [List.getElem?_eq_getElem l2] at e1
      exact (List.getElem_inj k.nd).1 ((Option.some.inj hi).trans (Option.some.inj e1).symm)
theorem HInv.hits {zs : List Int} {P : Cm → Prop} {t : Hist Cm} {h : Hl} (k : HInv zs P t h) {m : Ms} (hm : Mok zs t m) (ht : m.tc = false) (i : Nat) : ∃ t', Le t t' ∧ HInv zs P t' (hitsH m h i) := by
  unfold hitsH
  split
  · next e =>
    rw [k.z] at e
    have hlt : i < zs.length := by
      rcases Nat.lt_or_ge i zs.length with l | l
      · exact l
      · rw [List.getElem?_eq_none l] at e; exact nomatch e
    have hx : h.ins[i]? = some (h.ins[i]'(by rw [k.len]; exact hlt)) := List.getElem?_eq_getElem _
    rw [hx]
    show ∃ t', Le t t' ∧ HInv zs P t' (hitH h m i (h.ins[i]'(by rw [k.len]; exact hlt)))
    generalize h.ins[i]'(by rw [k.len]; exact hlt) = x at *
    have ha := k.ins i m.ti x e hx
    obtain ⟨hf, hk⟩ := hm.dir ht
    unfold hitH
    rcases hk with hk | hk | hk
    · obtain ⟨t', st, a1, a2⟩ := prep_A k.ok ha hm hk hf rfl
      rw [if_pos hk]
      exact ⟨t', st.le, k.serve e st a1 (fun m' hm' => by rw [List.mem_singleton] at hm'; rw [hm']; exact a2)⟩
    · obtain ⟨t', st, a1, a2⟩ := acc_A k.ok ha hm hk hf rfl
      rw [if_neg (by rw [hk]; decide), if_pos hk]
      exact ⟨t', st.le, k.serve e st a1 (fun m' hm' => by rw [List.mem_singleton] at hm'; rw [hm']; exact a2)⟩
    · rw [if_neg (by rw [hk]; decide), if_neg (by rw [hk]; decide), if_pos hk]
      have := k.serve e (.same k.ok m.ti) (lrn_A ha hm hk) (l := []) (fun m' hm' => absurd hm' (by simp))
      refine ⟨t, Le.refl t, ?_⟩
      have e2 : sendH { h with ins := h.ins.set i (lrnA x m) } [] = { h with ins := h.ins.set i (lrnA x m) } := by unfold sendH sendW; simp
      rw [e2] at this
      exact this
  · exact ⟨t, Le.refl t, k⟩
theorem HInv.hitsAll {zs : List Int} {P : Cm → Prop} {m : Ms} (ht : m.tc = false) : ∀ (l : List Nat) {t : Hist Cm} {h : Hl}, HInv zs P t h → Mok zs t m → ∃ t', Le t t' ∧ HInv zs P t' (l.foldl (hitsH m) h)
  | [], t, h, k, _ => ⟨t, Le.refl t, k⟩
  | i :: l, t, h, k, hm => by
    obtain ⟨t1, l1, k1⟩ := k.hits hm ht i
    obtain ⟨t2, l2, k2⟩ := HInv.hitsAll ht l k1 (hm.le l1)
    exact ⟨t2, l1.trans l2, k2⟩
theorem HInv.deliver {zs : List Int} {P : Cm → Prop} {t : Hist Cm} {h : Hl} (k : HInv zs P t h) {m : Ms} (hm : Mok zs t m) : ∃ t', Le t t' ∧ HInv zs P t' (deliverH h m) := by
  unfold deliverH
  cases ht : m.tc
  · rw [if_neg (by decide)]
    exact HInv.hitsAll ht _ k hm
  · rw [if_pos rfl]
    cases hs : h.ps[(m.ti - 1).toNat]? with
    | none => exact ⟨t, Le.refl t, k⟩
    | some s =>
      show ∃ t', Le t t' ∧ HInv zs P t' (if 1 ≤ m.ti then _ else h)
      split
      · have hs' : (nackH h (m.ti - 1).toNat m s).ps[(m.ti - 1).toNat]? = some s := by rw [nack_ps]; exact hs
        obtain ⟨t', l, k'⟩ := (k.nack (j := (m.ti - 1).toNat) (m := m) (s := s)).play hs' (take_ok k.nd k.ok (k.ps _ s hs).1 hm [] [])
        exact ⟨t', l, k'.look⟩
      · exact ⟨t, Le.refl t, k⟩
/-- What is decided is one command, and somebody's own. -/
theorem HInv.agree {zs : List Int} {P : Cm → Prop} {t : Hist Cm} {h : Hl} (k : HInv zs P t h) {c d : Cm} (hc : c ∈ h.dec) (hd : d ∈ h.dec) : c = d ∧ P c := ⟨k.ok.agree (k.dec c hc) (k.dec d hd), k.ok.own (k.dec c hc)⟩

end Pax

end Go.Proofs.Ytpabpeppgpeaoaa
/-! A proposer's question as it is answered: who was heard, who agreed, who refused; what stands when all that live have answered. -/

namespace Go.Proofs.Ytpabpeppgpeaoaa
open Go.RowKit Gt
set_option linter.unusedVariables false
set_option linter.unusedSimpArgs false

namespace Pax

structure QOk {α : Type} (zs : List Int) (x : TS Unit) (y : TS α) (rf : Bool) : Prop where
  gx : x.g = zs
  nx : x.need = zs.length
  gy : y.g = zs
  ny : y.need = needN zs.length
  sub : ∀ a, (y.v a).isSome = true → (x.v a).isSome = true
  nak : ∀ a, a ∈ zs → (x.v a).isSome = true → (y.v a).isSome = false → rf = true
  few : (cnt y : Int) < y.need
theorem mem_miss {x : TS Unit} {a : Int} : a ∈ missL x ↔ a ∈ x.g ∧ (x.v a).isSome = false := by
  unfold missL
  rw [List.mem_filter]
  cases x.v a <;> simp
theorem qok_new {α : Type} {zs : List Int} (hz : zs.Nodup) : QOk zs (tNew Unit zs (zs.length : Int)) (tNew α zs (needN zs.length)) false := by
  refine ⟨uq_self hz, rfl, uq_self hz, rfl, fun a e => absurd e (by show ¬ ((none : Option α).isSome = true); simp), fun a _ e => absurd e (by show ¬ ((none : Option Unit).isSome = true); simp), ?_⟩
  rw [cnt_new]
  show ((0 : Nat) : Int) < needN zs.length
  unfold needN; omega
theorem hear_put {α : Type} {zs : List Int} {x : TS Unit} {y : TS α} {rf : Bool} (q : QOk zs x y rf) {a : Int} (h : a ∈ missL x) : hearS x a = putS x a () := by
  unfold hearS
  rw [if_pos h]
  obtain ⟨h1, h2⟩ := mem_miss.1 h
  unfold takeS
  rw [if_pos]
  unfold mayB enB
  have hc : cnt x < x.g.length := by rw [q.gx] at *; exact cnt_lt q.gx h1 h2
  have : x.v a = none := by cases e : x.v a with | none => rfl | some u => rw [e] at h2; exact nomatch h2
  rw [this, q.nx]
  rw [q.gx] at hc h1
  simp only [q.gx, h1, decide_true, Option.isNone_none, Bool.and_true, Bool.true_and, Bool.not_eq_true', decide_eq_false_iff_not]
  omega
theorem put_v {α : Type} (x : TS α) (a b : Int) (v : α) : (putS x a v).v b = if b = a then some v else x.v b := rfl
theorem QOk.heard {α : Type} {zs : List Int} {x : TS Unit} {y : TS α} {rf : Bool} (q : QOk zs x y rf) {a : Int} (h : a ∈ missL x) (b : Int) : ((hearS x a).v b).isSome = ((x.v b).isSome || b == a) := by
  rw [hear_put q h, put_v]
  by_cases e : b = a
  · rw [if_pos e, e]; simp
  · rw [if_neg e]; simp [e]
theorem QOk.noY {α : Type} {zs : List Int} {x : TS Unit} {y : TS α} {rf : Bool} (q : QOk zs x y rf) {a : Int} (h : a ∈ missL x) : y.v a = none := by
  cases e : y.v a with
  | none => rfl
  | some u =>
    have := q.sub a (by rw [e]; rfl)
    rw [(mem_miss.1 h).2] at this
    exact nomatch this
theorem QOk.may {α : Type} {zs : List Int} {x : TS Unit} {y : TS α} {rf : Bool} (q : QOk zs x y rf) {a : Int} (h : a ∈ missL x) : mayB y a = true := by
  have h1 := (mem_miss.1 h).1
  rw [q.gx] at h1
  have := q.few
  unfold mayB enB
  rw [q.noY h]
  simp only [q.gy, h1, decide_true, Option.isNone_none, Bool.and_true, Bool.true_and, Bool.not_eq_true', decide_eq_false_iff_not]
  omega
theorem QOk.took {α : Type} {zs : List Int} {x : TS Unit} {y : TS α} {rf : Bool} (q : QOk zs x y rf) {a : Int} (h : a ∈ missL x) (v : α) (b : Int) : ((takeS y a v).v b).isSome = ((y.v b).isSome || b == a) := by
  unfold takeS
  rw [if_pos (q.may h), put_v]
  by_cases e : b = a
  · rw [if_pos e, e]; simp
  · rw [if_neg e]; simp [e]
theorem QOk.nack {α : Type} {zs : List Int} {x : TS Unit} {y : TS α} {rf : Bool} (q : QOk zs x y rf) {a : Int} (h : a ∈ missL x) : QOk zs (hearS x a) y true := by
  refine ⟨hear_g.trans q.gx, ?_, q.gy, q.ny, fun b e => ?_, fun _ _ _ _ => rfl, q.few⟩
  · rw [hear_put q h]; exact q.nx
  · rw [q.heard h, q.sub b e]; rfl
theorem QOk.take {α : Type} {zs : List Int} (hz : zs.Nodup) {x : TS Unit} {y : TS α} {rf : Bool} (q : QOk zs x y rf) {a : Int} (h : a ∈ missL x) (v : α) (ht : takeB y a = false) : QOk zs (hearS x a) (takeS y a v) rf := by
  refine ⟨hear_g.trans q.gx, ?_, (take_g y a v).trans q.gy, (take_need y a v).trans q.ny, fun b e => ?_, fun b hb e1 e2 => ?_, ?_⟩
  · rw [hear_put q h]; exact q.nx
  · rw [q.heard h]
    rw [q.took h] at e
    rw [Bool.or_eq_true] at *
    exact e.imp (q.sub b) id
  · rw [q.heard h, Bool.or_eq_true] at e1
    rw [q.took h, Bool.or_eq_false_iff] at e2
    rcases e1 with e1 | e1
    · exact q.nak b hb e1 e2.1
    · rw [e1] at e2; exact nomatch e2.2
  · rw [take_need]
    have m := q.may h
    have e : takeS y a v = putS y a v := by unfold takeS; rw [if_pos m]
    unfold takeB at ht
    rw [m, Bool.true_and, decide_eq_false_iff_not] at ht
    have h1 := (mem_miss.1 h).1
    rw [q.gx] at h1
    rw [e, cnt_put (by rw [q.gy]; exact hz) (by rw [q.gy]; exact h1) (q.noY h)]
    omega
/-- Where most were heard and none refused, the question is at its end. -/
theorem QOk.most {α : Type} {zs : List Int} {x : TS Unit} {y : TS α} {rf : Bool} (q : QOk zs x y rf) {l : Int → Bool} (hl : Maj zs l) (h : ∀ a, a ∈ zs → l a = true → (y.v a).isSome = true) : False := by
  have h1 : zs.countP l ≤ zs.countP (fun a => (y.v a).isSome) := List.countP_mono_left h
  have h2 : cnt y = zs.countP (fun a => (y.v a).isSome) := by unfold cnt; rw [q.gy]
  have := q.few
  rw [q.ny] at this
  unfold needN at this
  unfold Maj at hl
  omega
theorem QOk.refused {α : Type} {zs : List Int} {x : TS Unit} {y : TS α} {rf : Bool} (q : QOk zs x y rf) {l : Int → Bool} (hl : Maj zs l) (h : ∀ a, a ∈ zs → l a = true → (x.v a).isSome = true) : rf = true := by
  cases e : rf
  · refine (q.most hl fun a ha la => ?_).elim
    cases e2 : (y.v a).isSome
    · exact absurd (q.nak a ha (h a ha la) e2) (by rw [e]; decide)
    · rfl
  · rfl
/-- A proposer's question is in order. -/
def Lok (zs : List Int) : Ph → Prop
  | .pre x y rf => QOk zs x y rf
  | .acc _ x y rf => QOk zs x y rf
  | _ => True
theorem lok_prep {zs : List Int} (hz : zs.Nodup) {s : PS} (g : s.zs = zs) (n r : Int) : Lok zs (prepS s n r).1.ph := by
  unfold prepS
  split
  · show QOk zs (tNew Unit s.zs _) (tNew Vt s.zs _) false; rw [g]; exact qok_new hz
  · trivial
theorem lok_beg {zs : List Int} (hz : zs.Nodup) {s : PS} (g : s.zs = zs) (h : Lok zs s.ph) : Lok zs (begS s).1.ph := by
  unfold begS
  cases hs : s.ph with
  | fresh => exact lok_prep hz g _ _
  | _ => exact h
theorem lok_tick {zs : List Int} (hz : zs.Nodup) {s : PS} (g : s.zs = zs) (h : Lok zs s.ph) : Lok zs (tickS s).1.ph := by
  unfold tickS
  cases hs : s.ph with
  | pre x y rf =>
    cases rf
    · exact h
    · exact lok_prep hz g _ _
  | acc c x y rf =>
    cases rf
    · exact h
    · exact lok_prep hz g _ _
  | _ => exact h
theorem lok_acc {zs : List Int} (hz : zs.Nodup) {s : PS} (g : s.zs = zs) (c : Cm) : Lok zs (accS s c).1.ph := by
  unfold accS
  split
  · show QOk zs (tNew Unit s.zs _) (tNew Unit s.zs _) false; rw [g]; exact qok_new hz
  · trivial
theorem lok_oth {zs : List Int} {s : PS} (h : Lok zs s.ph) {x : TS Unit} {nk : TS Unit → Ph} (hk : ∀ a, a ∈ missL x → Lok zs (nk (hearS x a))) {m : Ms} {es : List En} {ls : List La} {t : PS × List Ms} (ht : Lok zs t.1.ph) : Lok zs (othS s x nk m es ls t).1.ph := by
  unfold othS
  split
  · split
    · trivial
    · split
      · trivial
      · split
        · show Lok zs (if m.fi ∈ missL x then ({ s with top := max s.top m.st.n, ph := nk (hearS x m.fi) } : PS) else s).ph
          split
          · next e => exact hk _ e
          · exact h
        · split
          · exact ht
          · exact h
  · exact h
theorem lok_take {zs : List Int} (hz : zs.Nodup) {s : PS} (g : s.zs = zs) (h : Lok zs s.ph) (m : Ms) (es : List En) (ls : List La) : Lok zs (taksS s m es ls).1.ph := by
  unfold taksS
  cases hs : s.ph with
  | pre x y rf =>
    have q : QOk zs x y rf := by rw [hs] at h; exact h
    refine lok_oth (nk := fun x' => .pre x' y true) h (fun a ha => q.nack ha) ?_
    unfold takP
    split
    · next e =>
      simp only [Bool.and_eq_true, decide_eq_true_eq] at e
      cases ht : takeB y m.fi
      · rw [if_neg (by decide)]; exact q.take hz e.2 _ ht
      · rw [if_pos rfl]; exact lok_acc hz g _
    · exact h
  | acc c x y rf =>
    have q : QOk zs x y rf := by rw [hs] at h; exact h
    refine lok_oth (nk := fun x' => .acc c x' y true) h (fun a ha => q.nack ha) ?_
    unfold takA
    split
    · next e =>
      simp only [Bool.and_eq_true, decide_eq_true_eq] at e
      cases ht : takeB y m.fi
      · rw [if_neg (by decide)]; exact q.take hz e.2 _ ht
      · rw [if_pos rfl]; trivial
    · exact h
  | _ => exact h

end Pax

end Go.Proofs.Ytpabpeppgpeaoaa
