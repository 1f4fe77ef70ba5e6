import Derived.Test.YtpabpeppgpeaoaaAt
/-! What is under way in the hall holds no lists; sizes. -/

namespace Go.Proofs.Ytpabpeppgpeaoaa
open Go.RowKit Gt
set_option linter.unusedVariables false
set_option linter.unusedSimpArgs false

namespace Pax

theorem uq_from : ∀ (l acc : List Int) (z : Int), z ∈ l.foldl (fun acc n => if n ∈ acc then acc else acc ++ [n]) acc → z ∈ acc ∨ z ∈ l
  | [], acc, z, h => .inl h
  | x :: l, acc, z, h => by
    rw [List.foldl_cons] at h
    rcases uq_from l _ z h with e | e
    · split at e
      · exact .inl e
      · rw [List.mem_append, List.mem_singleton] at e
        exact e.imp id (fun (e : z = x) => by rw [e]; exact List.mem_cons_self)
    · exact .inr (List.mem_cons_of_mem _ e)
theorem of_uq {l : List Int} {z : Int} (h : z ∈ uq l) : z ∈ l := (uq_from l [] z h).elim (fun e => absurd e (by simp)) id
structure PlM (m : Ms) : Prop where
  en : m.en = slZ
  la : m.la = slZ
  f0 : 0 ≤ m.fi
  f1 : m.fi ≤ 1000
  t0 : 0 ≤ m.ti
  t1 : m.ti ≤ 1000
theorem PlM.ans {m : Ms} (p : PlM m) (k : Int) (st hd : Sp) (c : Cm) : PlM (ans m k st hd c) := ⟨rfl, rfl, p.t0, p.t1, p.f0, p.f1⟩
/-- A proposer of the hall. -/
structure PlS (s : PS) : Prop where
  c0 : 0 ≤ s.cl
  c1 : s.cl ≤ 1000
  n : s.zs.length ≤ 1000
  z : ∀ z, z ∈ s.zs → 0 ≤ z ∧ z ≤ 1000
  q : ∀ x y rf, s.ph = .pre x y rf → ∀ z, z ∈ x.g → z ∈ s.zs
  q2 : ∀ c x y rf, s.ph = .acc c x y rf → ∀ z, z ∈ x.g → z ∈ s.zs
  l : ∀ x y rf, s.ph = .pre x y rf → x.g.length ≤ 1000
  l2 : ∀ c x y rf, s.ph = .acc c x y rf → x.g.length ≤ 1000
/-- What a proposer tells. -/
structure PlT (t : PS × List Ms) : Prop where
  s : PlS t.1
  m : ∀ m, m ∈ t.2 → PlM m
  n : t.2.length ≤ 1000
theorem PlS.tNew_g {s : PS} (p : PlS s) (n : Int) : (∀ z, z ∈ (tNew Unit s.zs n).g → z ∈ s.zs) ∧ (tNew Unit s.zs n).g.length ≤ 1000 :=
  ⟨fun z hz => of_uq hz, Nat.le_trans (uq_len _) p.n⟩
theorem pl_prep {s : PS} (p : PlS s) (n r : Int) : PlT (prepS s n r) := by
  unfold prepS
  split
  · refine ⟨⟨p.c0, p.c1, p.n, p.z, fun x y rf e => ?_, (fun c x y rf e => nomatch e), fun x y rf e => ?_, (fun c x y rf e => nomatch e)⟩, fun m hm => ?_, by show (List.map _ _).length ≤ _; rw [List.length_map]; exact p.n⟩
    · cases e; exact (p.tNew_g _).1
    · cases e; exact (p.tNew_g _).2
    · obtain ⟨z, hz, rfl⟩ := List.mem_map.1 hm
      exact ⟨rfl, rfl, p.c0, p.c1, (p.z z hz).1, (p.z z hz).2⟩
  · exact ⟨⟨p.c0, p.c1, p.n, p.z, (fun x y rf e => nomatch e), (fun c x y rf e => nomatch e), (fun x y rf e => nomatch e), (fun c x y rf e => nomatch e)⟩, fun m hm => absurd hm (by simp), Nat.zero_le _⟩
theorem PlT.same {s : PS} (p : PlS s) : PlT (s, []) := ⟨p, fun m hm => absurd hm (by simp), Nat.zero_le _⟩
theorem pl_beg {s : PS} (p : PlS s) : PlT (begS s) := by
  unfold begS
  cases s.ph with
  | fresh => exact pl_prep p _ _
  | _ => exact .same p
theorem miss_len (x : TS Unit) : (missL x).length ≤ x.g.length := by unfold missL; exact List.length_filter_le _ _
theorem pl_tick {s : PS} (p : PlS s) : PlT (tickS s) := by
  unfold tickS
  cases hs : s.ph with
  | pre x y rf =>
    cases rf with
    | false =>
      refine ⟨p, fun m hm => ?_, by show (List.map _ _).length ≤ _; rw [List.length_map]; exact Nat.le_trans (miss_len x) (p.l _ _ _ hs)⟩
      obtain ⟨z, hz, rfl⟩ := List.mem_map.1 hm
      have := p.z z (p.q _ _ _ hs z (mem_miss.1 hz).1)
      exact ⟨rfl, rfl, p.c0, p.c1, this.1, this.2⟩
    | true => exact pl_prep p _ _
  | acc c x y rf =>
    cases rf with
    | false =>
      refine ⟨p, fun m hm => ?_, by show (List.map _ _).length ≤ _; rw [List.length_map]; exact Nat.le_trans (miss_len x) (p.l2 _ _ _ _ hs)⟩
      obtain ⟨z, hz, rfl⟩ := List.mem_map.1 hm
      have := p.z z (p.q2 _ _ _ _ hs z (mem_miss.1 hz).1)
      exact ⟨rfl, rfl, p.c0, p.c1, this.1, this.2⟩
    | true => exact pl_prep p _ _
  | _ => exact .same p
theorem pl_acc {s : PS} (p : PlS s) (c : Cm) : PlT (accS s c) := by
  unfold accS
  split
  · refine ⟨⟨p.c0, p.c1, p.n, p.z, (fun x y rf e => nomatch e), fun c x y rf e => ?_, (fun x y rf e => nomatch e), fun c x y rf e => ?_⟩, fun m hm => ?_, by show (List.map _ _).length ≤ _; rw [List.length_map]; exact p.n⟩
    · cases e; exact (p.tNew_g _).1
    · cases e; exact (p.tNew_g _).2
    · obtain ⟨z, hz, rfl⟩ := List.mem_map.1 hm
      exact ⟨rfl, rfl, p.c0, p.c1, (p.z z hz).1, (p.z z hz).2⟩
  · exact ⟨⟨p.c0, p.c1, p.n, p.z, (fun x y rf e => nomatch e), (fun c x y rf e => nomatch e), (fun x y rf e => nomatch e), (fun c x y rf e => nomatch e)⟩, fun m hm => absurd hm (by simp), Nat.zero_le _⟩
theorem pl_oth {s : PS} (p : PlS s) {x : TS Unit} {nk : TS Unit → Ph} (hn : ∀ y, PlS { s with ph := nk (hearS x y) }) {m : Ms} {t : PS × List Ms} (ht : PlT t) : PlT (othS s x nk m [] [] t) := by
  have hz : ∀ {ph : Ph}, (∀ x y rf, ph ≠ .pre x y rf) → (∀ c x y rf, ph ≠ .acc c x y rf) → PlS { s with ph := ph } := fun h1 h2 => ⟨p.c0, p.c1, p.n, p.z, fun x y rf e => absurd e (h1 _ _ _), fun c x y rf e => absurd e (h2 _ _ _ _), fun x y rf e => absurd e (h1 _ _ _), fun c x y rf e => absurd e (h2 _ _ _ _)⟩
  unfold othS
  split
  · split
    · exact .same (hz nofun nofun)
    · split
      · exact .same (hz nofun nofun)
      · split
        · split
          · have q := hn m.fi
            exact .same (s := { s with top := max s.top m.st.n, ph := nk (hearS x m.fi) }) ⟨q.c0, q.c1, q.n, q.z, q.q, q.q2, q.l, q.l2⟩
          · exact .same p
        · split
          · exact ht
          · exact .same p
  · exact .same p
theorem pl_tak {s : PS} (p : PlS s) (m : Ms) : PlT (taksS s m [] []) := by
  unfold taksS
  cases hs : s.ph with
  | pre x y rf =>
    have hx : ∀ a (y' : TS Vt) (rf' : Bool), PlS { s with ph := .pre (hearS x a) y' rf' } := fun a y' rf' => ⟨p.c0, p.c1, p.n, p.z, fun x' y'' rf'' e => by cases e; rw [hear_g]; exact p.q _ _ _ hs, (fun c x y rf e => nomatch e), fun x' y'' rf'' e => by cases e; rw [hear_g]; exact p.l _ _ _ hs, (fun c x y rf e => nomatch e)⟩
    refine pl_oth (nk := fun x' => .pre x' y true) p (fun a => hx a _ _) ?_
    unfold takP
    split
    · split
      · exact pl_acc p _
      · exact .same (hx _ _ _)
    · exact .same p
  | acc c x y rf =>
    have hx : ∀ a (y' : TS Unit) (rf' : Bool), PlS { s with ph := .acc c (hearS x a) y' rf' } := fun a y' rf' => ⟨p.c0, p.c1, p.n, p.z, (fun x y rf e => nomatch e), fun c' x' y'' rf'' e => by cases e; rw [hear_g]; exact p.q2 _ _ _ _ hs, (fun x y rf e => nomatch e), fun c' x' y'' rf'' e => by cases e; rw [hear_g]; exact p.l2 _ _ _ _ hs⟩
    refine pl_oth (nk := fun x' => .acc c x' y true) p (fun a => hx a _ _) ?_
    unfold takA
    split
    · split
      · refine ⟨⟨p.c0, p.c1, p.n, p.z, (fun x y rf e => nomatch e), (fun c x y rf e => nomatch e), (fun x y rf e => nomatch e), (fun c x y rf e => nomatch e)⟩, fun k hk => ?_, by show (List.map _ _).length ≤ _; rw [List.length_map]; exact p.n⟩
        obtain ⟨z, hz, rfl⟩ := List.mem_map.1 hk
        exact ⟨rfl, rfl, p.c0, p.c1, (p.z z hz).1, (p.z z hz).2⟩
      · exact .same (hx _ _ _)
    · exact .same p
  | _ => exact .same p
/-- The hall's sizes. -/
structure Hok (B : Nat) (h : Hl) : Prop where
  b : 4000 ≤ B
  dec : h.dec.length ≤ 50
  ps : h.ps.length ≤ 1000
  way : h.way.length ≤ B
  ln : h.nkd.length = h.ps.length
  ls : h.nks.length = h.ps.length
  li : h.ins.length = h.zs.length
  zs : h.zs.length ≤ 1000
  pl : ∀ m, m ∈ h.way → PlM m
  pr : ∀ s, s ∈ h.ps → PlS s
theorem sendW_few {way l : List Ms} {B : Nat} (hB : 4000 ≤ B) (h : way.length ≤ B) : (sendW way l).length ≤ B := by
  unfold sendW
  rw [List.length_append, List.length_take]
  omega
theorem lookC_few' {d : List Cm} {s : PS} (h : d.length ≤ 50) : (lookC d s).length ≤ 50 := by
  unfold lookC
  split
  · split
    · rw [List.length_drop, List.length_append]; simp; omega
    · next e => simp at e ⊢; omega
  · exact h
theorem looks_few' : ∀ (ps : List PS) {d : List Cm}, d.length ≤ 50 → (ps.foldl lookC d).length ≤ 50
  | [], _, h => h
  | s :: ps, _, h => looks_few' ps (lookC_few' h)
theorem Hok.mono {B B' : Nat} {h : Hl} (k : Hok B h) (l : B ≤ B') : Hok B' h := ⟨Nat.le_trans k.b l, k.dec, k.ps, Nat.le_trans k.way l, k.ln, k.ls, k.li, k.zs, k.pl, k.pr⟩
theorem Hok.look {B : Nat} {h : Hl} (k : Hok B h) : Hok B (lookH h) := ⟨k.b, looks_few' h.ps k.dec, k.ps, k.way, k.ln, k.ls, k.li, k.zs, k.pl, k.pr⟩
theorem Hok.send {B : Nat} {h : Hl} (k : Hok B h) {l : List Ms} (hl : ∀ m, m ∈ l → PlM m) : Hok B (sendH h l) := ⟨k.b, k.dec, k.ps, sendW_few k.b k.way, k.ln, k.ls, k.li, k.zs, fun m hm => (mem_sendW hm).elim (k.pl m) (hl m), k.pr⟩
theorem Hok.setP {B : Nat} {h : Hl} (k : Hok B h) (j : Nat) {s : PS} (p : PlS s) : Hok B { h with ps := h.ps.set j s } :=
  ⟨k.b, k.dec, by show (h.ps.set j s).length ≤ _; rw [List.length_set]; exact k.ps, k.way, by show _ = (h.ps.set j s).length; rw [List.length_set]; exact k.ln, by show _ = (h.ps.set j s).length; rw [List.length_set]; exact k.ls, k.li, k.zs, k.pl, fun x hx => (List.mem_or_eq_of_mem_set hx).elim (k.pr x) (fun e => e ▸ p)⟩
theorem Hok.setN {B : Nat} {h : Hl} (k : Hok B h) (i : Nat) (x : In) : Hok B { h with ins := h.ins.set i x } :=
  ⟨k.b, k.dec, k.ps, k.way, k.ln, k.ls, by show (h.ins.set i x).length = _; rw [List.length_set]; exact k.li, k.zs, k.pl, k.pr⟩
theorem Hok.gone {B B' : Nat} {h : Hl} (k : Hok B h) {l : List Ms} (hb : 4000 ≤ B') (hB : l.length ≤ B') (hl : ∀ m, m ∈ l → m ∈ h.way) : Hok B' { h with way := l } := ⟨hb, k.dec, k.ps, hB, k.ln, k.ls, k.li, k.zs, fun m hm => k.pl m (hl m hm), k.pr⟩
theorem Hok.nack {B : Nat} {h : Hl} (k : Hok B h) (j : Nat) (m : Ms) (s : PS) : Hok B (nackH h j m s) := by
  unfold nackH
  split
  · exact ⟨k.b, k.dec, k.ps, k.way, by show (h.nkd.set j _).length = _; rw [List.length_set]; exact k.ln, by show (h.nks.set j _).length = _; rw [List.length_set]; exact k.ls, k.li, k.zs, k.pl, k.pr⟩
  · exact k
theorem prepA_ans (x : In) (m : Ms) : ∃ k st hd c, (prepA x m).2 = ans m k st hd c := by
  unfold prepA
  split
  · exact ⟨_, _, _, _, rfl⟩
  · split <;> exact ⟨_, _, _, _, rfl⟩
theorem accA_ans (x : In) (m : Ms) : ∃ k st hd c, (accA x m).2 = ans m k st hd c := by
  unfold accA
  split
  · exact ⟨_, _, _, _, rfl⟩
  · split <;> exact ⟨_, _, _, _, rfl⟩
theorem Hok.hits {B : Nat} {h : Hl} (k : Hok B h) {m : Ms} (p : PlM m) (i : Nat) : Hok B (hitsH m h i) := by
  unfold hitsH
  split
  · unfold hitH
    split
    · refine (k.setN i _).send (fun a ha => ?_)
      rw [List.mem_singleton] at ha
      obtain ⟨_, _, _, _, e⟩ := prepA_ans (h.ins[i]?.getD ⟨sZ, sZ, cZ, false⟩) m
      rw [ha, e]; exact p.ans _ _ _ _
    · split
      · refine (k.setN i _).send (fun a ha => ?_)
        rw [List.mem_singleton] at ha
        obtain ⟨_, _, _, _, e⟩ := accA_ans (h.ins[i]?.getD ⟨sZ, sZ, cZ, false⟩) m
        rw [ha, e]; exact p.ans _ _ _ _
      · split
        · exact k.setN i _
        · refine k.send (fun a ha => ?_)
          rw [List.mem_singleton] at ha
          rw [ha]; exact p.ans _ _ _ _
  · exact k
theorem Hok.hitsAll {B : Nat} {m : Ms} (p : PlM m) : ∀ (l : List Nat) {h : Hl}, Hok B h → Hok B (l.foldl (hitsH m) h)
  | [], _, k => k
  | i :: l, _, k => Hok.hitsAll p l (k.hits p i)
theorem Hok.deliver {B : Nat} {h : Hl} (k : Hok B h) {m : Ms} (p : PlM m) : Hok B (deliverH h m) := by
  unfold deliverH
  split
  · split
    · next s hs =>
      split
      · have q := pl_tak (k.pr s (List.mem_of_getElem? hs)) m
        have k1 := k.nack (m.ti - 1).toNat m s
        exact ((k1.setP _ q.s).send q.m).look
      · exact k
    · exact k
  · exact Hok.hitsAll p _ k
theorem Hok.delivers {B : Nat} : ∀ (l : List Ms) {h : Hl}, Hok B h → (∀ m, m ∈ l → PlM m) → Hok B (l.foldl deliverH h)
  | [], _, k, _ => k
  | m :: l, _, k, hl => Hok.delivers l (k.deliver (hl m List.mem_cons_self)) (fun x hx => hl x (List.mem_cons_of_mem _ hx))
theorem Hok.play {B : Nat} {h : Hl} (k : Hok B h) (j : Nat) {t : PS × List Ms} (p : PlT t) : Hok B (playH h j t) := (k.setP j p.s).send p.m
theorem Hok.act {B : Nat} {h : Hl} (k : Hok B h) (x : Int) : Hok (B + 1) (actH h x) := by
  have k1 := k.mono (show B ≤ B + 1 by omega)
  have pr : ∀ s, s ∈ h.ps → PlS s := k.pr
  unfold actH
  split
  · split
    · next s hs => exact (k1.play _ (pl_beg (pr s (List.mem_of_getElem? hs)))).look
    · exact k1
  · split
    · split
      · next s hs => exact (k1.play _ (pl_tick (pr s (List.mem_of_getElem? hs)))).look
      · exact k1
    · split
      · exact k1
      · next m hm =>
        have hm' := List.mem_of_getElem? hm
        have hb := k.way
        have hsub : ∀ q, q ∈ h.way.take (x / 8 % (h.way.length : Int)).toNat ++ h.way.drop ((x / 8 % (h.way.length : Int)).toNat + 1) → q ∈ h.way := fun q hq => by
          rw [List.mem_append] at hq
          exact hq.elim List.mem_of_mem_take List.mem_of_mem_drop
        have hlen : (h.way.take (x / 8 % (h.way.length : Int)).toNat ++ h.way.drop ((x / 8 % (h.way.length : Int)).toNat + 1)).length ≤ B + 1 := by
          rw [List.length_append, List.length_take, List.length_drop]; omega
        split
        · refine k.gone k1.b (by rw [List.length_append]; simp; omega) (fun q hq => ?_)
          rw [List.mem_append, List.mem_singleton] at hq
          exact hq.elim id (fun e => e ▸ hm')
        · split
          · exact (k.gone k1.b hlen hsub).look
          · exact ((k.gone k1.b hlen hsub).deliver (k.pl m hm')).look
theorem open_ok {n k : Nat} (hn : n ≤ 7) (hk : k ≤ 4) : Hok 4000 (openH n k) := by
  have hg : ∀ z, z ∈ grp n → 0 ≤ z ∧ z ≤ 1000 := fun z hz => by
    unfold grp at hz
    obtain ⟨i, hi, rfl⟩ := List.mem_map.1 hz
    rw [List.mem_range] at hi
    omega
  refine ⟨Nat.le_refl _, by show ([] : List Cm).length ≤ 50; simp, by show ((List.range k).map (newP (grp n))).length ≤ 1000; simp; omega, by show ([] : List Ms).length ≤ 4000; simp, by show (List.replicate k (0 : Int)).length = ((List.range k).map (newP (grp n))).length; simp, by show (List.replicate k (0 : Int)).length = ((List.range k).map (newP (grp n))).length; simp, by show (List.replicate n iZ).length = (grp n).length; rw [List.length_replicate, grp_len], by show (grp n).length ≤ 1000; rw [grp_len]; omega, fun m hm => absurd hm (by show ¬ (m ∈ ([] : List Ms)); simp), fun s hs => ?_⟩
  obtain ⟨i, hi, rfl⟩ := List.mem_map.1 hs
  rw [List.mem_range] at hi
  refine ⟨by show (0 : Int) ≤ (i : Int) + 1; omega, by show (i : Int) + 1 ≤ 1000; omega, by show (uq (grp n)).length ≤ 1000; exact Nat.le_trans (uq_len _) (by rw [grp_len]; omega), fun z hz => hg z (of_uq hz), (fun x y rf e => nomatch e), (fun c x y rf e => nomatch e), (fun x y rf e => nomatch e), (fun c x y rf e => nomatch e)⟩

end Pax

end Go.Proofs.Ytpabpeppgpeaoaa
