import Derived.Test.YtcgnbpaaalmkoaaGa
namespace Go.Proofs.Ytcgnbpaaalmkoaa
open Go.RowKit
set_option linter.unusedVariables false
set_option linter.unusedSimpArgs false


/-- The bytes of a block are told by its stamp. -/
def BlF (s : Sp) (bs : List Int) : Prop := (s = spZ ∧ bs = []) ∨ (0 < s.n ∧ bs = [s.n, s.c])
/-- What a server holds in these laws: what is decided is what was decided. -/
structure Wl (a : Hd) (ab : List Int) (ae : List En) (al : List La) (ap : List Pl) : Prop where
 may : MayP a ap
 cm : ∀ x ∈ ap, x.i.d = true → x.i.c = cmdN x.n
 bk : BkOk a.k.up ae al
 bl : BlF a.b.s ab
 hi : a.k.up ≤ 10000 ∧ ∀ x ∈ ap, x.n ≤ 10000
def dnI (n : Int) : In := ⟨spZ, spZ, cmdN n, true⟩
def ChW (u : Int) (s : Sp) (c : Ch) (bs : List Int) (es : List En) (ls : List La) : Prop :=
 ((c.ky.k == 1) = true ∧ lessB s c.b.s = true ∧ 0 < c.b.s.n ∧ bs = [c.b.s.n, c.b.s.c])
 ∨ ((c.ky.k == 1) = false ∧ (c.ky.k == 2) = true ∧ (1 ≤ c.bk.up ∧ c.bk.up ≤ 10000) ∧ u ≤ c.bk.up ∧ BkOk c.bk.up es ls)
 ∨ ((c.ky.k == 1) = false ∧ (c.ky.k == 2) = false ∧ (u < c.ky.b ∧ c.ky.b ≤ 10000) ∧ c.i = dnI c.ky.b)
def LsW (u : Int) (s : Sp) (Y : List Ch) (n : Nat) (bs : List Int) (es : List En) (ls : List La) : Prop := (∀ i, i < n → ChW u s (hAt Y i) bs es ls) ∧ ((∃ i, i < n ∧ ((hAt Y i).ky.k == 1 || (hAt Y i).ky.k == 2) = true) → n = 1)
/-- What a change lets one know. -/
def ChK (c : Ch) (i : Int) : Prop := ((c.ky.k == 1) = false ∧ (c.ky.k == 2) = true ∧ i ≤ c.bk.up) ∨ ((c.ky.k == 1) = false ∧ (c.ky.k == 2) = false ∧ i = c.ky.b)
theorem ChW.ok {u : Int} {s : Sp} {c : Ch} {bs : List Int} {es : List En} {ls : List La} (h : ChW u s c bs es ls) : ChOk u c := by
 rcases h with h | h | h
 · exact .inl h.1
 · exact .inr (.inl ⟨h.1, h.2.1, h.2.2.1.1, by have := h.2.2.1.2; omega⟩)
 · refine .inr (.inr ⟨h.1, h.2.1, h.2.2.1.1, by have := h.2.2.1.2; show c.ky.b ≤ _; omega, fun _ => ?_⟩)
   show c.i.p = spZ ∧ c.i.a = spZ ∧ 1 ≤ c.i.c.k
   rw [h.2.2.2]
   exact ⟨rfl, rfl, by show (1 : Int) ≤ 4; omega⟩
theorem cmdN_ne (n : Int) : eqC (cmdN n) cZ = false := by
 cases h : eqC (cmdN n) cZ with
 | false => rfl
 | true =>
  have := eqC_iff.1 h
  have e : (4 : Int) = 0 := congrArg Cm.k this
  exact absurd e (by decide)
theorem Wl.at {a : Hd} {ab : List Int} {ae : List En} {al : List La} {ap : List Pl} (H : Wl a ab ae al ap) (q : Int) (hd : (atF q ap).d = true) : atF q ap = dnI q := by
 obtain ⟨x, hx, h1, h2, h3⟩ := at_mem ap q hd
 have hc := H.cm x hx h2
 obtain ⟨i, hi⟩ := List.getElem?_of_mem hx
 have hil : i < ap.length := by
  rcases Nat.lt_or_ge i ap.length with h | h
  · exact h
  · rw [List.getElem?_eq_none h] at hi; cases hi
 have hp : pAt ap i = x := by
  have h5 := pAt_some hil
  rw [hi] at h5
  exact (Option.some.inj h5).symm
 have h6 := (H.may.2.2 i hil).2.2
 rw [hp] at h6
 have h7 := h6 h2
 rw [h3, ← h1]
 obtain ⟨n, ⟨p, a', c, d⟩⟩ := x
 simp only at h7 hc h2 ⊢
 rw [h7.1, h7.2.1, hc, h2]
 rfl
structure LaR (a : Hd) (c : Ch) (ap : List Pl) (a' : Hd) (ap' : List Pl) : Prop where
 kn : ∀ i, knowB a ap i = true → knowB a' ap' i = true
 ch : ∀ i, ChK c i → knowB a' ap' i = true
 st : (c.ky.k == 1) = true → a'.b.s = c.b.s
 sn : (c.ky.k == 1) = false → a'.b.s = a.b.s
 up : (c.ky.k == 1 || c.ky.k == 2) = false → a'.k.up = a.k.up
def LaK (G : Nat → Prop) (w : World) (a : Hd) (c : Ch) (ap : List Pl) (e : Ending) (w' : World) : Prop := ∃ (a' : Hd) (ab' : List Int) (ae' : List En) (al' : List La) (ap' : List Pl), e = .returned (.agg (Hd.cells a')) ∧ HdAt w' a' ab' ae' al' ap' ∧ Wl a' ab' ae' al' ap' ∧ HdOff G a' ab' ae' al' ap' ∧ LaR a c ap a' ap' ∧ Kept No w w'
theorem laid_kn (G : Nat → Prop) (a : Hd) (c z : Ch) (ab : List Int) (ae : List En) (al : List La) (ap : List Pl) (bs : List Int) (es : List En) (ls : List La) (w : World) (HH : HdAt w a ab ae al ap) (HW : Wl a ab ae al ap) (hc : ChW a.k.up a.b.s c bs es ls) (hr : ChRd w c z bs es ls) (hb : bs.length ≤ 140737488351232) (he : es.length ≤ 3518437208780) (hl : ls.length ≤ 2513169434843) (hG : ∀ k, G k → k < w.heap.size) (ho : HdOff G a ab ae al ap) (hco : ChOff G c) :
 Calls Try.prog 24 #[.agg (Hd.cells a), .agg (Ch.cells c)] w (LaK G w a c ap) := by
 have HM := HW.may
 have hlen := HM.len
 rcases hc with ⟨h1, h2, h3, h4⟩ | ⟨h1, h2, ⟨h3, h4⟩, h5, h6⟩ | ⟨h1, h2, ⟨h3, h4⟩, h5⟩
 · exact (laid_block a c w h1).mono fun e w' ⟨h, hk⟩ => ⟨⟨c.b, a.k, a.r⟩, bs, ae, al, ap, h, ⟨hr.b.no hk, HH.e.no hk, HH.l.no hk, HH.p.no hk, by show c.b.d.l ≤ _; rw [← hr.b.len]; exact hb, HH.ne, HH.nl, HH.np⟩, ⟨HM, HW.cm, HW.bk, .inr ⟨h3, h4⟩, HW.hi⟩, ⟨fun _ k e => hco k (.inl e), ho.2.1, ho.2.2.1, ho.2.2.2⟩, ⟨fun i hi => hi, fun i hi => by
    rcases hi with hi | hi
    · rw [h1] at hi; exact absurd hi.1 (by decide)
    · rw [h1] at hi; exact absurd hi.1 (by decide), fun _ => rfl, fun e => absurd (h1.symm.trans e) (by decide), fun _ => rfl⟩, hk⟩
 · exact (laid_bucket a c ap w h1 h2 HH.p hlen).mono fun e w' ⟨s', h, hw, hk⟩ => ⟨⟨a.b, c.bk, s'⟩, ab, es, ls, _, h, ⟨HH.b.no hk, hr.e.no hk, hr.l.no hk, hw.rd, HH.nb, by show c.bk.e.l ≤ _; rw [← hr.e.len]; exact he, by show c.bk.l.l ≤ _; rw [← hr.l.len]; exact hl, by show s'.l ≤ _; rw [← hw.len]; have := List.length_filter_le (fun x : Pl => decide (c.bk.up < x.n)) ap; omega⟩, ⟨HM.fil h3 (by omega), fun x hx e => HW.cm x (List.mem_filter.1 hx).1 e, h6, HW.bl, h4, fun x hx => HW.hi.2 x (List.mem_filter.1 hx).1⟩, ⟨ho.1, fun _ k e => hco k (.inr (.inl e)), fun _ k e => hco k (.inr (.inr e)), fun _ k e f => by have g1 := hw.own.base e; have g2 := hG k f; omega⟩, ⟨fun i hi => know_fil h5 i hi, fun i hi => by
    rcases hi with hi | hi
    · exact (know_iff _ _ _).2 (.inl hi.2.2)
    · rw [h2] at hi; exact absurd hi.2.1 (by decide), fun e => absurd (h1.symm.trans e) (by decide), fun _ => rfl, fun e => absurd e (by rw [h1, h2]; decide)⟩, hk⟩
 · have hg : ∀ x ∈ ap, a.k.up < x.n := rise_low ap _ _ HM.rise (Int.le_refl _)
   have hd : c.i.d = true := by rw [h5]; rfl
   exact (laid_inst a c ap w h1 h2 HH.p hlen hg).mono fun e w' ⟨s', h, hw, hk⟩ => by
    have hM2 : MayP ⟨a.b, a.k, s'⟩ (insP c.ky.b c.i ap) := HM.ins h3 ⟨by show c.ky.b ≤ _; omega, fun _ => by
     show c.i.p = spZ ∧ c.i.a = spZ ∧ 1 ≤ c.i.c.k
     rw [h5]
     exact ⟨rfl, rfl, by show (1 : Int) ≤ 4; omega⟩⟩
    exact ⟨⟨a.b, a.k, s'⟩, ab, ae, al, _, h, ⟨HH.b.no hk, HH.e.no hk, HH.l.no hk, hw.rd, HH.nb, HH.ne, HH.nl, by show s'.l ≤ _; rw [← hw.len]; have := hM2.len; omega⟩, ⟨hM2, fun x hx e => by
     rcases ins_mem ap _ _ x hx with f | f
     · rw [f]; show c.i.c = cmdN c.ky.b; rw [h5]; rfl
     · exact HW.cm x f e, HW.bk, HW.bl, HW.hi.1, fun x hx => by
     rcases ins_mem ap _ _ x hx with f | f
     · rw [f]; exact h4
     · exact HW.hi.2 x f⟩, ⟨ho.1, ho.2.1, ho.2.2.1, fun _ k e f => by have g1 := hw.own.base e; have g2 := hG k f; omega⟩, ⟨fun i hi => know_ins HM hd i hi, fun i hi => by
     rcases hi with hi | hi
     · rw [h2] at hi; exact absurd hi.2.1 (by decide)
     · rw [hi.2.2]; exact know_new HM hd, fun e => absurd (h1.symm.trans e) (by decide), fun _ => rfl, fun _ => rfl⟩, hk⟩
theorem newF_in (a f up : Int) (cs ks : List Cm) : ∀ (k i : Nat), i < k → passB f up cs ks i = false → chM a (f + i) (cAt cs i) ∈ newF a f up cs ks k
 | 0, i, h, _ => by omega
 | k + 1, i, h, hp => by
  unfold newF
  by_cases e : i = k
  · subst e
    rw [if_neg (by rw [hp]; decide)]
    exact List.mem_append_right _ (by simp)
  · have ih := newF_in a f up cs ks k i (by omega) hp
    split
    · exact ih
    · exact List.mem_append_left _ ih
theorem newF_of (a f up : Int) (cs ks : List Cm) : ∀ (k : Nat) (x : Ch), x ∈ newF a f up cs ks k → ∃ i, i < k ∧ passB f up cs ks i = false ∧ x = chM a (f + i) (cAt cs i)
 | 0, x, h => by simp [newF] at h
 | k + 1, x, h => by
  unfold newF at h
  split at h
  · obtain ⟨i, h1, h2, h3⟩ := newF_of a f up cs ks k x h
    exact ⟨i, by omega, h2, h3⟩
  · rename_i hp
    rcases List.mem_append.1 h with h | h
    · obtain ⟨i, h1, h2, h3⟩ := newF_of a f up cs ks k x h
      exact ⟨i, by omega, h2, h3⟩
    · exact ⟨k, by omega, by simpa using hp, by simpa using h⟩

end Go.Proofs.Ytcgnbpaaalmkoaa
