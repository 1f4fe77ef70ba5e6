import Derived.Test.YtcgnbpaaalmkoaaEc
namespace Go.Proofs.Ytcgnbpaaalmkoaa
open Go.RowKit
set_option linter.unusedVariables false
set_option linter.unusedSimpArgs false

theorem RdB.keptN {S : Nat → Prop} {w w' : World} {s : Sl} {xs : List Int} (h : RdB w s xs) (hk : Kept S w w') (hS : xs ≠ [] → ∀ k, At s.a k → ¬ S k) : RdB w' s xs := by
  cases xs with
  | nil => exact ⟨Nums.nil _ _ _, h.len, h.cap⟩
  | cons x r => exact h.kept hk (hS (by simp))
theorem RdE.keptN {S : Nat → Prop} {w w' : World} {s : Sl} {xs : List En} (h : RdE w s xs) (hk : Kept S w w') (hS : xs ≠ [] → ∀ k, At s.a k → ¬ S k) : RdE w' s xs := by
  cases xs with
  | nil => exact ⟨RowsAt.nil _ _ _, h.len, h.cap⟩
  | cons x r => exact h.kept hk (hS (by simp))
theorem RdL.keptN {S : Nat → Prop} {w w' : World} {s : Sl} {xs : List La} (h : RdL w s xs) (hk : Kept S w w') (hS : xs ≠ [] → ∀ k, At s.a k → ¬ S k) : RdL w' s xs := by
  cases xs with
  | nil => exact ⟨RowsAt.nil _ _ _, h.len, h.cap⟩
  | cons x r => exact h.kept hk (hS (by simp))
theorem RdP.keptN {S : Nat → Prop} {w w' : World} {s : Sl} {xs : List Pl} (h : RdP w s xs) (hk : Kept S w w') (hS : xs ≠ [] → ∀ k, At s.a k → ¬ S k) : RdP w' s xs := by
  cases xs with
  | nil => exact ⟨RowsAt.nil _ _ _, h.len, h.cap⟩
  | cons x r => exact h.kept hk (hS (by simp))
/-- Lists that do not lie in some blocks. -/
def HdOff (G : Nat → Prop) (a : Hd) (ab : List Int) (ae : List En) (al : List La) (ap : List Pl) : Prop := (ab ≠ [] → ∀ k, At a.b.d.a k → ¬ G k) ∧ (ae ≠ [] → ∀ k, At a.k.e.a k → ¬ G k) ∧ (al ≠ [] → ∀ k, At a.k.l.a k → ¬ G k) ∧ (ap ≠ [] → ∀ k, At a.r.a k → ¬ G k)
def ChOff (G : Nat → Prop) (c : Ch) : Prop := ∀ k, (At c.b.d.a k ∨ At c.bk.e.a k ∨ At c.bk.l.a k) → ¬ G k
def TkOff (G : Nat → Prop) (s : Sl) (Y : List Ch) : Prop := (∀ k, At s.a k → ¬ G k) ∧ ∀ i, i < s.l → ChOff G (hAt Y i)
theorem HdAt.keptG {G S : Nat → Prop} {w w' : World} {a : Hd} {ab : List Int} {ae : List En} {al : List La} {ap : List Pl} (H : HdAt w a ab ae al ap) (ho : HdOff G a ab ae al ap) (hk : Kept S w w') (hS : ∀ k, S k → G k) : HdAt w' a ab ae al ap :=
  ⟨H.b.keptN hk (fun n k e f => ho.1 n k e (hS k f)), H.e.keptN hk (fun n k e f => ho.2.1 n k e (hS k f)), H.l.keptN hk (fun n k e f => ho.2.2.1 n k e (hS k f)), H.p.keptN hk (fun n k e f => ho.2.2.2 n k e (hS k f)), H.nb, H.ne, H.nl, H.np⟩
theorem HdOff.start {w : World} {G : Nat → Prop} {a : Hd} {ab : List Int} {ae : List En} {al : List La} {ap : List Pl} (H : HdAt w a ab ae al ap) (hG : ∀ k, G k → w.heap.size ≤ k) : HdOff G a ab ae al ap := by
  refine ⟨fun n k e f => ?_, fun n k e f => ?_, fun n k e f => ?_, fun n k e f => ?_⟩
  · obtain ⟨b, off, e1, e2⟩ := H.b.row 0 (List.length_pos_iff.2 n)
    rw [e1] at e
    obtain ⟨ad, e3, e4⟩ := e
    cases e3
    have h5 : b < w.heap.size := World.block_lt_of_cell? w ⟨b, off + 0, none⟩ e2
    have h4 : b = k := e4
    have := hG k f
    omega
  · have := RowsAt.lt H.e.row (by rw [List.length_map]; exact List.length_pos_iff.2 n) (fun x hx => by obtain ⟨y, _, rfl⟩ := List.mem_map.1 hx; exact Nat.succ_pos _) e
    have := hG k f
    omega
  · have := RowsAt.lt H.l.row (by rw [List.length_map]; exact List.length_pos_iff.2 n) (fun x hx => by obtain ⟨y, _, rfl⟩ := List.mem_map.1 hx; exact Nat.succ_pos _) e
    have := hG k f
    omega
  · have := RowsAt.lt H.p.row (by rw [List.length_map]; exact List.length_pos_iff.2 n) (fun x hx => by obtain ⟨y, _, rfl⟩ := List.mem_map.1 hx; exact Nat.succ_pos _) e
    have := hG k f
    omega
theorem TkRd.keptG {G S : Nat → Prop} {W W' : World} {s : Sl} {z : List Ch} {bs : List Int} {es : List En} {ls : List La} {Y : List Ch} (h : TkRd W s z bs es ls Y) (ho : TkOff G s Y) (hk : Kept S W W') (hS : ∀ k, S k → G k) : TkRd W' s z bs es ls Y :=
  ⟨h.len, h.row.kept hk (fun k e f => ho.1 k e (hS k f)), h.zl, fun i hi => ⟨(h.el i hi).s, (h.el i hi).b.kept hk (fun k e f => ho.2 i hi k (.inl e) (hS k f)), (h.el i hi).e.kept hk (fun k e f => ho.2 i hi k (.inr (.inl e)) (hS k f)), (h.el i hi).l.kept hk (fun k e f => ho.2 i hi k (.inr (.inr e)) (hS k f))⟩⟩
theorem TkOff.nil (G : Nat → Prop) : TkOff G slZ [] := ⟨fun k e => absurd e At.none, fun i hi => absurd hi (Nat.not_lt_zero _)⟩
theorem one_off {G : Nat → Prop} {x : Ch} (h : ChOff G x) : ∀ i, i < 1 → ChOff G (hAt [x] i) := by
  intro i hi
  have : i = 0 := by omega
  subst this
  exact h
theorem new_off {G : Nat → Prop} {a f up : Int} {cs ks : List Cm} {k i : Nat} (hi : i < (newF a f up cs ks k).length) : ChOff G (hAt (newF a f up cs ks k) i) := by
  obtain ⟨n, c, e⟩ := newF_mem a f up cs ks k _ (hAt_mem hi)
  rw [e]
  rintro j (h | h | h) <;> exact absurd h At.none
def TkOutF (G : Nat → Prop) (w : World) (A : Tw) (e : Ending) (w' : World) : Prop := ∃ (s : Sl) (X : List Ch), e = .returned (.tuple #[s.v, .agg (Mg.cells A.m), .bool A.o]) ∧ TkRd w' s A.z A.b A.e A.l X ∧ TkOff G s X ∧ Kept No w w'
theorem refTake_off (G : Nat → Prop) (m : Mg) (h : Hd) (bs : List Int) (es : List En) (ls : List La) (cs : List Cm) (hb : List Int) (hes : List En) (hls : List La) (ps : List Pl) (w : World) (HA : MgAt w m bs es ls cs) (HH : HdAt w h hb hes hls ps) (HM : MayP h ps) (hG : ∀ k, G k → k < w.heap.size) (hO : ∀ k, (At m.bl.a k ∨ At m.bk.e.a k ∨ At m.bk.l.a k) → ¬ G k) :
    Calls Try.prog 22 #[.agg (Mg.cells m), .agg (Hd.cells h)] w (TkOutF G w (takeA m h bs es ls cs ps)) := by
  have nc := HA.nc
  have np := HH.np
  have hm : ps.length ≤ 10000000000000 := by rw [HH.p.len]; omega
  cases hz : (m.k == 22 && (m.ky.k == 1 || (m.ky.k == 2 && ((decide (1 ≤ m.bk.up) && decide (m.bk.up ≤ 1048576)) || (m.bk.up == 0 && askB m.st.n))))) with
  | false =>
    have hA : takeA m h bs es ls cs ps = ⟨[], [], [], [], mgZ, false⟩ := by unfold takeA; rw [hz]; rfl
    rw [hA]
    exact (refTake_zero m h w hz).mono fun e w' ⟨he, hk⟩ => ⟨slZ, [], he, TkRd.nil _, TkOff.nil _, hk⟩
  | true =>
    have hz2 := hz
    simp only [Bool.and_eq_true, Bool.or_eq_true] at hz2
    obtain ⟨hk22, hky⟩ := hz2
    cases hk1 : (m.ky.k == 1) with
    | true =>
      cases hq : lessB h.b.s m.st with
      | false =>
        have hA : takeA m h bs es ls cs ps = ⟨[], [], [], [], mgZ, false⟩ := by unfold takeA; rw [hz, hk1, hq]; rfl
        rw [hA]
        exact (refTake_block_no m h w hk22 hk1 hq).mono fun e w' ⟨he, hk⟩ => ⟨slZ, [], he, TkRd.nil _, TkOff.nil _, hk⟩
      | true =>
        have hA : takeA m h bs es ls cs ps = ⟨[⟨m.ky, ⟨m.st, slZ⟩, inZ, bvZ⟩], bs, [], [], mgZ, false⟩ := by unfold takeA; rw [hz, hk1, hq]; rfl
        rw [hA]
        exact (refTake_block_yes m h w hk22 hk1 hq).mono fun e w' ⟨sa, cap, he, ho, hk⟩ => ⟨⟨sa, 1, cap⟩, [⟨m.ky, ⟨m.st, m.bl⟩, inZ, bvZ⟩], he, ⟨rfl, Own.rows (xs := [Ch.cs ⟨m.ky, ⟨m.st, m.bl⟩, inZ, bvZ⟩]) ho.own (chL_c [⟨m.ky, ⟨m.st, m.bl⟩, inZ, bvZ⟩]) (by omega), rfl, one_el ⟨rfl, HA.b.no hk, RdE.nil _, RdL.nil _⟩⟩, ⟨fun k e f => by have h1 := ho.own.base e; have h2 := hG k f; omega, one_off (fun k e => by
          rcases e with e | e | e
          · exact hO k (.inl e)
          · exact absurd e At.none
          · exact absurd e At.none)⟩, hk⟩
    | false =>
      rw [hk1] at hky
      simp only [Bool.false_eq_true, false_or] at hky
      obtain ⟨hk2, hu⟩ := hky
      cases hup : (m.bk.up == 0) with
      | true =>
        have hu0 : m.bk.up = 0 := by simpa using hup
        have hab : askB m.st.n = true := by
          rcases hu with hu | hu
          · have := of_decide_eq_true hu.1; omega
          · exact hu.2
        have hA : takeA m h bs es ls cs ps = ⟨newF m.ky.a m.st.n h.k.up cs (decF m.st.n m.cm.l (decd ps)) m.cm.l, [], [], [], msgT m (m.st.n + ((m.cm.l : Nat) : Int)), moreB m⟩ := by unfold takeA; rw [hz, hk1, hup]; rfl
        rw [hA]
        exact (refTake_cmds m h ps cs w hk22 hk1 hk2 hup hab HA.c (by omega) HH.p hm HM).mono fun e w' ⟨s', he, ho, hk⟩ => ⟨s', _, he, ⟨ho.len, Own.rows ho.own (chL_c _) (by omega), ho.len, fun i hi => new_el (by rw [← ho.len] at hi; exact hi)⟩, ⟨fun k e f => by have h1 := ho.own.base e; have h2 := hG k f; omega, fun i hi => new_off (by rw [← ho.len] at hi; exact hi)⟩, hk⟩
      | false =>
        have hu0 : ¬ m.bk.up = 0 := by simpa using hup
        have hu2 : (decide (1 ≤ m.bk.up) = true) ∧ (decide (m.bk.up ≤ 1048576) = true) := by
          rcases hu with hu | hu
          · exact hu
          · exact absurd hu.1 (by rw [hup]; simp)
        cases hE : decide (edgeF h.k.up (decd ps) < m.bk.up) with
        | true =>
          have hA : takeA m h bs es ls cs ps = ⟨[⟨m.ky, blZ, inZ, ⟨m.bk.up, slZ, slZ⟩⟩], [], es, ls, msgT m (m.bk.up + 1), moreB m⟩ := by unfold takeA; rw [hz, hk1, hup, hE]; rfl
          rw [hA]
          exact (refTake_bucket_yes m h ps w hk22 hk1 hk2 (of_decide_eq_true hu2.1) (of_decide_eq_true hu2.2) hE HH.p hm HM).mono fun e w' ⟨sa, cap, he, ho, hk⟩ => ⟨⟨sa, 1, cap⟩, [⟨m.ky, blZ, inZ, m.bk⟩], he, ⟨rfl, Own.rows (xs := [Ch.cs ⟨m.ky, blZ, inZ, m.bk⟩]) ho.own (chL_c [⟨m.ky, blZ, inZ, m.bk⟩]) (by omega), rfl, one_el ⟨rfl, RdB.nil _, HA.e.no hk, HA.l.no hk⟩⟩, ⟨fun k e f => by have h1 := ho.own.base e; have h2 := hG k f; omega, one_off (fun k e => by
            rcases e with e | e | e
            · exact absurd e At.none
            · exact hO k (.inr (.inl e))
            · exact hO k (.inr (.inr e)))⟩, hk⟩
        | false =>
          have hA : takeA m h bs es ls cs ps = ⟨[], [], [], [], msgT m (m.bk.up + 1), moreB m⟩ := by unfold takeA; rw [hz, hk1, hup, hE]; rfl
          rw [hA]
          exact (refTake_bucket_no m h ps w hk22 hk1 hk2 (of_decide_eq_true hu2.1) (of_decide_eq_true hu2.2) hE HH.p hm HM).mono fun e w' ⟨he, hk⟩ => ⟨slZ, [], he, TkRd.nil _, TkOff.nil _, hk⟩
def LaOutG (G : Nat → Prop) (w : World) (a : Hd) (c : Ch) (e : Ending) (w' : World) : Prop := ∃ (a' : Hd) (ab : List Int) (ae : List En) (al : List La) (ap : List Pl), e = .returned (.agg (Hd.cells a')) ∧ HdAt w' a' ab ae al ap ∧ MayP a' ap ∧ HdOff G a' ab ae al ap ∧ (((c.ky.k == 1) = false ∧ (c.ky.k == 2) = true) ∨ a'.k.up = a.k.up) ∧ Kept No w w'
theorem laid_off (G : Nat → Prop) (a : Hd) (c z : Ch) (ab : List Int) (ae : List En) (al : List La) (ap : List Pl) (bs : List Int) (es : List En) (ls : List La) (w : World) (HH : HdAt w a ab ae al ap) (HM : MayP a ap) (hc : ChOk a.k.up c) (hr : ChRd w c z bs es ls) (hb : bs.length ≤ 140737488351232) (he : es.length ≤ 3518437208780) (hl : ls.length ≤ 2513169434843) (hG : ∀ k, G k → k < w.heap.size) (ho : HdOff G a ab ae al ap) (hco : ChOff G c) :
    Calls Try.prog 24 #[.agg (Hd.cells a), .agg (Ch.cells c)] w (LaOutG G w a c) := by
  have hlen := HM.len
  rcases hc with h1 | ⟨h1, h2, h3, h4⟩ | ⟨h1, h2, h3, h4⟩
  · exact (laid_block a c w h1).mono fun e w' ⟨h, hk⟩ => ⟨⟨c.b, a.k, a.r⟩, bs, ae, al, ap, h, ⟨hr.b.no hk, HH.e.no hk, HH.l.no hk, HH.p.no hk, by show c.b.d.l ≤ _; rw [← hr.b.len]; exact hb, HH.ne, HH.nl, HH.np⟩, HM, ⟨fun _ k e => hco k (.inl e), ho.2.1, ho.2.2.1, ho.2.2.2⟩, .inr rfl, hk⟩
  · exact (laid_bucket a c ap w h1 h2 HH.p hlen).mono fun e w' ⟨s', h, hw, hk⟩ => ⟨⟨a.b, c.bk, s'⟩, ab, es, ls, _, h, ⟨HH.b.no hk, hr.e.no hk, hr.l.no hk, hw.rd, HH.nb, by show c.bk.e.l ≤ _; rw [← hr.e.len]; exact he, by show c.bk.l.l ≤ _; rw [← hr.l.len]; exact hl, by show s'.l ≤ _; rw [← hw.len]; have := List.length_filter_le (fun x : Pl => decide (c.bk.up < x.n)) ap; omega⟩, HM.fil h3 h4, ⟨ho.1, fun _ k e => hco k (.inr (.inl e)), fun _ k e => hco k (.inr (.inr e)), fun _ k e f => by have g1 := hw.own.base e; have g2 := hG k f; omega⟩, .inl ⟨h1, h2⟩, hk⟩
  · have hg : ∀ x ∈ ap, a.k.up < x.n := rise_low ap _ _ HM.rise (Int.le_refl _)
    exact (laid_inst a c ap w h1 h2 HH.p hlen hg).mono fun e w' ⟨s', h, hw, hk⟩ => by
      have hM2 : MayP ⟨a.b, a.k, s'⟩ (insP c.ky.b c.i ap) := HM.ins h3 h4
      exact ⟨⟨a.b, a.k, s'⟩, ab, ae, al, _, h, ⟨HH.b.no hk, HH.e.no hk, HH.l.no hk, hw.rd, HH.nb, HH.ne, HH.nl, by show s'.l ≤ _; rw [← hw.len]; have := hM2.len; omega⟩, hM2, ⟨ho.1, ho.2.1, ho.2.2.1, fun _ k e f => by have g1 := hw.own.base e; have g2 := hG k f; omega⟩, .inr rfl, hk⟩

end Go.Proofs.Ytcgnbpaaalmkoaa
