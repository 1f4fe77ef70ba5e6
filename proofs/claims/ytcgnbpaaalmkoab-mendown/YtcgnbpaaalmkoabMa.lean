import Derived.Test.YtcgnbpaaalmkoabDc
namespace Go.Proofs.Ytcgnbpaaalmkoab
open Go.RowKit
set_option linter.unusedVariables false
set_option linter.unusedSimpArgs false

theorem RdB.keptN {S : Nat → Prop} {w w' : World} {s : Sl} {xs : List Int} (h : RdB w s xs) (hk : Kept S w w') (hS : xs ≠ [] → ∀ k, At s.a k → ¬ S k) : RdB w' s xs := by
  cases xs with
  | nil => exact ⟨Nums.nil _ _ _, h.len, h.cap⟩
  | cons x r => exact h.kept hk (hS (by simp))
theorem RdE.keptN {S : Nat → Prop} {w w' : World} {s : Sl} {xs : List En} (h : RdE w s xs) (hk : Kept S w w') (hS : xs ≠ [] → ∀ k, At s.a k → ¬ S k) : RdE w' s xs := by
  cases xs with
  | nil => exact ⟨RowsAt.nil _ _ _, h.len, h.cap⟩
  | cons x r => exact h.kept hk (hS (by simp))
theorem RdL.keptN {S : Nat → Prop} {w w' : World} {s : Sl} {xs : List La} (h : RdL w s xs) (hk : Kept S w w') (hS : xs ≠ [] → ∀ k, At s.a k → ¬ S k) : RdL w' s xs := by
  cases xs with
  | nil => exact ⟨RowsAt.nil _ _ _, h.len, h.cap⟩
  | cons x r => exact h.kept hk (hS (by simp))
theorem RdP.keptN {S : Nat → Prop} {w w' : World} {s : Sl} {xs : List Pl} (h : RdP w s xs) (hk : Kept S w w') (hS : xs ≠ [] → ∀ k, At s.a k → ¬ S k) : RdP w' s xs := by
  cases xs with
  | nil => exact ⟨RowsAt.nil _ _ _, h.len, h.cap⟩
  | cons x r => exact h.kept hk (hS (by simp))
/-- Lists that do not lie in some blocks. -/
def HdOff (G : Nat → Prop) (a : Hd) (ab : List Int) (ae : List En) (al : List La) (ap : List Pl) : Prop := (ab ≠ [] → ∀ k, At a.b.d.a k → ¬ G k) ∧ (ae ≠ [] → ∀ k, At a.k.e.a k → ¬ G k) ∧ (al ≠ [] → ∀ k, At a.k.l.a k → ¬ G k) ∧ (ap ≠ [] → ∀ k, At a.r.a k → ¬ G k)
theorem HdOff.start {w : World} {G : Nat → Prop} {a : Hd} {ab : List Int} {ae : List En} {al : List La} {ap : List Pl} (H : HdAt w a ab ae al ap) (hG : ∀ k, G k → w.heap.size ≤ k) : HdOff G a ab ae al ap := by
  refine ⟨fun n k e f => ?_, fun n k e f => ?_, fun n k e f => ?_, fun n k e f => ?_⟩
  · obtain ⟨b, off, e1, e2⟩ := H.b.row 0 (List.length_pos_iff.2 n)
    rw [e1] at e
    obtain ⟨ad, e3, e4⟩ := e
    cases e3
    have h5 : b < w.heap.size := World.block_lt_of_cell? w ⟨b, off + 0, none⟩ e2
    have h4 : b = k := e4
    have := hG k f
    omega
  · have := RowsAt.lt H.e.row (by rw [List.length_map]; exact List.length_pos_iff.2 n) (fun x hx => by obtain ⟨y, _, rfl⟩ := List.mem_map.1 hx; exact Nat.succ_pos _) e
    have := hG k f
    omega
  · have := RowsAt.lt H.l.row (by rw [List.length_map]; exact List.length_pos_iff.2 n) (fun x hx => by obtain ⟨y, _, rfl⟩ := List.mem_map.1 hx; exact Nat.succ_pos _) e
    have := hG k f
    omega
  · have := RowsAt.lt H.p.row (by rw [List.length_map]; exact List.length_pos_iff.2 n) (fun x hx => by obtain ⟨y, _, rfl⟩ := List.mem_map.1 hx; exact Nat.succ_pos _) e
    have := hG k f
    omega
theorem hv_b (a : Mg) (h : Hd) (bs : List Int) (es : List En) (ls : List La) (ps : List Pl) : ((haveA a h bs es ls ps).b.length ≤ bs.length ∧ (haveA a h bs es ls ps).e.length ≤ es.length) ∧ (haveA a h bs es ls ps).l.length ≤ ls.length ∧ (haveA a h bs es ls ps).c.length ≤ 1048577 := by
  unfold haveA
  cases (a.k == 21 && (a.ky.k == 1 || (a.ky.k == 2 && askB a.st.n))) with
  | false => exact ⟨⟨Nat.zero_le _, Nat.zero_le _⟩, Nat.zero_le _, Nat.zero_le _⟩
  | true =>
    cases (a.ky.k == 1) with
    | true => cases (eqS h.b.s spZ) with
      | true => exact ⟨⟨Nat.zero_le _, Nat.zero_le _⟩, Nat.zero_le _, Nat.zero_le _⟩
      | false => exact ⟨⟨Nat.le_refl _, Nat.zero_le _⟩, Nat.zero_le _, Nat.zero_le _⟩
    | false =>
      cases decide (a.st.n ≤ h.k.up) with
      | true => exact ⟨⟨Nat.zero_le _, Nat.le_refl _⟩, Nat.le_refl _, Nat.zero_le _⟩
      | false =>
        refine ⟨⟨Nat.zero_le _, Nat.zero_le _⟩, Nat.zero_le _, ?_⟩
        show (tab (hvN a h ps) _).length ≤ _
        rw [tab_len]
        unfold hvN
        omega
theorem MgRd.at {W : World} {m : Mg} {A : Aw} (h : MgRd W m A) (hb : A.b.length ≤ 140737488351232) (he : A.e.length ≤ 3518437208780) (hl : A.l.length ≤ 2513169434843) (hc : A.c.length ≤ 1759218604390) : MgAt W m A.b A.e A.l A.c :=
  ⟨h.b, h.e, h.l, h.c, by rw [← h.b.len]; exact hb, by rw [← h.e.len]; exact he, by rw [← h.l.len]; exact hl, by rw [← h.c.len]; exact hc⟩
theorem RdC.keptN {S : Nat → Prop} {w w' : World} {s : Sl} {xs : List Cm} (h : RdC w s xs) (hk : Kept S w w') (hS : xs ≠ [] → ∀ k, At s.a k → ¬ S k) : RdC w' s xs := by
  cases xs with
  | nil => exact ⟨RowsAt.nil _ _ _, h.len, h.cap⟩
  | cons x r => exact h.kept hk (hS (by simp))
theorem OwC.nil (w : World) (base : Nat) : OwC w base slZ [] := ⟨Own.nil _ _ _ _, rfl⟩
/-- Lists of one's own, in a message. -/
structure MgOw (W : World) (base : Nat) (m : Mg) (A : Aw) : Prop where
  b : OwB W base m.bl A.b
  e : OwE W base m.bk.e A.e
  l : OwL W base m.bk.l A.l
  c : OwC W base m.cm A.c
def MS (m : Mg) (k : Nat) : Prop := At m.bl.a k ∨ At m.bk.e.a k ∨ At m.bk.l.a k ∨ At m.cm.a k
theorem MgOw.kept {S : Nat → Prop} {W W' : World} {base : Nat} {m : Mg} {A : Aw} (h : MgOw W base m A) (hk : Kept S W W') (hS : ∀ k, MS m k → ¬ S k) : MgOw W' base m A :=
  ⟨h.b.kept hk (fun k e => hS k (.inl e)), h.e.kept hk (fun k e => hS k (.inr (.inl e))), h.l.kept hk (fun k e => hS k (.inr (.inr (.inl e)))), h.c.kept hk (fun k e => hS k (.inr (.inr (.inr e))))⟩
theorem MgOw.no {W W' : World} {base : Nat} {m : Mg} {A : Aw} (h : MgOw W base m A) (hk : Kept No W W') : MgOw W' base m A := h.kept hk (fun _ _ e => e)
theorem MgOw.rd {W : World} {base : Nat} {m : Mg} {A : Aw} (h : MgOw W base m A) (hs : scal m = A.m) : MgRd W m A := ⟨hs, h.b.rd, h.e.rd, h.l.rd, h.c.rd⟩
theorem MgOw.base {W : World} {base : Nat} {m : Mg} {A : Aw} (h : MgOw W base m A) {k : Nat} (hk : MS m k) : base ≤ k := by
  rcases hk with e | e | e | e
  · exact h.b.own.base e
  · exact h.e.own.base e
  · exact h.l.own.base e
  · exact h.c.own.base e
theorem MgOw.lt {W : World} {base : Nat} {m : Mg} {A : Aw} (h : MgOw W base m A) {k : Nat} (hk : MS m k) : k < W.heap.size := by
  rcases hk with e | e | e | e
  · exact h.b.own.lt e
  · exact h.e.own.lt e
  · exact h.l.own.lt e
  · exact h.c.own.lt e
theorem MgOw.notBox {W : World} {base : Nat} {m : Mg} {A : Aw} (h : MgOw W base m A) {g : Nat} {T : TypeId} {cs : Array Value} (hb : Box W g T cs) (hT : T ≠ 5 ∧ T ≠ 91 ∧ T ≠ 94 ∧ T ≠ 43) : ¬ MS m g := by
  rintro (e | e | e | e)
  · exact h.b.own.notBox hb (fun e2 => hT.1 e2.symm) e
  · exact h.e.own.notBox hb (fun e2 => hT.2.1 e2.symm) e
  · exact h.l.own.notBox hb (fun e2 => hT.2.2.1 e2.symm) e
  · exact h.c.own.notBox hb (fun e2 => hT.2.2.2 e2.symm) e
def AnOw (w : World) (A : Aw) (e : Ending) (w' : World) : Prop := ∃ m, e = .returned (.agg (Mg.cells m)) ∧ MgRd w' m A ∧ MgOw w' w.heap.size m A ∧ Kept No w w'
theorem ow_nil (w : World) (n : Nat) (m : Mg) (a : Mg) (h1 : m.bl = slZ) (h2 : m.bk.e = slZ) (h3 : m.bk.l = slZ) (h4 : m.cm = slZ) : MgOw w n m ⟨a, [], [], [], []⟩ := ⟨h1 ▸ OwB.nil _ _, h2 ▸ OwE.nil _ _, h3 ▸ OwL.nil _ _, h4 ▸ OwC.nil _ _⟩
theorem have_own (a : Mg) (h : Hd) (bs : List Int) (es : List En) (ls : List La) (ps : List Pl) (gb ge gl gp base : Nat) (w : World) (HH : HdAt w h bs es ls ps) (HT : LtAt w base h bs es ls ps gb ge gl gp) (HM : MayP h ps) (hk0 : (a.ky.k == 1) = false) :
    Calls Try.prog 7 #[.agg (Mg.cells a), .agg (Hd.cells (lentH h gb ge gl gp))] w (AnOw w (haveA a h bs es ls ps)) := by
  have tb : ∀ k, At (lentH h gb ge gl gp).b.d.a k → k < w.heap.size := fun k e => by obtain ⟨ad, e1, e2⟩ := e; cases e1; subst e2; exact HT.b.lt
  have te : ∀ k, At (lentH h gb ge gl gp).k.e.a k → k < w.heap.size := fun k e => by obtain ⟨ad, e1, e2⟩ := e; cases e1; subst e2; exact HT.e.lt
  have tl : ∀ k, At (lentH h gb ge gl gp).k.l.a k → k < w.heap.size := fun k e => by obtain ⟨ad, e1, e2⟩ := e; cases e1; subst e2; exact HT.l.lt
  have tp : ∀ k, At (lentH h gb ge gl gp).r.a k → k < w.heap.size := fun k e => by obtain ⟨ad, e1, e2⟩ := e; cases e1; subst e2; exact HT.p.lt
  have rb : RdB w (lentH h gb ge gl gp).b.d bs := rd_B (s := h.b.d) HH.b.len HT.b
  have re : RdE w (lentH h gb ge gl gp).k.e es := rd_E (s := h.k.e) HH.e.len HT.e
  have rl : RdL w (lentH h gb ge gl gp).k.l ls := rd_L (s := h.k.l) HH.l.len HT.l
  have rp : RdP w (lentH h gb ge gl gp).r ps := rd_P (s := h.r) HH.p.len HT.p
  have nb := HH.nb
  have ne := HH.ne
  have nl := HH.nl
  have np := HH.np
  have hm : ps.length ≤ 10000000000000 := by rw [HH.p.len]; omega
  have hg0 : ∀ x ∈ decd ps, 0 ≤ x.1 ∧ x.1 ≤ 4611686018427387904 := fun x hx => by have := HM.mem x hx; omega
  cases hz : (a.k == 21 && (a.ky.k == 1 || (a.ky.k == 2 && askB a.st.n))) with
  | false =>
    have hA : haveA a h bs es ls ps = ⟨mgZ, [], [], [], []⟩ := by unfold haveA; rw [hz]; rfl
    rw [hA]
    exact (have_zero a (lentH h gb ge gl gp) w hz).mono fun e w' ⟨he, hk⟩ => ⟨mgZ, he, ⟨rfl, RdB.nil _, RdE.nil _, RdL.nil _, RdC.nil _⟩, ow_nil _ _ _ _ rfl rfl rfl rfl, hk⟩
  | true =>
    have hz2 := hz
    simp only [Bool.and_eq_true, Bool.or_eq_true] at hz2
    obtain ⟨hk21, hky⟩ := hz2
    cases hk1 : (a.ky.k == 1) with
    | true => exact absurd (hk0.symm.trans hk1) (by decide)
    | false =>
      rw [hk1] at hky
      simp only [Bool.false_eq_true, false_or] at hky
      obtain ⟨hk2, hab⟩ := hky
      cases hup : decide (a.st.n ≤ h.k.up) with
      | true =>
        have hA : haveA a h bs es ls ps = ⟨{ haveM a with bk := ⟨h.k.up, slZ, slZ⟩, mo := decide (h.k.up < topF h.k.up (decd ps)) }, [], es, ls, []⟩ := by unfold haveA; rw [hz, hk1, hup]; rfl
        rw [hA]
        exact (have_bucket a (lentH h gb ge gl gp) ps es ls w hk21 hk1 hk2 hab hup re rl (by show h.k.e.l * 40 ≤ _; omega) (by show h.k.l.l * 56 ≤ _; omega) rp tp te tl hm HM.rng).mono fun e w' ⟨se, sl, he, hoe, hol, hk⟩ => ⟨_, he, ⟨rfl, RdB.nil _, hoe.rd, hol.rd, RdC.nil _⟩, ⟨OwB.nil _ _, hoe, hol, OwC.nil _ _⟩, hk⟩
      | false =>
        have hA : haveA a h bs es ls ps = ⟨{ haveM a with st := ⟨a.st.n, 0⟩, mo := decide (min (topF h.k.up (decd ps)) (a.st.n + 63) < topF h.k.up (decd ps)) }, [], [], [], tab (hvN a h ps) (fun j => cmdAt ps (a.st.n + ((j : Nat) : Int)))⟩ := by unfold haveA; rw [hz, hk1, hup]; rfl
        rw [hA]
        by_cases hc : min (topF h.k.up (decd ps)) (a.st.n + 63) < a.st.n
        · have h0 : hvN a h ps = 0 := by unfold hvN; omega
          rw [h0]
          exact (have_cmds_no a (lentH h gb ge gl gp) ps w hk21 hk1 hk2 hab hup rp tp hm HM.rng hg0 hc).mono fun e w' ⟨he, hk⟩ => ⟨_, he, ⟨rfl, RdB.nil _, RdE.nil _, RdL.nil _, RdC.nil _⟩, ow_nil _ _ _ _ rfl rfl rfl rfl, hk⟩
        · have hc1 : ((hvN a h ps : Nat) : Int) = min (topF h.k.up (decd ps)) (a.st.n + 63) - a.st.n + 1 := by unfold hvN; omega
          exact (have_cmds_yes a (lentH h gb ge gl gp) ps (hvN a h ps) w hk21 hk1 hk2 hab hup rp tp hm HM.rng hg0 hc1 (by omega)).mono fun e w' ⟨g, he, hb, hgl, hk⟩ => ⟨_, he, ⟨rfl, RdB.nil _, RdE.nil _, RdL.nil _, by
            rw [← decF_tab a.st.n (hvN a h ps) ps h.k.up HM.rise]
            exact RdC.ofBox hb (decF_len _ _ _)⟩, ⟨OwB.nil _ _, OwE.nil _ _, OwL.nil _ _, by
            rw [← decF_tab a.st.n (hvN a h ps) ps h.k.up HM.rise]
            refine ⟨Own.shut hgl hb (Nat.le_refl _) (by show hvN a h ps ≤ _; omega) (by rw [cmL_len, decF_len]) (List.take_of_length_le (by rw [cmL_len, decF_len]; exact Nat.le_refl _)), decF_len _ _ _⟩⟩, hk⟩
/-- Where the lists of a message do not lie. -/
def MgOff (G : Nat → Prop) (m : Mg) (A : Aw) : Prop := (A.b ≠ [] → ∀ k, At m.bl.a k → ¬ G k) ∧ (A.e ≠ [] → ∀ k, At m.bk.e.a k → ¬ G k) ∧ (A.l ≠ [] → ∀ k, At m.bk.l.a k → ¬ G k) ∧ (A.c ≠ [] → ∀ k, At m.cm.a k → ¬ G k)
theorem MgRd.keptN {G S : Nat → Prop} {W W' : World} {m : Mg} {A : Aw} (h : MgRd W m A) (ho : MgOff G m A) (hk : Kept S W W') (hS : ∀ k, S k → G k) : MgRd W' m A :=
  ⟨h.s, h.b.keptN hk (fun n k e f => ho.1 n k e (hS k f)), h.e.keptN hk (fun n k e f => ho.2.1 n k e (hS k f)), h.l.keptN hk (fun n k e f => ho.2.2.1 n k e (hS k f)), h.c.keptN hk (fun n k e f => ho.2.2.2 n k e (hS k f))⟩
def AnLoc (n0 : Nat) (w : World) (A : Aw) (e : Ending) (w' : World) : Prop := ∃ m, e = .returned (.agg (Mg.cells m)) ∧ MgRd w' m A ∧ MgOff (fun k => n0 ≤ k ∧ (k < w.heap.size ∨ w'.heap.size ≤ k)) m A ∧ Kept No w w'
theorem off_nil (G : Nat → Prop) (m a : Mg) : MgOff G m ⟨a, [], [], [], []⟩ := ⟨fun n => absurd rfl n, fun n => absurd rfl n, fun n => absurd rfl n, fun n => absurd rfl n⟩
theorem refHave_loc (n0 : Nat) (a : Mg) (h : Hd) (bs : List Int) (es : List En) (ls : List La) (ps : List Pl) (w : World) (HH : HdAt w h bs es ls ps) (HM : MayP h ps) (HO : HdOff (fun k => n0 ≤ k) h bs es ls ps) (hk0 : (a.ky.k == 1) = false) :
    Calls Try.prog 8 #[.agg (Mg.cells a), .agg (Hd.cells h)] w (AnLoc n0 w (haveA a h bs es ls ps)) := by
  have np := HH.np
  have hm : ps.length ≤ 10000000000000 := by rw [HH.p.len]; omega
  cases hz : (a.k == 21 && (a.ky.k == 1 || (a.ky.k == 2 && askB a.st.n))) with
  | false =>
    have hA : haveA a h bs es ls ps = ⟨mgZ, [], [], [], []⟩ := by unfold haveA; rw [hz]; rfl
    rw [hA]
    exact (refHave_zero a h w hz).mono fun e w' ⟨he, hk⟩ => ⟨mgZ, he, ⟨rfl, RdB.nil _, RdE.nil _, RdL.nil _, RdC.nil _⟩, off_nil _ _ _, hk⟩
  | true =>
    have hz2 := hz
    simp only [Bool.and_eq_true, Bool.or_eq_true] at hz2
    obtain ⟨hk21, hky⟩ := hz2
    cases hk1 : (a.ky.k == 1) with
    | true => exact absurd (hk0.symm.trans hk1) (by decide)
    | false =>
      rw [hk1] at hky
      simp only [Bool.false_eq_true, false_or] at hky
      obtain ⟨hk2, hab⟩ := hky
      cases hup : decide (a.st.n ≤ h.k.up) with
      | true =>
        have hA : haveA a h bs es ls ps = ⟨{ haveM a with bk := ⟨h.k.up, slZ, slZ⟩, mo := decide (h.k.up < topF h.k.up (decd ps)) }, [], es, ls, []⟩ := by unfold haveA; rw [hz, hk1, hup]; rfl
        rw [hA]
        exact (refHave_bucket a h ps w hk21 hk1 hk2 hab hup HH.p hm).mono fun e w' ⟨he, hk⟩ => ⟨_, he, ⟨rfl, RdB.nil _, HH.e.no hk, HH.l.no hk, RdC.nil _⟩, ⟨fun n => absurd rfl n, fun n k e f => HO.2.1 n k e f.1, fun n k e f => HO.2.2.1 n k e f.1, fun n => absurd rfl n⟩, hk⟩
      | false =>
        have hA : haveA a h bs es ls ps = ⟨{ haveM a with st := ⟨a.st.n, 0⟩, mo := decide (min (topF h.k.up (decd ps)) (a.st.n + 63) < topF h.k.up (decd ps)) }, [], [], [], tab (hvN a h ps) (fun j => cmdAt ps (a.st.n + ((j : Nat) : Int)))⟩ := by unfold haveA; rw [hz, hk1, hup]; rfl
        rw [hA]
        exact (refHave_cmds a h ps (hvN a h ps) w hk21 hk1 hk2 hab hup HH.p hm rfl HM.top).mono fun e w' ⟨s', he, ho, hk⟩ => ⟨_, he, ⟨rfl, RdB.nil _, RdE.nil _, RdL.nil _, ho.rd⟩, ⟨fun n => absurd rfl n, fun n => absurd rfl n, fun n => absurd rfl n, fun _ k e f => by have h1 := ho.own.base e; have h2 := ho.own.lt e; omega⟩, hk⟩

/-- Changes of one's own. -/
structure XOw (W : World) (base : Nat) (s : Sl) (X : List Ch) : Prop where
  own : Own 67 24 W base s.a s.k s.l (chL X)
  len : X.length = s.l
  el : (∀ i, i < s.l → (hAt X i).bk.e = slZ ∧ (hAt X i).bk.l = slZ) ∨ (s.l = 1 ∧ ∃ es ls, OwE W base (hAt X 0).bk.e es ∧ OwL W base (hAt X 0).bk.l ls)
theorem XOw.nil (w : World) (base : Nat) : XOw w base slZ [] := ⟨Own.nil _ _ _ _, rfl, .inl (fun i hi => absurd hi (Nat.not_lt_zero _))⟩
theorem own_one {w : World} {base g : Nat} {x : Ch} (hg : base ≤ g) (hb : Box w g 67 (Ch.cells x)) : Own 67 24 w base (some ⟨g, 0, none⟩) 1 1 (chL [x]) := Own.shut hg (cur := x.cs) hb (Nat.le_refl _) (by omega) rfl (by rw [chL_1]; exact List.take_of_length_le (Nat.le_refl _))
def TkOw (w : World) (A : Tw) (e : Ending) (w' : World) : Prop := ∃ (s : Sl) (X : List Ch), e = .returned (.tuple #[s.v, .agg (Mg.cells A.m), .bool A.o]) ∧ TkRd w' s A.z A.b A.e A.l X ∧ TkNew w.heap.size s X ∧ XOw w' w.heap.size s X ∧ Kept No w w'
theorem new_bk {a f up : Int} {cs ks : List Cm} {k i : Nat} (hi : i < (newF a f up cs ks k).length) : (hAt (newF a f up cs ks k) i).bk.e = slZ ∧ (hAt (newF a f up cs ks k) i).bk.l = slZ := by
  obtain ⟨n, c, e⟩ := newF_mem a f up cs ks k _ (hAt_mem hi)
  rw [e]
  exact ⟨rfl, rfl⟩
theorem take_own (m : Mg) (bs : List Int) (es : List En) (ls : List La) (cs : List Cm) (w : World) (HA : MgAt w m bs es ls cs) (HM : MayP hdZ []) (hk0 : (m.ky.k == 1) = false) :
    Calls Try.prog 12 #[.agg (Mg.cells m), .agg (Hd.cells hdZ)] w (TkOw w (takeA m hdZ bs es ls cs [])) := by
  have tp : ∀ k, At hdZ.r.a k → k < w.heap.size := fun k e => absurd e At.none
  have rp : RdP w hdZ.r [] := ⟨RowsAt.nil _ _ _, rfl, fun _ => rfl⟩
  have rb := HA.b
  have re := HA.e
  have rl := HA.l
  have rc := HA.c
  have nb := HA.nb
  have ne := HA.ne
  have nl := HA.nl
  have nc := HA.nc
  have hm : ([] : List Pl).length ≤ 10000000000000 := by simp
  have hg0 : ∀ x ∈ decd [], 0 ≤ x.1 ∧ x.1 ≤ 4611686018427387904 := fun x hx => by have := HM.mem x hx; omega
  cases hz : (m.k == 22 && (m.ky.k == 1 || (m.ky.k == 2 && ((decide (1 ≤ m.bk.up) && decide (m.bk.up ≤ 1048576)) || (m.bk.up == 0 && askB m.st.n))))) with
  | false =>
    have hA : takeA m hdZ bs es ls cs [] = ⟨[], [], [], [], mgZ, false⟩ := by unfold takeA; rw [hz]; rfl
    rw [hA]
    exact (take_zero m hdZ w hz).mono fun e w' ⟨he, hk⟩ => ⟨slZ, [], he, TkRd.nil _, TkNew.nil _, XOw.nil _ _, hk⟩
  | true =>
    have hz2 := hz
    simp only [Bool.and_eq_true, Bool.or_eq_true] at hz2
    obtain ⟨hk22, hky⟩ := hz2
    cases hk1 : (m.ky.k == 1) with
    | true => exact absurd (hk0.symm.trans hk1) (by decide)
    | false =>
      rw [hk1] at hky
      simp only [Bool.false_eq_true, false_or] at hky
      obtain ⟨hk2, hu⟩ := hky
      cases hup : (m.bk.up == 0) with
      | true =>
        have hu0 : m.bk.up = 0 := by simpa using hup
        have hab : askB m.st.n = true := by
          rcases hu with hu | hu
          · have := of_decide_eq_true hu.1; omega
          · exact hu.2
        have hA : takeA m hdZ bs es ls cs [] = ⟨newF m.ky.a m.st.n hdZ.k.up cs (decF m.st.n m.cm.l (decd [])) m.cm.l, [], [], [], msgT m (m.st.n + ((m.cm.l : Nat) : Int)), moreB m⟩ := by unfold takeA; rw [hz, hk1, hup]; rfl
        rw [hA]
        exact (take_cmds m hdZ [] cs w hk22 hk1 hk2 hup hab rc rp tp hm hg0 (by show m.cm.l ≤ _; omega)).mono fun e w' ⟨s', he, ho, hk⟩ => ⟨s', _, he, ⟨ho.len, Own.rows ho.own (chL_c _) (by omega), ho.len, fun i hi => new_el (by rw [← ho.len] at hi; exact hi)⟩, ⟨fun k e => ho.own.base e, fun i hi => new_new (by rw [← ho.len] at hi; exact hi)⟩, ⟨ho.own, ho.len, .inl (fun i hi => new_bk (by rw [← ho.len] at hi; exact hi))⟩, hk⟩
      | false =>
        have hu0 : ¬ m.bk.up = 0 := by simpa using hup
        have hu2 : (decide (1 ≤ m.bk.up) = true) ∧ (decide (m.bk.up ≤ 1048576) = true) := by
          rcases hu with hu | hu
          · exact hu
          · exact absurd hu.1 (by rw [hup]; simp)
        cases hE : decide (edgeF hdZ.k.up (decd []) < m.bk.up) with
        | true =>
          have hA : takeA m hdZ bs es ls cs [] = ⟨[⟨m.ky, blZ, inZ, ⟨m.bk.up, slZ, slZ⟩⟩], [], es, ls, msgT m (m.bk.up + 1), moreB m⟩ := by unfold takeA; rw [hz, hk1, hup, hE]; rfl
          rw [hA]
          exact (take_bucket_yes m hdZ [] es ls w hk22 hk1 hk2 hu2.1 hu2.2 (of_decide_eq_true hE) re rl (by show m.bk.e.l * 40 ≤ _; omega) (by show m.bk.l.l * 56 ≤ _; omega) rp tp hm HM.rng).mono fun e w' ⟨g, se, sl, he, hb, hoe, hol, hg, hk⟩ => ⟨⟨some ⟨g, 0, none⟩, 1, 1⟩, [⟨m.ky, blZ, inZ, ⟨m.bk.up, se, sl⟩⟩], he, ⟨rfl, row_one hb, rfl, one_el ⟨rfl, RdB.nil _, hoe.rd, hol.rd⟩⟩, ⟨fun k e => by obtain ⟨ad, e1, e2⟩ := e; cases e1; subst e2; exact hg, fun i hi k e => by
            have : i = 0 := by have : i < 1 := hi; omega
            subst this
            rcases e with e | e | e
            · exact absurd e At.none
            · exact hoe.own.base e
            · exact hol.own.base e⟩, ⟨own_one hg hb, rfl, .inr ⟨rfl, es, ls, hoe, hol⟩⟩, hk⟩
        | false =>
          have hA : takeA m hdZ bs es ls cs [] = ⟨[], [], [], [], msgT m (m.bk.up + 1), moreB m⟩ := by unfold takeA; rw [hz, hk1, hup, hE]; rfl
          rw [hA]
          exact (take_bucket_no m hdZ [] es ls w hk22 hk1 hk2 hu2.1 hu2.2 (by have := of_decide_eq_false hE; show m.bk.up ≤ edgeF hdZ.k.up (decd []); omega) re rl (by show m.bk.e.l * 40 ≤ _; omega) (by show m.bk.l.l * 56 ≤ _; omega) rp tp hm HM.rng).mono fun e w' ⟨he, hk⟩ => ⟨slZ, [], he, TkRd.nil _, TkNew.nil _, XOw.nil _ _, hk⟩
def ChOffN (G : Nat → Prop) (c : Ch) (bs : List Int) (es : List En) (ls : List La) : Prop := (bs ≠ [] → ∀ k, At c.b.d.a k → ¬ G k) ∧ (es ≠ [] → ∀ k, At c.bk.e.a k → ¬ G k) ∧ (ls ≠ [] → ∀ k, At c.bk.l.a k → ¬ G k)
def TkOffN (G : Nat → Prop) (s : Sl) (X : List Ch) (bs : List Int) (es : List En) (ls : List La) : Prop := (∀ k, At s.a k → ¬ G k) ∧ ∀ i, i < s.l → ChOffN G (hAt X i) bs es ls
theorem TkRd.keptN {G S : Nat → Prop} {W W' : World} {s : Sl} {z : List Ch} {bs : List Int} {es : List En} {ls : List La} {X : List Ch} (h : TkRd W s z bs es ls X) (ho : TkOffN G s X bs es ls) (hk : Kept S W W') (hS : ∀ k, S k → G k) : TkRd W' s z bs es ls X :=
  ⟨h.len, h.row.kept hk (fun k e f => ho.1 k e (hS k f)), h.zl, fun i hi => ⟨(h.el i hi).s, (h.el i hi).b.keptN hk (fun n k e f => (ho.2 i hi).1 n k e (hS k f)), (h.el i hi).e.keptN hk (fun n k e f => (ho.2 i hi).2.1 n k e (hS k f)), (h.el i hi).l.keptN hk (fun n k e f => (ho.2 i hi).2.2 n k e (hS k f))⟩⟩
theorem TkOffN.nil (G : Nat → Prop) : TkOffN G slZ [] [] [] [] := ⟨fun k e => absurd e At.none, fun i hi => absurd hi (Nat.not_lt_zero _)⟩
theorem one_off {G : Nat → Prop} {c : Ch} {bs : List Int} {es : List En} {ls : List La} (h : ChOffN G c bs es ls) : ∀ i, i < 1 → ChOffN G (hAt [c] i) bs es ls := fun i hi => by
  have : i = 0 := by omega
  subst this
  exact h
theorem none_off (G : Nat → Prop) (c : Ch) : ChOffN G c [] [] [] := ⟨fun n => absurd rfl n, fun n => absurd rfl n, fun n => absurd rfl n⟩
def TkLoc (G : Nat → Prop) (w : World) (A : Tw) (e : Ending) (w' : World) : Prop := ∃ (s : Sl) (X : List Ch), e = .returned (.tuple #[s.v, .agg (Mg.cells A.m), .bool A.o]) ∧ TkRd w' s A.z A.b A.e A.l X ∧ TkOffN G s X A.b A.e A.l ∧ Kept No w w'
theorem refTake_loc (G : Nat → Prop) (m : Mg) (h : Hd) (bs : List Int) (es : List En) (ls : List La) (cs : List Cm) (hb : List Int) (hes : List En) (hls : List La) (ps : List Pl) (w : World) (HA : MgAt w m bs es ls cs) (HH : HdAt w h hb hes hls ps) (HM : MayP h ps) (hG : ∀ k, G k → k < w.heap.size) (hO1 : bs ≠ [] → ∀ k, At m.bl.a k → ¬ G k) (hO2 : es ≠ [] → ∀ k, At m.bk.e.a k → ¬ G k) (hO3 : ls ≠ [] → ∀ k, At m.bk.l.a k → ¬ G k) (hk0 : (m.ky.k == 1) = false) :
    Calls Try.prog 13 #[.agg (Mg.cells m), .agg (Hd.cells h)] w (TkLoc G w (takeA m h bs es ls cs ps)) := by
  have nc := HA.nc
  have np := HH.np
  have hm : ps.length ≤ 10000000000000 := by rw [HH.p.len]; omega
  cases hz : (m.k == 22 && (m.ky.k == 1 || (m.ky.k == 2 && ((decide (1 ≤ m.bk.up) && decide (m.bk.up ≤ 1048576)) || (m.bk.up == 0 && askB m.st.n))))) with
  | false =>
    have hA : takeA m h bs es ls cs ps = ⟨[], [], [], [], mgZ, false⟩ := by unfold takeA; rw [hz]; rfl
    rw [hA]
    exact (refTake_zero m h w hz).mono fun e w' ⟨he, hk⟩ => ⟨slZ, [], he, TkRd.nil _, TkOffN.nil _, hk⟩
  | true =>
    have hz2 := hz
    simp only [Bool.and_eq_true, Bool.or_eq_true] at hz2
    obtain ⟨hk22, hky⟩ := hz2
    cases hk1 : (m.ky.k == 1) with
    | true => exact absurd (hk0.symm.trans hk1) (by decide)
    | false =>
      rw [hk1] at hky
      simp only [Bool.false_eq_true, false_or] at hky
      obtain ⟨hk2, hu⟩ := hky
      cases hup : (m.bk.up == 0) with
      | true =>
        have hu0 : m.bk.up = 0 := by simpa using hup
        have hab : askB m.st.n = true := by
          rcases hu with hu | hu
          · have := of_decide_eq_true hu.1; omega
          · exact hu.2
        have hA : takeA m h bs es ls cs ps = ⟨newF m.ky.a m.st.n h.k.up cs (decF m.st.n m.cm.l (decd ps)) m.cm.l, [], [], [], msgT m (m.st.n + ((m.cm.l : Nat) : Int)), moreB m⟩ := by unfold takeA; rw [hz, hk1, hup]; rfl
        rw [hA]
        exact (refTake_cmds m h ps cs w hk22 hk1 hk2 hup hab HA.c (by omega) HH.p hm HM).mono fun e w' ⟨s', he, ho, hk⟩ => ⟨s', _, he, ⟨ho.len, Own.rows ho.own (chL_c _) (by omega), ho.len, fun i hi => new_el (by rw [← ho.len] at hi; exact hi)⟩, ⟨fun k e f => by have h1 := ho.own.base e; have h2 := hG k f; omega, fun i _ => none_off _ _⟩, hk⟩
      | false =>
        have hu0 : ¬ m.bk.up = 0 := by simpa using hup
        have hu2 : (decide (1 ≤ m.bk.up) = true) ∧ (decide (m.bk.up ≤ 1048576) = true) := by
          rcases hu with hu | hu
          · exact hu
          · exact absurd hu.1 (by rw [hup]; simp)
        cases hE : decide (edgeF h.k.up (decd ps) < m.bk.up) with
        | true =>
          have hA : takeA m h bs es ls cs ps = ⟨[⟨m.ky, blZ, inZ, ⟨m.bk.up, slZ, slZ⟩⟩], [], es, ls, msgT m (m.bk.up + 1), moreB m⟩ := by unfold takeA; rw [hz, hk1, hup, hE]; rfl
          rw [hA]
          exact (refTake_bucket_yes m h ps w hk22 hk1 hk2 (of_decide_eq_true hu2.1) (of_decide_eq_true hu2.2) hE HH.p hm HM).mono fun e w' ⟨sa, cap, he, ho, hk⟩ => ⟨⟨sa, 1, cap⟩, [⟨m.ky, blZ, inZ, m.bk⟩], he, ⟨rfl, Own.rows (xs := [Ch.cs ⟨m.ky, blZ, inZ, m.bk⟩]) ho.own (chL_c [⟨m.ky, blZ, inZ, m.bk⟩]) (by omega), rfl, one_el ⟨rfl, RdB.nil _, HA.e.no hk, HA.l.no hk⟩⟩, ⟨fun k e f => by have h1 := ho.own.base e; have h2 := hG k f; omega, one_off ⟨fun n => absurd rfl n, hO2, hO3⟩⟩, hk⟩
        | false =>
          have hA : takeA m h bs es ls cs ps = ⟨[], [], [], [], msgT m (m.bk.up + 1), moreB m⟩ := by unfold takeA; rw [hz, hk1, hup, hE]; rfl
          rw [hA]
          exact (refTake_bucket_no m h ps w hk22 hk1 hk2 (of_decide_eq_true hu2.1) (of_decide_eq_true hu2.2) hE HH.p hm HM).mono fun e w' ⟨he, hk⟩ => ⟨slZ, [], he, TkRd.nil _, TkOffN.nil _, hk⟩

/-- A place laid in a row of one's own. -/
theorem flat_set (c : Nat) (xs : List (List Value)) (hc : ∀ x ∈ xs, x.length = c) (sp : List Value) (i : Nat) (y : List Value) (hy : y.length = c) (hi : i < xs.length) : putL (xs.flatten ++ sp) (i * c) y = (xs.set i y).flatten ++ sp := by
  have h : xs = xs.take i ++ ([xs[i]] ++ xs.drop (i + 1)) := by simp
  have h2 : xs.set i y = xs.take i ++ ([y] ++ xs.drop (i + 1)) := by rw [List.set_eq_take_append_cons_drop]; simp [hi]
  have hl : (xs.take i).flatten.length = i * c := by
    rw [flat_len c _ (fun x hx => hc x (List.mem_of_mem_take hx)), List.length_take]; congr 1; omega
  have hxi : (xs[i]).length = c := hc _ (List.getElem_mem hi)
  have h3 : xs.flatten = (xs.take i).flatten ++ (xs[i] ++ (xs.drop (i + 1)).flatten) := by
    have e := congrArg List.flatten h
    rw [List.flatten_append, List.flatten_append, List.flatten_cons, List.flatten_nil, List.append_nil] at e
    exact e
  rw [h2, h3]
  simp only [List.flatten_append, List.flatten_cons, List.flatten_nil, List.append_nil, List.append_assoc]
  unfold putL
  rw [← hl, List.take_left', ← List.drop_drop, List.drop_left', hy, ← hxi, List.drop_left']
  all_goals rfl
theorem Own.setN {T ty : TypeId} {c : Nat} {W : World} {base : Nat} {a : Option Addr} {cap n : Nat} {xs : List (List Value)} (h : Own T c W base a cap n xs.flatten) (hc : ∀ x ∈ xs, x.length = c) (hl : xs.length = n) {i g : Nat} (hi : i < n) (ha : a = some ⟨g, 0, none⟩) {v : Value} {y : List Value} (hv : v.cells = y.toArray) (hz : (Try.prog.info? ty).map (·.size) = some y.length) (h1 : ∀ x ∈ y, x.oneCell' = true) (hy : y.length = c) :
    ∃ cs', (storeVar ty ⟨g, 0 + i * c, none⟩ v).run Try.prog W = .ok () (W.setRow g cs') ∧ Own T c (W.setRow g cs') base a cap n (xs.set i y).flatten := by
  rcases h.2 with ⟨hv2, hn⟩ | ⟨g', cap', cur, hv2, hb, hg, hle, hm, hs, ht⟩
  · omega
  · simp only [Value.slice.injEq] at hv2
    obtain ⟨ea, -, rfl⟩ := hv2
    rw [ea] at ha
    cases ha
    obtain ⟨cur, rfl⟩ : ∃ l : List Value, cur = l.toArray := ⟨cur.toList, by simp⟩
    have hbox : Box W g T cur.toArray := hg
    have hs : cur.length = cap * c := by simpa using hs
    have ht : cur.take (n * c) = xs.flatten := by simpa using ht
    have hnc : n * c ≤ cap * c := Nat.mul_le_mul_right _ hle
    have hic : i * c + c ≤ n * c := by rw [← Nat.succ_mul]; exact Nat.mul_le_mul_right _ hi
    have hcur : cur = xs.flatten ++ cur.drop (n * c) := by rw [← ht, List.take_append_drop]
    have hfl : xs.flatten.length = n * c := by rw [flat_len c xs hc, hl]
    refine ⟨(putL cur (0 + i * c) y).toArray, run_store_at hbox hv hz (by rw [hy, Nat.zero_add, hs]; omega) h1, ?_⟩
    rw [Nat.zero_add, ea]
    have hp : putL cur (i * c) y = (xs.set i y).flatten ++ cur.drop (n * c) := by
      conv => lhs; rw [hcur]
      exact flat_set c xs hc _ i y hy (by omega)
    rw [hp]
    have hsl : ((xs.set i y).flatten).length = n * c := by
      rw [flat_len c _ (fun x hx => by rcases List.mem_or_eq_of_mem_set hx with hx | hx; exact hc x hx; rw [hx]; exact hy), List.length_set, hl]
    exact Own.shut hb (Box.setRow hbox _) hle (by unfold maxLen at hm; omega) (by rw [List.length_append, hsl, List.length_drop, hs]; omega) (by rw [← hsl]; exact List.take_left' rfl)
theorem OwE.set {W : World} {base : Nat} {s : Sl} {cur : List En} (h : OwE W base s cur) {i g : Nat} (hi : i < s.l) (ha : s.a = some ⟨g, 0, none⟩) (y : En) : ∃ cs', (storeVar 91 ⟨g, 0 + i * 4, none⟩ (.agg (En.cells y))).run Try.prog W = .ok () (W.setRow g cs') ∧ OwE (W.setRow g cs') base s (cur.set i y) := by
  obtain ⟨cs', h1, h2⟩ := Own.setN (ty := 91) (y := y.cs) h.own (enL_c cur) (by rw [List.length_map, h.len]) hi ha (v := .agg y.cells) rfl Try.size110 y.oneL rfl
  exact ⟨cs', h1, ⟨by rw [← List.map_set] at h2; exact h2, by rw [List.length_set]; exact h.len⟩⟩
theorem OwL.set {W : World} {base : Nat} {s : Sl} {cur : List La} (h : OwL W base s cur) {i g : Nat} (hi : i < s.l) (ha : s.a = some ⟨g, 0, none⟩) (y : La) : ∃ cs', (storeVar 94 ⟨g, 0 + i * 7, none⟩ (.agg (La.cells y))).run Try.prog W = .ok () (W.setRow g cs') ∧ OwL (W.setRow g cs') base s (cur.set i y) := by
  obtain ⟨cs', h1, h2⟩ := Own.setN (ty := 94) (y := y.cs) h.own (laL_c cur) (by rw [List.length_map, h.len]) hi ha (v := .agg y.cells) rfl Try.size113 y.oneL rfl
  exact ⟨cs', h1, ⟨by rw [← List.map_set] at h2; exact h2, by rw [List.length_set]; exact h.len⟩⟩
theorem OwC.set {W : World} {base : Nat} {s : Sl} {cur : List Cm} (h : OwC W base s cur) {i g : Nat} (hi : i < s.l) (ha : s.a = some ⟨g, 0, none⟩) (y : Cm) : ∃ cs', (storeVar 43 ⟨g, 0 + i * 9, none⟩ (.agg (Cm.cells y))).run Try.prog W = .ok () (W.setRow g cs') ∧ OwC (W.setRow g cs') base s (cur.set i y) := by
  obtain ⟨cs', h1, h2⟩ := Own.setN (ty := 43) (y := y.cs) h.own (cmL_c cur) (by rw [List.length_map, h.len]) hi ha (v := .agg y.cells) rfl Try.size47 y.oneL rfl
  exact ⟨cs', h1, ⟨by rw [← List.map_set] at h2; exact h2, by rw [List.length_set]; exact h.len⟩⟩
theorem chSet {W : World} {base : Nat} {s : Sl} {cur : List Ch} (h : Own 67 24 W base s.a s.k s.l (chL cur)) (hl : cur.length = s.l) {i g : Nat} (hi : i < s.l) (ha : s.a = some ⟨g, 0, none⟩) (y : Ch) : ∃ cs', (storeVar 67 ⟨g, 0 + i * 24, none⟩ (.agg (Ch.cells y))).run Try.prog W = .ok () (W.setRow g cs') ∧ Own 67 24 (W.setRow g cs') base s.a s.k s.l (chL (cur.set i y)) := by
  obtain ⟨cs', h1, h2⟩ := Own.setN (ty := 67) (y := y.cs) h (chL_c cur) (by rw [List.length_map, hl]) hi ha (v := .agg y.cells) rfl Try.size88 y.oneL rfl
  exact ⟨cs', h1, by rw [← List.map_set] at h2; exact h2⟩
theorem Own.some {t : TypeId} {c : Nat} {w : World} {base : Nat} {a : Option Addr} {cap n : Nat} {vs : List Value} (h : Own t c w base a cap n vs) (h0 : 0 < n) : ∃ g, a = some ⟨g, 0, none⟩ := by
  obtain ⟨g, _, e, _⟩ := h.op h0
  exact ⟨g, e⟩

end Go.Proofs.Ytcgnbpaaalmkoab
