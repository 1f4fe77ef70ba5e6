import Derived.Test.YtcgnbpaaalmkoaaCd
namespace Go.Proofs.Ytcgnbpaaalmkoaa
open Go.RowKit
set_option linter.unusedVariables false
set_option linter.unusedSimpArgs false

/-- An answer: its message without lists, and what the lists hold. -/
structure Aw where
 m : Mg
 b : List Int
 e : List En
 l : List La
 c : List Cm
def scal (m : Mg) : Mg := ⟨m.k, m.fr, m.to, m.op, m.rd, m.ky, m.st, m.hd, slZ, m.c, ⟨m.bk.up, slZ, slZ⟩, slZ, m.mo⟩
structure MgRd (W : World) (m : Mg) (A : Aw) : Prop where
 s : scal m = A.m
 b : RdB W m.bl A.b
 e : RdE W m.bk.e A.e
 l : RdL W m.bk.l A.l
 c : RdC W m.cm A.c
def MgNew (n : Nat) (m : Mg) : Prop := ∀ k, (At m.bl.a k ∨ At m.bk.e.a k ∨ At m.bk.l.a k ∨ At m.cm.a k) → n ≤ k
theorem MgRd.kept {S : Nat → Prop} {W W' : World} {m : Mg} {A : Aw} {n : Nat} (h : MgRd W m A) (hn : MgNew n m) (hk : Kept S W W') (hS : ∀ k, S k → k < n) : MgRd W' m A :=
 ⟨h.s, h.b.kept hk (fun k e f => by have := hn k (.inl e); have := hS k f; omega), h.e.kept hk (fun k e f => by have := hn k (.inr (.inl e)); have := hS k f; omega), h.l.kept hk (fun k e f => by have := hn k (.inr (.inr (.inl e))); have := hS k f; omega), h.c.kept hk (fun k e f => by have := hn k (.inr (.inr (.inr e))); have := hS k f; omega)⟩
theorem MgRd.no {W W' : World} {m : Mg} {A : Aw} (h : MgRd W m A) (hk : Kept No W W') : MgRd W' m A := ⟨h.s, h.b.no hk, h.e.no hk, h.l.no hk, h.c.no hk⟩
def AnNew (w : World) (A : Aw) (e : Ending) (w' : World) : Prop := ∃ m, e = .returned (.agg (Mg.cells m)) ∧ MgRd w' m A ∧ MgNew w.heap.size m ∧ Kept No w w'
theorem RdB.nil (w : World) : RdB w slZ [] := ⟨Nums.nil _ _ _, rfl, fun _ => rfl⟩
theorem RdE.nil (w : World) : RdE w slZ [] := ⟨RowsAt.nil _ _ _, rfl, fun _ => rfl⟩
theorem RdL.nil (w : World) : RdL w slZ [] := ⟨RowsAt.nil _ _ _, rfl, fun _ => rfl⟩
theorem RdC.nil (w : World) : RdC w slZ [] := ⟨RowsAt.nil _ _ _, rfl, fun _ => rfl⟩
theorem OwC.rd {w : World} {base : Nat} {s : Sl} {cs : List Cm} (h : OwC w base s cs) : RdC w s cs := ⟨Own.rows h.own (cmL_c cs) (by omega), h.len, h.own.cap0⟩
theorem topF_in : ∀ (l : List (Int × Cm)) (a : Int), topF a l = a ∨ ∃ x ∈ l, topF a l = x.1
 | [], a => .inl rfl
 | x :: r, a => by
  rcases topF_in r x.1 with h | ⟨y, hy, h⟩
  · exact .inr ⟨x, by simp, h⟩
  · exact .inr ⟨y, by simp [hy], h⟩
theorem MayP.mem {h : Hd} {ps : List Pl} (H : MayP h ps) : ∀ x ∈ decd ps, 0 ≤ x.1 ∧ x.1 ≤ 1048576 := by
 intro x hx
 obtain ⟨i, hi, _, rfl⟩ := decd_mem hx
 have h1 := (H.2.2 i hi).1
 have h2 := H.1
 show 0 ≤ (pAt ps i).n ∧ (pAt ps i).n ≤ 1048576
 omega
theorem MayP.top {h : Hd} {ps : List Pl} (H : MayP h ps) : 0 ≤ topF h.k.up (decd ps) ∧ topF h.k.up (decd ps) ≤ 1048576 := by
 have h1 := H.1
 rcases topF_in (decd ps) h.k.up with e | ⟨x, hx, e⟩
 · rw [e]; exact h1
 · rw [e]; exact H.mem x hx
def hvN (a : Mg) (h : Hd) (ps : List Pl) : Nat := (min (topF h.k.up (decd ps)) (a.st.n + 63) - a.st.n + 1).toNat
def haveA (a : Mg) (h : Hd) (bs : List Int) (es : List En) (ls : List La) (ps : List Pl) : Aw :=
 bif (a.k == 21 && (a.ky.k == 1 || (a.ky.k == 2 && askB a.st.n))) then
  bif a.ky.k == 1 then
   bif eqS h.b.s spZ then ⟨haveM a, [], [], [], []⟩ else ⟨{ haveM a with st := h.b.s }, bs, [], [], []⟩
  else bif decide (a.st.n ≤ h.k.up) then ⟨{ haveM a with bk := ⟨h.k.up, slZ, slZ⟩, mo := decide (h.k.up < topF h.k.up (decd ps)) }, [], es, ls, []⟩
  else ⟨{ haveM a with st := ⟨a.st.n, 0⟩, mo := decide (min (topF h.k.up (decd ps)) (a.st.n + 63) < topF h.k.up (decd ps)) }, [], [], [], tab (hvN a h ps) (fun j => cmdAt ps (a.st.n + ((j : Nat) : Int)))⟩
 else ⟨mgZ, [], [], [], []⟩
theorem new_nil (n : Nat) : ∀ k, (At slZ.a k ∨ At slZ.a k ∨ At slZ.a k ∨ At slZ.a k) → n ≤ k := by
 rintro k (e | e | e | e) <;> exact absurd e At.none
theorem have_any (a : Mg) (h : Hd) (bs : List Int) (es : List En) (ls : List La) (ps : List Pl) (gb ge gl gp base : Nat) (w : World) (HH : HdAt w h bs es ls ps) (HT : LtAt w base h bs es ls ps gb ge gl gp) (HM : MayP h ps) :
 Calls Try.prog 17 #[.agg (Mg.cells a), .agg (Hd.cells (lentH h gb ge gl gp))] w (AnNew w (haveA a h bs es ls ps)) := by
 have tb : ∀ k, At (lentH h gb ge gl gp).b.d.a k → k < w.heap.size := fun k e => by obtain ⟨ad, e1, e2⟩ := e; cases e1; subst e2; exact HT.b.lt
 have te : ∀ k, At (lentH h gb ge gl gp).k.e.a k → k < w.heap.size := fun k e => by obtain ⟨ad, e1, e2⟩ := e; cases e1; subst e2; exact HT.e.lt
 have tl : ∀ k, At (lentH h gb ge gl gp).k.l.a k → k < w.heap.size := fun k e => by obtain ⟨ad, e1, e2⟩ := e; cases e1; subst e2; exact HT.l.lt
 have tp : ∀ k, At (lentH h gb ge gl gp).r.a k → k < w.heap.size := fun k e => by obtain ⟨ad, e1, e2⟩ := e; cases e1; subst e2; exact HT.p.lt
 have rb : RdB w (lentH h gb ge gl gp).b.d bs := rd_B (s := h.b.d) HH.b.len HT.b
 have re : RdE w (lentH h gb ge gl gp).k.e es := rd_E (s := h.k.e) HH.e.len HT.e
 have rl : RdL w (lentH h gb ge gl gp).k.l ls := rd_L (s := h.k.l) HH.l.len HT.l
 have rp : RdP w (lentH h gb ge gl gp).r ps := rd_P (s := h.r) HH.p.len HT.p
 have nb := HH.nb
 have ne := HH.ne
 have nl := HH.nl
 have np := HH.np
 have hm : ps.length ≤ 10000000000000 := by rw [HH.p.len]; omega
 have hg0 : ∀ x ∈ decd ps, 0 ≤ x.1 ∧ x.1 ≤ 4611686018427387904 := fun x hx => by have := HM.mem x hx; omega
 cases hz : (a.k == 21 && (a.ky.k == 1 || (a.ky.k == 2 && askB a.st.n))) with
 | false =>
  have hA : haveA a h bs es ls ps = ⟨mgZ, [], [], [], []⟩ := by unfold haveA; rw [hz]; rfl
  rw [hA]
  exact (have_zero a (lentH h gb ge gl gp) w hz).mono fun e w' ⟨he, hk⟩ => ⟨mgZ, he, ⟨rfl, RdB.nil _, RdE.nil _, RdL.nil _, RdC.nil _⟩, new_nil _, hk⟩
 | true =>
  have hz2 := hz
  simp only [Bool.and_eq_true, Bool.or_eq_true] at hz2
  obtain ⟨hk21, hky⟩ := hz2
  cases hk1 : (a.ky.k == 1) with
  | true =>
   cases hq : eqS h.b.s spZ with
   | true =>
    have hA : haveA a h bs es ls ps = ⟨haveM a, [], [], [], []⟩ := by unfold haveA; rw [hz, hk1, hq]; rfl
    rw [hA]
    exact (have_block_no a (lentH h gb ge gl gp) w hk21 hk1 hq).mono fun e w' ⟨he, hk⟩ => ⟨haveM a, he, ⟨rfl, RdB.nil _, RdE.nil _, RdL.nil _, RdC.nil _⟩, new_nil _, hk⟩
   | false =>
    have hA : haveA a h bs es ls ps = ⟨{ haveM a with st := h.b.s }, bs, [], [], []⟩ := by unfold haveA; rw [hz, hk1, hq]; rfl
    rw [hA]
    exact (have_block_yes a (lentH h gb ge gl gp) bs w hk21 hk1 hq rb (by show h.b.d.l ≤ _; omega) tb).mono fun e w' ⟨s', he, ho, hk⟩ => ⟨_, he, ⟨rfl, ho.rd, RdE.nil _, RdL.nil _, RdC.nil _⟩, (by
     rintro k (e | e | e | e)
     · exact ho.own.base e
     · exact absurd e At.none
     · exact absurd e At.none
     · exact absurd e At.none), hk⟩
  | false =>
   rw [hk1] at hky
   simp only [Bool.false_eq_true, false_or] at hky
   obtain ⟨hk2, hab⟩ := hky
   cases hup : decide (a.st.n ≤ h.k.up) with
   | true =>
    have hA : haveA a h bs es ls ps = ⟨{ haveM a with bk := ⟨h.k.up, slZ, slZ⟩, mo := decide (h.k.up < topF h.k.up (decd ps)) }, [], es, ls, []⟩ := by unfold haveA; rw [hz, hk1, hup]; rfl
    rw [hA]
    exact (have_bucket a (lentH h gb ge gl gp) ps es ls w hk21 hk1 hk2 hab hup re rl (by show h.k.e.l * 40 ≤ _; omega) (by show h.k.l.l * 56 ≤ _; omega) rp tp te tl hm HM.rng).mono fun e w' ⟨se, sl, he, hoe, hol, hk⟩ => ⟨_, he, ⟨rfl, RdB.nil _, hoe.rd, hol.rd, RdC.nil _⟩, (by
     rintro k (e | e | e | e)
     · exact absurd e At.none
     · exact hoe.own.base e
     · exact hol.own.base e
     · exact absurd e At.none), hk⟩
   | false =>
    have hA : haveA a h bs es ls ps = ⟨{ haveM a with st := ⟨a.st.n, 0⟩, mo := decide (min (topF h.k.up (decd ps)) (a.st.n + 63) < topF h.k.up (decd ps)) }, [], [], [], tab (hvN a h ps) (fun j => cmdAt ps (a.st.n + ((j : Nat) : Int)))⟩ := by unfold haveA; rw [hz, hk1, hup]; rfl
    rw [hA]
    by_cases hc : min (topF h.k.up (decd ps)) (a.st.n + 63) < a.st.n
    · have h0 : hvN a h ps = 0 := by unfold hvN; omega
      rw [h0]
      exact (have_cmds_no a (lentH h gb ge gl gp) ps w hk21 hk1 hk2 hab hup rp tp hm HM.rng hg0 hc).mono fun e w' ⟨he, hk⟩ => ⟨_, he, ⟨rfl, RdB.nil _, RdE.nil _, RdL.nil _, RdC.nil _⟩, new_nil _, hk⟩
    · have hc1 : ((hvN a h ps : Nat) : Int) = min (topF h.k.up (decd ps)) (a.st.n + 63) - a.st.n + 1 := by unfold hvN; omega
      exact (have_cmds_yes a (lentH h gb ge gl gp) ps (hvN a h ps) w hk21 hk1 hk2 hab hup rp tp hm HM.rng hg0 hc1 (by omega)).mono fun e w' ⟨g, he, hb, hgl, hk⟩ => ⟨_, he, ⟨rfl, RdB.nil _, RdE.nil _, RdL.nil _, by
       rw [← decF_tab a.st.n (hvN a h ps) ps h.k.up HM.rise]
       exact RdC.ofBox hb (decF_len _ _ _)⟩, (by
       rintro k (e | e | e | e)
       · exact absurd e At.none
       · exact absurd e At.none
       · exact absurd e At.none
       · obtain ⟨ad, e1, e2⟩ := e; cases e1; subst e2; exact hgl), hk⟩
end Go.Proofs.Ytcgnbpaaalmkoaa
