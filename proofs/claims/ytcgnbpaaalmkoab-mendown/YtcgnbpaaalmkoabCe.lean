import Derived.Test.YtcgnbpaaalmkoabCd
namespace Go.Proofs.Ytcgnbpaaalmkoab
open Go.RowKit
set_option linter.unusedVariables false
set_option linter.unusedSimpArgs false

/-- An answer: its message without lists, and what the lists hold. -/
structure Aw where
  m : Mg
  b : List Int
  e : List En
  l : List La
  c : List Cm
def scal (m : Mg) : Mg := ⟨m.k, m.fr, m.to, m.op, m.rd, m.ky, m.st, m.hd, slZ, m.c, ⟨m.bk.up, slZ, slZ⟩, slZ, m.mo⟩
structure MgRd (W : World) (m : Mg) (A : Aw) : Prop where
  s : scal m = A.m
  b : RdB W m.bl A.b
  e : RdE W m.bk.e A.e
  l : RdL W m.bk.l A.l
  c : RdC W m.cm A.c
def MgNew (n : Nat) (m : Mg) : Prop := ∀ k, (At m.bl.a k ∨ At m.bk.e.a k ∨ At m.bk.l.a k ∨ At m.cm.a k) → n ≤ k
theorem MgRd.kept {S : Nat → Prop} {W W' : World} {m : Mg} {A : Aw} {n : Nat} (h : MgRd W m A) (hn : MgNew n m) (hk : Kept S W W') (hS : ∀ k, S k → k < n) : MgRd W' m A :=
  ⟨h.s, h.b.kept hk (fun k e f => by have := hn k (.inl e); have := hS k f; omega), h.e.kept hk (fun k e f => by have := hn k (.inr (.inl e)); have := hS k f; omega), h.l.kept hk (fun k e f => by have := hn k (.inr (.inr (.inl e))); have := hS k f; omega), h.c.kept hk (fun k e f => by have := hn k (.inr (.inr (.inr e))); have := hS k f; omega)⟩
theorem MgRd.no {W W' : World} {m : Mg} {A : Aw} (h : MgRd W m A) (hk : Kept No W W') : MgRd W' m A := ⟨h.s, h.b.no hk, h.e.no hk, h.l.no hk, h.c.no hk⟩
theorem RdB.nil (w : World) : RdB w slZ [] := ⟨Nums.nil _ _ _, rfl, fun _ => rfl⟩
theorem RdE.nil (w : World) : RdE w slZ [] := ⟨RowsAt.nil _ _ _, rfl, fun _ => rfl⟩
theorem RdL.nil (w : World) : RdL w slZ [] := ⟨RowsAt.nil _ _ _, rfl, fun _ => rfl⟩
theorem RdC.nil (w : World) : RdC w slZ [] := ⟨RowsAt.nil _ _ _, rfl, fun _ => rfl⟩
theorem OwC.rd {w : World} {base : Nat} {s : Sl} {cs : List Cm} (h : OwC w base s cs) : RdC w s cs := ⟨Own.rows h.own (cmL_c cs) (by omega), h.len, h.own.cap0⟩
theorem sameM2 (m n : Mg) (A : Aw) (w : World) (h : MgRd w m A) (g : MgRd w n A) (he : A.e.length ≤ 4000000000000) (hl : A.l.length ≤ 4000000000000) (hc : A.c.length ≤ 4000000000000) : Calls Try.prog 9 #[.agg (Mg.cells m), .agg (Mg.cells n)] w (fun e w' => e = .returned (.bool true) ∧ Kept No w w') := by
  have hs : scal m = scal n := h.s.trans g.s.symm
  have h1 := h.e.len
  have h2 := h.l.len
  have h3 := h.c.len
  have e : n = likeM m n.bl n.bk.e.a n.bk.e.k n.bk.l.a n.bk.l.k n.cm.a n.cm.k := by
    have g1 : n.bk.e.l = m.bk.e.l := by rw [← g.e.len, ← h.e.len]
    have g2 : n.bk.l.l = m.bk.l.l := by rw [← g.l.len, ← h.l.len]
    have g3 : n.cm.l = m.cm.l := by rw [← g.c.len, ← h.c.len]
    clear h g h1 h2 h3
    obtain ⟨k, fr, t0, op, rd, ky, st, hd, bl, c, ⟨up, ⟨ea, el, ek⟩, ⟨la, ll, lk⟩⟩, ⟨ca, cl, ck⟩, mo⟩ := m
    obtain ⟨k', fr', t0', op', rd', ky', st', hd', bl', c', ⟨up', ⟨ea', el', ek'⟩, ⟨la', ll', lk'⟩⟩, ⟨ca', cl', ck'⟩, mo'⟩ := n
    simp only [scal, Mg.mk.injEq, Bv.mk.injEq, true_and, and_true] at hs
    obtain ⟨rfl, rfl, rfl, rfl, rfl, rfl, rfl, rfl, rfl, rfl, rfl⟩ := hs
    have g1 : el' = el := g1
    have g2 : ll' = ll := g2
    have g3 : cl' = cl := g3
    subst g1 g2 g3
    rfl
  have gg1 : RdE w ⟨n.bk.e.a, m.bk.e.l, n.bk.e.k⟩ A.e := by
    have e1 : n.bk.e.l = m.bk.e.l := by rw [← g.e.len, ← h.e.len]
    rw [← e1]; exact g.e
  have gg2 : RdL w ⟨n.bk.l.a, m.bk.l.l, n.bk.l.k⟩ A.l := by
    have e1 : n.bk.l.l = m.bk.l.l := by rw [← g.l.len, ← h.l.len]
    rw [← e1]; exact g.l
  have gg3 : RdC w ⟨n.cm.a, m.cm.l, n.cm.k⟩ A.c := by
    have e1 : n.cm.l = m.cm.l := by rw [← g.c.len, ← h.c.len]
    rw [← e1]; exact g.c
  have hfin := sameM_any m n.bl n.bk.e.a n.bk.e.k n.bk.l.a n.bk.l.k n.cm.a n.cm.k A.b A.e A.l A.c w h.b g.b h.e gg1 h.l gg2 h.c gg3 (by omega) (by omega) (by omega)
  rw [← e] at hfin
  exact hfin
theorem topF_in : ∀ (l : List (Int × Cm)) (a : Int), topF a l = a ∨ ∃ x ∈ l, topF a l = x.1
  | [], a => .inl rfl
  | x :: r, a => by
    rcases topF_in r x.1 with h | ⟨y, hy, h⟩
    · exact .inr ⟨x, by simp, h⟩
    · exact .inr ⟨y, by simp [hy], h⟩
theorem MayP.mem {h : Hd} {ps : List Pl} (H : MayP h ps) : ∀ x ∈ decd ps, 0 ≤ x.1 ∧ x.1 ≤ 1048576 := by
  intro x hx
  obtain ⟨i, hi, _, rfl⟩ := decd_mem hx
  have h1 := (H.2.2 i hi).1
  have h2 := H.1
  show 0 ≤ (pAt ps i).n ∧ (pAt ps i).n ≤ 1048576
  omega
theorem MayP.top {h : Hd} {ps : List Pl} (H : MayP h ps) : 0 ≤ topF h.k.up (decd ps) ∧ topF h.k.up (decd ps) ≤ 1048576 := by
  have h1 := H.1
  rcases topF_in (decd ps) h.k.up with e | ⟨x, hx, e⟩
  · rw [e]; exact h1
  · rw [e]; exact H.mem x hx
def hvN (a : Mg) (h : Hd) (ps : List Pl) : Nat := (min (topF h.k.up (decd ps)) (a.st.n + 63) - a.st.n + 1).toNat
def haveA (a : Mg) (h : Hd) (bs : List Int) (es : List En) (ls : List La) (ps : List Pl) : Aw :=
  bif (a.k == 21 && (a.ky.k == 1 || (a.ky.k == 2 && askB a.st.n))) then
    bif a.ky.k == 1 then
      bif eqS h.b.s spZ then ⟨haveM a, [], [], [], []⟩ else ⟨{ haveM a with st := h.b.s }, bs, [], [], []⟩
    else bif decide (a.st.n ≤ h.k.up) then ⟨{ haveM a with bk := ⟨h.k.up, slZ, slZ⟩, mo := decide (h.k.up < topF h.k.up (decd ps)) }, [], es, ls, []⟩
    else ⟨{ haveM a with st := ⟨a.st.n, 0⟩, mo := decide (min (topF h.k.up (decd ps)) (a.st.n + 63) < topF h.k.up (decd ps)) }, [], [], [], tab (hvN a h ps) (fun j => cmdAt ps (a.st.n + ((j : Nat) : Int)))⟩
  else ⟨mgZ, [], [], [], []⟩
theorem hv_len (a : Mg) (h : Hd) (bs : List Int) (es : List En) (ls : List La) (ps : List Pl) (he : es.length ≤ 4000000000000) (hl : ls.length ≤ 4000000000000) : (haveA a h bs es ls ps).e.length ≤ 4000000000000 ∧ (haveA a h bs es ls ps).l.length ≤ 4000000000000 ∧ (haveA a h bs es ls ps).c.length ≤ 4000000000000 := by
  unfold haveA
  cases (a.k == 21 && (a.ky.k == 1 || (a.ky.k == 2 && askB a.st.n))) with
  | false => exact ⟨Nat.zero_le _, Nat.zero_le _, Nat.zero_le _⟩
  | true =>
    cases (a.ky.k == 1) with
    | true => cases (eqS h.b.s spZ) <;> exact ⟨Nat.zero_le _, Nat.zero_le _, Nat.zero_le _⟩
    | false =>
      cases decide (a.st.n ≤ h.k.up) with
      | true => exact ⟨he, hl, Nat.zero_le _⟩
      | false =>
        refine ⟨Nat.zero_le _, Nat.zero_le _, ?_⟩
        show (tab (hvN a h ps) _).length ≤ _
        rw [tab_len]
        unfold hvN
        omega
end Go.Proofs.Ytcgnbpaaalmkoab
