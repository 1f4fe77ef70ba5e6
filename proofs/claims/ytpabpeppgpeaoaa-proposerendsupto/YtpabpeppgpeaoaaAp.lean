import Derived.Test.YtpabpeppgpeaoaaAn
/-! A proposer whose messages go to and fro is at its end behind four exchanges. -/

namespace Go.Proofs.Ytpabpeppgpeaoaa
open Go.RowKit Gt
set_option linter.unusedVariables false
set_option linter.unusedSimpArgs false

namespace Pax

theorem acc_top {s : PS} {c : Cm} {e : Int} (ht : s.top ≤ e) (hn : s.n ≤ e) : (accS s c).1.top ≤ e ∧ (accS s c).1.n = s.n := by
  unfold accS
  split
  · exact ⟨by show max s.top s.n ≤ e; omega, rfl⟩
  · exact ⟨ht, rfl⟩
theorem oth_top {s : PS} {x : TS Unit} {nk : TS Unit → Ph} {m : Ms} {t : PS × List Ms} {e : Int} (ht : s.top ≤ e) (hm : m.k = 14 → m.st.n ≤ e) (h : t.1.top ≤ e ∧ t.1.n = s.n) : (othS s x nk m [] [] t).1.top ≤ e ∧ (othS s x nk m [] [] t).1.n = s.n := by
  unfold othS
  split
  · split
    · exact ⟨ht, rfl⟩
    · split
      · exact ⟨ht, rfl⟩
      · split
        · next k =>
          have := hm (by simpa using k)
          show (if m.fi ∈ missL x then ({ s with top := max s.top m.st.n, ph := nk (hearS x m.fi) } : PS) else s).top ≤ e ∧ (if m.fi ∈ missL x then ({ s with top := max s.top m.st.n, ph := nk (hearS x m.fi) } : PS) else s).n = s.n
          split
          · exact ⟨by show max s.top m.st.n ≤ e; omega, rfl⟩
          · exact ⟨ht, rfl⟩
        · split
          · exact h
          · exact ⟨ht, rfl⟩
  · exact ⟨ht, rfl⟩
theorem tak_top {s : PS} {m : Ms} {e : Int} (ht : s.top ≤ e) (hn : s.n ≤ e) (hm : m.k = 14 → m.st.n ≤ e) : (taksS s m [] []).1.top ≤ e ∧ (taksS s m [] []).1.n = s.n := by
  unfold taksS
  cases s.ph with
  | pre x y rf =>
    refine oth_top ht hm ?_
    unfold takP
    split
    · split
      · exact acc_top ht hn
      · exact ⟨ht, rfl⟩
    · exact ⟨ht, rfl⟩
  | acc c x y rf =>
    refine oth_top ht hm ?_
    unfold takA
    split
    · split <;> exact ⟨ht, rfl⟩
    · exact ⟨ht, rfl⟩
  | _ => exact ⟨ht, rfl⟩
theorem fold_top {e : Int} : ∀ (l : List Ms) (s : PS), s.top ≤ e → s.n ≤ e → (∀ m, m ∈ l → m.k = 14 → m.st.n ≤ e) → (foldT s l).1.top ≤ e
  | [], s, ht, _, _ => ht
  | m :: l, s, ht, hn, hm => by
    obtain ⟨h1, h2⟩ := tak_top ht hn (hm m List.mem_cons_self)
    exact fold_top l _ h1 (by rw [h2]; exact hn) (fun k hk => hm k (List.mem_cons_of_mem _ hk))

/-- An exchange: what is under way from s, and what its Tick tells, goes to the live servers; what they answer is taken. -/
def xch (live : Int → Bool) (s : PS) (pend : List Ms) (A : Int → In) : PS × List Ms × (Int → In) :=
  ((foldT (tickS s).1 (servS A ((pend ++ (tickS s).2).filter (fun m => live m.ti))).2).1, (foldT (tickS s).1 (servS A ((pend ++ (tickS s).2).filter (fun m => live m.ti))).2).2, (servS A ((pend ++ (tickS s).2).filter (fun m => live m.ti))).1)
/-- Numbers that stay far below their bound. -/
structure Bd (e : Int) (zs : List Int) (s : PS) (A : Int → In) : Prop where
  g : s.zs = zs
  n1 : 1 ≤ s.n
  nt : s.n ≤ s.top
  te : s.top ≤ e
  r0 : 0 ≤ s.rd
  re : s.rd ≤ e
  pe : ∀ a, a ∈ zs → (A a).p.n ≤ e
  c : 0 ≤ s.cl
/-- Refused, and a new ballot is asked for next; it is more than what the live ones promised. -/
def KRf (zs : List Int) (s : PS) (p : List Ms) : Prop := p = [] ∧ ((∃ x y, s.ph = .pre x y true ∧ QOk zs x y true) ∨ ∃ c x y, s.ph = .acc c x y true ∧ QOk zs x y true)
def TopL (zs : List Int) (live : Int → Bool) (s : PS) (A : Int → In) : Prop := ∀ a, a ∈ zs → live a = true → (A a).d = true ∨ (A a).p.n ≤ s.top
/-- A second phase that has just begun. -/
def KNew (zs : List Int) (s : PS) (p : List Ms) : Prop := ∃ c, s.ph = .acc c (tNew Unit zs (zs.length : Int)) (tNew Unit zs (needN zs.length)) false ∧ p = zs.map (accM s.v0 c).to
/-- Most live ones accept it. -/
def MostL (zs : List Int) (live : Int → Bool) (s : PS) (A : Int → In) : Prop := ∃ Q, Maj zs Q ∧ ∀ a, a ∈ zs → Q a = true → live a = true ∧ ((A a).d = true ∨ ltS ⟨s.n, s.cl⟩ (A a).p = false)
def Dec (s : PS) : Prop := ∃ d, s.ph = .dec d
theorem serv_top {zs : List Int} {s : PS} {kq ka : Int} (hk : (kq = 3 ∧ ka = 13) ∨ (kq = 4 ∧ ka = 15)) {e : Int} {l : List Ms} {A : Int → In} (hl : ∀ m, m ∈ l → Req s kq m) (g : s.zs = zs) (pe : ∀ a, a ∈ zs → (A a).p.n ≤ e) (hn : s.n ≤ e) :
    (∀ m, m ∈ (servS A l).2 → m.k = 14 → m.st.n ≤ e) ∧ ∀ a, a ∈ zs → ((servS A l).1 a).p.n ≤ e := by
  obtain ⟨i1, i2, i3⟩ := serv_all hk l A hl
  refine ⟨fun m hm h14 => ?_, fun a ha => ?_⟩
  · obtain ⟨j1, _, c⟩ := i1 m hm
    rcases c with ⟨_, c⟩ | ⟨_, _, _, c⟩ | ⟨_, _, c⟩
    · rw [h14] at c; exact absurd c (by decide)
    · rw [c]; exact pe _ (g ▸ j1.mem)
    · rcases hk with ⟨_, k⟩ | ⟨_, k⟩ <;> (rw [h14, k] at c; exact absurd c (by decide))
  · obtain ⟨_, j2, _⟩ := i3 a
    rcases j2 with j2 | ⟨_, j2⟩
    · rw [j2]; exact pe a ha
    · rw [j2]; exact hn
/-- A question of the first phase, asked of live ones. -/
theorem xP {zs : List Int} (hz : zs.Nodup) {live : Int → Bool} (hM : Maj zs live) {e : Int} (he : e + 2 ≤ 1099511627776) {s : PS} {A : Int → In} (b : Bd e zs s A) {x : TS Unit} {y : TS Vt} {rf : Bool} (hs : s.ph = .pre x y rf) (q : QOk zs x y rf) {l : List Ms} (hl : ∀ m, m ∈ l → Req s 3 m ∧ live m.ti = true)
    (ask : ∀ a, a ∈ zs → live a = true → (x.v a).isSome = true ∨ ∃ r, r ∈ l ∧ r.ti = a) {R : PS × List Ms} (hR : foldT s (servS A l).2 = R) {A' : Int → In} (hA : (servS A l).1 = A') :
    Dec R.1 ∨ (Bd (e + 1) zs R.1 A' ∧ ((KNew zs R.1 R.2 ∧ ((∀ a, (y.v a).isSome = false) → MostL zs live R.1 A')) ∨
      (KRf zs R.1 R.2 ∧ ((∀ a, (x.v a).isSome = false) → TopL zs live R.1 A') ∧ (rf = true ∨ ∃ r, r ∈ l ∧ (A r.ti).d = false ∧ ltS ⟨s.n, s.cl⟩ (A r.ti).p = true)))) := by
  subst hR; subst hA
  have hq : ∀ m, m ∈ l → Req s 3 m := fun m hm => (hl m hm).1
  have hk : ((3 : Int) = 3 ∧ (13 : Int) = 13) ∨ ((3 : Int) = 4 ∧ (13 : Int) = 15) := .inl ⟨rfl, rfl⟩
  obtain ⟨i1, i2, i3⟩ := serv_all hk l A hq
  obtain ⟨t1, t2⟩ := serv_top hk hq b.g b.pe (Int.le_trans b.nt b.te)
  have tT := fold_top (servS A l).2 s b.te (Int.le_trans b.nt b.te) t1
  obtain ⟨b1, b2, b3, b4, b5, b6, b7, b8⟩ := b
  have w := wr1_ok (n := s.rd) b5 (by omega)
  have o2 : okN (wr1 s.rd) = true := by rw [okN_iff, w]; omega
  rcases foldP hz (servS A l).2 s x y rf hs b1 q (by rw [okN_iff]; omega) o2 (by omega) (fun m hm => (i1 m hm).1) with r | ⟨c, T, Q, r1, r2, r3, r4⟩ | ⟨x', y', rf', T, r1, r2, r3⟩
  · exact .inl r
  · right
    rw [r1] at tT ⊢
    refine ⟨⟨b1, b2, Int.le_trans b3 r2, by have : T ≤ e := tT; show T ≤ e + 1; omega, by show 0 ≤ wr1 s.rd; omega, by show wr1 s.rd ≤ e + 1; omega, fun a ha => Int.le_trans (t2 a ha) (by omega), b8⟩, .inl ⟨⟨c, by rw [← b1]; rfl, rfl⟩, fun hy => ⟨fun a => Q a, r3, fun a ha Qa => ?_⟩⟩⟩
    rcases r4 a Qa with k | ⟨m, hm, k1, k2⟩
    · rw [hy a] at k; exact nomatch k
    · obtain ⟨_, ⟨r, f1, f2⟩, c'⟩ := i1 m hm
      rw [k2] at c' f2
      refine ⟨by rw [← f2]; exact (hl r f1).2, ?_⟩
      rcases c' with ⟨_, c'⟩ | ⟨_, _, c', _⟩ | ⟨c1, c2, _⟩
      · rw [k1] at c'; exact absurd c' (by decide)
      · rw [k1] at c'; exact absurd c' (by decide)
      · right; rw [(i3 a).2.2 ⟨r, f1, f2⟩ c1 c2]; exact lt_self _
  · right
    obtain ⟨u1, u2, u3, _⟩ := still_out hk b3 q hq hM ask A r2 r3
    rw [r1] at tT ⊢
    subst u1
    exact ⟨⟨b1, b2, Int.le_trans b3 r3.top, by have : T ≤ e := tT; show T ≤ e + 1; omega, b5, by show s.rd ≤ e + 1; omega, fun a ha => Int.le_trans (t2 a ha) (by omega), b8⟩, .inr ⟨⟨rfl, .inl ⟨x', y', rfl, r2⟩⟩, fun hx a ha la => u2 a ha la (hx a), u3⟩⟩
/-- A question of the second phase, asked of live ones. -/
theorem xA {zs : List Int} (hz : zs.Nodup) {live : Int → Bool} (hM : Maj zs live) {e : Int} {s : PS} {A : Int → In} (b : Bd e zs s A) {c : Cm} {x y : TS Unit} {rf : Bool} (hs : s.ph = .acc c x y rf) (q : QOk zs x y rf) {l : List Ms} (hl : ∀ m, m ∈ l → Req s 4 m)
    (ask : ∀ a, a ∈ zs → live a = true → (x.v a).isSome = true ∨ ∃ r, r ∈ l ∧ r.ti = a) {R : PS × List Ms} (hR : foldT s (servS A l).2 = R) {A' : Int → In} (hA : (servS A l).1 = A') :
    Dec R.1 ∨ (Bd (e + 1) zs R.1 A' ∧ KRf zs R.1 R.2 ∧ ((∀ a, (x.v a).isSome = false) → TopL zs live R.1 A' ∧ ¬ MostL zs live s A) ∧ (rf = true ∨ ∃ r, r ∈ l ∧ (A r.ti).d = false ∧ ltS ⟨s.n, s.cl⟩ (A r.ti).p = true)) := by
  subst hR; subst hA
  have hk : ((4 : Int) = 3 ∧ (15 : Int) = 13) ∨ ((4 : Int) = 4 ∧ (15 : Int) = 15) := .inr ⟨rfl, rfl⟩
  obtain ⟨i1, i2, i3⟩ := serv_all hk l A hl
  obtain ⟨t1, t2⟩ := serv_top hk hl b.g b.pe (Int.le_trans b.nt b.te)
  have tT := fold_top (servS A l).2 s b.te (Int.le_trans b.nt b.te) t1
  obtain ⟨b1, b2, b3, b4, b5, b6, b7, b8⟩ := b
  rcases foldA hz (servS A l).2 s c x y rf hs b1 q (fun m hm => (i1 m hm).1) with r | ⟨x', y', rf', T, r1, r2, r3⟩
  · exact .inl r
  · right
    obtain ⟨u1, u2, u3, u4⟩ := still_out hk b3 q hl hM ask A r2 r3
    rw [r1] at tT ⊢
    subst u1
    refine ⟨⟨b1, b2, Int.le_trans b3 r3.top, by have : T ≤ e := tT; show T ≤ e + 1; omega, b5, by show s.rd ≤ e + 1; omega, fun a ha => Int.le_trans (t2 a ha) (by omega), b8⟩, ⟨rfl, .inr ⟨c, x', y', rfl, r2⟩⟩, fun hx => ⟨fun a ha la => u2 a ha la (hx a), fun ⟨Q, k1, k2⟩ => u4 Q k1 fun a ha Qa => .inr ⟨hx a, k2 a ha Qa⟩⟩, u3⟩

end Pax

end Go.Proofs.Ytpabpeppgpeaoaa
/-! A proposer whose messages go to and fro is at its end behind four exchanges: its steps, and all of them. -/

namespace Go.Proofs.Ytpabpeppgpeaoaa
open Go.RowKit Gt
set_option linter.unusedVariables false
set_option linter.unusedSimpArgs false

namespace Pax

theorem miss_new {zs : List Int} (hz : zs.Nodup) {n : Int} {a : Int} : a ∈ missL (tNew Unit zs n) ↔ a ∈ zs := by
  rw [mem_miss]
  exact ⟨fun h => (uq_self hz) ▸ h.1, fun h => ⟨by show a ∈ uq zs; rw [uq_self hz]; exact h, rfl⟩⟩
/-- It was refused: a new ballot. -/
theorem xRf {zs : List Int} (hz : zs.Nodup) {live : Int → Bool} (hM : Maj zs live) {e : Int} (he : e + 4 ≤ 1099511627776) {s : PS} {p : List Ms} {A : Int → In} (b : Bd e zs s A) (k : KRf zs s p) :
    Dec (xch live s p A).1 ∨ (Bd (e + 2) zs (xch live s p A).1 (xch live s p A).2.2 ∧ ((KNew zs (xch live s p A).1 (xch live s p A).2.1 ∧ MostL zs live (xch live s p A).1 (xch live s p A).2.2) ∨
      (KRf zs (xch live s p A).1 (xch live s p A).2.1 ∧ TopL zs live (xch live s p A).1 (xch live s p A).2.2 ∧ ¬ TopL zs live s A))) := by
  obtain ⟨hp, k⟩ := k
  obtain ⟨b1, b2, b3, b4, b5, b6, b7, b8⟩ := b
  have w1 := wr1_ok (n := s.top) (by omega) (by omega)
  have w2 := wr1_ok (n := s.rd) (by omega) (by omega)
  have e0 : tickS s = prepS s (wr1 s.top) (wr1 s.rd) := by
    unfold tickS
    rcases k with ⟨x, y, hs, _⟩ | ⟨c, x, y, hs, _⟩ <;> rw [hs] <;> rfl
  have e1 : prepS s (wr1 s.top) (wr1 s.rd) = ({ mov s (wr1 s.top) (wr1 s.rd) with ph := .pre (tNew Unit s.zs (s.zs.length : Int)) (tNew Vt s.zs (needN s.zs.length)) false }, s.zs.map (prepM (mov s (wr1 s.top) (wr1 s.rd)).v0).to) := by
    unfold prepS
    rw [if_pos (by rw [Bool.and_eq_true, okN_iff, okN_iff]; omega)]
  have q : QOk zs (tNew Unit s.zs (s.zs.length : Int)) (tNew Vt s.zs (needN s.zs.length)) false := by rw [b1]; exact qok_new hz
  unfold xch
  rw [e0, e1, hp]
  show Dec (foldT { mov s (wr1 s.top) (wr1 s.rd) with ph := .pre (tNew Unit s.zs (s.zs.length : Int)) (tNew Vt s.zs (needN s.zs.length)) false } (servS A ((s.zs.map (prepM (mov s (wr1 s.top) (wr1 s.rd)).v0).to).filter (fun m => live m.ti))).2).1 ∨ _
  have hl : ∀ m, m ∈ (s.zs.map (prepM (mov s (wr1 s.top) (wr1 s.rd)).v0).to).filter (fun m => live m.ti) → Req { mov s (wr1 s.top) (wr1 s.rd) with ph := .pre (tNew Unit s.zs (s.zs.length : Int)) (tNew Vt s.zs (needN s.zs.length)) false } 3 m ∧ live m.ti = true := fun m hm => by
    rw [List.mem_filter] at hm
    obtain ⟨z, hz', rfl⟩ := List.mem_map.1 hm.1
    exact ⟨⟨rfl, rfl, rfl, rfl, rfl, rfl, rfl, hz', rfl⟩, hm.2⟩
  have X := xP hz hM (e := e + 1) (by omega) (s := { mov s (wr1 s.top) (wr1 s.rd) with ph := .pre (tNew Unit s.zs (s.zs.length : Int)) (tNew Vt s.zs (needN s.zs.length)) false }) (A := A)
    ⟨b1, by show 1 ≤ wr1 s.top; omega, by show wr1 s.top ≤ max s.top (wr1 s.top); omega, by show max s.top (wr1 s.top) ≤ e + 1; omega, by show 0 ≤ wr1 s.rd; omega, by show wr1 s.rd ≤ e + 1; omega, fun a ha => Int.le_trans (b7 a ha) (by omega), b8⟩ rfl q hl
    (fun a ha la => .inr ⟨(prepM (mov s (wr1 s.top) (wr1 s.rd)).v0).to a, by rw [List.mem_filter]; exact ⟨List.mem_map.2 ⟨a, b1 ▸ ha, rfl⟩, la⟩, rfl⟩) rfl rfl
  rcases X with X | ⟨X1, ⟨X2, X3⟩ | ⟨X2, X3, X4⟩⟩
  · exact .inl X
  · exact .inr ⟨by rw [show e + 2 = e + 1 + 1 by omega]; exact X1, .inl ⟨X2, X3 (fun _ => rfl)⟩⟩
  · refine .inr ⟨by rw [show e + 2 = e + 1 + 1 by omega]; exact X1, .inr ⟨X2, X3 (fun _ => rfl), fun tl => ?_⟩⟩
    rcases X4 with X4 | ⟨r, r1, r2, r3⟩
    · exact nomatch X4
    · obtain ⟨h1, h2⟩ := hl r r1
      have r3 : ltS ⟨wr1 s.top, s.cl⟩ (A r.ti).p = true := r3
      rcases tl r.ti (b1 ▸ h1.ti) h2 with t | t
      · rw [t] at r2; exact nomatch r2
      · unfold ltS at r3
        simp only [Bool.or_eq_true, Bool.and_eq_true, decide_eq_true_eq] at r3
        omega
/-- A second phase has just begun. -/
theorem xNew {zs : List Int} (hz : zs.Nodup) {live : Int → Bool} (hM : Maj zs live) {e : Int} {s : PS} {p : List Ms} {A : Int → In} (b : Bd e zs s A) (k : KNew zs s p) :
    Dec (xch live s p A).1 ∨ (Bd (e + 1) zs (xch live s p A).1 (xch live s p A).2.2 ∧ KRf zs (xch live s p A).1 (xch live s p A).2.1 ∧ TopL zs live (xch live s p A).1 (xch live s p A).2.2 ∧ ¬ MostL zs live s A) := by
  obtain ⟨c, hs, hp⟩ := k
  have g := b.g
  have e0 : tickS s = (s, (missL (tNew Unit zs (zs.length : Int))).map (accM s.v0 c).to) := by unfold tickS; rw [hs]; rfl
  unfold xch
  rw [e0]
  have X := xA hz hM b hs (qok_new hz) (l := (p ++ (missL (tNew Unit zs (zs.length : Int))).map (accM s.v0 c).to).filter (fun m => live m.ti)) (A := A) (fun m hm => by
      rw [List.mem_filter, hp, List.mem_append] at hm
      rcases hm.1 with h | h
      · obtain ⟨z, hz', rfl⟩ := List.mem_map.1 h; exact req_acc (g ▸ hz')
      · obtain ⟨z, hz', rfl⟩ := List.mem_map.1 h; exact req_acc (g ▸ (miss_new hz).1 hz'))
    (fun a ha la => .inr ⟨(accM s.v0 c).to a, by rw [List.mem_filter, hp, List.mem_append]; exact ⟨.inl (List.mem_map.2 ⟨a, ha, rfl⟩), la⟩, rfl⟩) rfl rfl
  rcases X with X | ⟨X1, X2, X3, _⟩
  · exact .inl X
  · exact .inr ⟨X1, X2, X3 (fun _ => rfl)⟩
/-- A first phase goes on, none refused. -/
theorem xPre {zs : List Int} (hz : zs.Nodup) {live : Int → Bool} (hM : Maj zs live) {e : Int} (he : e + 2 ≤ 1099511627776) {s : PS} {A : Int → In} (b : Bd e zs s A) {x : TS Unit} {y : TS Vt} (hs : s.ph = .pre x y false) (q : QOk zs x y false) :
    Dec (xch live s [] A).1 ∨ (Bd (e + 1) zs (xch live s [] A).1 (xch live s [] A).2.2 ∧ ((KNew zs (xch live s [] A).1 (xch live s [] A).2.1 ∧ ((∀ a, (y.v a).isSome = false) → MostL zs live (xch live s [] A).1 (xch live s [] A).2.2)) ∨
      (KRf zs (xch live s [] A).1 (xch live s [] A).2.1 ∧ ((∀ a, (x.v a).isSome = false) → TopL zs live (xch live s [] A).1 (xch live s [] A).2.2)))) := by
  have g := b.g
  have e0 : tickS s = (s, (missL x).map (prepM s.v0).to) := by unfold tickS; rw [hs]; rfl
  unfold xch
  rw [e0]
  have X := xP hz hM he b hs q (l := ([] ++ (missL x).map (prepM s.v0).to).filter (fun m => live m.ti)) (A := A) (fun m hm => by
      rw [List.mem_filter, List.nil_append] at hm
      obtain ⟨z, hz', rfl⟩ := List.mem_map.1 hm.1
      exact ⟨req_prep (by rw [g, ← q.gx]; exact (mem_miss.1 hz').1), hm.2⟩)
    (fun a ha la => by
      cases hx : (x.v a).isSome
      · right
        exact ⟨(prepM s.v0).to a, by rw [List.mem_filter, List.nil_append]; exact ⟨List.mem_map.2 ⟨a, mem_miss.2 ⟨by rw [q.gx]; exact ha, hx⟩, rfl⟩, la⟩, rfl⟩
      · exact .inl rfl) rfl rfl
  rcases X with X | ⟨X1, X2 | ⟨X2, X3, _⟩⟩
  · exact .inl X
  · exact .inr ⟨X1, .inl X2⟩
  · exact .inr ⟨X1, .inr ⟨X2, X3⟩⟩
/-- A second phase goes on, none refused. -/
theorem xAcc {zs : List Int} (hz : zs.Nodup) {live : Int → Bool} (hM : Maj zs live) {e : Int} {s : PS} {A : Int → In} (b : Bd e zs s A) {c : Cm} {x y : TS Unit} (hs : s.ph = .acc c x y false) (q : QOk zs x y false) :
    Dec (xch live s [] A).1 ∨ (Bd (e + 1) zs (xch live s [] A).1 (xch live s [] A).2.2 ∧ KRf zs (xch live s [] A).1 (xch live s [] A).2.1) := by
  have g := b.g
  have e0 : tickS s = (s, (missL x).map (accM s.v0 c).to) := by unfold tickS; rw [hs]; rfl
  unfold xch
  rw [e0]
  have X := xA hz hM b hs q (l := ([] ++ (missL x).map (accM s.v0 c).to).filter (fun m => live m.ti)) (A := A) (fun m hm => by
      rw [List.mem_filter, List.nil_append] at hm
      obtain ⟨z, hz', rfl⟩ := List.mem_map.1 hm.1
      exact req_acc (by rw [g, ← q.gx]; exact (mem_miss.1 hz').1))
    (fun a ha la => by
      cases hx : (x.v a).isSome
      · right
        exact ⟨(accM s.v0 c).to a, by rw [List.mem_filter, List.nil_append]; exact ⟨List.mem_map.2 ⟨a, mem_miss.2 ⟨by rw [q.gx]; exact ha, hx⟩, rfl⟩, la⟩, rfl⟩
      · exact .inl rfl) rfl rfl
  rcases X with X | ⟨X1, X2, _, _⟩
  · exact .inl X
  · exact .inr ⟨X1, X2⟩

/-- So many exchanges. -/
def xs (live : Int → Bool) : Nat → PS × List Ms × (Int → In) → PS × List Ms × (Int → In)
  | 0, t => t
  | n + 1, t => xs live n (xch live t.1 t.2.1 t.2.2)
def Ends (live : Int → Bool) (n : Nat) (t : PS × List Ms × (Int → In)) : Prop := ∃ k, k ≤ n ∧ Dec (xs live k t).1
theorem Ends.now {live : Int → Bool} {n : Nat} {t : PS × List Ms × (Int → In)} (h : Dec t.1) : Ends live n t := ⟨0, Nat.zero_le _, h⟩
theorem Ends.next {live : Int → Bool} {n : Nat} {t : PS × List Ms × (Int → In)} (h : Ends live n (xch live t.1 t.2.1 t.2.2)) : Ends live (n + 1) t := by
  obtain ⟨k, hk, d⟩ := h
  exact ⟨k + 1, by omega, d⟩
theorem Ends.more {live : Int → Bool} {n m : Nat} {t : PS × List Ms × (Int → In)} (h : Ends live n t) (l : n ≤ m) : Ends live m t := by
  obtain ⟨k, hk, d⟩ := h
  exact ⟨k, by omega, d⟩
theorem ends_most {zs : List Int} (hz : zs.Nodup) {live : Int → Bool} (hM : Maj zs live) {e : Int} {t : PS × List Ms × (Int → In)} (b : Bd e zs t.1 t.2.2) (k : KNew zs t.1 t.2.1) (m : MostL zs live t.1 t.2.2) : Ends live 1 t :=
  Ends.next (.now ((xNew hz hM b k).elim id (fun ⟨_, _, _, n⟩ => absurd m n)))
theorem ends_top {zs : List Int} (hz : zs.Nodup) {live : Int → Bool} (hM : Maj zs live) {e : Int} (he : e + 4 ≤ 1099511627776) {t : PS × List Ms × (Int → In)} (b : Bd e zs t.1 t.2.2) (k : KRf zs t.1 t.2.1) (m : TopL zs live t.1 t.2.2) : Ends live 2 t := by
  refine Ends.next ?_
  rcases xRf hz hM he b k with d | ⟨b', ⟨k1, k2⟩ | ⟨_, _, n⟩⟩
  · exact .now d
  · exact ends_most hz hM b' k1 k2
  · exact absurd m n
theorem ends_rf {zs : List Int} (hz : zs.Nodup) {live : Int → Bool} (hM : Maj zs live) {e : Int} (he : e + 6 ≤ 1099511627776) {t : PS × List Ms × (Int → In)} (b : Bd e zs t.1 t.2.2) (k : KRf zs t.1 t.2.1) : Ends live 3 t := by
  refine Ends.next ?_
  rcases xRf hz hM (by omega) b k with d | ⟨b', ⟨k1, k2⟩ | ⟨k1, k2, _⟩⟩
  · exact .now d
  · exact (ends_most hz hM b' k1 k2).more (by omega)
  · exact ends_top hz hM (by omega) b' k1 k2
theorem ends_new {zs : List Int} (hz : zs.Nodup) {live : Int → Bool} (hM : Maj zs live) {e : Int} (he : e + 6 ≤ 1099511627776) {t : PS × List Ms × (Int → In)} (b : Bd e zs t.1 t.2.2) (k : KNew zs t.1 t.2.1) : Ends live 3 t := by
  refine Ends.next ?_
  rcases xNew hz hM b k with d | ⟨b', k1, k2, _⟩
  · exact .now d
  · exact ends_top hz hM (by omega) b' k1 k2
/-- Four exchanges from any question; three where nobody was heard yet. -/
theorem ends_pre {zs : List Int} (hz : zs.Nodup) {live : Int → Bool} (hM : Maj zs live) {e : Int} (he : e + 8 ≤ 1099511627776) {s : PS} {A : Int → In} (b : Bd e zs s A) {x : TS Unit} {y : TS Vt} {rf : Bool} (hs : s.ph = .pre x y rf) (q : QOk zs x y rf) :
    Ends live 4 (s, [], A) ∧ (rf = false → (∀ a, (x.v a).isSome = false) → Ends live 3 (s, [], A)) := by
  cases rf
  · have X := xPre hz hM (by omega) b hs q
    refine ⟨Ends.next ?_, fun _ hx => Ends.next ?_⟩
    · rcases X with d | ⟨b', ⟨k1, _⟩ | ⟨k1, _⟩⟩
      · exact .now d
      · exact ends_new hz hM (by omega) b' k1
      · exact ends_rf hz hM (by omega) b' k1
    · rcases X with d | ⟨b', ⟨k1, k2⟩ | ⟨k1, k2⟩⟩
      · exact .now d
      · refine (ends_most hz hM b' k1 (k2 fun a => ?_)).more (by omega)
        cases hy : (y.v a).isSome
        · rfl
        · have := q.sub a hy; rw [hx a] at this; exact nomatch this
      · exact ends_top hz hM (by omega) b' k1 (k2 hx)
  · exact ⟨(ends_rf hz hM (t := (s, [], A)) (by omega) b ⟨rfl, .inl ⟨x, y, hs, q⟩⟩).more (by omega), fun e => nomatch e⟩
theorem ends_acc {zs : List Int} (hz : zs.Nodup) {live : Int → Bool} (hM : Maj zs live) {e : Int} (he : e + 8 ≤ 1099511627776) {s : PS} {A : Int → In} (b : Bd e zs s A) {c : Cm} {x y : TS Unit} {rf : Bool} (hs : s.ph = .acc c x y rf) (q : QOk zs x y rf) : Ends live 4 (s, [], A) := by
  cases rf
  · refine Ends.next ?_
    rcases xAcc hz hM b hs q with d | ⟨b', k1⟩
    · exact .now d
    · exact ends_rf hz hM (by omega) b' k1
  · exact (ends_rf hz hM (t := (s, [], A)) (by omega) b ⟨rfl, .inr ⟨c, x, y, hs, q⟩⟩).more (by omega)

end Pax

end Go.Proofs.Ytpabpeppgpeaoaa
