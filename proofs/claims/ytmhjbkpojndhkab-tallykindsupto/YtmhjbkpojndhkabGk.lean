import Derived.Test.YtmhjbkpojndhkabGs
import Derived.Test.YtmhjbkpojndhkabGp
import Derived.Test.YtmhjbkpojndhkabGz
import Derived.Maps.AppendAt
namespace Go.Proofs.Ytmhjbkpojndhkab
open Go.RowKit Go.Shelf
set_option linter.unusedVariables false
set_option linter.unusedSimpArgs false
namespace Gt

/-- Append, with where the row lies then. -/
theorem wp_appA {ops : Array Oper} {rest : List Oper} {o : Oper} {a : Act} {w : World} {Q : Exit → Act → World → Prop} (hg : o.guard = none) (s x : Operand) (T E : TypeId) (c by' : Nat) (z : Value) (ht : Try.prog.underlying T = some (.slice E))
    (hinf : (Try.prog.info? E).map (fun i => (i.zero, i.size, i.bytes)) = some (some z, c, by')) (hzc : z.cells.size = c) (hc0 : 0 < c) (ho : o.op = .call { callee := Callee.builtin Builtin.append, args := #[s, x], argTypes := #[T, T] })
    (base n cap : Nat) (sa : Option Addr) (vs : List Value) (hs : a.eval s = .slice sa n cap) (hown : Own E c w base sa cap n vs) (ad : Addr) (m cc : Nat) (news : List Value) (hx : a.eval x = .slice (some ad) m cc) (hl : news.length = m * c) (hnews : ∀ j u, news[j]? = some u → w.cell? (ad.add j) = some u) (h1 : ∀ u ∈ news, u.oneCell' = true) (hbd : (n + m) * by' ≤ 140737488355328) (hb63 : n + m ≤ 9223372036854775807) (hm : 0 < m) (hbase : base ≤ w.heap.size) (k : Nat) (hk : n + m = k)
    (h : ∀ g' cap' w', Hid (Own E c w' base (some ⟨g', 0, none⟩) cap' k (vs ++ news)) → Hid (Kept (At sa) w w') → Hid (At sa g' ∨ g' = w.heap.size) → wpList Try.prog ops Q rest (a.put o.dst (.slice (some ⟨g', 0, none⟩) k cap')) w') : wpList Try.prog ops Q (o :: rest) a w := by
  subst hk
  obtain ⟨i0, hi, hz0, hz1, hz2⟩ := info_parts hinf
  obtain ⟨v', w', hrun, r1, r2, _, r4⟩ := run_append_own_at (P := Try.prog) (w := w) base T o.type E i0 z c by' ht hi hz0 hz1 hz2 hzc hc0 (.slice sa n cap) n vs hown ad m cc news hl hnews h1 (by unfold maxLen; omega) hbd hbase
  have hk : Kept (At sa) w w' := (Kept.refl (At sa) w).grown r2 (fun k e hk => by
    cases sa with
    | none => cases e
    | some ad' => simp only [Value.ownBlock, Option.some.injEq] at e; exact ⟨ad', rfl, e⟩)
  rcases r1.2 with ⟨e, h0⟩ | ⟨g, cap', cur, e, _⟩
  · omega
  · subst e
    have h4 : At sa g ∨ g = w.heap.size := by
      rcases r4 with e | e
      · left
        cases sa with
        | none => simp [Value.ownBlock] at e
        | some ad' => simp only [Value.ownBlock, Option.some.injEq] at e; exact ⟨ad', rfl, e.symm⟩
      · right; simpa [Value.ownBlock] using e
    refine wp_runTo hg _ w' ?_ (h g cap' w' r1 hk h4)
    simp [execOp, ho, resolve, invoke, builtin, hs, hx, hrun, Result.andThen]

variable {α β : Type} {f : Option α → Value} {f' : Option β → Value} {T T' : TypeId}

/-- What lies apart by its type. -/
theorem box_far {W : World} {t b cap g ty : Nat} {a : Option Addr} {x : TS α} {cs : Array Value} (h : Tal T f W t b a cap x) (hb : Box W g ty cs) (hT : ty ≠ T) : ¬ Tb2 t b g := by
  rintro (rfl | rfl)
  · have := h.box
    unfold Box at this hb
    rw [this] at hb
    simp at hb
    exact hT hb.2.symm
  · obtain ⟨es, c, hm, _⟩ := h.map
    unfold Box at hb
    rw [hm] at hb
    cases hb
theorem own_far {W : World} {t b cap : Nat} {a : Option Addr} {x : TS α} {E c n₀ n cap' : Nat} {a' : Option Addr} {vs : List Value} (h : Tal T f W t b a cap x) (ho : Own E c W n₀ a' cap' n vs) (hT : E ≠ T) {k : Nat} (hk : At a' k) : ¬ Tb2 t b k := by
  rcases ho.2 with ⟨e, h0⟩ | ⟨g, cp, cur, e, _, hgb, _⟩
  · cases e; exact absurd hk At.none
  · cases e
    obtain ⟨ad, e1, rfl⟩ := hk
    cases e1
    exact box_far h (show Box W g E cur from hgb) hT
theorem tal_far {W : World} {t b cap t' b' cap' : Nat} {a a' : Option Addr} {x : TS α} {y : TS β} (h : Tal T f W t b a cap x) (h' : Tal T' f' W t' b' a' cap' y) (hT : T' ≠ T) (hb : b' ≠ b) {k : Nat} (hk : TB t' b' a' k) : ¬ Tb2 t b k := by
  rcases hk with rfl | rfl | hk
  · exact box_far h h'.box hT
  · rintro (e | e)
    · obtain ⟨es, c, hm, _⟩ := h'.map
      have := h.box
      unfold Box at this
      rw [← e, hm] at this
      cases this
    · exact hb e
  · exact own_far h h'.row (fun e => h.ty e.symm) hk
theorem at_lt {W : World} {E c n₀ n cap' : Nat} {a' : Option Addr} {vs : List Value} (ho : Own E c W n₀ a' cap' n vs) {k : Nat} (hk : At a' k) : n₀ ≤ k ∧ k < W.heap.size := by
  rcases ho.2 with ⟨e, h0⟩ | ⟨g, cp, cur, e, hb, hgb, _⟩
  · cases e; exact absurd hk At.none
  · cases e
    obtain ⟨ad, e1, rfl⟩ := hk
    cases e1
    exact ⟨hb, (Array.getElem?_eq_some_iff.1 hgb).1⟩
theorem own_ne {W : World} {E c n₀ n cap E' c' n₀' n' cap' : Nat} {a a' : Option Addr} {vs vs' : List Value} (ho : Own E c W n₀ a cap n vs) (ho' : Own E' c' W n₀' a' cap' n' vs') (hE : E ≠ E') {k : Nat} (hk : At a k) : ¬ At a' k := by
  intro hk'
  rcases ho.2 with ⟨e, h0⟩ | ⟨g, cp, cur, e, _, hgb, _⟩
  · cases e; exact absurd hk At.none
  · cases e
    obtain ⟨ad, e1, rfl⟩ := hk
    cases e1
    exact box_row (show Box W g E cur from hgb) hE ho' hk' rfl

/-- Nobody makes it enough. -/
theorem never {x : TS α} (h : (x.g.length : Int) < x.need) (hn : x.g.Nodup) (s : Int) : takeB x s = false := by
  unfold takeB
  cases hm : mayB x s
  · rfl
  · rw [Bool.true_and, decide_eq_false_iff_not]
    unfold mayB at hm
    simp only [Bool.and_eq_true, decide_eq_true_eq, Option.isNone_iff_eq_none] at hm
    obtain ⟨⟨h1, h2⟩, _⟩ := hm
    have hlt : cnt x < x.g.length := by
      have hle := cnt_le x
      rcases Nat.lt_or_ge (cnt x) x.g.length with h | h
      · exact h
      · exfalso
        have he : cnt x = x.g.length := by omega
        unfold cnt at he
        rw [List.countP_eq_length] at he
        have := he s h1
        rw [h2] at this
        simp at this
    omega
theorem may_iff {x : TS α} (h : (x.g.length : Int) < x.need) (s : Int) : mayB x s = (decide (s ∈ x.g) && (x.v s).isNone) := by
  have : enB x = false := by
    unfold enB
    rw [decide_eq_false_iff_not]
    have := cnt_le x
    omega
  unfold mayB
  rw [this]
  simp

def pN : ByteArray := ⟨#[112]⟩
def pr (b : Nat) : P.Pr := ⟨pN, some ⟨b, 0, none⟩, 2, 2⟩
def slV (b : Nat) : Value := .slice (some ⟨b, 0, none⟩) 2 2

/-- What the three hold. -/
structure Kf (g : List Int) (who : List Int) (ls : List Nat) (ts : Nat) (X : TS ByteArray) (Y : TS P.Pr) (Z : TS (Option Addr)) : Prop where
  gx : X.g = g
  gy : Y.g = g
  gz : Z.g = g
  nx : (g.length : Int) < X.need
  ny : (g.length : Int) < Y.need
  nz : (g.length : Int) < Z.need
  nd : g.Nodup
  len : ls.length = who.length
  le : who.length ≤ g.length
  cx : cnt X = who.length
  cy : cnt Y = who.length
  cz : cnt Z = who.length
  vx : ∀ n, (X.v n).isSome = true ↔ n ∈ who
  vy : ∀ n, (Y.v n).isSome = true ↔ n ∈ who
  vz : ∀ n, (Z.v n).isSome = true ↔ n ∈ who
  sx : ∀ n t, X.v n = some t → t.size = 1
  sy : ∀ n p, Y.v n = some p → ∃ (j b : Nat), who[j]? = some n ∧ ls[j]? = some b ∧ p = pr b ∧ ∀ i : Nat, i < j → who[i]? ≠ some n
  sz : ∀ n q, Z.v n = some q → q = some ⟨ts, 0, none⟩

theorem none_of {γ : Type} {o : Option γ} {p : Prop} (h : o.isSome = true ↔ p) (hp : ¬ p) : o = none := by
  cases o with
  | none => rfl
  | some x => exact absurd (h.1 rfl) hp

theorem Kf.put {g who : List Int} {ls : List Nat} {ts : Nat} {X : TS ByteArray} {Y : TS P.Pr} {Z : TS (Option Addr)} (h : Kf g who ls ts X Y Z) {s : Int} (hs : s ∈ g) (hw : s ∉ who) (t : ByteArray) (ht : t.size = 1) (b : Nat) :
    Kf g (who ++ [s]) (ls ++ [b]) ts (putS X s t) (putS Y s (pr b)) (putS Z s (some ⟨ts, 0, none⟩)) := by
  have c1 := cnt_put (v := t) (by rw [h.gx]; exact h.nd) (by rw [h.gx]; exact hs) (none_of (h.vx s) hw)
  have c2 := cnt_put (v := pr b) (by rw [h.gy]; exact h.nd) (by rw [h.gy]; exact hs) (none_of (h.vy s) hw)
  have c3 := cnt_put (v := (some ⟨ts, 0, none⟩ : Option Addr)) (by rw [h.gz]; exact h.nd) (by rw [h.gz]; exact hs) (none_of (h.vz s) hw)
  have hle := cnt_le (putS X s t)
  have hgx : (putS X s t).g = g := h.gx
  rw [hgx] at hle
  refine ⟨h.gx, h.gy, h.gz, h.nx, h.ny, h.nz, h.nd, by simp [h.len], by rw [c1, h.cx] at hle; simpa using hle, by rw [c1, h.cx]; simp, by rw [c2, h.cy]; simp, by rw [c3, h.cz]; simp, ?_, ?_, ?_, ?_, ?_, ?_⟩
  · intro n; unfold putS; simp only; by_cases e : n = s
    · simp [e]
    · simp [e, h.vx n]
  · intro n; unfold putS; simp only; by_cases e : n = s
    · simp [e]
    · simp [e, h.vy n]
  · intro n; unfold putS; simp only; by_cases e : n = s
    · simp [e]
    · simp [e, h.vz n]
  · intro n u hu; unfold putS at hu; simp only at hu; by_cases e : n = s
    · simp [e] at hu; rw [← hu]; exact ht
    · simp [e] at hu; exact h.sx n u hu
  · intro n u hu; unfold putS at hu; simp only at hu; by_cases e : n = s
    · simp [e] at hu
      refine ⟨who.length, b, by simp [e], by rw [← h.len]; simp, hu.symm, ?_⟩
      intro i hi he
      rw [List.getElem?_append_left hi] at he
      rw [e] at he
      exact hw (List.mem_of_getElem? he)
    · simp [e] at hu
      obtain ⟨j, b', h1, h2, h3, h4⟩ := h.sy n u hu
      have hj := (List.getElem?_eq_some_iff.1 h1).1
      have hj2 := (List.getElem?_eq_some_iff.1 h2).1
      refine ⟨j, b', by rw [List.getElem?_append_left hj, h1], by rw [List.getElem?_append_left hj2, h2], h3, ?_⟩
      intro i hi
      rw [List.getElem?_append_left (by omega)]
      exact h4 i hi
  · intro n u hu; unfold putS at hu; simp only at hu; by_cases e : n = s
    · simp [e] at hu; exact hu.symm
    · simp [e] at hu; exact h.sz n u hu

theorem Kf.start (zs : List Int) (n : Nat) (hn : zs.length = n) (ts : Nat) : Kf (uq zs) [] [] ts (tNew ByteArray zs ((n : Int) + 1)) (tNew P.Pr zs ((n : Int) + 1)) (tNew (Option Addr) zs ((n : Int) + 1)) := by
  have h1 := uq_len zs
  have h2 : ((uq zs).length : Int) < (n : Int) + 1 := by omega
  refine ⟨rfl, rfl, rfl, h2, h2, h2, uq_nodup zs, rfl, by simp, by rw [cnt_new]; rfl, by rw [cnt_new]; rfl, by rw [cnt_new]; rfl, ?_, ?_, ?_, ?_, ?_, ?_⟩
  all_goals intro n <;> simp [tNew]
end Gt
end Go.Proofs.Ytmhjbkpojndhkab
