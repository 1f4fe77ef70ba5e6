import Derived.Test.YtgiokkcdgoloaabMd
namespace Go.Proofs.Ytgiokkcdgoloaab
open Go.RowKit
set_option linter.unusedVariables false
set_option linter.unusedSimpArgs false

theorem Try.und58 : Try.prog.underlying 58 = some (.slice 73) := by kernel_rfl
theorem Try.info73 : (Try.prog.info? 73).map (fun i => (i.zero, i.size, i.bytes)) = some (some (.agg #[.int .i64 0, .bool false, .int .i64 0, .bool false, .int .i64 0, .int .i64 0, .int .i64 0, .int .i64 0, .int .i64 0, .int .i64 0, .int .i64 0, .int .i64 0, .int .i64 0, .int .i64 0, .int .i64 0, .slice none 0 0, .int .i64 0, .int .i64 0, .int .i64 0, .string ⟨#[]⟩, .int .i64 0, .int .i64 0, .int .i64 0, .int .i64 0, .int .i64 0, .int .i64 0, .slice none 0 0, .slice none 0 0, .slice none 0 0, .bool false]), 30, 312) := by kernel_rfl

/-- An append onto a row of the call's own, within a region that draws. -/
theorem step_appV {ops : Array Oper} {o : Oper} {a : Act} {w : World} {K : Act → World → Prop} {Q : Exit → Act → World → Prop} {EE : Prop} (hg : o.guard = none) (s x : Operand) (T E : TypeId) (c by' : Nat) (z : Value) (ht : Try.prog.underlying T = some (.slice E))
    (hinf : (Try.prog.info? E).map (fun i => (i.zero, i.size, i.bytes)) = some (some z, c, by')) (hzc : z.cells.size = c) (hc0 : 0 < c) (ho : o.op = .call { callee := Callee.builtin Builtin.append, args := #[s, x], argTypes := #[T, T] })
    (base n cap : Nat) (sa : Option Addr) (vs : List Value) (hs : a.eval s = .slice sa n cap) (hown : Own E c w base sa cap n vs) (ad : Addr) (m cc : Nat) (news : List Value) (hx : a.eval x = .slice (some ad) m cc) (hl : news.length = m * c) (hnews : ∀ j u, news[j]? = some u → w.cell? (ad.add j) = some u) (h1 : ∀ u ∈ news, u.oneCell' = true) (hbd : (n + m) * by' ≤ 140737488355328) (hb63 : n + m ≤ 9223372036854775807) (hm : 0 < m) (hbase : base ≤ w.heap.size) (k : Nat) (hk : n + m = k)
    (h : ∀ g' cap' w', Hid (Own E c w' base (some ⟨g', 0, none⟩) cap' k (vs ++ news)) → Hid (Kept (At sa) w w') → K (a.put o.dst (.slice (some ⟨g', 0, none⟩) k cap')) w') :
    if Region.wanted o (yielded ops a.tmps) = true then Oper.wp Try.prog o a w K Q else EE := by
  have hw : Region.wanted o (yielded ops a.tmps) = true := by simp [Region.wanted, hg]
  rw [if_pos hw]
  subst hk
  obtain ⟨i0, hi, hz0, hz1, hz2⟩ := info_parts hinf
  obtain ⟨v', w', hrun, r1, r2, _⟩ := run_append_own (P := Try.prog) w base T o.type E i0 z c by' ht hi hz0 hz1 hz2 hzc hc0 (.slice sa n cap) n vs hown ad m cc news hl hnews h1 (by unfold maxLen; omega) hbd hbase
  have hk : Kept (At sa) w w' := (Kept.refl (At sa) w).grown r2 (fun k e hk => by
    cases sa with
    | none => cases e
    | some ad' => simp only [Value.ownBlock, Option.some.injEq] at e; exact ⟨ad', rfl, e⟩)
  rcases r1.2 with ⟨e, h0⟩ | ⟨g, cap', cur, e, _⟩
  · omega
  · subst e
    unfold Oper.wp
    simp [execOp, ho, resolve, invoke, builtin, hs, hx, hrun, Result.andThen]
    exact h g cap' w' r1 hk

/-- A message that is told: to whom, and where its block lies. -/
structure Qm where
  sv : Int
  ba : Option Addr
  bc : Nat
/-- What all of them have in common. -/
structure Qh where
  kind : Int
  n : Int
  c : Int
  l : Nat
def msgC (x : MS) (h : Qh) (q : Qm) : List Value :=
  [.int .i64 h.kind, .bool true, .int .i64 x.cl, .bool false, .int .i64 q.sv, .int .i64 x.op, .int .i64 x.rd, .int .i64 x.k0, .int .i64 x.k1, .int .i64 x.k2, .int .i64 x.k3, .int .i64 h.n, .int .i64 h.c, .int .i64 0, .int .i64 0, .slice q.ba h.l q.bc, .int .i64 0, .int .i64 0, .int .i64 0, .string ⟨#[]⟩, .int .i64 0, .int .i64 0, .int .i64 0, .int .i64 0, .int .i64 0, .int .i64 0, .slice none 0 0, .slice none 0 0, .slice none 0 0, .bool false]
def msgsC (x : MS) (h : Qh) (qs : List Qm) : List Value := qs.flatMap (msgC x h)
theorem msgsC_len (x : MS) (h : Qh) (qs : List Qm) : (msgsC x h qs).length = qs.length * 30 := by
  unfold msgsC
  induction qs with
  | nil => rfl
  | cons q l ih => rw [List.flatMap_cons, List.length_append, ih]; simp [msgC]; omega
theorem msgsC_snoc (x : MS) (h : Qh) (qs : List Qm) (q : Qm) : msgsC x h (qs ++ [q]) = msgsC x h qs ++ msgC x h q := by
  unfold msgsC; rw [List.flatMap_append]; simp
theorem msgC_one (x : MS) (h : Qh) (q : Qm) : ∀ u ∈ msgC x h q, u.oneCell' = true := by
  intro u hu
  simp only [msgC, List.mem_cons, List.not_mem_nil, or_false] at hu
  rcases hu with h | h | h | h | h | h | h | h | h | h | h | h | h | h | h | h | h | h | h | h | h | h | h | h | h | h | h | h | h | h <;> subst h <;> rfl

/-- The messages as they lie: their blocks each in memory of its own. -/
structure Msgs (w : World) (base : Nat) (a : Option Addr) (cap : Nat) (x : MS) (h : Qh) (zs : List Int) (qs : List Qm) : Prop where
  row : Own 73 30 w base a cap qs.length (msgsC x h qs)
  own : ∀ q ∈ qs, OwnB w base q.ba q.bc zs
  ord : qs.Pairwise (fun p q => ∀ k, At p.ba k → ∀ j, At q.ba j → k < j)
  len : zs.length = h.l
theorem OwnB.lt {w : World} {base : Nat} {a : Option Addr} {cap : Nat} {zs : List Int} (h : OwnB w base a cap zs) {k : Nat} (hk : At a k) : k < w.heap.size := by
  rcases h.cases (by simp) with ⟨rfl, _⟩ | ⟨g, rfl, _, hlt, _⟩
  · exact absurd hk At.none
  · obtain ⟨ad, e, rfl⟩ := hk
    cases e; exact hlt
/-- Rows of unlike types lie apart. -/
theorem own_apart {t t' : TypeId} {c c' : Nat} {w : World} {b b' : Nat} {a a' : Option Addr} {cap cap' n n' : Nat} {vs vs' : List Value} (h : Own t c w b a cap n vs) (hl : vs.length = n * c) (h' : Own t' c' w b' a' cap' n' vs') (hl' : vs'.length = n' * c') (ht : t ≠ t') {k : Nat} (hk : At a k) : ¬ At a' k := by
  intro hk'
  rcases h.cases hl with ⟨rfl, _⟩ | ⟨g, rfl, _, _, sp, hg, _⟩
  · exact At.none hk
  · rcases h'.cases hl' with ⟨rfl, _⟩ | ⟨g', rfl, _, _, sp', hg', _⟩
    · exact At.none hk'
    · obtain ⟨ad, e, rfl⟩ := hk
      cases e
      obtain ⟨ad, e, e2⟩ := hk'
      cases e
      have e2 : g' = g := e2
      subst e2
      rw [hg] at hg'
      simp at hg'
      exact ht hg'.2
theorem Msgs.kept {S : Nat → Prop} {w w' : World} {base : Nat} {a : Option Addr} {cap : Nat} {x : MS} {h : Qh} {zs : List Int} {qs : List Qm} (hm : Msgs w base a cap x h zs qs) (hk : Kept S w w') (h1 : ∀ k, At a k → ¬ S k) (h2 : ∀ q ∈ qs, ∀ k, At q.ba k → ¬ S k) : Msgs w' base a cap x h zs qs :=
  ⟨hm.row.kept hk h1, fun q hq => (hm.own q hq).kept hk (h2 q hq), hm.ord, hm.len⟩
theorem Msgs.no {w w' : World} {base : Nat} {a : Option Addr} {cap : Nat} {x : MS} {h : Qh} {zs : List Int} {qs : List Qm} (hm : Msgs w base a cap x h zs qs) (hk : Kept No w w') : Msgs w' base a cap x h zs qs := hm.kept hk (fun _ _ e => e) (fun _ _ _ _ e => e)
theorem Msgs.lower {w : World} {base base' : Nat} {a : Option Addr} {cap : Nat} {x : MS} {h : Qh} {zs : List Int} {qs : List Qm} (hm : Msgs w base a cap x h zs qs) (hb : base' ≤ base) : Msgs w base' a cap x h zs qs :=
  ⟨hm.row.lower hb, fun q hq => Own.lower (hm.own q hq) hb, hm.ord, hm.len⟩

def AskOut (w : World) (x : MS) (h : Qh) (zs : List Int) (ss : List Int) (e : Ending) (w' : World) : Prop :=
  ∃ a cap qs, e = .returned (.slice a qs.length cap) ∧ qs.map Qm.sv = ss ∧ Msgs w' w.heap.size a cap x h zs qs ∧ Kept No w w'

end Go.Proofs.Ytgiokkcdgoloaab
