import Derived.Test.YthnecaejhnojfaaMd
namespace Go.Proofs.Ythnecaejhnojfaa
open Go.RowKit
set_option linter.unusedVariables false
set_option linter.unusedSimpArgs false

theorem Try.und71 : Try.prog.underlying 57 = some (.slice 52) := by kernel_rfl
theorem Try.info52 : (Try.prog.info? 52).map (fun i => (i.zero, i.size, i.bytes)) = some (some (.agg #[.int .i64 0, .bool false, .int .i64 0, .bool false, .int .i64 0, .int .i64 0, .int .i64 0, .int .i64 0, .int .i64 0, .int .i64 0, .int .i64 0, .int .i64 0, .int .i64 0, .int .i64 0, .int .i64 0, .slice none 0 0, .int .i64 0, .int .i64 0, .int .i64 0, .string ⟨#[]⟩, .int .i64 0, .int .i64 0, .int .i64 0, .int .i64 0, .int .i64 0, .int .i64 0, .slice none 0 0, .slice none 0 0, .slice none 0 0, .bool false]), 30, 312) := by kernel_rfl

/-- An append onto a row of the call's own, within a region that draws. -/
theorem step_appV {ops : Array Oper} {o : Oper} {a : Act} {w : World} {K : Act → World → Prop} {Q : Exit → Act → World → Prop} {EE : Prop} (hg : o.guard = none) (s x : Operand) (T E : TypeId) (c by' : Nat) (z : Value) (ht : Try.prog.underlying T = some (.slice E))
    (hinf : (Try.prog.info? E).map (fun i => (i.zero, i.size, i.bytes)) = some (some z, c, by')) (hzc : z.cells.size = c) (hc0 : 0 < c) (ho : o.op = .call { callee := Callee.builtin Builtin.append, args := #[s, x], argTypes := #[T, T] })
    (base n cap : Nat) (sa : Option Addr) (vs : List Value) (hs : a.eval s = .slice sa n cap) (hown : Own E c w base sa cap n vs) (ad : Addr) (m cc : Nat) (news : List Value) (hx : a.eval x = .slice (some ad) m cc) (hl : news.length = m * c) (hnews : ∀ j u, news[j]? = some u → w.cell? (ad.add j) = some u) (h1 : ∀ u ∈ news, u.oneCell' = true) (hbd : (n + m) * by' ≤ 140737488355328) (hb63 : n + m ≤ 9223372036854775807) (hm : 0 < m) (hbase : base ≤ w.heap.size) (k : Nat) (hk : n + m = k)
    (h : ∀ g' cap' w', Hid (Own E c w' base (some ⟨g', 0, none⟩) cap' k (vs ++ news)) → Hid (Kept (At sa) w w') → K (a.put o.dst (.slice (some ⟨g', 0, none⟩) k cap')) w') :
    if Region.wanted o (yielded ops a.tmps) = true then Oper.wp Try.prog o a w K Q else EE := by
  have hw : Region.wanted o (yielded ops a.tmps) = true := by simp [Region.wanted, hg]
  rw [if_pos hw]
  subst hk
  obtain ⟨i0, hi, hz0, hz1, hz2⟩ := info_parts hinf
  obtain ⟨v', w', hrun, r1, r2, _⟩ := run_append_own (P := Try.prog) w base T o.type E i0 z c by' ht hi hz0 hz1 hz2 hzc hc0 (.slice sa n cap) n vs hown ad m cc news hl hnews h1 (by unfold maxLen; omega) hbd hbase
  have hk : Kept (At sa) w w' := (Kept.refl (At sa) w).grown r2 (fun k e hk => by
    cases sa with
    | none => cases e
    | some ad' => simp only [Value.ownBlock, Option.some.injEq] at e; exact ⟨ad', rfl, e⟩)
  rcases r1.2 with ⟨e, h0⟩ | ⟨g, cap', cur, e, _⟩
  · omega
  · subst e
    unfold Oper.wp
    simp [execOp, ho, resolve, invoke, builtin, hs, hx, hrun, Result.andThen]
    exact h g cap' w' r1 hk

/-- A message that is told: to whom, and where its block lies. -/
structure Qm where
  sv : Int
  ba : Option Addr
  bc : Nat
/-- What all of them have in common. -/
structure Qh where
  kind : Int
  n : Int
  c : Int
  l : Nat
def msgC (x : MS) (h : Qh) (q : Qm) : List Value :=
  [.int .i64 h.kind, .bool true, .int .i64 x.cl, .bool false, .int .i64 q.sv, .int .i64 x.op, .int .i64 x.rd, .int .i64 x.k0, .int .i64 x.k1, .int .i64 x.k2, .int .i64 x.k3, .int .i64 h.n, .int .i64 h.c, .int .i64 0, .int .i64 0, .slice q.ba h.l q.bc, .int .i64 0, .int .i64 0, .int .i64 0, .string ⟨#[]⟩, .int .i64 0, .int .i64 0, .int .i64 0, .int .i64 0, .int .i64 0, .int .i64 0, .slice none 0 0, .slice none 0 0, .slice none 0 0, .bool false]
def msgsC (x : MS) (h : Qh) (qs : List Qm) : List Value := qs.flatMap (msgC x h)
theorem msgsC_len (x : MS) (h : Qh) (qs : List Qm) : (msgsC x h qs).length = qs.length * 30 := by
  unfold msgsC
  induction qs with
  | nil => rfl
  | cons q l ih => rw [List.flatMap_cons, List.length_append, ih]; simp [msgC]; omega
theorem msgsC_snoc (x : MS) (h : Qh) (qs : List Qm) (q : Qm) : msgsC x h (qs ++ [q]) = msgsC x h qs ++ msgC x h q := by
  unfold msgsC; rw [List.flatMap_append]; simp
theorem msgC_one (x : MS) (h : Qh) (q : Qm) : ∀ u ∈ msgC x h q, u.oneCell' = true := by
  intro u hu
  simp only [msgC, List.mem_cons, List.not_mem_nil, or_false] at hu
  rcases hu with h | h | h | h | h | h | h | h | h | h | h | h | h | h | h | h | h | h | h | h | h | h | h | h | h | h | h | h | h | h <;> subst h <;> rfl

/-- The messages as they lie: their blocks each in memory of its own. -/
structure Msgs (w : World) (base : Nat) (a : Option Addr) (cap : Nat) (x : MS) (h : Qh) (zs : List Int) (qs : List Qm) : Prop where
  row : Own 52 30 w base a cap qs.length (msgsC x h qs)
  own : ∀ q ∈ qs, OwnB w base q.ba q.bc zs
  ord : qs.Pairwise (fun p q => ∀ k, At p.ba k → ∀ j, At q.ba j → k < j)
  len : zs.length = h.l
theorem OwnB.lt {w : World} {base : Nat} {a : Option Addr} {cap : Nat} {zs : List Int} (h : OwnB w base a cap zs) {k : Nat} (hk : At a k) : k < w.heap.size := by
  rcases h.cases (by simp) with ⟨rfl, _⟩ | ⟨g, rfl, _, hlt, _⟩
  · exact absurd hk At.none
  · obtain ⟨ad, e, rfl⟩ := hk
    cases e; exact hlt
/-- Rows of unlike types lie apart. -/
theorem own_apart {t t' : TypeId} {c c' : Nat} {w : World} {b b' : Nat} {a a' : Option Addr} {cap cap' n n' : Nat} {vs vs' : List Value} (h : Own t c w b a cap n vs) (hl : vs.length = n * c) (h' : Own t' c' w b' a' cap' n' vs') (hl' : vs'.length = n' * c') (ht : t ≠ t') {k : Nat} (hk : At a k) : ¬ At a' k := by
  intro hk'
  rcases h.cases hl with ⟨rfl, _⟩ | ⟨g, rfl, _, _, sp, hg, _⟩
  · exact At.none hk
  · rcases h'.cases hl' with ⟨rfl, _⟩ | ⟨g', rfl, _, _, sp', hg', _⟩
    · exact At.none hk'
    · obtain ⟨ad, e, rfl⟩ := hk
      cases e
      obtain ⟨ad, e, e2⟩ := hk'
      cases e
      have e2 : g' = g := e2
      subst e2
      rw [hg] at hg'
      simp at hg'
      exact ht hg'.2
theorem Msgs.kept {S : Nat → Prop} {w w' : World} {base : Nat} {a : Option Addr} {cap : Nat} {x : MS} {h : Qh} {zs : List Int} {qs : List Qm} (hm : Msgs w base a cap x h zs qs) (hk : Kept S w w') (h1 : ∀ k, At a k → ¬ S k) (h2 : ∀ q ∈ qs, ∀ k, At q.ba k → ¬ S k) : Msgs w' base a cap x h zs qs :=
  ⟨hm.row.kept hk h1, fun q hq => (hm.own q hq).kept hk (h2 q hq), hm.ord, hm.len⟩
theorem Msgs.no {w w' : World} {base : Nat} {a : Option Addr} {cap : Nat} {x : MS} {h : Qh} {zs : List Int} {qs : List Qm} (hm : Msgs w base a cap x h zs qs) (hk : Kept No w w') : Msgs w' base a cap x h zs qs := hm.kept hk (fun _ _ e => e) (fun _ _ _ _ e => e)
theorem Msgs.lower {w : World} {base base' : Nat} {a : Option Addr} {cap : Nat} {x : MS} {h : Qh} {zs : List Int} {qs : List Qm} (hm : Msgs w base a cap x h zs qs) (hb : base' ≤ base) : Msgs w base' a cap x h zs qs :=
  ⟨hm.row.lower hb, fun q hq => Own.lower (hm.own q hq) hb, hm.ord, hm.len⟩

def AskOut (w : World) (x : MS) (h : Qh) (zs : List Int) (ss : List Int) (e : Ending) (w' : World) : Prop :=
  ∃ a cap qs, e = .returned (.slice a qs.length cap) ∧ qs.map Qm.sv = ss ∧ Msgs w' w.heap.size a cap x h zs qs ∧ Kept No w w'

end Go.Proofs.Ythnecaejhnojfaa
namespace Go.Proofs.Ythnecaejhnojfaa
open Go.RowKit
set_option linter.unusedVariables false
set_option linter.unusedSimpArgs false

theorem cell_newL (w : World) (cs : List Value) (t : TypeId) (j : Nat) (u : Value) (h : cs[j]? = some u) : (w.alloc (.cells cs.toArray t)).cell? ((⟨w.heap.size, 0, none⟩ : Addr).add j) = some u := by
  rw [addr_add, Nat.zero_add, (Box.new w t cs.toArray).cell]
  simpa using h

set_option maxRecDepth 100000 in
set_option maxHeartbeats 4000000 in
theorem ask_any (m : Nat) (a : Option Addr) (cap : Nat) (x : MS) (t : TypeId) (v : Value) (kind bn bc : Int) (ba : Option Addr) (bl bk : Nat) (zs : List Int) (sa : Option Addr) (sn scap : Nat) (ss : List Int) (w : World) (hM : Mach w m a cap x t v)
    (hz : zs.length = bl) (hbl : bl ≤ 140737488355328) (hb : Bytes w ba zs) (hs : ss.length = sn) (hsn : sn ≤ 400000000000) (hsb : Nums .i64 w sa ss) :
    Calls Try.prog 85 #[.pointer (some ⟨m, 0, none⟩), .int .i64 kind, .agg #[.int .i64 bn, .int .i64 bc, .slice ba bl bk], .slice sa sn scap] w (AskOut w x ⟨kind, bn, bc, bl⟩ zs ss) := by
  have HMc : Hid (∀ wr, Kept No w wr → wr.cell? ⟨m, 0, none⟩ = some (.bool true) ∧ wr.cell? ⟨m, 1, none⟩ = some (.int .i64 x.cl) ∧ wr.cell? ⟨m, 2, none⟩ = some (.int .i64 x.op) ∧ wr.cell? ⟨m, 3, none⟩ = some (.int .i64 x.k0) ∧ wr.cell? ⟨m, 4, none⟩ = some (.int .i64 x.k1) ∧ wr.cell? ⟨m, 5, none⟩ = some (.int .i64 x.k2) ∧ wr.cell? ⟨m, 6, none⟩ = some (.int .i64 x.k3) ∧ wr.cell? ⟨m, 8, none⟩ = some (.int .i64 x.rd)) := fun wr hk => by
    have hB := hM.box.kept hk (fun e => e)
    exact ⟨hB.cell 0, hB.cell 1, hB.cell 2, hB.cell 3, hB.cell 4, hB.cell 5, hB.cell 6, hB.cell 8⟩
  have HB : Hid (Bytes w ba zs) := hb
  have HZ : Hid (zs.length = bl) := hz
  have HS : Hid (ss.length = sn) := hs
  have HSB : Hid (Nums .i64 w sa ss) := hsb
  clear hM hb hz hs hsb
  obtain ⟨w1, hw1⟩ : ∃ w1, w1 = w.alloc (.cells #[.int .i64 bn, .int .i64 bc, .slice ba bl bk] 144) := ⟨_, rfl⟩
  have HK1 : Hid (Kept No w w1) := by rw [hw1]; exact (Kept.refl No w).alloc _
  obtain ⟨N, hN⟩ : ∃ N, N = w.heap.size := ⟨_, rfl⟩
  have HX1 : Hid (∀ wr, Kept No w1 wr → wr.cell? ⟨N, 0, none⟩ = some (.int .i64 bn) ∧ wr.cell? ⟨N, 1, none⟩ = some (.int .i64 bc) ∧ wr.cell? ⟨N, 2, none⟩ = some (.slice ba bl bk)) := fun wr hk => by
    have hX : Box w1 w.heap.size 144 #[.int .i64 bn, .int .i64 bc, .slice ba bl bk] := by rw [hw1]; exact Box.new _ _ _
    have hX := hX.kept hk (fun e => e)
    rw [hN]
    exact ⟨hX.cell 0, hX.cell 1, hX.cell 2⟩
  have HN : Hid (N = w.heap.size) := hN
  go_enter Try.func85, Try.ntmps85
  go_wp2
  rw [← hw1, ← hN]
  clear hw1 hN
  go_loopw [9, 14] (fun vl vi wr => ∃ (k : Nat) (a' : Option Addr) (cap' : Nat), vi = .int .i64 k ∧ k ≤ sn ∧ vl = .slice a' k cap' ∧ Hid (∃ qs, qs.length = k ∧ qs.map Qm.sv = ss.take k ∧ Msgs wr w1.heap.size a' cap' x ⟨kind, bn, bc, bl⟩ zs qs) ∧ Hid (Kept No w1 wr)) (fun _ i _ => sn - (intOf i).toNat)
  case atStart => exact ⟨0, none, 0, by go_num, by omega, rfl, ⟨[], rfl, by simp, ⟨by simpa [msgsC] using Own.nil _ _ _ _, by simp, by simp, HZ.out⟩⟩, Kept.refl _ _⟩
  case round =>
    obtain ⟨k, a', cap', rfl, hk, rfl, HI, HK⟩ := hrel
    by_cases hlt : k < sn
    · have hlt' : (k : Int) < (sn : Int) := by omega
      obtain ⟨bb, off, rfl, hcell⟩ := (HSB.out.no (HK1.out.then HK.out)) k (by rw [HS.out]; exact hlt)
      have HTk : Hid (ss.take (k + 1) = ss.take k ++ [ss[k]?.getD 0]) := take_snoc (by rw [HS.out]; exact hlt)
      generalize ss[k]?.getD 0 = z at hcell HTk
      obtain ⟨m0, m1, m2, m3, m4, m5, m6, m8⟩ := HMc.out wr (HK1.out.then HK.out)
      obtain ⟨x0, x1, x2⟩ := HX1.out wr HK.out
      go_upto_region 5 with fail
      have HKr : Hid (Kept No w1 wr.drew) := HK.out.drew
      go_region_held3 (fun w' => w'.cell? ⟨m, 0, none⟩ = some (.bool true) ∧ w'.cell? ⟨m, 1, none⟩ = some (.int .i64 x.cl) ∧ w'.cell? ⟨m, 2, none⟩ = some (.int .i64 x.op) ∧ w'.cell? ⟨m, 3, none⟩ = some (.int .i64 x.k0) ∧ w'.cell? ⟨m, 4, none⟩ = some (.int .i64 x.k1) ∧ w'.cell? ⟨m, 5, none⟩ = some (.int .i64 x.k2) ∧ w'.cell? ⟨m, 6, none⟩ = some (.int .i64 x.k3) ∧ w'.cell? ⟨m, 8, none⟩ = some (.int .i64 x.rd) ∧ w'.cell? ⟨N, 0, none⟩ = some (.int .i64 bn) ∧ w'.cell? ⟨N, 1, none⟩ = some (.int .i64 bc) ∧ w'.cell? ⟨N, 2, none⟩ = some (.slice ba bl bk)) (go_keep) (first
        | (go_at_call 32
           refine Calls.mono (clone_any ba bl bk zs wr.drew HZ.out hbl (HB.out.no (HK1.out.then HKr.out))) ?_
           rintro e w2 ⟨da, dc, rfl, hO2, hk2, _, _⟩
           have HO2 : Hid (OwnB w2 wr.heap.size da dc zs) := hO2
           have HK2 : Hid (Kept No wr w2) := (Kept.refl No wr).drew.then hk2
           rw [HZ.out]
           have HKw2 : Hid (Kept No w1 w2) := HK.out.then HK2.out
           obtain ⟨n0, n1, n2, n3, n4, n5, n6, n8⟩ := HMc.out w2 (HK1.out.then HKw2.out)
           obtain ⟨y0, y1, y2⟩ := HX1.out w2 HKw2.out
           clear hO2 hk2)
        | (obtain ⟨qs, hq1, hq2, hq3⟩ := HI.out
           refine step_appV rfl _ _ 57 52 30 312 _ Try.und71 Try.info52 rfl (by omega) rfl w1.heap.size k cap' a' (msgsC x ⟨kind, bn, bc, bl⟩ qs) (by simp [Act.eval]) (by rw [← hq1]; exact hq3.row.no (HK2.out.alloc _)) ⟨w2.heap.size, 0, none⟩ 1 1 (msgC x ⟨kind, bn, bc, bl⟩ ⟨z, da, dc⟩) (by simp [Act.eval]) rfl (cell_newL _ _ _) (msgC_one _ _ _) (by omega) (by omega) (by omega) (by have := HKw2.out.size; simp; omega) (k + 1) rfl ?_
           intro g' cap'' w4 HO4 HK4
           have HQ4 : Hid (∃ qs, qs.length = k + 1 ∧ qs.map Qm.sv = ss.take (k + 1) ∧ Msgs w4 w1.heap.size (some ⟨g', 0, none⟩) cap'' x ⟨kind, bn, bc, bl⟩ zs qs) := by
             have hap : ∀ q : Qm, OwnB wr w1.heap.size q.ba q.bc zs → ∀ j, At q.ba j → ¬ At a' j := fun q hq j hj => own_apart hq (by simp) hq3.row (msgsC_len _ _ _) (by decide) hj
             refine ⟨qs ++ [⟨z, da, dc⟩], by simp [hq1], by rw [HTk.out, List.map_append, hq2]; rfl, ⟨?_, ?_, ?_, hq3.len⟩⟩
             · rw [msgsC_snoc]
               simpa [hq1] using HO4.out
             · intro q hq
               rw [List.mem_append] at hq
               rcases hq with hq | hq
               · exact ((hq3.own q hq).no (HK2.out.alloc _)).kept HK4.out (hap q (hq3.own q hq))
               · rw [List.mem_singleton] at hq
                 subst hq
                 have := (Own.lower HO2.out HK.out.size).no ((Kept.refl No w2).alloc (.cells (msgC x ⟨kind, bn, bc, bl⟩ ⟨z, da, dc⟩).toArray 52))
                 exact Own.kept this HK4.out (fun j hj => own_apart this (by simp) (hq3.row.no (HK2.out.alloc _)) (msgsC_len _ _ _) (by decide) hj)
             · rw [List.pairwise_append]
               refine ⟨hq3.ord, by simp, fun p hp q hq => ?_⟩
               rw [List.mem_singleton] at hq
               subst hq
               intro i hi j hj
               exact Nat.lt_of_lt_of_le (OwnB.lt (hq3.own p hp) hi) (HO2.out.base hj)
           have HKw4 : Hid (Kept No w1 w4) := (HKw2.out.alloc _).trans HK4.out (fun _ e => e) (fun i hi e => by have := hq3.row.base e; omega)
           obtain ⟨p0, p1, p2, p3, p4, p5, p6, p8⟩ := HMc.out w4 (HK1.out.then HKw4.out)
           obtain ⟨z0, z1, z2⟩ := HX1.out w4 HKw4.out
           clear HO4 HK4 hq1 hq2 hq3))
      go_wp2
      go_roundw
      case rel => exact ⟨k + 1, some ⟨g', 0, none⟩, cap'', by go_num, by omega, rfl, HQ4, HKw4⟩
      case measure => simp [intOf]; omega
    · have hlt' : ¬ (k : Int) < (sn : Int) := by omega
      obtain rfl : k = sn := by omega
      go_wp2
      go_ret
      obtain ⟨qs, hq1, hq2, hq3⟩ := HI.out
      exact ⟨a', cap', qs, congrArg (fun n => Ending.returned (.slice a' n cap')) hq1.symm, by rw [hq2, List.take_of_length_le (by rw [HS.out]; omega)], hq3.lower HK1.out.size, HK1.out.then HK.out⟩

end Go.Proofs.Ythnecaejhnojfaa
namespace Go.Proofs.Ythnecaejhnojfaa
open Go.RowKit
set_option linter.unusedVariables false
set_option linter.unusedSimpArgs false

theorem uq_gen2 (l : List Int) : ∀ acc : List Int, (acc ++ l).Nodup → l.foldl (fun acc n => if n ∈ acc then acc else acc ++ [n]) acc = acc ++ l := by
  induction l with
  | nil => intro acc _; simp
  | cons n l ih =>
    intro acc h
    rw [List.foldl_cons]
    have hn : n ∉ acc := fun e => by
      rw [List.nodup_append] at h
      exact h.2.2 n e n (by simp) rfl
    rw [if_neg hn, ih (acc ++ [n]) (by simpa using h)]
    simp
theorem uq_self {l : List Int} (h : l.Nodup) : uq l = l := by
  have := uq_gen2 l [] (by simpa using h)
  simpa [uq] using this

theorem missL_len {α : Type} (x : TS α) : (missL x).length ≤ x.g.length := List.length_filter_le _ _

set_option maxRecDepth 100000 in
set_option maxHeartbeats 2000000 in
theorem tickA_any (m : Nat) (a : Option Addr) (cap : Nat) (x : MS) (t : TypeId) (v : Value) (ai : TypeId) (av : Value) (tb bb ct : Nat) (at' : Option Addr) (X : TS Bk) (w : World) (hM : Mach w m a cap x t v) (hT : Tal 149 ansB w tb bb at' ct X) (hl : X.g.length ≤ 400000000000) :
    Calls Try.prog 82 #[.agg #[.iface ai av, .pointer (some ⟨tb, 0, none⟩)], .pointer (some ⟨m, 0, none⟩)] w (AskOut w x ⟨1, 0, 0, 0⟩ [] (missL X)) := by
  have HM : Hid (Mach w m a cap x t v) := hM
  have HT : Hid (Tal 149 ansB w tb bb at' ct X) := hT
  have HL : Hid (X.g.length ≤ 400000000000) := hl
  clear hM hT hl
  obtain ⟨w1, hw1⟩ : ∃ w1, w1 = w.alloc (.cells #[.iface ai av, .pointer (some ⟨tb, 0, none⟩)] 146) := ⟨_, rfl⟩
  have HK1 : Hid (Kept No w w1) := by rw [hw1]; exact (Kept.refl No w).alloc _
  go_enter Try.func82, Try.ntmps82
  go_wp2_with (first
    | (go_at_call 79
       rw [← hw1]
       refine Calls.mono (missing_anyB tb bb ct at' X w1 (HT.out.no HK1.out)) ?_
       rintro e w2 ⟨a2, c2, rfl, hO2, hk2⟩
       have HO2 : Hid (Own 3 1 w2 w1.heap.size a2 c2 (missL X).length ((missL X).map (Value.int .i64))) := hO2
       have HK2 : Hid (Kept No w w2) := HK1.out.then hk2
       have HL2 : Hid ((missL X).length ≤ 400000000000) := Nat.le_trans (missL_len X) HL.out
       clear hO2 hk2 hw1)
    | (go_at_call 85
       refine Calls.mono (ask_any m a cap x t v 1 0 0 none 0 0 [] a2 (missL X).length c2 (missL X) w2 (HM.out.no HK2.out) rfl (by omega) (Nums.nil _ _ _) rfl HL2.out (HO2.out.nums rfl)) ?_
       rintro e w3 ⟨a3, c3, qs, rfl, hq, hm3, hk3⟩
       have HQ : Hid (qs.map Qm.sv = missL X) := hq
       have HM3 : Hid (Msgs w3 w2.heap.size a3 c3 x ⟨1, 0, 0, 0⟩ [] qs) := hm3
       have HK3 : Hid (Kept No w w3) := HK2.out.then hk3
       clear hq hm3 hk3))
  go_ret
  exact ⟨a3, c3, qs, rfl, HQ.out, HM3.out.lower HK2.out.size, HK3.out⟩

theorem Mach.setPhase {w : World} {m cap : Nat} {a : Option Addr} {x : MS} {t : TypeId} {v : Value} (h : Mach w m a cap x t v) (t' : TypeId) (v' : Value) : Mach (w.setCell ⟨m, 9, none⟩ (.iface t' v')) m a cap x t' v' := by
  refine ⟨?_, h.row.kept ((Kept.refl (Only m) w).setCell (p := ⟨m, 9, none⟩) (fun _ => rfl) _) (fun k hk e => h.off hk e), h.nd, h.len⟩
  have := h.box.set 9 (.iface t' v')
  exact this

theorem meth_tickA (a1 a2 : Value) (w : World) : (method 277 146 (.agg #[a1, a2]) "cairn/register.tick").run Try.prog w = .ok (82, .agg #[a1, a2]) w := by kernel_rfl

def EnterOut (w : World) (m : Nat) (a : Option Addr) (cap : Nat) (x : MS) (t : TypeId) (v : Value) (h : Qh) (zs ss : List Int) (e : Ending) (w' : World) : Prop :=
  ∃ a' cap' qs, e = .returned (.slice a' qs.length cap') ∧ qs.map Qm.sv = ss ∧ Msgs w' w.heap.size a' cap' x h zs qs ∧ Mach w' m a cap x t v ∧ Kept (Only m) w w'

set_option maxRecDepth 100000 in
set_option maxHeartbeats 2000000 in
theorem enterA_any (m : Nat) (a : Option Addr) (cap : Nat) (x : MS) (t : TypeId) (v : Value) (ai : TypeId) (av : Value) (tb bb ct : Nat) (at' : Option Addr) (X : TS Bk) (w : World) (hM : Mach w m a cap x t v) (hT : Tal 149 ansB w tb bb at' ct X) (hl : X.g.length ≤ 400000000000) (hd : ¬ TB tb bb at' m) :
    Calls Try.prog 72 #[.pointer (some ⟨m, 0, none⟩), .iface 146 (.agg #[.iface ai av, .pointer (some ⟨tb, 0, none⟩)])] w (EnterOut w m a cap x 146 (.agg #[.iface ai av, .pointer (some ⟨tb, 0, none⟩)]) ⟨1, 0, 0, 0⟩ [] (missL X)) := by
  have c9 := hM.box.cell 9
  have f9 := hM.box.frozen 9
  simp only [mC, List.getElem?_toArray, List.getElem?_cons_zero, List.getElem?_cons_succ] at c9
  obtain ⟨w1, hw1⟩ : ∃ w1, w1 = w.setCell ⟨m, 9, none⟩ (.iface 146 (.agg #[.iface ai av, .pointer (some ⟨tb, 0, none⟩)])) := ⟨_, rfl⟩
  have HM1 : Hid (Mach w1 m a cap x 146 (.agg #[.iface ai av, .pointer (some ⟨tb, 0, none⟩)])) := by rw [hw1]; exact hM.setPhase _ _
  have HK1 : Hid (Kept (Only m) w w1) := by rw [hw1]; exact (Kept.refl (Only m) w).setCell (p := ⟨m, 9, none⟩) (fun _ => rfl) _
  have HT1 : Hid (Tal 149 ansB w1 tb bb at' ct X) := hT.kept HK1.out (fun k hk e => hd (by have : k = m := e; rw [← this]; exact hk))
  have HL : Hid (X.g.length ≤ 400000000000) := hl
  clear hM hT hl hd
  have hm := meth_tickA
  go_enter Try.func72, Try.ntmps72
  go_wp2_with (go_at_call 82
               rw [← hw1]
               refine Calls.mono (tickA_any m a cap x _ _ ai av tb bb ct at' X w1 HM1.out HT1.out HL.out) ?_
               rintro e w3 ⟨a3, c3, qs, rfl, hq, hm3, hk3⟩
               have HQ : Hid (qs.map Qm.sv = missL X) := hq
               have HQ3 : Hid (Msgs w3 w.heap.size a3 c3 x ⟨1, 0, 0, 0⟩ [] qs) := hm3.lower HK1.out.size
               have HM3 : Hid (Mach w3 m a cap x 146 (.agg #[.iface ai av, .pointer (some ⟨tb, 0, none⟩)])) := HM1.out.no hk3
               have HK3 : Hid (Kept (Only m) w w3) := HK1.out.then hk3.of_no
               clear hq hm3 hk3 hw1)
  go_ret
  exact ⟨a3, c3, qs, rfl, HQ.out, HQ3.out, HM3.out, HK3.out⟩

def needI (x : MS) : Int := (x.g.length : Int) / 2 + 1

set_option maxRecDepth 100000 in
theorem need_any (m : Nat) (a : Option Addr) (cap : Nat) (x : MS) (t : TypeId) (v : Value) (w : World) (hM : Mach w m a cap x t v) :
    Calls Try.prog 75 #[.pointer (some ⟨m, 0, none⟩)] w (fun e w' => e = .returned (.int .i64 (needI x)) ∧ w' = w) := by
  have c7 := hM.box.cell 7
  simp only [mC, List.getElem?_toArray, List.getElem?_cons_zero, List.getElem?_cons_succ] at c7
  have hl := hM.len
  have HN : Hid (needI x = (x.g.length : Int) / 2 + 1) := rfl
  generalize needI x = N at HN
  generalize x.g.length = n at c7 hl HN
  clear hM
  go_enter Try.func75, Try.ntmps75
  go_wp2
  go_ret
  refine ⟨ret_int ?_, rfl⟩
  rw [HN.out]
end Go.Proofs.Ythnecaejhnojfaa
namespace Go.Proofs.Ythnecaejhnojfaa
open Go.RowKit
set_option linter.unusedVariables false
set_option linter.unusedSimpArgs false

def BeginOut (w : World) (m : Nat) (a : Option Addr) (cap : Nat) (x : MS) (ai : TypeId) (av : Value) (e : Ending) (w' : World) : Prop :=
  ∃ a' cap' qs tb bb at' ct, e = .returned (.slice a' qs.length cap') ∧ qs.map Qm.sv = x.g ∧ Msgs w' w.heap.size a' cap' x ⟨1, 0, 0, 0⟩ [] qs ∧ Mach w' m a cap x 146 (.agg #[.iface ai av, .pointer (some ⟨tb, 0, none⟩)]) ∧ Tal 149 ansB w' tb bb at' ct (tNew Bk x.g (needI x)) ∧ (∀ k, TB tb bb at' k → w.heap.size ≤ k) ∧ Kept (Only m) w w'

set_option maxRecDepth 100000 in
set_option maxHeartbeats 4000000 in
theorem begin0_any (m : Nat) (a : Option Addr) (cap : Nat) (x : MS) (t : TypeId) (v : Value) (ai : TypeId) (av : Value) (w : World) (hM : Mach w m a cap x t v) (hr0 : 1 ≤ x.rd) (hr1 : x.rd ≤ 1099511627776) (hl : x.g.length ≤ 400000000000) :
    Calls Try.prog 71 #[.agg #[.iface ai av], .pointer (some ⟨m, 0, none⟩)] w (BeginOut w m a cap x ai av) := by
  obtain ⟨w1, hw1⟩ : ∃ w1, w1 = w.alloc (.cells #[.iface ai av] 105) := ⟨_, rfl⟩
  have HK1 : Hid (Kept No w w1) := by rw [hw1]; exact (Kept.refl No w).alloc _
  obtain ⟨N, hN⟩ : ∃ N, N = w.heap.size := ⟨_, rfl⟩
  have HX1 : Hid (∀ wr, Kept No w1 wr → wr.cell? ⟨N, 0, none⟩ = some (.iface ai av)) := fun wr hk => by
    have hX : Box w1 w.heap.size 105 #[.iface ai av] := by rw [hw1]; exact Box.new _ _ _
    have hX := hX.kept hk (fun e => e)
    rw [hN]
    exact hX.cell 0
  have HM : Hid (∀ wr, Kept No w1 wr → Mach wr m a cap x t v) := fun wr hk => hM.no (HK1.out.then hk)
  have HL : Hid (x.g.length ≤ 400000000000) := hl
  have HNd : Hid x.g.Nodup := hM.nd
  have HMl : Hid (m < w.heap.size) := hM.box.lt
  have HMc : Hid (∀ wr, Kept No w1 wr → wr.cell? ⟨m, 7, none⟩ = some (.slice a x.g.length cap) ∧ wr.cell? ⟨m, 8, none⟩ = some (.int .i64 x.rd)) := fun wr hk => by
    have hB := (HM.out wr hk).box
    exact ⟨hB.cell 7, hB.cell 8⟩
  obtain ⟨c7, c8⟩ := HMc.out w1 (Kept.refl _ _)
  have x0 := HX1.out w1 (Kept.refl _ _)
  obtain ⟨r, hr⟩ : ∃ r, r = x.rd := ⟨_, rfl⟩
  have HR : Hid (r = x.rd) := hr
  rw [← hr] at c8 hr0 hr1
  rw [hw1] at c7 c8
  have h0 : ¬ (r < 1) := by omega
  have h1 : ¬ (r > 1099511627776) := by omega
  clear hM hl hr
  go_enter Try.func71, Try.ntmps71
  go_upto_region 3 with fail
  rw [← hw1, ← hN]
  rw [← hw1] at c7 c8
  have HNN : Hid (N = w.heap.size) := hN
  clear hw1 hN
  have HKr : Hid (Kept No w1 w1.drew) := (Kept.refl No w1).drew
  go_region_held3 (fun w' => w'.cell? ⟨N, 0, none⟩ = some (.iface ai av) ∧ w'.cell? ⟨m, 7, none⟩ = some (.slice a x.g.length cap)) (go_keep) (first
    | (go_at_call 75
       refine Calls.mono (need_any m a cap x t v w1.drew (HM.out _ HKr.out)) ?_
       rintro e w2 ⟨rfl, rfl⟩)
    | (go_at_call 74
       refine Calls.mono (new_anyB a x.g.length cap x.g (needI x) w1.drew rfl (by have := HL.out; omega) ((HM.out _ HKr.out).row.nums rfl)) ?_
       rintro e w2 ⟨at', ct, rfl, hT2, hf2, hk2⟩
       have hf2' : ∀ k, TB (w1.drew.heap.size + 1) w1.drew.heap.size at' k → w1.drew.heap.size ≤ k := by
         rintro k (rfl | rfl | hk)
         · omega
         · omega
         · exact hf2 k hk
       clear hf2
       have hsz : w1.drew.heap.size = w1.heap.size := rfl
       generalize w1.drew.heap.size + 1 = tb at hT2 hf2' ⊢
       generalize w1.drew.heap.size = bb at hT2 hf2' hsz ⊢
       have HT2 : Hid (Tal 149 ansB w2 tb bb at' ct (tNew Bk x.g (needI x))) := hT2
       have HF2 : Hid (∀ k, TB tb bb at' k → w1.heap.size ≤ k) := by rw [← hsz]; exact hf2'
       have HK2 : Hid (Kept No w1 w2) := HKr.out.then hk2
       have y0 := HX1.out w2 HK2.out
       obtain ⟨d7, d8⟩ := HMc.out w2 HK2.out
       clear hT2 hf2' hk2 hsz d8)
    | (go_at_call 72
       refine Calls.mono (enterA_any m a cap x t v ai av tb bb ct at' (tNew Bk x.g (needI x)) w2 (HM.out _ HK2.out) HT2.out (by show (uq x.g).length ≤ _; have := uq_len x.g; have := HL.out; omega) (fun e => by have := HF2.out m e; have := HMl.out; have := HK1.out.size; omega)) ?_
       rw [missL_new, uq_self HNd.out]
       rintro e w3 ⟨a3, c3, qs, rfl, hq, hm3, hM3, hk3⟩
       have HQ : Hid (qs.map Qm.sv = x.g) := hq
       have HQ3 : Hid (Msgs w3 w.heap.size a3 c3 x ⟨1, 0, 0, 0⟩ [] qs) := hm3.lower (HK1.out.then HK2.out).size
       have HM3 : Hid (Mach w3 m a cap x 146 (.agg #[.iface ai av, .pointer (some ⟨tb, 0, none⟩)])) := hM3
       have HT3 : Hid (Tal 149 ansB w3 tb bb at' ct (tNew Bk x.g (needI x))) := HT2.out.kept hk3 (fun k hk e => by have := HF2.out k hk; have := HMl.out; have := HK1.out.size; have : k = m := e; omega)
       have HK3 : Hid (Kept (Only m) w w3) := (HK1.out.then HK2.out).of_no.then hk3
       have z0 : w3.cell? ⟨N, 0, none⟩ = some (.iface ai av) := hk3.cell y0 (fun e => by have : N = m := e; have := HNN.out; have := HMl.out; omega)
       have z7 : w3.cell? ⟨m, 7, none⟩ = some (.slice a x.g.length cap) := hM3.box.cell 7
       clear hq hm3 hM3 hk3))
  go_wp2
  go_ret
  exact ⟨a3, c3, qs, tb, bb, at', ct, rfl, HQ.out, HQ3.out, HM3.out, HT3.out, fun k hk => Nat.le_trans HK1.out.size (HF2.out k hk), HK3.out⟩

theorem meth_begin0 (a1 : Value) (w : World) : (method 277 105 (.agg #[a1]) "cairn/register.begin").run Try.prog w = .ok (71, .agg #[a1]) w := by kernel_rfl
theorem meth_doneA (a1 a2 : Value) (w : World) : (method 277 146 (.agg #[a1, a2]) "cairn/register.done").run Try.prog w = .ok (68, .agg #[]) w := by kernel_rfl
theorem meth_Begin (p : Option Addr) (w : World) : (method 277 84 (.pointer p) "Begin").run Try.prog w = .ok (58, .pointer p) w := by kernel_rfl
theorem meth_Done (p : Option Addr) (w : World) : (method 277 84 (.pointer p) "Done").run Try.prog w = .ok (59, .pointer p) w := by kernel_rfl
theorem meth_Round (p : Option Addr) (w : World) : (method 277 84 (.pointer p) "Round").run Try.prog w = .ok (60, .pointer p) w := by kernel_rfl
set_option maxRecDepth 100000 in
set_option maxHeartbeats 2000000 in
theorem begin_any (m : Nat) (a : Option Addr) (cap : Nat) (x : MS) (ai : TypeId) (av : Value) (w : World) (hM : Mach w m a cap x 105 (.agg #[.iface ai av])) (hr0 : 1 ≤ x.rd) (hr1 : x.rd ≤ 1099511627776) (hl : x.g.length ≤ 400000000000) :
    Calls Try.prog 58 #[.pointer (some ⟨m, 0, none⟩)] w (BeginOut w m a cap x ai av) := by
  have HM : Hid (Mach w m a cap x 105 (.agg #[.iface ai av])) := hM
  have c9 := hM.box.cell 9
  simp only [mC, List.getElem?_toArray, List.getElem?_cons_zero, List.getElem?_cons_succ] at c9
  have HR : Hid (1 ≤ x.rd ∧ x.rd ≤ 1099511627776) := ⟨hr0, hr1⟩
  have HL : Hid (x.g.length ≤ 400000000000) := hl
  clear hM hr0 hr1 hl
  have hm := meth_begin0
  go_enter Try.func58, Try.ntmps58
  go_wp2_with (go_at_call 71
               refine Calls.mono (begin0_any m a cap x _ _ ai av w HM.out HR.out.1 HR.out.2 HL.out) ?_
               rintro e w3 ⟨a3, c3, qs, tb, bb, at', ct, rfl, hO⟩
               have HO : Hid _ := hO
               clear hO)
  go_ret
  exact ⟨a3, c3, qs, tb, bb, at', ct, rfl, HO.out⟩

end Go.Proofs.Ythnecaejhnojfaa
namespace Go.Proofs.Ythnecaejhnojfaa
open Go.RowKit
set_option linter.unusedVariables false
set_option linter.unusedSimpArgs false

theorem results_row_tmp {fn : Func} {p u : Tmp} {t : TypeId} (h : fn.results = #[.cell p t, .tmp u]) (tmps : Array Value) (w : World) (g : Nat) (cs : Array Value) (hp : tmps.getD p undef = .pointer (some ⟨g, 0, none⟩)) (hrun : (loadVar t ⟨g, 0, none⟩).run Try.prog w = .ok (.agg cs) w) :
    (results fn tmps).run Try.prog w = .ok (.tuple #[.agg cs, tmps.getD u undef]) w := by
  rw [results_cell_tmp h, hp]
  simp [asAddr, hrun, Result.andThen]
theorem Try.size90 : (Try.prog.info? 72).map (·.size) = some 11 := by kernel_rfl
theorem Try.size57 : (Try.prog.info? 144).map (·.size) = some 3 := by kernel_rfl
theorem load90_run {w : World} {g : Nat} {cs : Array Value} (hb : Box w g 72 cs) (hl : cs.size = 11) : (loadVar 72 ⟨g, 0, none⟩).run Try.prog w = .ok (.agg cs) w :=
  run_loadVar_row w g 72 72 cs (0, 0) _ hb Try.underlying72 rfl (by rw [hl]; exact Try.size90)
theorem load57_run {w : World} {g : Nat} {cs : Array Value} (hb : Box w g 144 cs) (hl : cs.size = 3) : (loadVar 144 ⟨g, 0, none⟩).run Try.prog w = .ok (.agg cs) w :=
  run_loadVar_row w g 144 144 cs (0, 0) _ hb Try.underlying144 rfl (by rw [hl]; exact Try.size57)

theorem Box.setRow {w : World} {g : Nat} {t : TypeId} {old : Array Value} (h : Box w g t old) (cs : Array Value) : Box (w.setRow g cs) g t cs := setRow_heap w g old cs t (0, 0) h
theorem Kept.setRow (w : World) (g : Nat) (cs : Array Value) : Kept (Only g) w (w.setRow g cs) :=
  ⟨rfl, rfl, rfl, by simp [World.setRow], fun k _ hk => setRow_other w g k cs hk⟩

/-- A result's cells. -/
def resC (err sn sc : Int) (da : Option Addr) (dl dc : Nat) : Array Value := #[.int .i64 err, .string ⟨#[]⟩, .int .i64 0, .int .i64 0, .int .i64 0, .slice none 0 0, .slice da dl dc, .int .i64 0, .int .i64 sn, .int .i64 sc, .int .i64 0]
theorem resC_one (err sn sc : Int) (da : Option Addr) (dl dc : Nat) : (resC err sn sc da dl dc).all (·.oneCell') = true := by simp [resC, Value.oneCell']
def DoneOut (w : World) (err sn sc : Int) (zs : List Int) (b : Bool) (e : Ending) (w' : World) : Prop :=
  ∃ da dc, e = .returned (.tuple #[.agg (resC err sn sc da zs.length dc), .bool b]) ∧ OwnB w' w.heap.size da dc zs ∧ Kept No w w'

set_option maxRecDepth 100000 in
set_option maxHeartbeats 2000000 in
theorem done0_any (w : World) : Calls Try.prog 68 #[.agg #[]] w (DoneOut w 0 0 0 [] false) := by
  have HF : Hid (Box ((w.alloc (.cells #[] 103)).alloc (.cells (resC 0 0 0 none 0 0) 72)) (w.heap.size + 1) 72 (resC 0 0 0 none 0 0)) := by
    have := Box.new (w.alloc (.cells #[] 103)) 72 (resC 0 0 0 none 0 0)
    have e : (w.alloc (.cells #[] 103)).heap.size = w.heap.size + 1 := by simp
    rw [e] at this
    exact this
  go_enter Try.func68, Try.ntmps68
  go_wp2
  refine bodyPost_ret (results_row_tmp (by rfl) _ _ (w.heap.size + 1) (resC 0 0 0 none 0 0) (by rfl) (load90_run HF.out rfl)) rfl ?_
  exact ⟨none, 0, rfl, Own.nil _ _ _ _, (((Kept.refl No w).alloc _).alloc _)⟩

set_option maxRecDepth 100000 in
set_option maxHeartbeats 2000000 in
theorem done_gen92 (m : Nat) (a : Option Addr) (cap : Nat) (x : MS) (t : TypeId) (v u : Value) (err sn sc : Int) (zs : List Int) (b : Bool) (w : World) (hM : Mach w m a cap x t v)
    (hm : ∀ w, (method 277 t v "cairn/register.done").run Try.prog w = .ok (68, u) w)
    (hcall : ∀ w1, Kept No w w1 → Calls Try.prog 68 #[u] w1 (DoneOut w1 err sn sc zs b)) :
    Calls Try.prog 59 #[.pointer (some ⟨m, 0, none⟩)] w (DoneOut w err sn sc zs b) := by
  obtain ⟨w1, hw1⟩ : ∃ w1, w1 = w.alloc (.cells (resC 0 0 0 none 0 0) 72) := ⟨_, rfl⟩
  have HK1 : Hid (Kept No w w1) := by rw [hw1]; exact (Kept.refl No w).alloc _
  have HX1 : Hid (Box w1 w.heap.size 72 (resC 0 0 0 none 0 0)) := by rw [hw1]; exact Box.new _ _ _
  have HC : Hid (∀ w1, Kept No w w1 → Calls Try.prog 68 #[u] w1 (DoneOut w1 err sn sc zs b)) := hcall
  have HS : Hid (w1.heap.size = w.heap.size + 1) := by show _ = _; rw [hw1]; simp
  have c9 : w1.cell? ⟨m, 9, none⟩ = some (.iface t v) := (hM.no HK1.out).box.cell 9
  rw [hw1] at c9
  unfold resC at c9
  clear hM hcall
  go_enter Try.func59, Try.ntmps59
  go_wp2_with (first
    | (go_at_call 68
       (try unfold resC at hw1)
       rw [← hw1]
       refine Calls.mono (HC.out w1 HK1.out) ?_
       rintro e w3 ⟨da, dc, rfl, hO, hk⟩
       have HX3 : Hid (Box w3 w.heap.size 72 (resC 0 0 0 none 0 0)) := HX1.out.kept hk (fun e => e)
       have HK3 : Hid (Kept No w w3) := HK1.out.then hk
       have HO3 : Hid (OwnB w3 w1.heap.size da dc zs) := hO
       clear hO hk hw1 c9)
    | (refine wpList_store_row rfl 72 _ _ rfl w.heap.size (resC err sn sc da zs.length dc) rfl rfl 72 (resC 0 0 0 none 0 0) HX3.out Try.size90 rfl (resC_one _ _ _ _ _ _) ?_
       have HF : Hid (Box (w3.setRow w.heap.size (resC err sn sc da zs.length dc)) w.heap.size 72 (resC err sn sc da zs.length dc)) := HX3.out.setRow _
       have HKf : Hid (Kept No w (w3.setRow w.heap.size (resC err sn sc da zs.length dc))) := HK3.out.trans (Kept.setRow _ _ _) (fun _ e => e) (fun i hi e => by have : i = w.heap.size := e; omega)
       have HOf : Hid (OwnB (w3.setRow w.heap.size (resC err sn sc da zs.length dc)) w.heap.size da dc zs) := Own.lower (HO3.out.kept (Kept.setRow _ _ _) (fun k hk e => by have : k = w.heap.size := e; have := HO3.out.base hk; have := HS.out; omega)) HK1.out.size
       generalize w3.setRow w.heap.size (resC err sn sc da zs.length dc) = w4 at HF HKf HOf ⊢
       clear HX3 HK3 HO3))
  refine bodyPost_ret (results_row_tmp (by rfl) _ _ w.heap.size (resC err sn sc da zs.length dc) (by rfl) (load90_run HF.out rfl)) rfl ?_
  exact ⟨da, dc, rfl, HOf.out, HKf.out⟩

set_option maxRecDepth 100000 in
set_option maxHeartbeats 2000000 in
theorem done_gen101 (m : Nat) (a : Option Addr) (cap : Nat) (x : MS) (t : TypeId) (v u : Value) (err sn sc : Int) (zs : List Int) (b : Bool) (w : World) (hM : Mach w m a cap x t v)
    (hm : ∀ w, (method 277 t v "cairn/register.done").run Try.prog w = .ok (77, u) w)
    (hcall : ∀ w1, Kept No w w1 → Calls Try.prog 77 #[u] w1 (DoneOut w1 err sn sc zs b)) :
    Calls Try.prog 59 #[.pointer (some ⟨m, 0, none⟩)] w (DoneOut w err sn sc zs b) := by
  obtain ⟨w1, hw1⟩ : ∃ w1, w1 = w.alloc (.cells (resC 0 0 0 none 0 0) 72) := ⟨_, rfl⟩
  have HK1 : Hid (Kept No w w1) := by rw [hw1]; exact (Kept.refl No w).alloc _
  have HX1 : Hid (Box w1 w.heap.size 72 (resC 0 0 0 none 0 0)) := by rw [hw1]; exact Box.new _ _ _
  have HC : Hid (∀ w1, Kept No w w1 → Calls Try.prog 77 #[u] w1 (DoneOut w1 err sn sc zs b)) := hcall
  have HS : Hid (w1.heap.size = w.heap.size + 1) := by show _ = _; rw [hw1]; simp
  have c9 : w1.cell? ⟨m, 9, none⟩ = some (.iface t v) := (hM.no HK1.out).box.cell 9
  rw [hw1] at c9
  unfold resC at c9
  clear hM hcall
  go_enter Try.func59, Try.ntmps59
  go_wp2_with (first
    | (go_at_call 77
       (try unfold resC at hw1)
       rw [← hw1]
       refine Calls.mono (HC.out w1 HK1.out) ?_
       rintro e w3 ⟨da, dc, rfl, hO, hk⟩
       have HX3 : Hid (Box w3 w.heap.size 72 (resC 0 0 0 none 0 0)) := HX1.out.kept hk (fun e => e)
       have HK3 : Hid (Kept No w w3) := HK1.out.then hk
       have HO3 : Hid (OwnB w3 w1.heap.size da dc zs) := hO
       clear hO hk hw1 c9)
    | (refine wpList_store_row rfl 72 _ _ rfl w.heap.size (resC err sn sc da zs.length dc) rfl rfl 72 (resC 0 0 0 none 0 0) HX3.out Try.size90 rfl (resC_one _ _ _ _ _ _) ?_
       have HF : Hid (Box (w3.setRow w.heap.size (resC err sn sc da zs.length dc)) w.heap.size 72 (resC err sn sc da zs.length dc)) := HX3.out.setRow _
       have HKf : Hid (Kept No w (w3.setRow w.heap.size (resC err sn sc da zs.length dc))) := HK3.out.trans (Kept.setRow _ _ _) (fun _ e => e) (fun i hi e => by have : i = w.heap.size := e; omega)
       have HOf : Hid (OwnB (w3.setRow w.heap.size (resC err sn sc da zs.length dc)) w.heap.size da dc zs) := Own.lower (HO3.out.kept (Kept.setRow _ _ _) (fun k hk e => by have : k = w.heap.size := e; have := HO3.out.base hk; have := HS.out; omega)) HK1.out.size
       generalize w3.setRow w.heap.size (resC err sn sc da zs.length dc) = w4 at HF HKf HOf ⊢
       clear HX3 HK3 HO3))
  refine bodyPost_ret (results_row_tmp (by rfl) _ _ w.heap.size (resC err sn sc da zs.length dc) (by rfl) (load90_run HF.out rfl)) rfl ?_
  exact ⟨da, dc, rfl, HOf.out, HKf.out⟩

theorem doneA_any (m : Nat) (a : Option Addr) (cap : Nat) (x : MS) (a1 a2 : Value) (w : World) (hM : Mach w m a cap x 146 (.agg #[a1, a2])) :
    Calls Try.prog 59 #[.pointer (some ⟨m, 0, none⟩)] w (DoneOut w 0 0 0 [] false) :=
  done_gen92 m a cap x 146 _ (.agg #[]) 0 0 0 [] false w hM (meth_doneA a1 a2) (fun w1 _ => done0_any w1)
set_option maxRecDepth 100000 in
theorem round_any (m : Nat) (a : Option Addr) (cap : Nat) (x : MS) (t : TypeId) (v : Value) (w : World) (hM : Mach w m a cap x t v) :
    Calls Try.prog 60 #[.pointer (some ⟨m, 0, none⟩)] w (fun e w' => e = .returned (.int .i64 x.rd) ∧ w' = w) := by
  have c8 := hM.box.cell 8
  simp only [mC, List.getElem?_toArray, List.getElem?_cons_zero, List.getElem?_cons_succ] at c8
  clear hM
  go_enter Try.func60, Try.ntmps60
  go_wp2
  go_ret
  exact ⟨rfl, rfl⟩

end Go.Proofs.Ythnecaejhnojfaa
