import Derived.Test.YtphiokehcgbldaaQb
namespace Go.Proofs.Ytphiokehcgbldaa
open Go.RowKit Go.Shelf
set_option linter.unusedVariables false
set_option linter.unusedSimpArgs false

/-- append(s, x...), s one's own, x anything that has an address. -/
theorem run_appG {w : World} {ty T E : TypeId} {c by' : Nat} {z : Value} (ht : Try.prog.underlying T = some (.slice E))
    (hinf : (Try.prog.info? E).map (fun i => (i.zero, i.size, i.bytes)) = some (some z, c, by')) (hzc : z.cells.size = c) (hc0 : 0 < c)
    {base n cap : Nat} {sa : Option Addr} {vs : List Value} (hown : Own E c w base sa cap n vs) {ad : Addr} {m cc : Nat} {news : List Value} (hl : news.length = m * c) (hnews : ∀ j u, news[j]? = some u → w.cell? (ad.add j) = some u) (h1 : ∀ u ∈ news, u.oneCell' = true) (hbd : (n + m) * by' ≤ 140737488355328) (hb63 : n + m ≤ 9223372036854775807) (hbase : base ≤ w.heap.size) :
    ∃ a' cap' w', (Builtin.append_ #[T, T] ty #[.slice sa n cap, .slice (some ad) m cc]).run Try.prog w = .ok (.slice a' (n + m) cap') w' ∧ Own E c w' base a' cap' (n + m) (vs ++ news) ∧ Kept (At sa) w w' ∧ ∀ k, At a' k → At sa k ∨ w.heap.size ≤ k := by
  obtain ⟨i0, hi, hz0, hz1, hz2⟩ := info_parts hinf
  obtain ⟨v', w', hrun, r1, r2, _, r4⟩ := run_append_own_at (P := Try.prog) (w := w) base T ty E i0 z c by' ht hi hz0 hz1 hz2 hzc hc0 (.slice sa n cap) n vs hown ad m cc news hl hnews h1 (by unfold maxLen; omega) hbd hbase
  have hk : Kept (At sa) w w' := (Kept.refl (At sa) w).grown r2 (fun k e hk => by
    cases sa with
    | none => cases e
    | some ad' => simp only [Value.ownBlock, Option.some.injEq] at e; exact ⟨ad', rfl, e⟩)
  rcases r1.2 with ⟨e, h0⟩ | ⟨g, cap', cur, e, hrest⟩
  · refine ⟨none, 0, w', ?_, ?_, hk, fun k e => (At.none e).elim⟩
    · rw [hrun, e, h0]
    · rw [e] at r1
      show w'.ownsRow base E c (.slice none (n + m) 0) (n + m) (vs ++ news)
      rw [h0] at r1 ⊢
      exact r1
  · subst e
    refine ⟨some ⟨g, 0, none⟩, cap', w', hrun, r1, hk, fun k ha => ?_⟩
    obtain ⟨ad2, e2, e3⟩ := ha
    cases e2
    have e3 : g = k := e3
    rcases r4 with e | e
    · left
      cases sa with
      | none => simp [Value.ownBlock] at e
      | some ad' => simp only [Value.ownBlock, Option.some.injEq] at e; exact ⟨ad', rfl, by omega⟩
    · right; simp [Value.ownBlock] at e; omega

section
variable {w w' : World} {r lc sc base : Nat} {ys : List Tp} {ss : List Ad} {la sa : Option Addr}
theorem RfM.rs (h : RfM w r ys ss la lc sa sc base) {k : Nat} (e : At la k) : ¬ At sa k := fun f => own_off h.row h.snt (by decide) e f
theorem RfM.rr (h : RfM w r ys ss la lc sa sc base) : ¬ At la r := Own.neBox h.row h.box (by decide)
theorem RfM.sr (h : RfM w r ys ss la lc sa sc base) : ¬ At sa r := Own.neBox h.snt h.box (by decide)
/-- One more who has sent. -/
theorem RfM.sent (h : RfM w r ys ss la lc sa sc base) {f : Ad} {g' cap' : Nat} (hO : Own 34 2 w' base (some ⟨g', 0, none⟩) cap' (ss.length + 1) (ss.flatMap adC ++ [.bool f.1, .int .i64 f.2])) (hB : Box w' r 29 #[.slice la ys.length lc, .slice (some ⟨g', 0, none⟩) (ss.length + 1) cap']) (hk : Kept (fun k => k = r ∨ At sa k) w w') :
    RfM w' r ys (ss ++ [f]) la lc (some ⟨g', 0, none⟩) cap' base := by
  refine ⟨?_, h.row.kept hk (fun k e f => ?_), ?_, h.lo⟩
  · rw [List.length_append]; exact hB
  · rcases f with f | f
    · rw [f] at e; exact h.rr e
    · exact h.rs e f
  · rw [List.length_append, List.flatMap_append]; simpa [adC] using hO
/-- One more under way. -/
theorem RfM.came (h : RfM w r ys ss la lc sa sc base) {y : Tp} {g' cap' : Nat} (hO : Own 44 6 w' base (some ⟨g', 0, none⟩) cap' (ys.length + 1) (ys.flatMap pkL ++ pkL y)) (hB : Box w' r 29 #[.slice (some ⟨g', 0, none⟩) (ys.length + 1) cap', .slice sa ss.length sc]) (hk : Kept (fun k => k = r ∨ At la k) w w') :
    RfM w' r (ys ++ [y]) ss (some ⟨g', 0, none⟩) cap' sa sc base := by
  refine ⟨?_, ?_, h.snt.kept hk (fun k e f => ?_), h.lo⟩
  · rw [List.length_append]; exact hB
  · rw [List.length_append, List.flatMap_append]; simpa using hO
  · rcases f with f | f
    · rw [f] at e; exact h.sr e
    · exact h.rs f e
end
/-- The reference behind one that was sent. -/
def rfAdd (ys : List Tp) (y : Tp) : List Tp := if 64 ≤ cnP (ys.map Tp.q) (y.q.nm.1, y.q.to') then ys else ys ++ [y]
def SrOut (w : World) (r : Nat) (ys : List Tp) (ss : List Ad) (la sa : Option Addr) (base : Nat) (y : Tp) (f : Ad) (cnt : Nat) (b : Bool) (e : Ending) (w' : World) : Prop :=
  ∃ la' lc' sa' sc', e = .returned (.tuple #[.int .i64 (cnt : Nat), .bool b]) ∧ RfM w' r (rfAdd ys y) (ss ++ [f]) la' lc' sa' sc' base ∧ Kept (RfB r la sa) w w' ∧ ∀ k, RfB r la' sa' k → RfB r la sa k ∨ w.heap.size ≤ k

set_option maxRecDepth 100000 in
set_option maxHeartbeats 8000000 in
theorem sendR_any {r lc sc base : Nat} {ys : List Tp} {ss : List Ad} {la sa : Option Addr} (fc tc : Bool) (fi ti x : Int) (d : Option Addr) (dl dk : Nat) (pq : Pq) (w : World) (h : RfM w r ys ss la lc sa sc base) (hm : ys.length ≤ 10000000000) (hsm : ss.length ≤ 10000000000) (hbase : base ≤ w.heap.size)
    (cnt cn : Nat) (hct : ss.count (fc, fi) + 1 = cnt) (hcn : cnP (ys.map Tp.q) ((fc, fi), (tc, ti)) = cn) (hnm : pq.nm = ((fc, fi), (cnt : Int))) (hto : pq.to' = (tc, ti)) (hzl : pq.zs.length = dl) :
    Calls Try.prog 41 #[.pointer (some ⟨r, 0, none⟩), .agg #[.bool fc, .int .i64 fi, .int .i64 x, .bool tc, .int .i64 ti, .slice d dl dk]] w (SrOut w r ys ss la sa base ⟨pq, d, dk⟩ (fc, fi) cnt (decide (cn < 64))) := by
  have HR : Hid (RfM w r ys ss la lc sa sc base) := h
  have HP : Hid (ss.count (fc, fi) + 1 = cnt ∧ cnP (ys.map Tp.q) ((fc, fi), (tc, ti)) = cn ∧ pq.nm = ((fc, fi), (cnt : Int)) ∧ pq.to' = (tc, ti) ∧ pq.zs.length = dl) := ⟨hct, hcn, hnm, hto, hzl⟩
  have hcb : cnt ≤ 10000000001 := by have := List.count_le_length (a := ((fc, fi) : Ad)) (l := ss); omega
  have hnb : cn ≤ 10000000000 := by
    rw [← hcn]; refine Nat.le_trans (List.length_filter_le _ _) ?_; rw [List.length_map]; exact hm
  clear h hct hcn hnm hto hzl
  go_enter Try.func41, Try.ntmps41
  go_upto_region 1 with fail
  obtain ⟨W, hW⟩ : ∃ W, W = w.heap.size := ⟨_, rfl⟩
  obtain ⟨w1, hw1⟩ : ∃ w1, w1 = w.alloc (.cells #[.bool fc, .int .i64 fi, .int .i64 x, .bool tc, .int .i64 ti, .slice d dl dk] 44) := ⟨_, rfl⟩
  rw [← hw1, ← hW]
  have HB1 : Hid (Box w1 W 44 #[.bool fc, .int .i64 fi, .int .i64 x, .bool tc, .int .i64 ti, .slice d dl dk] ∧ Kept No w w1 ∧ W = w.heap.size) := by
    rw [hw1, hW]; exact ⟨Box.new _ _ _, (Kept.refl No w).alloc _, rfl⟩
  clear hw1 hW
  refine q1 _ r W ss.length sc base fc tc fi x ti d dl dk sa (.slice la ys.length lc) (ss.flatMap adC) w1 _ rfl rfl rfl HB1.out.1 (HR.out.no HB1.out.2.1).box (HR.out.no HB1.out.2.1).snt (by omega) (Nat.le_trans hbase HB1.out.2.1.size) (fun _ _ t _ _ h => by cases t <;> exact h) ?_
  intro w2 G g' cap' hO2 hB2 hk2 hg2 hP2
  have H2 : Hid (RfM w2 r ys (ss ++ [(fc, fi)]) la lc (some ⟨g', 0, none⟩) cap' base ∧ Box w2 W 44 #[.bool fc, .int .i64 fi, .int .i64 x, .bool tc, .int .i64 ti, .slice d dl dk] ∧ Kept (RfB r la sa) w w2 ∧ (At sa g' ∨ w.heap.size ≤ g')) := by
    refine ⟨(HR.out.no HB1.out.2.1).sent hO2 hB2 hk2, hP2, HB1.out.2.1.of_no.then (hk2.mono (fun k _ e => ?_)), hg2.imp id (fun e => Nat.le_trans HB1.out.2.1.size e)⟩
    rcases e with e | e
    · exact .inl e
    · exact .inr (.inr e)
  clear hO2 hB2 hk2 hg2 hP2
  simp only [Wa.pA, Wa.pB, Wa.p1, Wa.p2, Wa.p3]
  obtain ⟨m, hme⟩ : ∃ m, m = ss.length + 1 := ⟨_, rfl⟩
  have HM : Hid ((ss ++ [(fc, fi)]).length = m ∧ (ss ++ [(fc, fi)]).count (fc, fi) = cnt) := by
    refine ⟨by rw [List.length_append, hme]; rfl, ?_⟩
    rw [List.count_append, ← HP.out.1]; simp
  rw [← hme]
  have hmb : m ≤ 10000000001 := by omega
  clear hme
  go_wp2
  go_loopw [6, 7] (fun v i wr => ∃ k : Nat, k ≤ m ∧ i = .int .i64 (k : Int) ∧ v = .int .i64 ((((ss ++ [(fc, fi)]).take k).count (fc, fi) : Nat) : Int) ∧ ∃ n, wr = w2.drewN n) (fun _ i _ => m - (intOf i).toNat)
  case atStart => exact ⟨0, by omega, rfl, rfl, 0, rfl⟩
  case round =>
    obtain ⟨k, hk, rfl, rfl, nd, rfl⟩ := hrel
    have r1 : w2.cell? ⟨r, 1, none⟩ = some (.slice (some ⟨g', 0, none⟩) m cap') := by have := H2.out.1.cells.2; rw [HM.out.1] at this; exact this
    by_cases hlt : k < m
    · obtain ⟨⟨qc, qi⟩, hq⟩ : ∃ q, (ss ++ [(fc, fi)])[k]? = some q := ⟨_, List.getElem?_eq_getElem (by rw [HM.out.1]; exact hlt)⟩
      obtain ⟨pg, epg, hc⟩ := own_at (enc := adC) (c := 2) (fun _ => rfl) (by omega) H2.out.1.snt hq
      cases epg
      have c0 : w2.cell? ⟨g', k * 2, none⟩ = some (.bool qc) := by simpa using hc 0 _ rfl
      have c1 : w2.cell? ⟨g', k * 2 + 1, none⟩ = some (.int .i64 qi) := hc 1 _ rfl
      have b0 : w2.cell? ⟨W, 0, none⟩ = some (.bool fc) := H2.out.2.1.cell 0
      have b1 : w2.cell? ⟨W, 1, none⟩ = some (.int .i64 fi) := H2.out.2.1.cell 1
      have hlt' : (k : Int) < (m : Int) := by omega
      have HT : Hid (((ss ++ [(fc, fi)]).take (k + 1)).count (fc, fi) = ((ss ++ [(fc, fi)]).take k).count (fc, fi) + if (qc, qi) = (fc, fi) then 1 else 0) := by
        show _ = _
        rw [List.take_add_one, hq, List.count_append]
        by_cases e : (qc, qi) = (fc, fi) <;> simp [e, List.count_singleton]
      have hcl : ((ss ++ [(fc, fi)]).take k).count (fc, fi) ≤ k := by
        have := List.count_le_length (a := ((fc, fi) : Ad)) (l := (ss ++ [(fc, fi)]).take k)
        rw [List.length_take] at this; omega
      have e1 := beq34 qc fc qi fi
      clear hc hq
      generalize ((ss ++ [(fc, fi)]).take k).count (fc, fi) = cz at HT hcl ⊢
      by_cases p : (qc, qi) = (fc, fi)
      · rw [if_pos p] at HT
        rw [decide_eq_true p] at e1
        clear p
        go_upto_region 6 with fail
        go_quiet (fail)
        go_wp2
        go_roundw
        case rel => exact ⟨k + 1, by omega, by go_num, by rw [HT.out]; go_num, _, rfl⟩
        case measure => simp [intOf]; omega
      · rw [if_neg p] at HT
        rw [decide_eq_false p] at e1
        clear p
        go_upto_region 6 with fail
        go_quiet (fail)
        go_wp2
        go_roundw
        case rel => exact ⟨k + 1, by omega, by go_num, by rw [HT.out]; go_num, _, rfl⟩
        case measure => simp [intOf]; omega
    · have hlt' : ¬ (k : Int) < (m : Int) := by omega
      have hkm : k = m := by omega
      have HQ : Hid (((ss ++ [(fc, fi)]).take k).count (fc, fi) = cnt) := by
        show _ = _
        rw [List.take_of_length_le (by rw [HM.out.1]; omega)]
        exact HM.out.2
      rw [HQ.out]
      clear hkm HQ
      obtain ⟨w3, hw3⟩ : ∃ w3, w3 = w2.drewN nd := ⟨_, rfl⟩
      have hk3 : Kept No w2 w3 := by rw [hw3]; exact (Kept.refl No w2).drewN nd
      rw [← hw3]
      have H3 : Hid (RfM w3 r ys (ss ++ [(fc, fi)]) la lc (some ⟨g', 0, none⟩) cap' base ∧ Box w3 W 44 #[.bool fc, .int .i64 fi, .int .i64 x, .bool tc, .int .i64 ti, .slice d dl dk] ∧ Kept (RfB r la sa) w w3 ∧ (At sa g' ∨ w.heap.size ≤ g')) := ⟨H2.out.1.no hk3, H2.out.2.1.kept hk3 (fun e => e), H2.out.2.2.1.then hk3.of_no, H2.out.2.2.2⟩
      clear hw3 hk3 H2 r1
      have r1 : w3.cell? ⟨r, 1, none⟩ = some (.slice (some ⟨g', 0, none⟩) m cap') := by have := H3.out.1.cells.2; rw [HM.out.1] at this; exact this
      have b0 : w3.cell? ⟨W, 0, none⟩ = some (.bool fc) := H3.out.2.1.cell 0
      have b1 : w3.cell? ⟨W, 1, none⟩ = some (.int .i64 fi) := H3.out.2.1.cell 1
      have b3 : w3.cell? ⟨W, 3, none⟩ = some (.bool tc) := H3.out.2.1.cell 3
      have b4 : w3.cell? ⟨W, 4, none⟩ = some (.int .i64 ti) := H3.out.2.1.cell 4
      by_cases hlt2 : cn < 64
      · have hge : ¬ (cn : Int) ≥ 64 := by omega
        go_upto_region 10 with (go_at_call 32; refine (pairR_any fc tc fi ti w3 H3.out.1 (by omega)).mono ?_; rintro e w4 ⟨rfl, hk4⟩; rw [HP.out.2.1]; have H4 : Hid (Kept No w3 w4) := hk4; clear hk4)
        have HB4 : Hid (Box w4 W 44 #[.bool fc, .int .i64 fi, .int .i64 x, .bool tc, .int .i64 ti, .slice d dl dk]) := H3.out.2.1.kept H4.out (fun e => e)
        have b2 : w4.cell? ⟨W, 2, none⟩ = some (.int .i64 x) := HB4.out.cell 2
        have f2 := HB4.out.frozen 2
        clear r1 b0 b1 b3 b4
        go_upto_region 11 with fail
        obtain ⟨w5, hw5⟩ : ∃ w5, w5 = w4.setCell ⟨W, 2, none⟩ (.int .i64 (cnt : Int)) := ⟨_, rfl⟩
        rw [← hw5]
        have HB5 : Hid (Box w5 W 44 #[.bool fc, .int .i64 fi, .int .i64 (cnt : Int), .bool tc, .int .i64 ti, .slice d dl dk] ∧ Kept (Only W) w4 w5) := by
          rw [hw5]
          refine ⟨?_, (Kept.refl (Only W) w4).setCell (p := ⟨W, 2, none⟩) (fun _ => rfl) _⟩
          have h := HB4.out.set 2 (.int .i64 (cnt : Int))
          simpa using h
        have hWw : W = w.heap.size := HB1.out.2.2
        have hoff : ∀ j, RfB r la (some ⟨g', 0, none⟩) j → j ≠ W := fun j hj e => by
          rcases hj with hj | hj | hj
          · have := HR.out.box.lt; omega
          · have := Own.ltA HR.out.row hj; omega
          · rw [e] at hj; exact Own.neBox H3.out.1.snt H3.out.2.1 (by decide) hj
        have H5 : Hid (RfM w5 r ys (ss ++ [(fc, fi)]) la lc (some ⟨g', 0, none⟩) cap' base ∧ Kept (RfB r la sa) w w5) := by
          refine ⟨(H3.out.1.no H4.out).kept HB5.out.2 (fun j hj e => hoff j hj e), (H3.out.2.2.1.then H4.out.of_no).trans HB5.out.2 (fun _ e => e) (fun j hj e => by have e : j = W := e; omega)⟩
        clear hw5 b2 f2
        refine q11 _ r W ys.length lc base fc tc fi (cnt : Int) ti d dl dk la (.slice (some ⟨g', 0, none⟩) m cap') (ys.flatMap pkL) w5 _ rfl rfl rfl HB5.out.1 (by have := H5.out.1.box; rw [HM.out.1] at this; exact this) H5.out.1.row (by omega) (Nat.le_trans hbase H5.out.2.size) (fun e => hoff W (.inr (.inl e)) rfl) (fun _ _ t _ _ h => by cases t <;> exact h) ?_
        intro w6 G6 g6 cap6 hO6 hB6 hk6 hg6 hP6
        have H6 : Hid (RfM w6 r (ys ++ [⟨pq, d, dk⟩]) (ss ++ [(fc, fi)]) (some ⟨g6, 0, none⟩) cap6 (some ⟨g', 0, none⟩) cap' base ∧ Kept (RfB r la sa) w w6 ∧ (At la g6 ∨ w.heap.size ≤ g6)) := by
          refine ⟨H5.out.1.came ?_ (by rw [HM.out.1]; exact hB6) hk6, H5.out.2.then (hk6.mono (fun k _ e => ?_)), hg6.imp id (fun e => Nat.le_trans H5.out.2.size e)⟩
          · have e : pkL ⟨pq, d, dk⟩ = [.bool fc, .int .i64 fi, .int .i64 (cnt : Int), .bool tc, .int .i64 ti, .slice d dl dk] := by
              simp only [pkL, HP.out.2.2.1, HP.out.2.2.2.1, HP.out.2.2.2.2]
            rw [e]; exact hO6
          · rcases e with e | e
            · exact .inl e
            · exact .inr (.inl e)
        clear hO6 hB6 hk6 hg6 hP6
        simp only [Wa.pA, Wa.pB, Wa.p1, Wa.p2, Wa.p3]
        go_wp2
        go_ret2
        refine ⟨some ⟨g6, 0, none⟩, cap6, some ⟨g', 0, none⟩, cap', by rw [decide_eq_true hlt2]; rfl, ?_, H6.out.2.1, fun k e => ?_⟩
        · rw [rfAdd, if_neg (by rw [HP.out.2.2.1, HP.out.2.2.2.1, HP.out.2.1]; omega)]; exact H6.out.1
        · rcases e with e | ⟨ad, e, e'⟩ | ⟨ad, e, e'⟩
          · exact .inl (.inl e)
          · cases e; have e' : g6 = k := e'; rcases H6.out.2.2 with f | f
            · rw [e'] at f; exact .inl (.inr (.inl f))
            · exact .inr (by omega)
          · cases e; have e' : g' = k := e'; rcases H3.out.2.2.2 with f | f
            · rw [e'] at f; exact .inl (.inr (.inr f))
            · exact .inr (by omega)
      · have hge : (cn : Int) ≥ 64 := by omega
        go_wp2_with (go_at_call 32; refine (pairR_any fc tc fi ti w3 H3.out.1 (by omega)).mono ?_; rintro e w4 ⟨rfl, hk4⟩; rw [HP.out.2.1]; have H4 : Hid (Kept No w3 w4) := hk4; clear hk4)
        go_ret2
        refine ⟨la, lc, some ⟨g', 0, none⟩, cap', by rw [decide_eq_false hlt2]; rfl, ?_, H3.out.2.2.1.then H4.out.of_no, fun k e => ?_⟩
        · rw [rfAdd, if_pos (by rw [HP.out.2.2.1, HP.out.2.2.2.1, HP.out.2.1]; omega)]; exact H3.out.1.no H4.out
        · rcases e with e | e | ⟨ad, e, e'⟩
          · exact .inl (.inl e)
          · exact .inl (.inr (.inl e))
          · cases e; have e' : g' = k := e'; rcases H3.out.2.2.2 with f | f
            · rw [e'] at f; exact .inl (.inr (.inr f))
            · exact .inr (by omega)
end Go.Proofs.Ytphiokehcgbldaa
