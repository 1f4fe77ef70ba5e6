import Derived.Test.YtpapbleabjpbfabGc
namespace Go.Proofs.Ytpapbleabjpbfab
open Go.RowKit Go.Shelf Gx
set_option linter.unusedVariables false
set_option linter.unusedSimpArgs false

attribute [local go_sem] Oper.semAt_some
theorem run_store_fn {P : Program} {w : World} {a : Addr} {m : Mode} (f : Fn) (r b : Array Value) : (store a (.func f r b) m).run P w = stored P w a (.func f r b) m := run_store P w a _ m rfl
attribute [local go_sem] run_store_fn
theorem Ag.nbw {w W : World} {stop : Int} {s0 rb sb qb lb pg pc m : Nat} {la : Option Addr} {lc : Nat} {zs : List Int} {nb : Nat} {n : Int} (h : Ag w stop s0 rb sb qb lb pg pc m la lc zs nb n W) : w.heap.size ≤ nb := by
  have o1 := h.ah.o1; have o2 := h.ah.o2; have o3 := h.ah.o3; have o4 := h.ah.o4; have o0 := h.ah.o0; have o5 := h.o5
  omega
theorem bset2 {n₀ g : Nat} {W : World} {v : Value} (hg : n₀ ≤ g) : Below n₀ W (W.setCell ⟨g, 0, none⟩ v) := (Below.refl n₀ W).setCell (p := ⟨g, 0, none⟩) hg _
theorem again_nil (b : Array Value) (w : World) : Sem.run Try.prog (binOp .eql 31 (.func (.func 29) #[] b) .nilFunc) w = .ok (.bool false) w := by kernel_rfl

set_option maxRecDepth 100000 in
set_option maxHeartbeats 4000000 in
theorem again_any (r : Nat) (sa : Option Addr) (sn sc : Nat) (f p bu bl ro : Int) (pg pc m : Nat) (ps : List (Int × Int)) (stop : Int) (w : World) (hR : RingV w r sa sn sc f p bu bl ro pg pc m ps) (hm1 : 1 ≤ m) (hm : m ≤ 4096) :
    Calls Try.prog 26 #[.pointer (some ⟨r, 0, none⟩), .int .i64 stop] w fun e w' => e = .returned (.bool true) ∧ Below w.heap.size w w' := by
  have HR : Hid (RingV w r sa sn sc f p bu bl ro pg pc m ps) := hR
  have HL : Hid (ps.length = m) := hR.len
  have hpg : pg < w.heap.size := World.block_lt_of_cell? w ⟨pg, 0 * 2, none⟩ (hR.cell 0 hm1).1
  have HRc : Hid (∀ W, Kept No w W → ∀ i, i < m → W.cell? ⟨pg, i * 2, none⟩ = some (.int .i64 (ps[i]?.getD (0, 0)).1) ∧ W.cell? ⟨pg, i * 2 + 1, none⟩ = some (.int .i64 (ps[i]?.getD (0, 0)).2)) := fun W hk i hi => (hR.no hk).cell i hi
  have hfn := again_nil
  clear hR
  refine (callsIn_wide (n := 8)).1 ?_
  refine callsIn_of_wp_marks Try.func26 rfl trivial ?_ rfl
  refine wpIn_wide.2 ?_
  simp only [Try.ntmps26, List.size_toArray, List.length_cons, List.length_nil, Nat.reduceAdd, Nat.reduceSub, Array.replicate_succ, Array.replicate_zero, List.push_toArray, List.append_toArray, List.nil_append, List.cons_append]
  go_wp2_with
    (go_at_call 10
     refine Calls.mono (points_any r sa sn sc f p bu bl ro pg pc m ps _ (HR.out.no (((Kept.refl No w).alloc _).alloc _))) ?_
     rintro e w2 ⟨rfl, hb2, hk2⟩
     have HB2 : Hid _ := hb2
     have HK2 : Hid _ := hk2
     clear hb2 hk2)
  obtain ⟨w3, hw3⟩ : ∃ w3, w3 = (w2.alloc (.cells #[.func (.func 29) #[] #[.pointer (some ⟨w.heap.size + 1 + 1, 0, none⟩)]] 31)).alloc (.cells #[.slice none 0 0] 22) := ⟨_, rfl⟩
  rw [← hw3]
  have hs1 : ((w.alloc (.cells #[.int .i64 stop] 3)).alloc (.cells #[.bool false] 4)).heap.size = w.heap.size + 1 + 1 := by simp
  have HA : Hid (Ah w stop w.heap.size (w.heap.size + 1) (w.heap.size + 1 + 1) w2.heap.size (w2.heap.size + 1) pg pc m none 0 [] w3) := by
    have b2 : Box w2 (w.heap.size + 1 + 1) 63 #[.slice (some ⟨pg, 0, none⟩) m pc] := by have := HB2.out; rw [hs1] at this; exact this
    have k23 : Kept No w2 w3 := by rw [hw3]; exact ((Kept.refl No w2).alloc _).alloc _
    have s1 : (w.alloc (.cells #[.int .i64 stop] 3)).heap.size = w.heap.size + 1 := by simp
    have s2 : (w2.alloc (.cells #[.func (.func 29) #[] #[.pointer (some ⟨w.heap.size + 1 + 1, 0, none⟩)]] 31)).heap.size = w2.heap.size + 1 := by simp
    have b0 : Box w2 w.heap.size 3 #[.int .i64 stop] := ((Box.new _ _ _).alloc _).kept HK2.out (fun e => e)
    have b1 : Box w2 (w.heap.size + 1) 4 #[.bool false] := by
      have := Box.new (w.alloc (.cells #[.int .i64 stop] 3)) 4 #[.bool false]
      rw [s1] at this
      exact this.kept HK2.out (fun e => e)
    refine ⟨Nat.le_refl _, by omega, by omega, b2.lt, by omega, fun k e => absurd e At.none, b0.kept k23 (fun e => e), b1.kept k23 (fun e => e), b2.kept k23 (fun e => e), by rw [hw3]; exact (Box.new _ _ _).alloc _, by rw [hw3, ← s2]; exact Box.new _ _ _, Own.nil0 _ _ _ _, (((Kept.refl No w).alloc _).alloc _).then (HK2.out.then k23)⟩
  clear hw3 hs1 HB2 HK2
  generalize w2.heap.size + 1 = lb at HA ⊢
  generalize w2.heap.size = qb at HA ⊢
  have HW3 : Hid (w.heap.size ≤ w3.heap.size) := HA.out.kp.size
  refine (wpIn_wide (n := 8)).1 ?_
  refine' rf_H (F := Fence.wide) rfl (by omega) (gf := 29) (lb := #[.pointer (some ⟨w.heap.size + 1 + 1, 0, none⟩)]) rfl trivial (enters_of Try.func29 (by kernel_rfl) rfl)
    (pts_stops Fence.wide (8 - 1) trivial rfl (by omega) (w.heap.size + 1 + 1) w.heap.size pg pc m ps hm HL.out w3 hpg HA.out.bp.lt HA.out.kp.size ((HA.out.bp.cell 0).trans rfl) (HRc.out w3 HA.out.kp)) belowK_t (belowK_b HA.out.kp.size) (Below.refl _ _) (fun _ => rfl)
    (fun pre W => ∃ la lc, Ah w stop w.heap.size (w.heap.size + 1) (w.heap.size + 1 + 1) qb lb pg pc m la lc (flatP pre) W)
    (fun _ _ _ => False)
    (fun s W W' row h hg hr => by obtain ⟨la, lc, h⟩ := h; exact ⟨la, lc, h.grown HW3.out hg hr⟩)
    (fun c s W W' row h hg hr => h)
    ⟨none, 0, HA.out⟩
    (fun W => Below.refl _ W)
    _ ?assign ?body ?done ?stop
  case assign =>
    intro l x W K hK
    gi_wp2
    exact hK
  case stop =>
    rintro D c pre W hD hpre h _
    exact h.elim
  case body =>
    rintro l pre ⟨x1, x2⟩ W hl _ ⟨la, lc, hA⟩ hlen
    have HI : Hid (Ah w stop w.heap.size (w.heap.size + 1) (w.heap.size + 1 + 1) qb lb pg pc m la lc (flatP pre) W) := hA
    have HF : Hid (flatP (pre ++ [(x1, x2)]) = flatP pre ++ [x1, x2]) := flatP_app _ _
    have hz : (flatP pre).length ≤ 8192 := by rw [flatP_len]; omega
    have e1 := hA.bl.cell 0
    simp only [List.getElem?_toArray, List.getElem?_cons_zero] at e1
    clear hA hlen
    generalize flatP pre = zs at HI HF hz e1
    simp only
    have TA : True := trivial
    gi_wp2_with
      (gi_at_builtin
       refine wpIn_appV rfl _ _ 22 3 1 8 (.int .i64 0) Try.underlying22 Try.info3 rfl (by omega) rfl w.heap.size _ lc la _ rfl (HI.out.ow.no ((Kept.refl No W).alloc _)) ⟨W.heap.size, 0, none⟩ 2 2 [.int .i64 x1, .int .i64 x2] rfl rfl (cell_new2 _ _ _ _) (by simp [Value.oneCell']) (by omega) (by omega) (by omega) (by have := HI.out.kp.size; simp; omega) (zs.length + 2) rfl ?_
       intro g1 d1 w4 HO4 HK4 HKo4 HAt4
       have HK5 : Hid (Kept (At la) W w4) := (((Kept.refl No W).alloc _).of_no).then HK4.out
       have HJ : Hid (Ah w stop w.heap.size (w.heap.size + 1) (w.heap.size + 1 + 1) qb lb pg pc m (some ⟨g1, 0, none⟩) d1 (zs ++ [x1, x2]) (w4.setCell ⟨lb, 0, none⟩ (.slice (some ⟨g1, 0, none⟩) (zs.length + 2) d1))) := HI.out.app (news := [x1, x2]) HO4.out HK5.out (by rcases HAt4.out with h | h; exact .inl h; exact .inr (by rw [h]; simp))
       have q1 : Box w4 lb 22 #[.slice la zs.length lc] := HI.out.bl.kept HK5.out (fun e => by have := HI.out.ol _ e; omega)
       have f1 := q1.frozen 0
       have e1' := q1.cell 0
       simp only [List.getElem?_toArray, List.getElem?_cons_zero] at e1'
       clear q1)
    refine ⟨(((KeepsOthers.alloc W _).trans HKo4.out).trans (KeepsOthers.setCell _ _ _)).from _, ?_, _, _, by rw [HF.out]; exact HJ.out⟩
    have o := HI.out
    refine Kept.below (S := fun k => w.heap.size ≤ k) ?_ o.kp.size (fun k h => h)
    exact (HK5.out.mono (fun i _ e => by have h1 := o.ol i e; have := o.o0; have := o.o1; have := o.o2; have := o.o3; have := o.o4; show w.heap.size ≤ i; omega)).setCell (p := ⟨lb, 0, none⟩) (fun _ => by have := o.o0; have := o.o1; have := o.o2; have := o.o3; have := o.o4; show w.heap.size ≤ lb; omega) _
  case done =>
    rintro D ys W hD rfl ⟨la, lc, hA⟩ hKD
    have HI : Hid (Ah w stop w.heap.size (w.heap.size + 1) (w.heap.size + 1 + 1) qb lb pg pc m la lc (flatP ys) W) := hA
    have HD : Hid (W.heap[D]? = some (.deferred (some []))) := hKD
    have e1 := hA.bq.cell 0
    simp only [List.getElem?_toArray, List.getElem?_cons_zero] at e1
    clear hA hKD
    have e2 : (W.alloc (.cells #[.int .i64 0] 3)).cell? ⟨qb, 0, none⟩ = some (.func (.func 29) #[] #[.pointer (some ⟨w.heap.size + 1 + 1, 0, none⟩)]) := ((HI.out.no ((Kept.refl No W).alloc (.cells #[.int .i64 0] 3))).bq.cell 0).trans rfl
    go_wp2
    obtain ⟨W2, hW2⟩ : ∃ W2, W2 = W.alloc (.cells #[.int .i64 0] 3) := ⟨_, rfl⟩
    rw [← hW2]
    have HG : Hid (Ag w stop w.heap.size (w.heap.size + 1) (w.heap.size + 1 + 1) qb lb pg pc m la lc (flatP ys) W.heap.size 0 W2) := by
      have k : Kept No W W2 := by rw [hW2]; exact (Kept.refl No W).alloc _
      refine ⟨HI.out.no k, HI.out.bl.lt, fun k e => HI.out.ow.lt e, by rw [hW2]; exact Box.new _ _ _⟩
    have HD2 : Hid (W2.heap[D]? = some (.deferred (some []))) := by
      show W2.heap[D]? = some (.deferred (some []))
      rw [hW2]
      exact (Below.heap_alloc W _ D (Array.getElem?_eq_some_iff.1 HD.out).1).trans HD.out
    clear hW2 HI HD e1 e2
    generalize W.heap.size = nb at HG ⊢
    have HDw : Hid (w.heap.size ≤ D) := Nat.le_trans HW3.out hD
    have HDl : Hid (D < W2.heap.size) := (Array.getElem?_eq_some_iff.1 HD2.out).1
    have HW2 : Hid (w.heap.size ≤ W2.heap.size ∧ nb < W2.heap.size) := ⟨HG.out.ah.kp.size, HG.out.bn.lt⟩
    refine (wpIn_wide (n := 8)).1 ?_
    refine' rf_H (F := Fence.wide) rfl (by omega) (gf := 29) (lb := #[.pointer (some ⟨w.heap.size + 1 + 1, 0, none⟩)]) rfl trivial (enters_of Try.func29 (by kernel_rfl) rfl)
      (pts_stops Fence.wide (8 - 1) trivial rfl (by omega) (w.heap.size + 1 + 1) w.heap.size pg pc m ys hm HL.out W2 hpg HG.out.ah.bp.lt HG.out.ah.kp.size ((HG.out.ah.bp.cell 0).trans rfl) (HRc.out W2 HG.out.ah.kp)) belowK_t (belowK_b HG.out.ah.kp.size) (Below.refl _ _) (fun _ => rfl)
      (fun pre W => Ag w stop w.heap.size (w.heap.size + 1) (w.heap.size + 1 + 1) qb lb pg pc m la lc (flatP ys) nb (pre.length : Int) W ∧ W.heap[D]? = some (.deferred (some [])))
      (fun c pre W => (c = .ret ∧ ¬ pre <+: ys) ∨ (c = .exit 2 ∧ (∃ x : Int, Ag w stop w.heap.size (w.heap.size + 1) (w.heap.size + 1 + 1) qb lb pg pc m la lc (flatP ys) nb x W) ∧ W.heap[D]? = some (.deferred (some []))))
      (OwnFrom.and (Ag.own HW2.out.1 _) (obj_own HDl.out))
      (fun c s A B row hs hg hr => hs.imp id (fun ⟨e, ⟨x, h⟩, h2⟩ => ⟨e, ⟨x, Ag.own HW2.out.1 (fun _ : Unit => x) () A B row h hg hr⟩, obj_own HDl.out () A B row h2 hg hr⟩))
      ⟨HG.out, HD2.out⟩
      (fun W => Below.refl _ W)
      _ ?assign2 ?body2 ?done2 ?stop2
    case assign2 =>
      intro l x W K hK
      gi_wp2
      exact hK
    case body2 =>
      rintro l pre ⟨x1, x2⟩ W hl ⟨r9, hr9⟩ ⟨hA, hKd⟩ hlen
      have HI : Hid (Ag w stop w.heap.size (w.heap.size + 1) (w.heap.size + 1 + 1) qb lb pg pc m la lc (flatP ys) nb (pre.length : Int) W) := hA
      have HKd : Hid (W.heap[D]? = some (.deferred (some []))) := hKd
      have HR9 : Hid (W.heap[l]? = some (.loop r9)) := hr9
      obtain ⟨g, y1, y2, ela, c1, c2, hps⟩ := hA.row (by rw [HL.out]; exact hlen)
      subst ela
      have HN : Hid (¬ (x1 = y1 ∧ x2 = y2) → ¬ pre ++ [(x1, x2)] <+: ys) := fun h hp => h (by have := pre_next hp; rw [hps] at this; cases this; exact ⟨rfl, rfl⟩)
      have HLn : Hid (((pre ++ [(x1, x2)]).length : Int) = (pre.length : Int) + 1) := by show _ = _; simp
      obtain ⟨j, hj⟩ : ∃ j, j = pre.length := ⟨_, rfl⟩
      have hlenI : (j : Int) < (m : Int) := by omega
      have hmI : (m : Int) ≤ 4096 := by omega
      have hj0 : (0 : Int) ≤ (j : Int) := by omega
      have hz : (flatP ys).length = 2 * m := by rw [flatP_len, HL.out]
      rw [← hj] at HI HLn c1 c2
      obtain ⟨c3, ⟨c4, f4⟩, c5, c6, c7, f7⟩ := HI.out.cells
      rw [hz] at c6
      have HI1 : Hid (Ag w stop w.heap.size (w.heap.size + 1) (w.heap.size + 1 + 1) qb lb pg pc m (some ⟨g, 0, none⟩) lc (flatP ys) nb ((j : Int) + 1) (W.setCell ⟨nb, 0, none⟩ (.int .i64 ((j : Int) + 1)))) := HI.out.num _
      obtain ⟨d3, ⟨d4, g4⟩, d5, d6, d7, g7⟩ := HI1.out.cells
      rw [hz] at d6
      clear hA hKd hr9 hps hlen hj
      simp only
      by_cases e1 : x1 = y1
      · by_cases e2 : x2 = y2
        · subst e1
          subst e2
          by_cases hst : (j : Int) + 1 = stop
          · subst hst
            have d8 : ((W.setCell ⟨nb, 0, none⟩ (.int .i64 ((j : Int) + 1))).alloc (.cells #[.int .i64 0] 3)).cell? ⟨qb, 0, none⟩ = some (.func (.func 29) #[] #[.pointer (some ⟨w.heap.size + 1 + 1, 0, none⟩)]) := (HI1.out.no ((Kept.refl No _).alloc _)).cells.2.2.1
            gi_wp2
            obtain ⟨W1, hW1⟩ : ∃ W1, W1 = (W.setCell ⟨nb, 0, none⟩ (.int .i64 ((j : Int) + 1))).alloc (.cells #[.int .i64 0] 3) := ⟨_, rfl⟩
            rw [← hW1]
            have hib : (W.setCell ⟨nb, 0, none⟩ (.int .i64 ((j : Int) + 1))).heap.size = W.heap.size := by simp
            have HI2 : Hid (Ag w ((j : Int) + 1) w.heap.size (w.heap.size + 1) (w.heap.size + 1 + 1) qb lb pg pc m (some ⟨g, 0, none⟩) lc (flatP ys) nb ((j : Int) + 1) W1) := by rw [hW1]; exact HI1.out.no ((Kept.refl No _).alloc _)
            have HBm : Hid (Box W1 W.heap.size 3 #[.int .i64 0]) := by rw [hW1, ← hib]; exact Box.new _ _ _
            have HKo : Hid (KeepsOthers W W1) := by rw [hW1]; exact (KeepsOthers.setCell _ _ _).trans (KeepsOthers.alloc _ _)
            have HBw : Hid (Below w.heap.size W W1) := by rw [hW1]; exact (bset2 HI.out.nbw).trans ((Below.refl _ _).alloc (by rw [hib]; exact HI.out.ah.kp.size) _)
            have hr1 : W1.heap[l]? = some (.loop r9) := HKo.out.same l _ HR9.out rfl
            have HDn : Hid (W1.heap[D]? = some (.deferred (some []))) := HKo.out.same D _ HKd.out rfl
            have HSz : Hid (nb < W.heap.size ∧ W.heap.size < W1.heap.size ∧ D < W1.heap.size ∧ w.heap.size ≤ W.heap.size ∧ W.heap.size ≤ W1.heap.size) := ⟨HI.out.bn.lt, HBm.out.lt, (Array.getElem?_eq_some_iff.1 HDn.out).1, HI.out.ah.kp.size, HKo.out.size⟩
            have HKF : Hid (KeepsFrom W2.heap.size W W1) := HKo.out.from _
            clear hW1 hib HR9 HKd HI HI1 c1 c2 c3 c4 f4 c5 c6 c7 f7 d3 d4 g4 d5 d6 d7 g7 d8 HKo
            obtain ⟨ib, hib⟩ : ∃ ib, ib = W.heap.size := ⟨_, rfl⟩
            rw [← hib] at HBm ⊢
            have HSi : Hid (nb < ib ∧ ib < W1.heap.size ∧ w.heap.size ≤ ib) := by rw [hib]; exact ⟨HSz.out.1, HSz.out.2.1, HSz.out.2.2.2.1⟩
            clear hib
            refine' rf_N (F := Fence.wide.inRound l) (l₀ := l) (r₀ := r9) rfl hr1 (by omega) (gf := 29) (lb := #[.pointer (some ⟨w.heap.size + 1 + 1, 0, none⟩)]) rfl trivial (enters_of Try.func29 (by kernel_rfl) rfl)
              ((pts_stops Fence.wide (6 - 1) trivial rfl (by omega) (w.heap.size + 1 + 1) w.heap.size pg pc m ys hm HL.out W1 hpg HI2.out.ah.bp.lt HI2.out.ah.kp.size ((HI2.out.ah.bp.cell 0).trans rfl) (HRc.out W1 HI2.out.ah.kp)).inRound l) belowK_t (belowK_b HI2.out.ah.kp.size) (Below.refl _ _) (fun _ => rfl)
              (fun pre' W' => (Ag w ((j : Int) + 1) w.heap.size (w.heap.size + 1) (w.heap.size + 1 + 1) qb lb pg pc m (some ⟨g, 0, none⟩) lc (flatP ys) nb ((j : Int) + 1) W' ∧ Box W' ib 3 #[.int .i64 (pre'.length : Int)]) ∧ (Below w.heap.size W W' ∧ KeepsFrom W2.heap.size W W') ∧ W'.heap[D]? = some (.deferred (some [])))
              (fun _ _ _ => False)
              (OwnFrom.and (OwnFrom.and (Ag.own (Nat.le_trans HSz.out.2.2.2.1 HSz.out.2.2.2.2) _) (box_own HSi.out.2.1 _)) (OwnFrom.and (OwnFrom.and (ownFrom_below HSz.out.2.2.2.1 (Nat.le_trans HSz.out.2.2.2.1 HSz.out.2.2.2.2)) (ownFrom_keepsFrom HSz.out.2.2.2.2)) (obj_own HSz.out.2.2.1)))
              (fun c s W W' row h hg hr => h)
              ⟨⟨HI2.out, HBm.out⟩, ⟨HBw.out, HKF.out⟩, HDn.out⟩
              (fun W => Below.refl _ W)
              _ ?assign3 ?body3 ?done3 ?stop3
            case assign3 =>
              intro l x W K hK
              gi_wp2
              exact hK
            case stop3 =>
              rintro c pre' W' hpre h
              exact h.elim
            case body3 =>
              rintro l2 pre' ⟨z1, z2⟩ W' hl2 hr2 ⟨⟨hA', hBm'⟩, ⟨hBw, hKf⟩, hD'⟩ hlen'
              have HA' : Hid (Ag w ((j : Int) + 1) w.heap.size (w.heap.size + 1) (w.heap.size + 1 + 1) qb lb pg pc m (some ⟨g, 0, none⟩) lc (flatP ys) nb ((j : Int) + 1) W') := hA'
              have HX' : Hid ((Below w.heap.size W W' ∧ KeepsFrom W2.heap.size W W') ∧ W'.heap[D]? = some (.deferred (some []))) := ⟨⟨hBw, hKf⟩, hD'⟩
              have HL' : Hid (((pre' ++ [(z1, z2)]).length : Int) = (pre'.length : Int) + 1) := by show _ = _; simp
              obtain ⟨i, hi⟩ : ∃ i, i = pre'.length := ⟨_, rfl⟩
              have hiI : (i : Int) < (m : Int) := by have hlen' : pre'.length < m := hlen'; omega
              have hi0 : (0 : Int) ≤ (i : Int) := by omega
              rw [← hi] at HL' hBm'
              have HBx : Hid (Box W' ib 3 #[.int .i64 (i : Int)]) := hBm'
              have cm := hBm'.cell 0
              have fm := hBm'.frozen 0
              simp only [List.getElem?_toArray, List.getElem?_cons_zero] at cm
              clear hA' hBm' hBw hKf hD' hlen' hi hr2 hl2
              simp only
              gi_wp2
              have hbs : Below w.heap.size W' (W'.setCell ⟨ib, 0, none⟩ (.int .i64 ((i : Int) + 1))) := bset2 HSi.out.2.2
              have hkf : KeepsFrom W2.heap.size W' (W'.setCell ⟨ib, 0, none⟩ (.int .i64 ((i : Int) + 1))) := (KeepsOthers.setCell _ _ _).from _
              refine ⟨(KeepsOthers.setCell _ _ _).from _, hbs, ⟨HA'.out.above HSi.out.1 ((Kept.refl _ W').setCell (p := ⟨ib, 0, none⟩) (fun _ => Nat.le_refl _) _), by rw [HL'.out]; exact HBx.out.set 0 _⟩, ⟨HX'.out.1.1.trans hbs, HX'.out.1.2.trans hkf⟩, (KeepsOthers.setCell W' ⟨ib, 0, none⟩ _).same D _ HX'.out.2 rfl⟩
            case done3 =>
              rintro xs W' hxs ⟨⟨hA', hBm'⟩, ⟨hBw, hKf⟩, hD'⟩
              have hxl : (xs.length : Int) = (m : Int) := by have h1 : xs.length = ys.length := by rw [hxs]
                                                             have h2 := HL.out; omega
              rw [hxl] at hBm'
              have HA' : Hid (Ag w ((j : Int) + 1) w.heap.size (w.heap.size + 1) (w.heap.size + 1 + 1) qb lb pg pc m (some ⟨g, 0, none⟩) lc (flatP ys) nb ((j : Int) + 1) W') := hA'
              have HX' : Hid ((Below w.heap.size W W' ∧ KeepsFrom W2.heap.size W W') ∧ W'.heap[D]? = some (.deferred (some []))) := ⟨⟨hBw, hKf⟩, hD'⟩
              have cm := hBm'.cell 0
              simp only [List.getElem?_toArray, List.getElem?_cons_zero] at cm
              obtain ⟨c3, ⟨c4, f4⟩, c5, c6, c7, f7⟩ := HA'.out.cells
              rw [hz] at c6
              clear hA' hBm' hBw hKf hD' hxs hxl
              gi_wp2
              exact ⟨HX'.out.1.2, .inr ⟨rfl, ⟨_, HA'.out⟩, HX'.out.2⟩⟩
          · have hst' : ((j : Int) + 1 == stop) = false := by simp [hst]
            gi_wp2
            exact ⟨(KeepsOthers.setCell _ _ _).from _, bset2 HI.out.nbw, by show Ag w stop w.heap.size (w.heap.size + 1) (w.heap.size + 1 + 1) qb lb pg pc m (some ⟨g, 0, none⟩) lc (flatP ys) nb ((pre ++ [(x1, x2)]).length : Int) _; rw [HLn.out]; exact HI1.out, (KeepsOthers.setCell W ⟨nb, 0, none⟩ _).same D _ HKd.out rfl⟩
        · subst e1
          have e2' : (y2 != x2) = true := by simp [Ne.symm e2]
          gi_wp2
          exact ⟨(KeepsOthers.setCell _ _ _).from _, .inl ⟨rfl, HN.out (fun h => e2 h.2)⟩⟩
      · have e1' : (y1 != x1) = true := by simp [Ne.symm e1]
        gi_wp2
        exact ⟨(KeepsOthers.setCell _ _ _).from _, .inl ⟨rfl, HN.out (fun h => e1 h.1)⟩⟩
    case done2 =>
      rintro D2 xs W4 hD4 _ ⟨hA4, hKd⟩ hKe
      have HI4 : Hid (∃ x : Int, Ag w stop w.heap.size (w.heap.size + 1) (w.heap.size + 1 + 1) qb lb pg pc m la lc (flatP ys) nb x W4) := ⟨_, hA4⟩
      obtain ⟨x4, HI4⟩ := HI4.out
      have HI4 : Hid (Ag w stop w.heap.size (w.heap.size + 1) (w.heap.size + 1 + 1) qb lb pg pc m la lc (flatP ys) nb x4 W4) := HI4
      have HKd : Hid (W4.heap[D]? = some (.deferred (some []))) := hKd
      have HKe : Hid (W4.heap[D2]? = some (.deferred (some []))) := hKe
      clear hA4 hKd hKe
      obtain ⟨c3, ⟨c4, f4⟩, c5, c6, c7, f7⟩ := HI4.out.cells
      have HI5 : Hid (Ag w stop w.heap.size (w.heap.size + 1) (w.heap.size + 1 + 1) qb lb pg pc m la lc (flatP ys) nb 0 (W4.setCell ⟨nb, 0, none⟩ (.int .i64 0))) := HI4.out.num 0
      have HKd5 : Hid ((W4.setCell ⟨nb, 0, none⟩ (.int .i64 0)).heap[D]? = some (.deferred (some []))) := (KeepsOthers.setCell W4 ⟨nb, 0, none⟩ (.int .i64 0)).same D _ HKd.out rfl
      have HKe5 : Hid ((W4.setCell ⟨nb, 0, none⟩ (.int .i64 0)).heap[D2]? = some (.deferred (some []))) := (KeepsOthers.setCell W4 ⟨nb, 0, none⟩ (.int .i64 0)).same D2 _ HKe.out rfl
      have d5 := HI5.out.cells.2.2.1
      go_wp2
      obtain ⟨W5, hW5⟩ : ∃ W5, W5 = W4.setCell ⟨nb, 0, none⟩ (.int .i64 0) := ⟨_, rfl⟩
      rw [← hW5] at HI5 HKd5 HKe5 ⊢
      clear hW5 c3 c4 f4 c5 c6 c7 f7 d5 HKd HKe HI4
      have HW5 : Hid (w.heap.size ≤ W5.heap.size ∧ D < W5.heap.size ∧ D2 < W5.heap.size ∧ nb < W5.heap.size) := ⟨HI5.out.ah.kp.size, (Array.getElem?_eq_some_iff.1 HKd5.out).1, (Array.getElem?_eq_some_iff.1 HKe5.out).1, HI5.out.bn.lt⟩
      have HDD : Hid (D < D2) := Nat.lt_of_lt_of_le HDl.out hD4
      refine (wpIn_wide (n := 8)).1 ?_
      refine' rf_H (F := Fence.wide) rfl (by omega) (gf := 29) (lb := #[.pointer (some ⟨w.heap.size + 1 + 1, 0, none⟩)]) rfl trivial (enters_of Try.func29 (by kernel_rfl) rfl)
        (pts_stops Fence.wide (8 - 1) trivial rfl (by omega) (w.heap.size + 1 + 1) w.heap.size pg pc m ys hm HL.out W5 hpg HI5.out.ah.bp.lt HI5.out.ah.kp.size ((HI5.out.ah.bp.cell 0).trans rfl) (HRc.out W5 HI5.out.ah.kp)) belowK_t (belowK_b HI5.out.ah.kp.size) (Below.refl _ _) (fun _ => rfl)
        (fun pre W => Ag w stop w.heap.size (w.heap.size + 1) (w.heap.size + 1 + 1) qb lb pg pc m la lc (flatP ys) nb (pre.length : Int) W ∧ W.heap[D]? = some (.deferred (some [])) ∧ W.heap[D2]? = some (.deferred (some [])))
        (fun c pre _ => c = .ret ∧ ¬ pre <+: ys)
        (OwnFrom.and (Ag.own HW5.out.1 _) (OwnFrom.and (obj_own HW5.out.2.1) (obj_own HW5.out.2.2.1)))
        (fun c s W W' row h hg hr => h)
        ⟨HI5.out, HKd5.out, HKe5.out⟩
        (fun W => Below.refl _ W)
        _ ?assign5 ?body5 ?done5 ?stop5
      case assign5 =>
        intro l x W K hK
        gi_wp2
        exact hK
      case stop5 =>
        rintro D3 c pre W hD hpre ⟨_, hn⟩ _
        exact absurd hpre hn
      case body5 =>
        rintro l pre ⟨x1, x2⟩ W hl _ ⟨hA, hKd, hKe⟩ hlen
        have HI : Hid (Ag w stop w.heap.size (w.heap.size + 1) (w.heap.size + 1 + 1) qb lb pg pc m la lc (flatP ys) nb (pre.length : Int) W) := hA
        have HKd : Hid (W.heap[D]? = some (.deferred (some []))) := hKd
        have HKe : Hid (W.heap[D2]? = some (.deferred (some []))) := hKe
        obtain ⟨g, y1, y2, ela, c1, c2, hps⟩ := hA.row (by rw [HL.out]; exact hlen)
        subst ela
        have HN : Hid (¬ (x1 = y1 ∧ x2 = y2) → ¬ pre ++ [(x1, x2)] <+: ys) := fun h hp => h (by have := pre_next hp; rw [hps] at this; cases this; exact ⟨rfl, rfl⟩)
        have HLn : Hid (((pre ++ [(x1, x2)]).length : Int) = (pre.length : Int) + 1) := by show _ = _; simp
        obtain ⟨j, hj⟩ : ∃ j, j = pre.length := ⟨_, rfl⟩
        have hlenI : (j : Int) < (m : Int) := by omega
        have hmI : (m : Int) ≤ 4096 := by omega
        have hj0 : (0 : Int) ≤ (j : Int) := by omega
        have hz : (flatP ys).length = 2 * m := by rw [flatP_len, HL.out]
        rw [← hj] at HI HLn c1 c2
        obtain ⟨c3, ⟨c4, f4⟩, c5, c6, c7, f7⟩ := HI.out.cells
        rw [hz] at c6
        have HI1 : Hid (Ag w stop w.heap.size (w.heap.size + 1) (w.heap.size + 1 + 1) qb lb pg pc m (some ⟨g, 0, none⟩) lc (flatP ys) nb ((j : Int) + 1) (W.setCell ⟨nb, 0, none⟩ (.int .i64 ((j : Int) + 1)))) := HI.out.num _
        clear hA hKd hKe hps hlen hj
        simp only
        by_cases e1 : x1 = y1
        · by_cases e2 : x2 = y2
          · subst e1
            subst e2
            gi_wp2
            exact ⟨(KeepsOthers.setCell _ _ _).from _, bset2 HI.out.nbw, by show Ag w stop w.heap.size (w.heap.size + 1) (w.heap.size + 1 + 1) qb lb pg pc m (some ⟨g, 0, none⟩) lc (flatP ys) nb ((pre ++ [(x1, x2)]).length : Int) _; rw [HLn.out]; exact HI1.out, (KeepsOthers.setCell W ⟨nb, 0, none⟩ _).same D _ HKd.out rfl, (KeepsOthers.setCell W ⟨nb, 0, none⟩ _).same D2 _ HKe.out rfl⟩
          · subst e1
            have e2' : (y2 != x2) = true := by simp [Ne.symm e2]
            gi_wp2
            exact ⟨(KeepsOthers.setCell _ _ _).from _, rfl, HN.out (fun h => e2 h.2)⟩
        · have e1' : (y1 != x1) = true := by simp [Ne.symm e1]
          gi_wp2
          exact ⟨(KeepsOthers.setCell _ _ _).from _, rfl, HN.out (fun h => e1 h.1)⟩
      case done5 =>
        rintro D3 xs W6 hD6 hxs ⟨hA, hKd, hKe⟩ hKf
        have hxl : (xs.length : Int) = (m : Int) := by have h1 : xs.length = ys.length := by rw [hxs]
                                                       have h2 := HL.out; omega
        have HI : Hid (Ag w stop w.heap.size (w.heap.size + 1) (w.heap.size + 1 + 1) qb lb pg pc m la lc (flatP ys) nb (m : Int) W6) := by rw [hxl] at hA; exact hA
        have HKd : Hid (W6.heap[D]? = some (.deferred (some []))) := hKd
        have HKe : Hid (W6.heap[D2]? = some (.deferred (some []))) := hKe
        have HKf : Hid (W6.heap[D3]? = some (.deferred (some []))) := hKf
        have hz : (flatP ys).length = 2 * m := by rw [flatP_len, HL.out]
        obtain ⟨c3, ⟨c4, f4⟩, c5, c6, c7, f7⟩ := HI.out.cells
        rw [hz] at c6
        have hm0 : (0 : Int) < (m : Int) := by omega
        have hm00 : 0 < m := by omega
        clear hA hKd hKe hKf hxs hxl
        go_wp2
        have x6 : Box (W6.setCell ⟨w.heap.size + 1, 0, none⟩ (.bool true)) (w.heap.size + 1) 4 #[.bool true] := HI.out.ah.br.set 0 _
        have t1 : (W6.setCell ⟨w.heap.size + 1, 0, none⟩ (.bool true)).heap[D3]? = some (.deferred (some [])) := (KeepsOthers.setCell W6 _ _).same D3 _ HKf.out rfl
        have t2 : (W6.setCell ⟨w.heap.size + 1, 0, none⟩ (.bool true)).heap[D2]? = some (.deferred (some [])) := (KeepsOthers.setCell W6 _ _).same D2 _ HKe.out rfl
        have t3 : (W6.setCell ⟨w.heap.size + 1, 0, none⟩ (.bool true)).heap[D]? = some (.deferred (some [])) := (KeepsOthers.setCell W6 _ _).same D _ HKd.out rfl
        have kw : Kept No w (W6.setCell ⟨w.heap.size + 1, 0, none⟩ (.bool true)) := HI.out.ah.kp.setCell (p := ⟨w.heap.size + 1, 0, none⟩) (fun e => by have e : w.heap.size + 1 < w.heap.size := e; omega) _
        obtain ⟨W7, hW7⟩ : ∃ W7, W7 = W6.setCell ⟨w.heap.size + 1, 0, none⟩ (.bool true) := ⟨_, rfl⟩
        rw [← hW7] at x6 t1 t2 t3 kw ⊢
        have hDw := HDw.out
        have hDD := HDD.out
        have hD5 := HW5.out.2.2.1
        have u2 : (W7.putObj D3 (.deferred none)).heap[D2]? = some (.deferred (some [])) := (World.putObj_heap_other (by omega)).trans t2
        have u3 : (W7.putObj D3 (.deferred none)).heap[D]? = some (.deferred (some [])) := (World.putObj_heap_other (by omega)).trans t3
        have v3 : ((W7.putObj D3 (.deferred none)).putObj D2 (.deferred none)).heap[D]? = some (.deferred (some [])) := (World.putObj_heap_other (by omega)).trans u3
        have x7 := box_cells x6 (grownBy_putObj' W7 D3 (.deferred none)) (fun r e => by cases e; exact ⟨_, t1, rfl⟩)
        have x8 := box_cells x7 (grownBy_putObj' (W7.putObj D3 (.deferred none)) D2 (.deferred none)) (fun r e => by cases e; exact ⟨_, u2, rfl⟩)
        have x9 := box_cells x8 (grownBy_putObj' ((W7.putObj D3 (.deferred none)).putObj D2 (.deferred none)) D (.deferred none)) (fun r e => by cases e; exact ⟨_, v3, rfl⟩)
        have kz : Kept No w (((W7.putObj D3 (.deferred none)).putObj D2 (.deferred none)).putObj D (.deferred none)) := ((kw.grown (grownBy_putObj' W7 D3 (.deferred none)) (fun k e hk => by cases e; omega)).grown (grownBy_putObj' _ D2 (.deferred none)) (fun k e hk => by cases e; omega)).grown (grownBy_putObj' _ D (.deferred none)) (fun k e hk => by cases e; omega)
        have cz := x9.cell 0
        simp only [List.getElem?_toArray, List.getElem?_cons_zero] at cz
        refine ⟨by simp, .inl ⟨_, _, rfl, run_takeDeferred t1, ?_⟩⟩
        refine ⟨by simp, .inl ⟨_, _, rfl, run_takeDeferred u2, ?_⟩⟩
        refine ⟨by simp, .inl ⟨_, _, rfl, run_takeDeferred v3, ?_⟩⟩
        refine ⟨.bool true, ?_, rfl, kz.below (Nat.le_refl _) (fun k e => e.elim)⟩
        simp [results, Try.results26, go_sem, cz]
    case stop2 =>
      rintro D2 c pre4 W4 hD4 hpre (⟨_, hn⟩ | ⟨rfl, ⟨x4, hA4⟩, hKd⟩) hKe
      · exact absurd hpre hn
      · have HI4 : Hid (Ag w stop w.heap.size (w.heap.size + 1) (w.heap.size + 1 + 1) qb lb pg pc m la lc (flatP ys) nb x4 W4) := hA4
        have HKd : Hid (W4.heap[D]? = some (.deferred (some []))) := hKd
        have HKe : Hid (W4.heap[D2]? = some (.deferred (some []))) := hKe
        clear hA4 hKd hKe hpre
        refine wpIn_wide.2 ?_
        obtain ⟨c3, ⟨c4, f4⟩, c5, c6, c7, f7⟩ := HI4.out.cells
        have HI5 : Hid (Ag w stop w.heap.size (w.heap.size + 1) (w.heap.size + 1 + 1) qb lb pg pc m la lc (flatP ys) nb 0 (W4.setCell ⟨nb, 0, none⟩ (.int .i64 0))) := HI4.out.num 0
        have HKd5 : Hid ((W4.setCell ⟨nb, 0, none⟩ (.int .i64 0)).heap[D]? = some (.deferred (some []))) := (KeepsOthers.setCell W4 ⟨nb, 0, none⟩ (.int .i64 0)).same D _ HKd.out rfl
        have HKe5 : Hid ((W4.setCell ⟨nb, 0, none⟩ (.int .i64 0)).heap[D2]? = some (.deferred (some []))) := (KeepsOthers.setCell W4 ⟨nb, 0, none⟩ (.int .i64 0)).same D2 _ HKe.out rfl
        have d5 := HI5.out.cells.2.2.1
        go_wp2
        obtain ⟨W5, hW5⟩ : ∃ W5, W5 = W4.setCell ⟨nb, 0, none⟩ (.int .i64 0) := ⟨_, rfl⟩
        rw [← hW5] at HI5 HKd5 HKe5 ⊢
        clear hW5 c3 c4 f4 c5 c6 c7 f7 d5 HKd HKe HI4
        have HW5 : Hid (w.heap.size ≤ W5.heap.size ∧ D < W5.heap.size ∧ D2 < W5.heap.size ∧ nb < W5.heap.size) := ⟨HI5.out.ah.kp.size, (Array.getElem?_eq_some_iff.1 HKd5.out).1, (Array.getElem?_eq_some_iff.1 HKe5.out).1, HI5.out.bn.lt⟩
        have HDD : Hid (D < D2) := Nat.lt_of_lt_of_le HDl.out hD4
        refine (wpIn_wide (n := 8)).1 ?_
        refine' rf_H (F := Fence.wide) rfl (by omega) (gf := 29) (lb := #[.pointer (some ⟨w.heap.size + 1 + 1, 0, none⟩)]) rfl trivial (enters_of Try.func29 (by kernel_rfl) rfl)
          (pts_stops Fence.wide (8 - 1) trivial rfl (by omega) (w.heap.size + 1 + 1) w.heap.size pg pc m ys hm HL.out W5 hpg HI5.out.ah.bp.lt HI5.out.ah.kp.size ((HI5.out.ah.bp.cell 0).trans rfl) (HRc.out W5 HI5.out.ah.kp)) belowK_t (belowK_b HI5.out.ah.kp.size) (Below.refl _ _) (fun _ => rfl)
          (fun pre W => Ag w stop w.heap.size (w.heap.size + 1) (w.heap.size + 1 + 1) qb lb pg pc m la lc (flatP ys) nb (pre.length : Int) W ∧ W.heap[D]? = some (.deferred (some [])) ∧ W.heap[D2]? = some (.deferred (some [])))
          (fun c pre _ => c = .ret ∧ ¬ pre <+: ys)
          (OwnFrom.and (Ag.own HW5.out.1 _) (OwnFrom.and (obj_own HW5.out.2.1) (obj_own HW5.out.2.2.1)))
          (fun c s W W' row h hg hr => h)
          ⟨HI5.out, HKd5.out, HKe5.out⟩
          (fun W => Below.refl _ W)
          _ ?assign5 ?body5 ?done5 ?stop5
        case assign5 =>
          intro l x W K hK
          gi_wp2
          exact hK
        case stop5 =>
          rintro D3 c pre W hD hpre ⟨_, hn⟩ _
          exact absurd hpre hn
        case body5 =>
          rintro l pre ⟨x1, x2⟩ W hl _ ⟨hA, hKd, hKe⟩ hlen
          have HI : Hid (Ag w stop w.heap.size (w.heap.size + 1) (w.heap.size + 1 + 1) qb lb pg pc m la lc (flatP ys) nb (pre.length : Int) W) := hA
          have HKd : Hid (W.heap[D]? = some (.deferred (some []))) := hKd
          have HKe : Hid (W.heap[D2]? = some (.deferred (some []))) := hKe
          obtain ⟨g, y1, y2, ela, c1, c2, hps⟩ := hA.row (by rw [HL.out]; exact hlen)
          subst ela
          have HN : Hid (¬ (x1 = y1 ∧ x2 = y2) → ¬ pre ++ [(x1, x2)] <+: ys) := fun h hp => h (by have := pre_next hp; rw [hps] at this; cases this; exact ⟨rfl, rfl⟩)
          have HLn : Hid (((pre ++ [(x1, x2)]).length : Int) = (pre.length : Int) + 1) := by show _ = _; simp
          obtain ⟨j, hj⟩ : ∃ j, j = pre.length := ⟨_, rfl⟩
          have hlenI : (j : Int) < (m : Int) := by omega
          have hmI : (m : Int) ≤ 4096 := by omega
          have hj0 : (0 : Int) ≤ (j : Int) := by omega
          have hz : (flatP ys).length = 2 * m := by rw [flatP_len, HL.out]
          rw [← hj] at HI HLn c1 c2
          obtain ⟨c3, ⟨c4, f4⟩, c5, c6, c7, f7⟩ := HI.out.cells
          rw [hz] at c6
          have HI1 : Hid (Ag w stop w.heap.size (w.heap.size + 1) (w.heap.size + 1 + 1) qb lb pg pc m (some ⟨g, 0, none⟩) lc (flatP ys) nb ((j : Int) + 1) (W.setCell ⟨nb, 0, none⟩ (.int .i64 ((j : Int) + 1)))) := HI.out.num _
          clear hA hKd hKe hps hlen hj
          simp only
          by_cases e1 : x1 = y1
          · by_cases e2 : x2 = y2
            · subst e1
              subst e2
              gi_wp2
              exact ⟨(KeepsOthers.setCell _ _ _).from _, bset2 HI.out.nbw, by show Ag w stop w.heap.size (w.heap.size + 1) (w.heap.size + 1 + 1) qb lb pg pc m (some ⟨g, 0, none⟩) lc (flatP ys) nb ((pre ++ [(x1, x2)]).length : Int) _; rw [HLn.out]; exact HI1.out, (KeepsOthers.setCell W ⟨nb, 0, none⟩ _).same D _ HKd.out rfl, (KeepsOthers.setCell W ⟨nb, 0, none⟩ _).same D2 _ HKe.out rfl⟩
            · subst e1
              have e2' : (y2 != x2) = true := by simp [Ne.symm e2]
              gi_wp2
              exact ⟨(KeepsOthers.setCell _ _ _).from _, rfl, HN.out (fun h => e2 h.2)⟩
          · have e1' : (y1 != x1) = true := by simp [Ne.symm e1]
            gi_wp2
            exact ⟨(KeepsOthers.setCell _ _ _).from _, rfl, HN.out (fun h => e1 h.1)⟩
        case done5 =>
          rintro D3 xs W6 hD6 hxs ⟨hA, hKd, hKe⟩ hKf
          have hxl : (xs.length : Int) = (m : Int) := by have h1 : xs.length = ys.length := by rw [hxs]
                                                         have h2 := HL.out; omega
          have HI : Hid (Ag w stop w.heap.size (w.heap.size + 1) (w.heap.size + 1 + 1) qb lb pg pc m la lc (flatP ys) nb (m : Int) W6) := by rw [hxl] at hA; exact hA
          have HKd : Hid (W6.heap[D]? = some (.deferred (some []))) := hKd
          have HKe : Hid (W6.heap[D2]? = some (.deferred (some []))) := hKe
          have HKf : Hid (W6.heap[D3]? = some (.deferred (some []))) := hKf
          have hz : (flatP ys).length = 2 * m := by rw [flatP_len, HL.out]
          obtain ⟨c3, ⟨c4, f4⟩, c5, c6, c7, f7⟩ := HI.out.cells
          rw [hz] at c6
          have hm0 : (0 : Int) < (m : Int) := by omega
          have hm00 : 0 < m := by omega
          clear hA hKd hKe hKf hxs hxl
          go_wp2
          have x6 : Box (W6.setCell ⟨w.heap.size + 1, 0, none⟩ (.bool true)) (w.heap.size + 1) 4 #[.bool true] := HI.out.ah.br.set 0 _
          have t1 : (W6.setCell ⟨w.heap.size + 1, 0, none⟩ (.bool true)).heap[D3]? = some (.deferred (some [])) := (KeepsOthers.setCell W6 _ _).same D3 _ HKf.out rfl
          have t2 : (W6.setCell ⟨w.heap.size + 1, 0, none⟩ (.bool true)).heap[D2]? = some (.deferred (some [])) := (KeepsOthers.setCell W6 _ _).same D2 _ HKe.out rfl
          have t3 : (W6.setCell ⟨w.heap.size + 1, 0, none⟩ (.bool true)).heap[D]? = some (.deferred (some [])) := (KeepsOthers.setCell W6 _ _).same D _ HKd.out rfl
          have kw : Kept No w (W6.setCell ⟨w.heap.size + 1, 0, none⟩ (.bool true)) := HI.out.ah.kp.setCell (p := ⟨w.heap.size + 1, 0, none⟩) (fun e => by have e : w.heap.size + 1 < w.heap.size := e; omega) _
          obtain ⟨W7, hW7⟩ : ∃ W7, W7 = W6.setCell ⟨w.heap.size + 1, 0, none⟩ (.bool true) := ⟨_, rfl⟩
          rw [← hW7] at x6 t1 t2 t3 kw ⊢
          have hDw := HDw.out
          have hDD := HDD.out
          have hD5 := HW5.out.2.2.1
          have u2 : (W7.putObj D3 (.deferred none)).heap[D2]? = some (.deferred (some [])) := (World.putObj_heap_other (by omega)).trans t2
          have u3 : (W7.putObj D3 (.deferred none)).heap[D]? = some (.deferred (some [])) := (World.putObj_heap_other (by omega)).trans t3
          have v3 : ((W7.putObj D3 (.deferred none)).putObj D2 (.deferred none)).heap[D]? = some (.deferred (some [])) := (World.putObj_heap_other (by omega)).trans u3
          have x7 := box_cells x6 (grownBy_putObj' W7 D3 (.deferred none)) (fun r e => by cases e; exact ⟨_, t1, rfl⟩)
          have x8 := box_cells x7 (grownBy_putObj' (W7.putObj D3 (.deferred none)) D2 (.deferred none)) (fun r e => by cases e; exact ⟨_, u2, rfl⟩)
          have x9 := box_cells x8 (grownBy_putObj' ((W7.putObj D3 (.deferred none)).putObj D2 (.deferred none)) D (.deferred none)) (fun r e => by cases e; exact ⟨_, v3, rfl⟩)
          have kz : Kept No w (((W7.putObj D3 (.deferred none)).putObj D2 (.deferred none)).putObj D (.deferred none)) := ((kw.grown (grownBy_putObj' W7 D3 (.deferred none)) (fun k e hk => by cases e; omega)).grown (grownBy_putObj' _ D2 (.deferred none)) (fun k e hk => by cases e; omega)).grown (grownBy_putObj' _ D (.deferred none)) (fun k e hk => by cases e; omega)
          have cz := x9.cell 0
          simp only [List.getElem?_toArray, List.getElem?_cons_zero] at cz
          refine ⟨by simp, .inl ⟨_, _, rfl, run_takeDeferred t1, ?_⟩⟩
          refine ⟨by simp, .inl ⟨_, _, rfl, run_takeDeferred u2, ?_⟩⟩
          refine ⟨by simp, .inl ⟨_, _, rfl, run_takeDeferred v3, ?_⟩⟩
          refine ⟨.bool true, ?_, rfl, kz.below (Nat.le_refl _) (fun k e => e.elim)⟩
          simp [results, Try.results26, go_sem, cz]

end Go.Proofs.Ytpapbleabjpbfab
