import Derived.Test.YtgiokkcdgoloaaaNc
namespace Go.Proofs.Ytgiokkcdgoloaaa
open Go.RowKit
set_option linter.unusedVariables false
set_option linter.unusedSimpArgs false

/-- What holds between the rounds: the document's block, and the program's beside it. -/
def NwI (w : World) (H : Nat) (wr : World) : Prop :=
  ∃ (nb : Bl) (ma : Option Addr) (mc : Nat), Box wr (H + 1) 57 #[.int .i64 nb.n, .int .i64 nb.c, .slice nb.a nb.l nb.k] ∧ Box wr (H + 1 + 1) 57 #[.int .i64 nb.n, .int .i64 nb.c, .slice ma nb.l mc] ∧ OwnB wr (H + 1 + 1 + 1) ma mc nb.bs ∧ BlOk w nb

set_option maxRecDepth 100000 in
set_option maxHeartbeats 8000000 in
theorem newerWalk (hb : Bl) (pa : Option Addr) (pn pc : Nat) (ps : List Bl) (w : World) (hB : BlOk w hb) (hl : ps.length = pn) (hpn : pn ≤ 140737488351232) (hP : Bls w pa ps) (hPo : ∀ x ∈ ps, BlOk w x) :
    Calls Try.prog 4 #[.agg #[.int .i64 hb.n, .int .i64 hb.c, .slice hb.a hb.l hb.k], .slice pa pn pc] w (fun e w' => e = .returned (.bool true) ∧ Kept No w w') := by
  have HBo : Hid (BlOk w hb) := hB
  have HPl : Hid (ps.length = pn) := hl
  have HP : Hid (Bls w pa ps) := hP
  have HPo : Hid (∀ x ∈ ps, BlOk w x) := hPo
  clear hB hl hP hPo
  obtain ⟨w1, hw1⟩ : ∃ w1, w1 = ((w.alloc (.cells #[.int .i64 hb.n, .int .i64 hb.c, .slice hb.a hb.l hb.k] 57)).alloc (.cells #[.int .i64 hb.n, .int .i64 hb.c, .slice hb.a hb.l hb.k] 57)).alloc (.cells #[.int .i64 hb.n, .int .i64 hb.c, .slice hb.a hb.l hb.k] 57) := ⟨_, rfl⟩
  obtain ⟨H, hH⟩ : ∃ H, H = w.heap.size := ⟨_, rfl⟩
  have HHH : Hid (H = w.heap.size) := hH
  have HK1 : Hid (Kept No w w1) := by rw [hw1]; exact (((Kept.refl No w).alloc _).alloc _).alloc _
  have e1 : (w.alloc (.cells #[.int .i64 hb.n, .int .i64 hb.c, .slice hb.a hb.l hb.k] 57)).heap.size = w.heap.size + 1 := by simp
  have e2 : ((w.alloc (.cells #[.int .i64 hb.n, .int .i64 hb.c, .slice hb.a hb.l hb.k] 57)).alloc (.cells #[.int .i64 hb.n, .int .i64 hb.c, .slice hb.a hb.l hb.k] 57)).heap.size = w.heap.size + 1 + 1 := by simp
  have HS1 : Hid (w1.heap.size = H + 1 + 1 + 1) := by show _ = _; rw [hw1, hH]; simp
  have HX1 : Hid (Box w1 (H + 1) 57 #[.int .i64 hb.n, .int .i64 hb.c, .slice hb.a hb.l hb.k]) := by
    have hX := Box.new (w.alloc (.cells #[.int .i64 hb.n, .int .i64 hb.c, .slice hb.a hb.l hb.k] 57)) 57 #[.int .i64 hb.n, .int .i64 hb.c, .slice hb.a hb.l hb.k]
    rw [e1] at hX
    rw [hw1, hH]
    exact hX.alloc _
  have HX2 : Hid (Box w1 (H + 1 + 1) 57 #[.int .i64 hb.n, .int .i64 hb.c, .slice hb.a hb.l hb.k]) := by
    have hX := Box.new ((w.alloc (.cells #[.int .i64 hb.n, .int .i64 hb.c, .slice hb.a hb.l hb.k] 57)).alloc (.cells #[.int .i64 hb.n, .int .i64 hb.c, .slice hb.a hb.l hb.k] 57)) 57 #[.int .i64 hb.n, .int .i64 hb.c, .slice hb.a hb.l hb.k]
    rw [e2] at hX
    rw [hw1, hH]
    exact hX
  clear e1 e2
  go_enter Try.func4, Try.ntmps4
  go_wp2_with (first
    | (at_builtin
       rw [← hw1]
       have hz := HS1.out
       refine wp_app0 rfl _ _ rfl (by rw [HS1.out, HHH.out]; rfl) hb.a hb.l hb.k hb.bs rfl HBo.out.len (by have := HBo.out.big; have := HBo.out.cap; omega) (HBo.out.nums.no HK1.out) HBo.out.nil ?_
       intro ma0 mc0 w2 HO2 HK2
       have HY1 : Hid (Box w2 (H + 1) 57 #[.int .i64 hb.n, .int .i64 hb.c, .slice hb.a hb.l hb.k]) := HX1.out.kept HK2.out (fun e => e)
       have HY2 : Hid (Box w2 (H + 1 + 1) 57 #[.int .i64 hb.n, .int .i64 hb.c, .slice hb.a hb.l hb.k]) := HX2.out.kept HK2.out (fun e => e)
       have b2 := HY2.out.cell 2
       have f2 := HY2.out.frozen 2
       simp only [List.getElem?_toArray, List.getElem?_cons_zero, List.getElem?_cons_succ] at b2
       rw [hH] at b2 f2
       clear hz hw1))
  rw [← hH]
  rw [← hH] at b2 f2
  have HI0 : Hid (NwI w H (w2.setCell ⟨H + 1 + 1, 2, none⟩ (.slice ma0 hb.l mc0))) := by
    refine ⟨hb, ma0, mc0, HY1.out.other (p := ⟨H + 1 + 1, 2, none⟩) (by show H + 1 ≠ H + 1 + 1; omega) _, HY2.out.set 2 _, ?_, HBo.out⟩
    have h := HO2.out
    rw [HS1.out] at h
    exact h.kept ((Kept.refl (Only (H + 1 + 1)) w2).setCell (p := ⟨H + 1 + 1, 2, none⟩) (fun _ => rfl) _) (fun k hk e => by have : k = H + 1 + 1 := e; have := h.base hk; omega)
  have HK0 : Hid (Kept No w (w2.setCell ⟨H + 1 + 1, 2, none⟩ (.slice ma0 hb.l mc0))) := (HK1.out.then HK2.out).setCell (p := ⟨H + 1 + 1, 2, none⟩) (fun h => by have : H + 1 + 1 < w.heap.size := h; have := HHH.out; omega) _
  generalize w2.setCell ⟨H + 1 + 1, 2, none⟩ (.slice ma0 hb.l mc0) = w3 at HI0 HK0 ⊢
  clear hH b2 f2 HO2 HK2 HY1 HY2 HX1 HX2 HS1 HK1
  have hqs : ∀ (w : World) (n c : Int), (binOp .neq 41 (.agg #[.int .i64 n, .int .i64 c]) (.agg #[.int .i64 n, .int .i64 c])).run Try.prog w = .ok (.bool false) w := fun w n c => by
    rw [neqStamp]; simp
  have hqb := neqBool
  go_loopw [7] (fun vi wr => ∃ (i : Nat), vi = .int .i64 i ∧ i ≤ pn ∧ i ≤ 200 ∧ Hid (NwI w H wr) ∧ Hid (Kept No w wr)) (fun i _ => pn - (intOf i).toNat)
  case atStart => exact ⟨0, by go_num, by omega, by omega, HI0, HK0⟩
  case round =>
    obtain ⟨i, rfl, hi, hi2, HI, HK⟩ := hrel
    clear HI0 HK0
    by_cases hlt : i < pn ∧ i < 200
    · obtain ⟨h1, h2⟩ := hlt
      have h1' : (i : Int) < (pn : Int) := by omega
      have h2' : (i : Int) < 200 := by omega
      obtain ⟨nb, ma, mc, hX1, hX2, hO, hnb⟩ := HI.out
      have HX1 : Hid (Box wr (H + 1) 57 #[.int .i64 nb.n, .int .i64 nb.c, .slice nb.a nb.l nb.k]) := hX1
      have HX2 : Hid (Box wr (H + 1 + 1) 57 #[.int .i64 nb.n, .int .i64 nb.c, .slice ma nb.l mc]) := hX2
      have HO : Hid (OwnB wr (H + 1 + 1 + 1) ma mc nb.bs) := hO
      have HNb : Hid (BlOk w nb) := hnb
      have hiL : i < ps.length := by rw [HPl.out]; exact h1
      have hit := List.getElem?_eq_getElem hiL
      have HIt : Hid (BlOk w ps[i]) := HPo.out _ (List.getElem_mem hiL)
      obtain ⟨pb, poff, rfl, -⟩ := HP.out i _ hit
      have HPc : Hid (∀ wr, Kept No w wr → wr.cell? ⟨pb, poff + i * 3, none⟩ = some (.int .i64 ps[i].n) ∧ wr.cell? ⟨pb, poff + i * 3 + 1, none⟩ = some (.int .i64 ps[i].c) ∧ wr.cell? ⟨pb, poff + i * 3 + 2, none⟩ = some (.slice ps[i].a ps[i].l ps[i].k)) := fun wr hk => by
        obtain ⟨b, off, e, c0, c1, c2⟩ := (HP.out.no hk) i _ hit
        cases e
        exact ⟨c0, c1, c2⟩
      generalize ps[i] = it at HPc HIt
      clear hX1 hX2 hO hnb hiL hit HI
      obtain ⟨c0, c1, c2⟩ := HPc.out wr HK.out
      have HLn : Hid (it.bs.length = it.l) := HIt.out.len
      have HLm : Hid (nb.bs.length = nb.l) := HNb.out.len
      go_upto_region 8 with (first
        | (go_at_call 13
           refine Calls.mono (lend_l it.a it.k it.l it.bs wr HLn.out (by have := HIt.out.big; have := HIt.out.cap; omega) (HIt.out.nums.no HK.out)) ?_
           rintro e w4 ⟨rfl, hB4, hk4⟩
           have HB4 : Hid (Blk w4 wr.heap.size (lent it.bs 5)) := hB4
           have HK4 : Hid (Kept No wr w4) := hk4
           have HR : Hid (H + 1 + 1 + 1 ≤ wr.heap.size) := HX2.out.lt
           have HLma : Hid (∀ k, At ma k → k < wr.heap.size) := fun k hk => OwnB.lt HO.out hk
           have HLw : Hid (w.heap.size ≤ wr.heap.size) := HK.out.size
           generalize wr.heap.size = L at HB4 HR HLma HLw ⊢
           clear hB4 hk4 c0 c1 c2))
      have HKw4 : Hid (Kept No w w4) := HK.out.then HK4.out
      have HXc : Hid (∀ wr, Kept No w4 wr → wr.cell? ⟨H + 1 + 1, 0, none⟩ = some (.int .i64 nb.n) ∧ wr.cell? ⟨H + 1 + 1, 1, none⟩ = some (.int .i64 nb.c) ∧ wr.cell? ⟨H + 1 + 1, 2, none⟩ = some (.slice ma nb.l mc)) := fun wr hk => by
        have hX := HX2.out.kept (HK4.out.then hk) (fun e => e)
        exact ⟨hX.cell 0, hX.cell 1, hX.cell 2⟩
      obtain ⟨x0, x1, x2⟩ := HXc.out w4 (Kept.refl _ _)
      obtain ⟨c0, c1, -⟩ := HPc.out w4 HKw4.out
      have HKr : Hid (Kept No w4 w4.drew) := (Kept.refl No w4).drew
      have HX2s : Hid (H + 1 + 1 + 1 ≤ w4.heap.size) := (HX2.out.kept HK4.out (fun e => e)).lt
      have HPb : Hid (pb < w.heap.size) := World.block_lt_of_cell? w _ (HPc.out w (Kept.refl _ _)).1
      have HMb : Hid (∀ wr, Kept No w4 wr → Bytes wr ma nb.bs) := fun wr hk => HO.out.bytes.no (HK4.out.then hk)
      have HLb : Hid (∀ wr, Kept No w4 wr → Bytes wr (some ⟨L, 0, none⟩) it.bs) := fun wr hk => by
        have := (HB4.out.bytes0 it.bs.length).no hk
        rw [lent_take] at this
        exact this
      go_region_held3 (fun w' => w'.cell? ⟨H + 1 + 1, 0, none⟩ = some (.int .i64 nb.n) ∧ w'.cell? ⟨H + 1 + 1, 1, none⟩ = some (.int .i64 nb.c) ∧ w'.cell? ⟨H + 1 + 1, 2, none⟩ = some (.slice ma nb.l mc) ∧ w'.cell? ⟨pb, poff + i * 3, none⟩ = some (.int .i64 it.n) ∧ w'.cell? ⟨pb, poff + i * 3 + 1, none⟩ = some (.int .i64 it.c)) (go_keep) (first
        | (go_at_call 14
           refine Calls.mono (newer_any nb it ma mc (some ⟨L, 0, none⟩) (it.l + 5) _ (HMb.out _ (by first | exact HKr.out | exact HKr.out.alloc _)) HLm.out (by have := HNb.out.big; have := HNb.out.cap; omega) (HLb.out _ (by first | exact HKr.out | exact HKr.out.alloc _)) HLn.out (by have := HIt.out.big; have := HIt.out.cap; omega)) ?_
           rintro e w5 ⟨xa, xc, rfl, hO5, hk5⟩
           have HK5 : Hid (Kept No w4 w5) := by first | exact HKr.out.then hk5 | exact (HKr.out.alloc _).then hk5
           have HO5 : Hid (OwnB w5 w4.heap.size xa xc (pickB nb it).bs) := by first | exact hO5 | exact Own.lower hO5 (by simp)
           first | (have hq : Kept No w4.drew w5 := hk5; clear hq) | (
             have hZ : Box w5 w4.heap.size 57 #[.int .i64 0, .int .i64 0, .slice none 0 0] := (Box.new w4.drew 57 #[.int .i64 0, .int .i64 0, .slice none 0 0]).kept hk5 (fun e => e)
             have HZ5 : Hid (Box w5 w4.heap.size 57 #[.int .i64 0, .int .i64 0, .slice none 0 0]) := hZ
             have HO6 : Hid (OwnB w5 (w4.heap.size + 1) xa xc (pickB nb it).bs) := (by have h : OwnB w5 (w4.heap.size + 1) xa xc (pickB nb it).bs := (by simpa using hO5); exact h)
             have HR5 : Hid (H + 1 + 1 + 1 ≤ w4.heap.size) := HX2s.out
             have b0 := hZ.cell 0
             have b1 := hZ.cell 1
             have b2 := hZ.cell 2
             have f0 := hZ.frozen 0
             have f1 := hZ.frozen 1
             have f2 := hZ.frozen 2
             have n1 : H + 1 + 1 ≠ w4.heap.size := by have := HX2s.out; omega
             have n2 : w4.heap.size ≠ H + 1 + 1 := n1.symm
             have n3 : pb ≠ w4.heap.size := by have := HPb.out; have := HKw4.out.size; omega
             have n4 : w4.heap.size ≠ pb := n3.symm
             simp only [List.getElem?_toArray, List.getElem?_cons_zero, List.getElem?_cons_succ] at b0 b1 b2
             clear hZ)
           obtain ⟨y0, y1, y2⟩ := HXc.out w5 HK5.out
           obtain ⟨d0, d1, -⟩ := HPc.out w5 (HKw4.out.then HK5.out)
           clear hO5 hk5))
      all_goals (first
        | (have HF : Hid (Box (((w5.setCell ⟨w4.heap.size, 0, none⟩ (.int .i64 (pickB nb it).n)).setCell ⟨w4.heap.size, 1, none⟩ (.int .i64 (pickB nb it).c)).setCell ⟨w4.heap.size, 2, none⟩ (.slice xa (pickB nb it).l xc)) w4.heap.size 57 #[.int .i64 (pickB nb it).n, .int .i64 (pickB nb it).c, .slice xa (pickB nb it).l xc] ∧ OwnB (((w5.setCell ⟨w4.heap.size, 0, none⟩ (.int .i64 (pickB nb it).n)).setCell ⟨w4.heap.size, 1, none⟩ (.int .i64 (pickB nb it).c)).setCell ⟨w4.heap.size, 2, none⟩ (.slice xa (pickB nb it).l xc)) w4.heap.size xa xc (pickB nb it).bs ∧ Kept No w4 (((w5.setCell ⟨w4.heap.size, 0, none⟩ (.int .i64 (pickB nb it).n)).setCell ⟨w4.heap.size, 1, none⟩ (.int .i64 (pickB nb it).c)).setCell ⟨w4.heap.size, 2, none⟩ (.slice xa (pickB nb it).l xc)) ∧ w4.heap.size ≤ w4.heap.size) := by
             obtain ⟨h1, h2⟩ := set3 HZ5.out (.int .i64 (pickB nb it).n) (.int .i64 (pickB nb it).c) (.slice xa (pickB nb it).l xc)
             exact ⟨h1, Own.lower (HO6.out.kept h2 (fun k hk e => by have : k = w4.heap.size := e; have := HO6.out.base hk; omega)) (by omega), HK5.out.trans h2 (fun _ e => e) (fun i hi e => by have : i = w4.heap.size := e; omega), Nat.le_refl _⟩
           generalize (((w5.setCell ⟨w4.heap.size, 0, none⟩ (.int .i64 (pickB nb it).n)).setCell ⟨w4.heap.size, 1, none⟩ (.int .i64 (pickB nb it).c)).setCell ⟨w4.heap.size, 2, none⟩ (.slice xa (pickB nb it).l xc)) = w6 at HF ⊢
           obtain ⟨X, hX⟩ : ∃ X, X = w4.heap.size := ⟨_, rfl⟩
           have HF : Hid (Box w6 X 57 #[.int .i64 (pickB nb it).n, .int .i64 (pickB nb it).c, .slice xa (pickB nb it).l xc] ∧ OwnB w6 w4.heap.size xa xc (pickB nb it).bs ∧ Kept No w4 w6 ∧ w4.heap.size ≤ X) := by rw [hX]; exact HF
           rw [← hX]
           clear hX b0 b1 b2 f0 f1 f2 n1 n2 n3 n4 HZ5 HO6 HR5)
        | (have HF : Hid (Box (w5.alloc (.cells #[.int .i64 (pickB nb it).n, .int .i64 (pickB nb it).c, .slice xa (pickB nb it).l xc] 57)) w5.heap.size 57 #[.int .i64 (pickB nb it).n, .int .i64 (pickB nb it).c, .slice xa (pickB nb it).l xc] ∧ OwnB (w5.alloc (.cells #[.int .i64 (pickB nb it).n, .int .i64 (pickB nb it).c, .slice xa (pickB nb it).l xc] 57)) w4.heap.size xa xc (pickB nb it).bs ∧ Kept No w4 (w5.alloc (.cells #[.int .i64 (pickB nb it).n, .int .i64 (pickB nb it).c, .slice xa (pickB nb it).l xc] 57)) ∧ w4.heap.size ≤ w5.heap.size) :=
             ⟨Box.new _ _ _, HO5.out.no ((Kept.refl No w5).alloc _), HK5.out.alloc _, HK5.out.size⟩
           generalize w5.alloc (.cells #[.int .i64 (pickB nb it).n, .int .i64 (pickB nb it).c, .slice xa (pickB nb it).l xc] 57) = w6 at HF ⊢
           generalize w5.heap.size = X at HF ⊢))
      all_goals (
        have HX6 : Hid (Box w6 X 57 #[.int .i64 (pickB nb it).n, .int .i64 (pickB nb it).c, .slice xa (pickB nb it).l xc]) := HF.out.1
        have HO6 : Hid (OwnB w6 w4.heap.size xa xc (pickB nb it).bs) := HF.out.2.1
        have HK6 : Hid (Kept No w4 w6) := HF.out.2.2.1
        have HXs : Hid (w4.heap.size ≤ X) := HF.out.2.2.2
        have HKw6 : Hid (Kept No w w6) := HKw4.out.then HK6.out
        clear HF HO5 HK5 y0 y1 y2 d0 d1 x0 x1 x2 c0 c1 HKr
        try (clear w5)
        have HNc : Hid (∀ wr, Kept No w6 wr → wr.cell? ⟨H + 1, 0, none⟩ = some (.int .i64 nb.n) ∧ wr.cell? ⟨H + 1, 1, none⟩ = some (.int .i64 nb.c) ∧ wr.cell? ⟨H + 1, 2, none⟩ = some (.slice nb.a nb.l nb.k)) := fun wr hk => by
          have hX := HX1.out.kept (HK4.out.then (HK6.out.then hk)) (fun e => e)
          exact ⟨hX.cell 0, hX.cell 1, hX.cell 2⟩
        go_upto_region 9 with fail
        obtain ⟨x0, x1, x2⟩ := HNc.out w6 (Kept.refl _ _)
        obtain ⟨c0, c1, c2⟩ := HPc.out w6 HKw6.out
        have HKr : Hid (Kept No w6 w6.drew) := (Kept.refl No w6).drew
        have HX6s : Hid (H + 1 + 1 + 1 ≤ w6.heap.size) := Nat.le_trans HX2s.out HK6.out.size
        go_region_held3 (fun w' => w'.cell? ⟨H + 1, 0, none⟩ = some (.int .i64 nb.n) ∧ w'.cell? ⟨H + 1, 1, none⟩ = some (.int .i64 nb.c) ∧ w'.cell? ⟨H + 1, 2, none⟩ = some (.slice nb.a nb.l nb.k) ∧ w'.cell? ⟨pb, poff + i * 3, none⟩ = some (.int .i64 it.n) ∧ w'.cell? ⟨pb, poff + i * 3 + 1, none⟩ = some (.int .i64 it.c) ∧ w'.cell? ⟨pb, poff + i * 3 + 2, none⟩ = some (.slice it.a it.l it.k)) (go_keep) (first
          | (go_at_call 15
             refine Calls.mono (rnewer_bl nb it _) ?_
             rintro e w7 ⟨rfl, hk7⟩
             have HK7 : Hid (Kept No w6 w7) := by first | exact HKr.out.then hk7 | exact (HKr.out.alloc _).then hk7
             first | (have hq : Kept No w6.drew w7 := hk7; clear hq) | (
               have hZ : Box w7 w6.heap.size 57 #[.int .i64 0, .int .i64 0, .slice none 0 0] := (Box.new w6.drew 57 #[.int .i64 0, .int .i64 0, .slice none 0 0]).kept hk7 (fun e => e)
               have HZ7 : Hid (Box w7 w6.heap.size 57 #[.int .i64 0, .int .i64 0, .slice none 0 0]) := hZ
               have b0 := hZ.cell 0
               have b1 := hZ.cell 1
               have b2 := hZ.cell 2
               have f0 := hZ.frozen 0
               have f1 := hZ.frozen 1
               have f2 := hZ.frozen 2
               have n1 : H + 1 ≠ w6.heap.size := by have := HX6s.out; omega
               have n2 : w6.heap.size ≠ H + 1 := n1.symm
               have n3 : pb ≠ w6.heap.size := by have := HPb.out; have := HKw6.out.size; omega
               have n4 : w6.heap.size ≠ pb := n3.symm
               simp only [List.getElem?_toArray, List.getElem?_cons_zero, List.getElem?_cons_succ] at b0 b1 b2
               clear hZ)
             obtain ⟨y0, y1, y2⟩ := HNc.out w7 HK7.out
             obtain ⟨d0, d1, d2⟩ := HPc.out w7 (HKw6.out.then HK7.out)
             clear hk7)))
      all_goals (first
        | (have HF : Hid (Box (((w7.setCell ⟨w6.heap.size, 0, none⟩ (.int .i64 (pickB nb it).n)).setCell ⟨w6.heap.size, 1, none⟩ (.int .i64 (pickB nb it).c)).setCell ⟨w6.heap.size, 2, none⟩ (.slice (pickB nb it).a (pickB nb it).l (pickB nb it).k)) w6.heap.size 57 #[.int .i64 (pickB nb it).n, .int .i64 (pickB nb it).c, .slice (pickB nb it).a (pickB nb it).l (pickB nb it).k] ∧ Kept No w6 (((w7.setCell ⟨w6.heap.size, 0, none⟩ (.int .i64 (pickB nb it).n)).setCell ⟨w6.heap.size, 1, none⟩ (.int .i64 (pickB nb it).c)).setCell ⟨w6.heap.size, 2, none⟩ (.slice (pickB nb it).a (pickB nb it).l (pickB nb it).k)) ∧ w6.heap.size ≤ w6.heap.size) := by
             obtain ⟨h1, h2⟩ := set3 HZ7.out (.int .i64 (pickB nb it).n) (.int .i64 (pickB nb it).c) (.slice (pickB nb it).a (pickB nb it).l (pickB nb it).k)
             exact ⟨h1, HK7.out.trans h2 (fun _ e => e) (fun i hi e => by have : i = w6.heap.size := e; omega), Nat.le_refl _⟩
           generalize (((w7.setCell ⟨w6.heap.size, 0, none⟩ (.int .i64 (pickB nb it).n)).setCell ⟨w6.heap.size, 1, none⟩ (.int .i64 (pickB nb it).c)).setCell ⟨w6.heap.size, 2, none⟩ (.slice (pickB nb it).a (pickB nb it).l (pickB nb it).k)) = w8 at HF ⊢
           obtain ⟨Y, hY⟩ : ∃ Y, Y = w6.heap.size := ⟨_, rfl⟩
           have HF : Hid (Box w8 Y 57 #[.int .i64 (pickB nb it).n, .int .i64 (pickB nb it).c, .slice (pickB nb it).a (pickB nb it).l (pickB nb it).k] ∧ Kept No w6 w8 ∧ w6.heap.size ≤ Y) := by rw [hY]; exact HF
           rw [← hY]
           clear hY b0 b1 b2 f0 f1 f2 n1 n2 n3 n4 HZ7)
        | (have HF : Hid (Box (w7.alloc (.cells #[.int .i64 (pickB nb it).n, .int .i64 (pickB nb it).c, .slice (pickB nb it).a (pickB nb it).l (pickB nb it).k] 57)) w7.heap.size 57 #[.int .i64 (pickB nb it).n, .int .i64 (pickB nb it).c, .slice (pickB nb it).a (pickB nb it).l (pickB nb it).k] ∧ Kept No w6 (w7.alloc (.cells #[.int .i64 (pickB nb it).n, .int .i64 (pickB nb it).c, .slice (pickB nb it).a (pickB nb it).l (pickB nb it).k] 57)) ∧ w6.heap.size ≤ w7.heap.size) :=
             ⟨Box.new _ _ _, HK7.out.alloc _, HK7.out.size⟩
           generalize w7.alloc (.cells #[.int .i64 (pickB nb it).n, .int .i64 (pickB nb it).c, .slice (pickB nb it).a (pickB nb it).l (pickB nb it).k] 57) = w8 at HF ⊢
           generalize w7.heap.size = Y at HF ⊢))
      -- REST
      all_goals (
        have HY8 : Hid (Box w8 Y 57 #[.int .i64 (pickB nb it).n, .int .i64 (pickB nb it).c, .slice (pickB nb it).a (pickB nb it).l (pickB nb it).k]) := HF.out.1
        have HK8 : Hid (Kept No w6 w8) := HF.out.2.1
        have HYs : Hid (w6.heap.size ≤ Y) := HF.out.2.2
        have HL4 : Hid (L < w4.heap.size) := HB4.out.lt
        have HKw8 : Hid (Kept No w w8) := HKw6.out.then HK8.out
        have HRo : Hid (BlOk w (pickB nb it)) := pickB_ok HNb.out HIt.out
        clear HF HK7 y0 y1 y2 d0 d1 d2 x0 x1 x2 c0 c1 c2 HKr
        have HAll : Hid (∀ wr, Kept (fun k => k = L ∨ At ma k) w8 wr → Box wr (H + 1) 57 #[.int .i64 nb.n, .int .i64 nb.c, .slice nb.a nb.l nb.k] ∧ Box wr (H + 1 + 1) 57 #[.int .i64 nb.n, .int .i64 nb.c, .slice ma nb.l mc] ∧ Box wr X 57 #[.int .i64 (pickB nb it).n, .int .i64 (pickB nb it).c, .slice xa (pickB nb it).l xc] ∧ Box wr Y 57 #[.int .i64 (pickB nb it).n, .int .i64 (pickB nb it).c, .slice (pickB nb it).a (pickB nb it).l (pickB nb it).k] ∧ OwnB wr w4.heap.size xa xc (pickB nb it).bs ∧ Kept No w wr) := fun wr hk => by
          have hL := HL4.out
          have hR := HR.out
          have hma : ∀ k, At ma k → H + 1 + 1 + 1 ≤ k ∧ k < L := fun k h => ⟨HO.out.base h, HLma.out k h⟩
          have off : ∀ k, (k < H + 1 + 1 + 1 ∨ w4.heap.size ≤ k) → ¬ (k = L ∨ At ma k) := by
            rintro k hk (rfl | h)
            · omega
            · have := hma k h; omega
          have hx := HXs.out
          have hy := HYs.out
          have h46 := HK6.out.size
          refine ⟨(HX1.out.kept (HK4.out.then (HK6.out.then HK8.out)) (fun e => e)).kept hk (off _ (.inl (by omega))), (HX2.out.kept (HK4.out.then (HK6.out.then HK8.out)) (fun e => e)).kept hk (off _ (.inl (by omega))), (HX6.out.kept HK8.out (fun e => e)).kept hk (off _ (.inr hx)), HY8.out.kept hk (off _ (.inr (by omega))), (HO6.out.no HK8.out).kept hk (fun k h => off k (.inr (HO6.out.base h))), HKw8.out.trans hk (fun _ e => e) (fun i hi e => ?_)⟩
          rcases e with e | e
          · have := HLw.out; omega
          · have := (hma i e).1; have := HHH.out; omega
        obtain ⟨-, -, c2⟩ := HPc.out w8 HKw8.out
        have TA : Hid (1 = 1) := rfl
        have HOm : Hid (OwnB w8 (H + 1 + 1 + 1) ma mc nb.bs) := HO.out.no (HK4.out.then (HK6.out.then HK8.out))
        have hbi : it.l ≤ 140737488351232 := Nat.le_trans HIt.out.cap HIt.out.big
        have hbn : nb.l ≤ 140737488351232 := Nat.le_trans HNb.out.cap HNb.out.big
        have hbr : (pickB nb it).l ≤ 140737488351232 := Nat.le_trans HRo.out.cap HRo.out.big
        have HBs : Hid (it.l ≤ 140737488351232 ∧ nb.l ≤ 140737488351232 ∧ (pickB nb it).l ≤ 140737488351232) := ⟨hbi, hbn, hbr⟩
        clear hbi hbr
        go_wp2_with (first
          | (go_at_call 16
             refine Calls.mono (back_l L it.a it.k it.l it.bs w8 HLn.out (by have := HBs.out.1; omega) (HB4.out.kept (HK6.out.then HK8.out) (fun e => e)) (HIt.out.nums.no HKw8.out)) ?_
             rintro e w9 ⟨rfl, hk9⟩
             have HK9 : Hid (Kept (fun k => k = L ∨ At ma k) w8 w9) := hk9.mono (fun i _ e => .inl e)
             have HO9 : Hid (OwnB w9 (H + 1 + 1 + 1) ma mc nb.bs) := HOm.out.kept hk9 (fun k hk e => by have : k = L := e; have := HLma.out k hk; omega)
             have q1 := (HAll.out w9 HK9.out).1.cell 2
             have q2 := (HAll.out w9 HK9.out).2.1.cell 2
             simp only [List.getElem?_toArray, List.getElem?_cons_zero, List.getElem?_cons_succ] at q1 q2
             clear hk9 c2)
          | (go_at_call 17
             have htok := TA
             refine Calls.mono (same_l ma nb.a mc nb.k nb.l nb.bs w9 HLm.out (by have := HBs.out.2.1; omega) (OwnB.bytes HO9.out) (HNb.out.nums.no (HAll.out w9 HK9.out).2.2.2.2.2)) ?_
             rintro e w10 ⟨rfl, hk10⟩
             have HK10 : Hid (Kept (fun k => k = L ∨ At ma k) w8 w10) := HK9.out.then hk10.of_no
             have HO10 : Hid (OwnB w10 (H + 1 + 1 + 1) ma mc nb.bs) := HO9.out.no hk10
             have r0 := (HAll.out w10 HK10.out).2.2.1.cell 0
             have r1 := (HAll.out w10 HK10.out).2.2.1.cell 1
             have r2 := (HAll.out w10 HK10.out).2.2.1.cell 2
             have s0 := (HAll.out w10 HK10.out).2.2.2.1.cell 0
             have s1 := (HAll.out w10 HK10.out).2.2.2.1.cell 1
             have s2 := (HAll.out w10 HK10.out).2.2.2.1.cell 2
             simp only [List.getElem?_toArray, List.getElem?_cons_zero, List.getElem?_cons_succ] at r0 r1 r2 s0 s1 s2
             clear hk10 htok TA q1 q2)
          | (go_at_call 17
             refine Calls.mono (same_l xa (pickB nb it).a xc (pickB nb it).k (pickB nb it).l (pickB nb it).bs w10 HRo.out.len (by have := HBs.out.2.2; omega) (OwnB.bytes (HAll.out w10 HK10.out).2.2.2.2.1) (HRo.out.nums.no (HAll.out w10 HK10.out).2.2.2.2.2)) ?_
             rintro e w11 ⟨rfl, hk11⟩
             have HK11 : Hid (Kept (fun k => k = L ∨ At ma k) w8 w11) := HK10.out.then hk11.of_no
             have HO11 : Hid (OwnB w11 (H + 1 + 1 + 1) ma mc nb.bs) := HO10.out.no hk11
             clear hk11 r0 r1 r2 s0 s1 s2 HK9 HO9 HK10 HO10 HOm))
        -- LOOP
        have HI11 : Hid (∃ ms : List Int, ms.length = nb.l ∧ Own 5 1 w11 (H + 1 + 1 + 1) ma mc nb.l (ms.map (Value.int .u8))) := ⟨nb.bs, HLm.out, by have := HO11.out; unfold OwnB at this; rw [HLm.out] at this; exact this⟩
        clear HO11
        go_loopw [13] (fun vk wz => ∃ k : Nat, vk = .int .i64 k ∧ k ≤ nb.l ∧ Hid (∃ ms : List Int, ms.length = nb.l ∧ Own 5 1 wz (H + 1 + 1 + 1) ma mc nb.l (ms.map (Value.int .u8))) ∧ Hid (Kept (fun k => k = L ∨ At ma k) w8 wz)) (fun k _ => nb.l - (intOf k).toNat)
        case atStart => exact ⟨0, by go_num, by omega, HI11, HK11⟩
        case round =>
          obtain ⟨k, rfl, hk, HIz, HKz⟩ := hrel
          clear HI11 HK11
          have m2 := (HAll.out wr HKz.out).2.1.cell 2
          simp only [List.getElem?_toArray, List.getElem?_cons_zero, List.getElem?_cons_succ] at m2
          by_cases hlt : k < nb.l
          · have hlt' : (k : Int) < (nb.l : Int) := by omega
            obtain ⟨ms, hms, hOz⟩ := HIz.out
            obtain ⟨g, rfl, hc, hf, hset⟩ := hOz.setAt k hlt
            have hgb : H + 1 + 1 + 1 ≤ g := hOz.base ⟨_, rfl, rfl⟩
            simp only [List.getElem?_map, List.getElem?_eq_getElem (show k < ms.length by omega), Option.map_some] at hc
            generalize ms[k] = z at hc
            have HIn : Hid (∀ u : Int, ∃ ms : List Int, ms.length = nb.l ∧ Own 5 1 (wr.setCell ⟨g, k, none⟩ (.int .u8 u)) (H + 1 + 1 + 1) (some ⟨g, 0, none⟩) mc nb.l (ms.map (Value.int .u8))) := fun u => ⟨ms.set k u, by simpa using hms, by have := hset (.int .u8 u); rw [List.map_set]; exact this⟩
            have HKn : Hid (∀ u : Value, Kept (fun k => k = L ∨ At (some ⟨g, 0, none⟩) k) w8 (wr.setCell ⟨g, k, none⟩ u)) := fun u => HKz.out.setCell (p := ⟨g, k, none⟩) (fun _ => .inr ⟨_, rfl, rfl⟩) u
            have n1 : H + 1 + 1 ≠ g := by omega
            have n2 : g ≠ H + 1 + 1 := by omega
            clear hOz hset hms HIz hgb
            go_upto_region 15 with fail
            go_region
            all_goals (
              go_wp2
              go_roundw
              case rel => exact ⟨k + 1, by go_num, by omega, HIn.out _, by first | exact HKn.out _ | exact (HKn.out _).drew⟩
              case measure => simp [intOf]; omega)
          · have hlt' : ¬ ((k : Int) < (nb.l : Int)) := by omega
            have r2 := (HAll.out wr HKz.out).2.2.1.cell 2
            have s2 := (HAll.out wr HKz.out).2.2.2.1.cell 2
            simp only [List.getElem?_toArray, List.getElem?_cons_zero, List.getElem?_cons_succ] at r2 s2
            go_wp2_with (first
              | (go_at_call 17
                 refine Calls.mono (same_l xa (pickB nb it).a xc (pickB nb it).k (pickB nb it).l (pickB nb it).bs wr HRo.out.len (by have := HBs.out.2.2; omega) (OwnB.bytes (HAll.out wr HKz.out).2.2.2.2.1) (HRo.out.nums.no (HAll.out wr HKz.out).2.2.2.2.2)) ?_
                 rintro e w12 ⟨rfl, hk12⟩
                 obtain ⟨B1, B2, B3, B4, hO12, hkw⟩ := HAll.out w12 (HKz.out.then hk12.of_no)
                 have p0 := B1.cell 0
                 have p1 := B1.cell 1
                 have p2 := B1.cell 2
                 have f0 := B1.frozen 0
                 have f1 := B1.frozen 1
                 have f2 := B1.frozen 2
                 have q0 := B2.cell 0
                 have q1 := B2.cell 1
                 have q2 := B2.cell 2
                 have g0 := B2.frozen 0
                 have g1 := B2.frozen 1
                 have g2 := B2.frozen 2
                 have x0 := B3.cell 0
                 have x1 := B3.cell 1
                 have x2 := B3.cell 2
                 have y0 := B4.cell 0
                 have y1 := B4.cell 1
                 have y2 := B4.cell 2
                 simp only [List.getElem?_toArray, List.getElem?_cons_zero, List.getElem?_cons_succ] at p0 p1 p2 q0 q1 q2 x0 x1 x2 y0 y1 y2
                 have nX1 : H + 1 ≠ X := by have := HX2s.out; have := HXs.out; omega
                 have nX2 : H + 1 + 1 ≠ X := by have := HX2s.out; have := HXs.out; omega
                 have nX3 := nX1.symm
                 have nX4 := nX2.symm
                 have HE : Hid (NwI w H ((((((w12.setCell ⟨H + 1, 0, none⟩ (.int .i64 (pickB nb it).n)).setCell ⟨H + 1, 1, none⟩ (.int .i64 (pickB nb it).c)).setCell ⟨H + 1, 2, none⟩ (.slice (pickB nb it).a (pickB nb it).l (pickB nb it).k)).setCell ⟨H + 1 + 1, 0, none⟩ (.int .i64 (pickB nb it).n)).setCell ⟨H + 1 + 1, 1, none⟩ (.int .i64 (pickB nb it).c)).setCell ⟨H + 1 + 1, 2, none⟩ (.slice xa (pickB nb it).l xc)) ∧ Kept No w ((((((w12.setCell ⟨H + 1, 0, none⟩ (.int .i64 (pickB nb it).n)).setCell ⟨H + 1, 1, none⟩ (.int .i64 (pickB nb it).c)).setCell ⟨H + 1, 2, none⟩ (.slice (pickB nb it).a (pickB nb it).l (pickB nb it).k)).setCell ⟨H + 1 + 1, 0, none⟩ (.int .i64 (pickB nb it).n)).setCell ⟨H + 1 + 1, 1, none⟩ (.int .i64 (pickB nb it).c)).setCell ⟨H + 1 + 1, 2, none⟩ (.slice xa (pickB nb it).l xc))) := by
                   obtain ⟨h1, h2⟩ := set3 B1 (.int .i64 (pickB nb it).n) (.int .i64 (pickB nb it).c) (.slice (pickB nb it).a (pickB nb it).l (pickB nb it).k)
                   have b2 := B2.kept h2 (fun e => by have : H + 1 + 1 = H + 1 := e; omega)
                   obtain ⟨h3, h4⟩ := set3 b2 (.int .i64 (pickB nb it).n) (.int .i64 (pickB nb it).c) (.slice xa (pickB nb it).l xc)
                   have hs := HX2s.out
                   have hH := HHH.out
                   refine ⟨⟨pickB nb it, xa, xc, h1.kept h4 (fun e => by have : H + 1 = H + 1 + 1 := e; omega), h3, Own.lower ((hO12.kept h2 (fun k hk e => by have : k = H + 1 := e; have := hO12.base hk; omega)).kept h4 (fun k hk e => by have : k = H + 1 + 1 := e; have := hO12.base hk; omega)) hs, HRo.out⟩, (hkw.trans h2 (fun _ e => e) (fun i hi e => by have : i = H + 1 := e; omega)).trans h4 (fun _ e => e) (fun i hi e => by have : i = H + 1 + 1 := e; omega)⟩
                 clear B1 B2 B3 B4 hO12 hkw hk12 r2 s2 m2))
            go_roundw
            case rel => exact ⟨i + 1, by go_num, by omega, by omega, HE.out.1, HE.out.2⟩
            case measure => simp [intOf]; omega)
    · by_cases h1 : i < pn
      · obtain rfl : i = 200 := by omega
        have h1' : ((200 : Nat) : Int) < (pn : Int) := by omega
        go_wp2_with (go_at_call 9
                     refine Calls.mono (head_any wr) ?_
                     rintro e w4 ⟨rfl, hk4⟩
                     have HK4 : Hid (Kept No w w4) := HK.out.then hk4
                     clear hk4)
        go_ret
        exact ⟨rfl, HK4.out⟩
      · have h1' : ¬ ((i : Int) < (pn : Int)) := by omega
        go_wp2_with (go_at_call 9
                     refine Calls.mono (head_any wr) ?_
                     rintro e w4 ⟨rfl, hk4⟩
                     have HK4 : Hid (Kept No w w4) := HK.out.then hk4
                     clear hk4)
        go_ret
        exact ⟨rfl, HK4.out⟩

end Go.Proofs.Ytgiokkcdgoloaaa
