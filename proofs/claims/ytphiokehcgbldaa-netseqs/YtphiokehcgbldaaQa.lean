import Derived.Test.YtphiokehcgbldaaPb
namespace Go.Proofs.Ytphiokehcgbldaa
open Go.RowKit Go.Shelf
set_option linter.unusedVariables false
set_option linter.unusedSimpArgs false

/-- The reference's net in memory: what is under way, who has sent. -/
structure RfM (w : World) (r : Nat) (ys : List Tp) (ss : List Ad) (la : Option Addr) (lc : Nat) (sa : Option Addr) (sc base : Nat) : Prop where
  box : Box w r 29 #[.slice la ys.length lc, .slice sa ss.length sc]
  row : Own 44 6 w base la lc ys.length (ys.flatMap pkL)
  snt : Own 34 2 w base sa sc ss.length (ss.flatMap adC)
  lo : base ≤ r
/-- Its blocks. -/
def RfB (r : Nat) (la sa : Option Addr) : Nat → Prop := fun k => k = r ∨ At la k ∨ At sa k
section
variable {S : Nat → Prop} {w w' : World} {r lc sc base : Nat} {ys : List Tp} {ss : List Ad} {la sa : Option Addr}
theorem RfM.kept (h : RfM w r ys ss la lc sa sc base) (hk : Kept S w w') (hS : ∀ k, RfB r la sa k → ¬ S k) : RfM w' r ys ss la lc sa sc base :=
  ⟨h.box.kept hk (hS _ (.inl rfl)), h.row.kept hk (fun k e => hS k (.inr (.inl e))), h.snt.kept hk (fun k e => hS k (.inr (.inr e))), h.lo⟩
theorem RfM.no (h : RfM w r ys ss la lc sa sc base) (hk : Kept No w w') : RfM w' r ys ss la lc sa sc base := h.kept hk (fun _ _ e => e)
theorem RfM.lt (h : RfM w r ys ss la lc sa sc base) {k : Nat} (hk : RfB r la sa k) : k < w.heap.size := by
  rcases hk with rfl | e | e
  · exact h.box.lt
  · exact Own.ltA h.row e
  · exact Own.ltA h.snt e
theorem RfM.low (h : RfM w r ys ss la lc sa sc base) {k : Nat} (hk : RfB r la sa k) : base ≤ k := by
  rcases hk with rfl | e | e
  · exact h.lo
  · exact Own.base h.row e
  · exact Own.base h.snt e
theorem RfM.cells (h : RfM w r ys ss la lc sa sc base) : w.cell? ⟨r, 0, none⟩ = some (.slice la ys.length lc) ∧ w.cell? ⟨r, 1, none⟩ = some (.slice sa ss.length sc) := ⟨h.box.cell 0, h.box.cell 1⟩
end
theorem cnP_take (ys : List Tp) (p : Pr) (k : Nat) {y : Tp} (hy : ys[k]? = some y) : cnP ((ys.take (k + 1)).map Tp.q) p = cnP ((ys.take k).map Tp.q) p + if (y.q.nm.1, y.q.to') = p then 1 else 0 := by
  rw [List.take_add_one, hy, Option.toList_some, List.map_append, List.map_singleton, cnP_add]

set_option maxRecDepth 100000 in
set_option maxHeartbeats 8000000 in
theorem pairR_any {r lc sc base : Nat} {ys : List Tp} {ss : List Ad} {la sa : Option Addr} (fc tc : Bool) (fi ti : Int) (w : World) (h : RfM w r ys ss la lc sa sc base) (hm : ys.length ≤ 1000000000000) :
    Calls Try.prog 32 #[.pointer (some ⟨r, 0, none⟩), .agg #[.bool fc, .int .i64 fi], .agg #[.bool tc, .int .i64 ti]] w (fun e w' => e = .returned (.int .i64 (cnP (ys.map Tp.q) ((fc, fi), (tc, ti)) : Nat)) ∧ Kept No w w') := by
  obtain ⟨m, hme⟩ : ∃ m, ys.length = m := ⟨_, rfl⟩
  have HM : Hid (ys.length = m) := hme
  rw [hme] at hm
  have h2 := two w 34 34 #[.bool fc, .int .i64 fi] #[.bool tc, .int .i64 ti]
  obtain ⟨w1, hw1⟩ : ∃ w1, w1 = (w.alloc (.cells #[.bool fc, .int .i64 fi] 34)).alloc (.cells #[.bool tc, .int .i64 ti] 34) := ⟨_, rfl⟩
  rw [← hw1] at h2
  have HO : Hid (RfM w1 r ys ss la lc sa sc base ∧ Box w1 w.heap.size 34 #[.bool fc, .int .i64 fi] ∧ Box w1 (w.heap.size + 1) 34 #[.bool tc, .int .i64 ti] ∧ Kept No w w1) := ⟨h.no h2.2.2, h2.1, h2.2.1, h2.2.2⟩
  clear h hme h2
  go_enter Try.func32, Try.ntmps32
  go_wp2
  rw [← hw1]
  clear hw1
  go_loopw [7, 8] (fun v i wr => ∃ k : Nat, k ≤ m ∧ i = .int .i64 (k : Int) ∧ v = .int .i64 ((cnP ((ys.take k).map Tp.q) ((fc, fi), (tc, ti)) : Nat) : Int) ∧ ∃ n, wr = w1.drewN n) (fun _ i _ => m - (intOf i).toNat)
  case atStart => exact ⟨0, by omega, rfl, rfl, 0, rfl⟩
  case round =>
    obtain ⟨k, hk, rfl, rfl, nd, rfl⟩ := hrel
    have r0 : w1.cell? ⟨r, 0, none⟩ = some (.slice la m lc) := by have := HO.out.1.cells.1; rw [HM.out] at this; exact this
    by_cases hlt : k < m
    · obtain ⟨y, hy⟩ : ∃ y, ys[k]? = some y := ⟨_, List.getElem?_eq_getElem (by rw [HM.out]; exact hlt)⟩
      obtain ⟨pg, rfl, hc⟩ := pk_at HO.out.1.row hy
      have HT := cnP_take ys ((fc, fi), (tc, ti)) k hy
      have hcl : cnP ((ys.take k).map Tp.q) ((fc, fi), (tc, ti)) ≤ k := by
        refine Nat.le_trans (List.length_filter_le _ _) ?_
        rw [List.length_map, List.length_take]; omega
      have HTh : Hid (cnP ((ys.take (k + 1)).map Tp.q) ((fc, fi), (tc, ti)) = cnP ((ys.take k).map Tp.q) ((fc, fi), (tc, ti)) + if (y.q.nm.1, y.q.to') = ((fc, fi), (tc, ti)) then 1 else 0) := HT
      clear HT hy
      obtain ⟨⟨⟨⟨yc, yi⟩, yn⟩, ⟨ytc, yti⟩, yda, ydc, yz, ypl⟩, ya, ycc⟩ := y
      obtain ⟨y0, y1, y2, y3, y4, y5⟩ := hc
      simp only at y0 y1 y2 y3 y4 y5 HTh
      clear y2 y5
      have hlt' : (k : Int) < (m : Int) := by omega
      have b0 : w1.cell? ⟨w.heap.size, 0, none⟩ = some (.bool fc) := HO.out.2.1.cell 0
      have b1 : w1.cell? ⟨w.heap.size, 1, none⟩ = some (.int .i64 fi) := HO.out.2.1.cell 1
      have d0 : w1.cell? ⟨w.heap.size + 1, 0, none⟩ = some (.bool tc) := HO.out.2.2.1.cell 0
      have d1 : w1.cell? ⟨w.heap.size + 1, 1, none⟩ = some (.int .i64 ti) := HO.out.2.2.1.cell 1
      have e1 := beq34 yc fc yi fi
      have e2 := beq34 ytc tc yti ti
      generalize cnP ((ys.take k).map Tp.q) ((fc, fi), (tc, ti)) = cn at HTh hcl ⊢
      by_cases p1 : (yc, yi) = (fc, fi)
      · rw [decide_eq_true p1] at e1
        by_cases p2 : (ytc, yti) = (tc, ti)
        · rw [decide_eq_true p2] at e2
          rw [if_pos (by rw [p1, p2])] at HTh
          clear p1 p2
          go_upto_region 5 with fail
          go_quiet (fail)
          go_wp2
          go_roundw
          case rel => exact ⟨k + 1, by omega, by go_num, by rw [HTh.out]; go_num, _, rfl⟩
          case measure => simp [intOf]; omega
        · rw [decide_eq_false p2] at e2
          rw [if_neg (fun h => p2 (congrArg Prod.snd h))] at HTh
          clear p1 p2
          go_upto_region 5 with fail
          go_quiet (fail)
          go_wp2
          go_roundw
          case rel => exact ⟨k + 1, by omega, by go_num, by rw [HTh.out]; rfl, _, rfl⟩
          case measure => simp [intOf]; omega
      · rw [decide_eq_false p1] at e1
        rw [if_neg (fun h => p1 (congrArg Prod.fst h))] at HTh
        clear p1 e2
        go_upto_region 5 with fail
        go_quiet (fail)
        go_wp2
        go_roundw
        case rel => exact ⟨k + 1, by omega, by go_num, by rw [HTh.out]; rfl, _, rfl⟩
        case measure => simp [intOf]; omega
    · have hlt' : ¬ (k : Int) < (m : Int) := by omega
      have hkm : k = m := by omega
      have HQ : Hid (cnP ((ys.take k).map Tp.q) ((fc, fi), (tc, ti)) = cnP (ys.map Tp.q) ((fc, fi), (tc, ti))) := by
        show _ = _
        rw [List.take_of_length_le (by rw [HM.out]; omega)]
      clear hkm
      rw [HQ.out]
      go_wp2
      go_ret
      exact ⟨rfl, HO.out.2.2.2.drewN _⟩

/-- Where the first of a name stands. -/
def plc (k : Nm) : List Tp → Option Nat
  | [] => none
  | y :: l => if y.q.nm = k then some 0 else (plc k l).map (· + 1)
theorem plc_spec (k : Nm) : ∀ (ys : List Tp) (i : Nat), (∀ j y, ys[j]? = some y → j < i → y.q.nm ≠ k) → (∃ y, ys[i]? = some y ∧ y.q.nm = k) → plc k ys = some i
  | [], i, _, ⟨y, h, _⟩ => by simp at h
  | x :: ys, 0, _, ⟨y, h, e⟩ => by simp at h; subst h; simp [plc, e]
  | x :: ys, i + 1, hb, ⟨y, h, e⟩ => by
    have h0 : ¬ x.q.nm = k := hb 0 x rfl (by omega)
    rw [plc, if_neg h0, plc_spec k ys i (fun j z hz hj => hb (j + 1) z (by simpa using hz) (by omega)) ⟨y, by simpa using h, e⟩]
    rfl
theorem plc_none (k : Nm) : ∀ (ys : List Tp), (∀ j y, ys[j]? = some y → j < ys.length → y.q.nm ≠ k) → plc k ys = none
  | [], _ => rfl
  | x :: ys, hb => by
    have h0 : ¬ x.q.nm = k := hb 0 x rfl (by simp)
    rw [plc, if_neg h0, plc_none k ys (fun j z hz hj => hb (j + 1) z (by simpa using hz) (by simp; omega))]
    rfl
def plI : Option Nat → Int
  | none => -1
  | some i => (i : Int)

set_option maxRecDepth 100000 in
set_option maxHeartbeats 8000000 in
theorem placeR_any {r lc sc base : Nat} {ys : List Tp} {ss : List Ad} {la sa : Option Addr} (fc : Bool) (fi c : Int) (w : World) (h : RfM w r ys ss la lc sa sc base) (hm : ys.length ≤ 1000000000000) :
    Calls Try.prog 42 #[.pointer (some ⟨r, 0, none⟩), .agg #[.bool fc, .int .i64 fi], .int .i64 c] w (fun e w' => e = .returned (.int .i64 (plI (plc ((fc, fi), c) ys))) ∧ Kept No w w') := by
  obtain ⟨m, hme⟩ : ∃ m, ys.length = m := ⟨_, rfl⟩
  have HM : Hid (ys.length = m) := hme
  rw [hme] at hm
  obtain ⟨w1, hw1⟩ : ∃ w1, w1 = w.alloc (.cells #[.bool fc, .int .i64 fi] 34) := ⟨_, rfl⟩
  have HO : Hid (RfM w1 r ys ss la lc sa sc base ∧ Box w1 w.heap.size 34 #[.bool fc, .int .i64 fi] ∧ Kept No w w1) := by
    rw [hw1]; exact ⟨h.no ((Kept.refl No w).alloc _), Box.new _ _ _, (Kept.refl No w).alloc _⟩
  clear h hme
  obtain ⟨pv, hpv⟩ : ∃ pv, plI (plc ((fc, fi), c) ys) = pv := ⟨_, rfl⟩
  rw [hpv]
  have HPv : Hid (plI (plc ((fc, fi), c) ys) = pv) := hpv
  clear hpv
  go_enter Try.func42, Try.ntmps42
  go_wp2
  rw [← hw1]
  clear hw1
  go_loopw [7] (fun i wr => ∃ k : Nat, k ≤ m ∧ i = .int .i64 (k : Int) ∧ Hid (∀ j y, ys[j]? = some y → j < k → y.q.nm ≠ ((fc, fi), c)) ∧ ∃ n, wr = w1.drewN n) (fun i _ => m - (intOf i).toNat)
  case atStart => exact ⟨0, by omega, rfl, fun _ _ _ h => by omega, 0, rfl⟩
  case round =>
    obtain ⟨k, hk, rfl, HB, nd, rfl⟩ := hrel
    have r0 : w1.cell? ⟨r, 0, none⟩ = some (.slice la m lc) := by have := HO.out.1.cells.1; rw [HM.out] at this; exact this
    by_cases hlt : k < m
    · obtain ⟨y, hy⟩ : ∃ y, ys[k]? = some y := ⟨_, List.getElem?_eq_getElem (by rw [HM.out]; exact hlt)⟩
      obtain ⟨pg, rfl, hc⟩ := pk_at HO.out.1.row hy
      have HY : Hid (ys[k]? = some y) := hy
      clear hy
      obtain ⟨⟨⟨⟨yc, yi⟩, yn⟩, ⟨ytc, yti⟩, yda, ydc, yz, ypl⟩, ya, ycc⟩ := y
      obtain ⟨y0, y1, y2, y3, y4, y5⟩ := hc
      simp only at y0 y1 y2 y3 y4 y5
      clear y3 y4 y5
      have hlt' : (k : Int) < (m : Int) := by omega
      have b0 : w1.cell? ⟨w.heap.size, 0, none⟩ = some (.bool fc) := HO.out.2.1.cell 0
      have b1 : w1.cell? ⟨w.heap.size, 1, none⟩ = some (.int .i64 fi) := HO.out.2.1.cell 1
      have e1 := beq34 yc fc yi fi
      by_cases p1 : (yc, yi) = (fc, fi)
      · rw [decide_eq_true p1] at e1
        by_cases p2 : yn = c
        · have HE : Hid (pv = (k : Int)) := by
            show _ = _
            rw [← HPv.out, plc_spec ((fc, fi), c) ys k HB.out ⟨_, HY.out, by show ((yc, yi), yn) = _; rw [p1, p2]⟩]; rfl
          subst p2
          clear p1
          go_upto_region 4 with fail
          go_quiet (fail)
          go_wp2
          go_ret
          exact ⟨by rw [HE.out]; rfl, (HO.out.2.2.drewN _).drewN _⟩
        · have HN : Hid (∀ j y, ys[j]? = some y → j < k + 1 → y.q.nm ≠ ((fc, fi), c)) := fun j y hj hl => by
            by_cases e : j = k
            · subst e
              rw [HY.out] at hj
              cases hj
              exact fun f => p2 (congrArg Prod.snd f)
            · exact HB.out j y hj (by omega)
          clear p1
          go_upto_region 4 with fail
          go_quiet (fail)
          go_wp2
          go_roundw
          case rel => exact ⟨k + 1, by omega, by go_num, HN, _, rfl⟩
          case measure => simp [intOf]; omega
      · rw [decide_eq_false p1] at e1
        have HN : Hid (∀ j y, ys[j]? = some y → j < k + 1 → y.q.nm ≠ ((fc, fi), c)) := fun j y hj hl => by
          by_cases e : j = k
          · subst e
            rw [HY.out] at hj
            cases hj
            exact fun f => p1 (congrArg Prod.fst f)
          · exact HB.out j y hj (by omega)
        clear p1
        go_upto_region 4 with fail
        go_quiet (fail)
        go_wp2
        go_roundw
        case rel => exact ⟨k + 1, by omega, by go_num, HN, _, rfl⟩
        case measure => simp [intOf]; omega
    · have hlt' : ¬ (k : Int) < (m : Int) := by omega
      have HE : Hid (pv = -1) := by
        show _ = _
        rw [← HPv.out, plc_none ((fc, fi), c) ys (fun j y hj hl => HB.out j y hj (by rw [HM.out] at hl; omega))]; rfl
      go_wp2
      go_ret
      exact ⟨by rw [HE.out]; rfl, HO.out.2.2.drewN _⟩
end Go.Proofs.Ytphiokehcgbldaa
