import Derived.Test.YtnhjpghkmbgeaabU
namespace Go.Proofs.Ytnhjpghkmbgeaab
open Go.RowKit
set_option linter.unusedVariables false

theorem OwnS.row {w : World} {base g : Nat} {cap : Nat} {zs : List Int} (h : OwnS w base (some ⟨g, 0, none⟩) cap zs) (j : Nat) (hj : j < zs.length) :
    w.cell? ⟨g, j, none⟩ = some (.int .u8 (zs[j]?.getD 0)) ∧ w.frozen? ⟨g, j, none⟩ = false := by
  refine ⟨?_, World.ownsRow.frozenAt h j⟩
  rw [World.ownsRow.cellAt h j (by omega)]
  simp [hj]
theorem OwnS.set {w : World} {base g : Nat} {cap : Nat} {zs : List Int} (h : OwnS w base (some ⟨g, 0, none⟩) cap zs) (j : Nat) (x : Int) : OwnS (w.setCell ⟨g, j, none⟩ (.int .u8 x)) base (some ⟨g, 0, none⟩) cap (zs.set j x) := by
  have := (World.ownsRow.stored h j (.int .u8 x)).1
  unfold OwnS
  rw [List.length_set, List.map_set]
  exact this
theorem Sl.take {w : World} {a : Option Addr} {m cap : Nat} {zs : List Int} (h : Sl w a m cap zs) (k : Nat) (hk : k ≤ m) : Sl w a k cap (zs.take k) :=
  ⟨by have := h.len; simp; omega, h.bytes.take k, h.u8.take k, by have := h.le; omega, h.cm, by have := h.bd; omega, h.nil⟩

/-- Lent bytes may be appended to: there is room behind them. -/
theorem Blk.lentS {w : World} {g base : Nat} {zs : List Int} {m : Nat} (h : Blk w g (lent zs 5)) (hb : base ≤ g) (hz : zs.length = m) (hm : m ≤ 140737488355328) : OwnS w base (some ⟨g, 0, none⟩) (m + 5) zs := by
  refine ⟨by simp, .inr ⟨g, m + 5, _, rfl, hb, h, by omega, by unfold maxLen; omega, ?_, ?_⟩⟩
  · have := lent_len zs 5 (Nat.le_refl _); simp; omega
  · rw [Nat.mul_one]
    show ((lent zs 5).map (Value.int .u8)).take zs.length = _
    rw [← List.map_take, lent_take]

theorem opens_eq {w w' : World} {zs L : List Int} {x : Int} {e : Ending} (h : openOf zs = (L, x)) (k : Opens w zs e w') :
    ∃ a' c', e = .returned (.tuple #[.slice a' L.length c', .int .i64 x]) ∧ OwnS w' w.heap.size a' c' L ∧ Kept No w w' := by
  obtain ⟨a', n', c', h1, h2, h3, h4⟩ := k
  rw [h] at h1 h2 h3
  subst h2
  exact ⟨a', c', h1, h3, h4⟩

theorem one_own (w : World) (z : Int) : OwnS (w.alloc (Obj.cells #[Value.int .u8 z] 5)) w.heap.size (some ⟨w.heap.size, 0, none⟩) 1 [z] :=
  World.ownsRow_lit w _ 1 (Nat.le_refl _) (by unfold maxLen; omega) rfl

namespace wireTurned

set_option maxHeartbeats 1000000 in
theorem walk_long (a : Option Addr) (m cap : Nat) (zs : List Int) (x y : Int) (w : World) (hm : 131072 < m) (h : Sl w a m cap zs) :
    Calls Try.prog 3 #[.slice a m cap, .int .i64 x, .int .u8 y] w fun e w' => e = .returned (.bool true) ∧ Below w.heap.size w w' := by
  have HS : Hid (Sl w a m cap zs) := h
  have hbd := h.bd
  clear h
  go_enter Try.func3, Try.ntmps3
  go_wp2_with fail
  refine (lendN_any _ _ _ zs _ HS.out.len (by omega) HS.out.bytes).mono ?_
  rintro e w1 ⟨rfl, hB1, hK1⟩
  have HK1 : Hid (Kept No w w1) := hK1
  clear hB1 hK1
  go_wp2_with fail
  refine (seal_long _ _ _ _ hm (by omega)).mono ?_
  rintro e w2 ⟨rfl, rfl⟩
  go_wp2
  go_ret
  exact ⟨rfl, HK1.out.below (Nat.le_refl _) (fun _ e => e.elim)⟩

set_option maxHeartbeats 4000000 in
theorem walk_short (a : Option Addr) (m cap : Nat) (zs : List Int) (x y : Int) (w : World) (hm : m ≤ 131072) (hy : 0 ≤ y ∧ y ≤ 255) (h : Sl w a m cap zs) :
    Calls Try.prog 3 #[.slice a m cap, .int .i64 x, .int .u8 y] w fun e w' => e = .returned (.bool true) ∧ Below w.heap.size w w' := by
  have HS : Hid (Sl w a m cap zs) := h
  have HL : Hid ((sealOf zs).length = m + 12) := (sealOf_len zs).trans (by rw [h.len])
  have HM : Hid (zs.length ≤ 131072) := by rw [h.len]; exact hm
  have HU : Hid (U8 (sealOf zs)) := sealOf_u8 h.u8
  have hbd := h.bd
  clear h
  go_enter Try.func3, Try.ntmps3
  go_wp2_with fail
  refine (lendN_any _ _ _ zs _ HS.out.len (by omega) HS.out.bytes).mono ?_
  rintro e w1 ⟨rfl, hB1, hK1⟩
  have HB1 : Hid (Blk w1 w.heap.size (lent zs 5)) := hB1
  have HK1 : Hid (Kept No w w1) := hK1
  clear hB1 hK1
  go_wp2_with fail
  refine (seal_any _ _ _ zs _ HS.out.len hm (lent_sl HB1.out HS.out.len HS.out.u8 (by omega)).bytes HS.out.u8 (fun e => by cases e)).mono ?_
  rintro e w2 ⟨a2, c2, rfl, hO2, hK2⟩
  have HO2 : Hid (OwnS w2 w.heap.size a2 c2 (sealOf zs)) := hO2.lower HK1.out.size
  have HK2 : Hid (Kept No w w2) := HK1.out.then hK2
  clear hO2 hK2 HB1 HK1
  go_wp2_with fail
  refine (lendN_any _ _ _ (sealOf zs) _ HL.out (by omega) HO2.out.bytes).mono ?_
  rintro e w3 ⟨rfl, hB3, hK3⟩
  have HB3 : Hid (Blk w3 w2.heap.size (lent (sealOf zs) 5)) := hB3
  have HO3 : Hid (OwnS w3 w.heap.size a2 c2 (sealOf zs)) := HO2.out.no hK3
  have HK3 : Hid (Kept No w w3) := HK2.out.then hK3
  clear hB3 hK3 HO2
  go_wp2_with fail
  refine (open_sl (lent_sl HB3.out HL.out HU.out (by omega))).mono ?_
  intro e w4 ho4
  obtain ⟨a4, c4, rfl, hO4, hK4⟩ := opens_eq (open_seal zs HM.out) ho4
  have HO4 : Hid (OwnS w4 w.heap.size a4 c4 zs) := hO4.lower HK3.out.size
  have HO4' : Hid (OwnS w4 w.heap.size a2 c2 (sealOf zs)) := HO3.out.no hK4
  have HK4 : Hid (Kept No w w4) := HK3.out.then hK4
  clear ho4 hO4 hK4 HB3 HO3 HK3
  go_wp2_with fail
  refine (sameN_any _ _ _ _ _ _ zs zs _ rfl HS.out.len (by have := HM.out; omega) (by omega) HO4.out.bytes (HS.out.no HK4.out).bytes).mono ?_
  rintro e w5 ⟨rfl, n5, hw5⟩
  have HK5 : Hid (Kept No w w5) := by rw [hw5]; exact HK4.out.drewN _
  have HO5 : Hid (OwnS w5 w.heap.size a4 c4 zs) := by rw [hw5]; exact HO4.out
  have HO5' : Hid (OwnS w5 w.heap.size a2 c2 (sealOf zs)) := by rw [hw5]; exact HO4'.out
  clear hw5 HO4 HO4' HK4
  rw [eqB_refl]
  go_wp2_with fail
  refine (seal_any _ _ _ zs _ rfl HM.out HO5.out.bytes HS.out.u8 HO5.out.nilcap).mono ?_
  rintro e w6 ⟨a6, c6, rfl, hO6, hK6⟩
  have HO6 : Hid (OwnS w6 w5.heap.size a6 c6 (sealOf zs)) := hO6
  have HO6' : Hid (OwnS w6 w.heap.size a2 c2 (sealOf zs)) := HO5'.out.no hK6
  have HK6 : Hid (Kept No w w6) := HK5.out.then hK6
  clear hO6 hK6 HO5 HO5' HK5
  go_wp2_with fail
  refine (sameN_any _ _ _ _ _ _ (sealOf zs) (sealOf zs) _ (sealOf_len zs) HL.out (by have := HM.out; omega) (by omega) HO6.out.bytes HO6'.out.bytes).mono ?_
  rintro e w7 ⟨rfl, n7, hw7⟩
  have HK7 : Hid (Kept No w w7) := by rw [hw7]; exact HK6.out.drewN _
  have HO7 : Hid (OwnS w7 w.heap.size a2 c2 (sealOf zs)) := by rw [hw7]; exact HO6'.out
  clear hw7 HO6 HO6' HK6
  rw [eqB_refl]
  go_wp2_with fail
  refine (round_any x (m + 12) _ (by omega) (by omega)).mono ?_
  rintro e w8 ⟨rfl, rfl⟩
  have hk := roundOf_lt x (m + 12) (by omega)
  generalize roundOf x (m + 12) = k at hk
  obtain ⟨g, hg, hgB⟩ : ∃ g, a2 = some ⟨g, 0, none⟩ ∧ w.heap.size ≤ g := by
    rcases HO7.out.cases with ⟨_, _, h0⟩ | ⟨g, e, hb, _⟩
    · have := HL.out; rw [h0] at this; simp at this
    · exact ⟨g, e, hb⟩
  subst hg
  have hkc : (k : Int) ≤ (c2 : Int) := by have := HO7.out.len; have := HL.out; omega
  have HLk : Hid (((sealOf zs).take k).length = k) := by have := HL.out; rw [Hid, List.length_take]; omega
  go_wp2_with fail
  refine (lendN_any _ _ _ ((sealOf zs).take k) _ HLk.out (by omega) (HO7.out.bytes.take k)).mono ?_
  rintro e w9 ⟨rfl, hB9, hK9⟩
  have HB9 : Hid (Blk w9 w8.heap.size (lent ((sealOf zs).take k) 5)) := hB9
  have HO9 : Hid (OwnS w9 w.heap.size (some ⟨g, 0, none⟩) c2 (sealOf zs)) := HO7.out.no hK9
  have HK9 : Hid (Kept No w w9) := HK7.out.then hK9
  clear hB9 hK9 HO7 HK7
  go_wp2_with fail
  refine (open_sl (lent_sl HB9.out HLk.out (HU.out.take k) (by omega))).mono ?_
  intro e w10 ho10
  obtain ⟨a10, c10, rfl, hO10, hK10⟩ := opens_eq (open_front zs HM.out k (by have := HS.out.len; omega)) ho10
  have HO10 : Hid (OwnS w10 w.heap.size (some ⟨g, 0, none⟩) c2 (sealOf zs)) := HO9.out.no hK10
  have HK10 : Hid (Kept No w w10) := HK9.out.then hK10
  clear ho10 hO10 hK10 HB9 HO9 HK9
  go_wp2_with fail
  refine (lendN_any _ _ _ (sealOf zs) _ HL.out (by omega) HO10.out.bytes).mono ?_
  rintro e w11 ⟨rfl, hB11, hK11⟩
  have HB11 : Hid (Blk w11 w10.heap.size (lent (sealOf zs) 5)) := hB11
  have HO11 : Hid (OwnS w11 w.heap.size (some ⟨g, 0, none⟩) c2 (sealOf zs)) := HO10.out.no hK11
  have HG11 : Hid (g < w10.heap.size) := by
    rcases HO10.out.cases with ⟨e, _⟩ | ⟨g', e, _, hl, _⟩
    · cases e
    · cases e; exact hl
  have HK11 : Hid (Kept No w w11) := HK10.out.then hK11
  have HS10 : Hid (w.heap.size ≤ w10.heap.size) := HK10.out.size
  clear hB11 hK11 HO10 HK10
  go_wp2_with (at_builtin; go_must (refine wp_app _ Try.underlying22 Try.info5 rfl _ _ rfl w10.heap.size _ _ _ (sealOf zs) rfl HL.out ((HB11.out.lentS (Nat.le_refl _) HL.out (by omega)).no ((Kept.refl _ _).alloc _)) _ _ _ [y] rfl rfl (one_own _ _).bytes (fun e => by cases e) (by have := HL.out; simp; omega) (by have := HB11.out.lt; simp; omega) ?_; intro a12 c12 w12 HO12 HK12' HN12; have HK12 : Hid (Kept No w w12) := (HK11.out.alloc _).fresh HK12'.out (fun i e => by have e1 := at_some e; have e2 := HS10.out; omega); have HOs : Hid (OwnS w12 w.heap.size (some ⟨g, 0, none⟩) c2 (sealOf zs)) := (HO11.out.no ((Kept.refl _ _).alloc _)).kept HK12'.out (fun i hi e => by have e1 := at_some e; have e2 := at_some hi; have e3 := HG11.out; omega); clear HK12' HN12 HK11 HO11))
  refine (open_sl (HO12.out.sl (by have := HL.out; simp; omega) (HU.out.append (U8.cons hy U8.nil)) (by omega))).mono ?_
  intro e w13 ho13
  obtain ⟨a13, c13, rfl, hO13, hK13⟩ := opens_eq (open_more zs HM.out y) ho13
  have HO13 : Hid (OwnS w13 w.heap.size (some ⟨g, 0, none⟩) c2 (sealOf zs)) := HOs.out.no hK13
  have HK13 : Hid (Kept No w w13) := HK12.out.then hK13
  clear ho13 hO13 hK13 HO12 HOs HK12
  by_cases hy0 : y = 0
  · subst hy0
    go_wp2
    go_ret
    exact ⟨rfl, HK13.out.below (Nat.le_refl _) (fun _ e => e.elim)⟩
  · have hy1 : (y == 0) = false := by simpa using hy0
    obtain ⟨hcl, hfr⟩ := HO13.out.row k (by rw [HL.out]; omega)
    have HX : Hid (0 ≤ bits .xor .u8 ((sealOf zs)[k]?.getD 0) y ∧ bits .xor .u8 ((sealOf zs)[k]?.getD 0) y ≤ 255) := ⟨bits_lo_u8 _ _ _, bits_hi_u8 _ _ _⟩
    have HT : Hid (openOf ((sealOf zs).set k (bits .xor .u8 ((sealOf zs)[k]?.getD 0) y)) = ([], 12)) := open_turned zs HM.out HS.out.u8 k (by have := HS.out.len; omega) _ HX.out (turned_ne (HU.out k) hy hy0)
    generalize (sealOf zs)[k]?.getD 0 = z at hcl HX HT
    have HO14 : Hid (OwnS (w13.setCell ⟨g, k, none⟩ (.int .u8 (bits .xor .u8 z y))) w.heap.size (some ⟨g, 0, none⟩) c2 ((sealOf zs).set k (bits .xor .u8 z y))) := HO13.out.set k _
    have HK14 : Hid (Kept No w (w13.setCell ⟨g, k, none⟩ (.int .u8 (bits .xor .u8 z y)))) := HK13.out.setCell (p := ⟨g, k, none⟩) (fun h => absurd h (by show ¬ g < _; omega)) _
    have HU14 : Hid (U8 ((sealOf zs).set k (bits .xor .u8 z y))) := HU.out.set k HX.out
    have HL14 : Hid (((sealOf zs).set k (bits .xor .u8 z y)).length = m + 12) := by rw [List.length_set]; exact HL.out
    clear HO13 HK13 HX hy0
    generalize (sealOf zs).set k (bits .xor .u8 z y) = rs at HO14 HU14 HL14 HT
    go_wp2_with fail
    refine (open_sl (HO14.out.sl HL14.out HU14.out (by omega))).mono ?_
    intro e w15 ho15
    obtain ⟨a15, c15, rfl, hO15, hK15⟩ := opens_eq HT.out ho15
    have HK15 : Hid (Kept No w w15) := HK14.out.then hK15
    clear ho15 hO15 hK15
    go_wp2
    go_ret
    exact ⟨rfl, HK15.out.below (Nat.le_refl _) (fun _ e => e.elim)⟩

theorem walk (a : Option Addr) (m cap : Nat) (zs : List Int) (x y : Int) (w : World) (hy : 0 ≤ y ∧ y ≤ 255) (h : Sl w a m cap zs) :
    Calls Try.prog 3 #[.slice a m cap, .int .i64 x, .int .u8 y] w fun e w' => e = .returned (.bool true) ∧ Below w.heap.size w w' := by
  by_cases hm : 131072 < m
  · exact walk_long a m cap zs x y w hm h
  · exact walk_short a m cap zs x y w (by omega) hy h

end wireTurned
end Go.Proofs.Ytnhjpghkmbgeaab
