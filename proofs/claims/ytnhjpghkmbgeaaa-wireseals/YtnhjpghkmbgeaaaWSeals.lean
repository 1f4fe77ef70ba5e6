import Derived.Test.YtnhjpghkmbgeaaaT
namespace Go.Proofs.Ytnhjpghkmbgeaaa
open Go.RowKit
set_option linter.unusedVariables false

theorem OwnS.row {w : World} {base g : Nat} {cap : Nat} {zs : List Int} (h : OwnS w base (some ⟨g, 0, none⟩) cap zs) (j : Nat) (hj : j < zs.length) :
    w.cell? ⟨g, j, none⟩ = some (.int .u8 (zs[j]?.getD 0)) ∧ w.frozen? ⟨g, j, none⟩ = false := by
  refine ⟨?_, World.ownsRow.frozenAt h j⟩
  rw [World.ownsRow.cellAt h j (by omega)]
  simp [hj]
theorem OwnS.set {w : World} {base g : Nat} {cap : Nat} {zs : List Int} (h : OwnS w base (some ⟨g, 0, none⟩) cap zs) (j : Nat) (x : Int) : OwnS (w.setCell ⟨g, j, none⟩ (.int .u8 x)) base (some ⟨g, 0, none⟩) cap (zs.set j x) := by
  have := (World.ownsRow.stored h j (.int .u8 x)).1
  unfold OwnS
  rw [List.length_set, List.map_set]
  exact this

theorem Sl.take {w : World} {a : Option Addr} {m cap : Nat} {zs : List Int} (h : Sl w a m cap zs) (k : Nat) (hk : k ≤ m) : Sl w a k cap (zs.take k) :=
  ⟨by have := h.len; simp; omega, h.bytes.take k, h.u8.take k, by have := h.le; omega, h.cm, by have := h.bd; omega, h.nil⟩

namespace wireSeals

set_option maxHeartbeats 1000000 in
theorem walk_long (a b : Option Addr) (m cap m' cap' : Nat) (zs ys : List Int) (x y : Int) (w : World) (hm : 131072 < m) (h : Sl w a m cap zs) (h' : Sl w b m' cap' ys) :
    Calls Try.prog 6 #[.slice a m cap, .slice b m' cap', .int .i64 x, .int .u8 y] w fun e w' => e = .returned (.bool true) ∧ Below w.heap.size w w' := by
  have HS : Hid (Sl w a m cap zs) := h
  have HT : Hid (Sl w b m' cap' ys) := h'
  have hbd := h.bd
  have hbd' := h'.bd
  clear h h'
  go_enter Try.func6, Try.ntmps6
  go_wp2_with fail
  refine (lendN_any _ _ _ zs _ HS.out.len (by omega) HS.out.bytes).mono ?_
  rintro e w1 ⟨rfl, hB1, hK1⟩
  have HB1 : Hid (Blk w1 w.heap.size (lent zs 5)) := hB1
  have HK1 : Hid (Kept No w w1) := hK1
  clear hB1 hK1
  go_wp2_with fail
  refine (seal_long _ _ _ _ hm (by omega)).mono ?_
  rintro e w2 ⟨rfl, rfl⟩
  go_wp2_with fail
  refine (backN_any _ _ _ _ _ zs _ HS.out.len rfl (by omega) HB1.out (HS.out.no HK1.out).bytes).mono ?_
  rintro e w3 ⟨rfl, hK3⟩
  have HK3 : Hid (Kept No w w3) := HK1.out.fresh hK3 (fun k e => by have h2 : k = w.heap.size := e; omega)
  clear hK3 HB1 HK1
  go_wp2_with fail
  refine (rseal_long _ _ _ _ hm (by omega)).mono ?_
  rintro e w4 ⟨rfl, rfl⟩
  go_wp2_with fail
  refine (sameN_any _ _ _ _ _ _ [] [] _ rfl rfl (by simp) (by simp) (Sl.nilS _).bytes (Sl.nilS _).bytes).mono ?_
  rintro e w5 ⟨rfl, n5, hw5⟩
  have HK5 : Hid (Kept No w w5) := by rw [hw5]; exact HK3.out.drewN _
  clear hw5
  rw [eqB_refl]
  go_wp2_with fail
  refine (opened_any _ _ _ [] _ (Sl.nilS _)).mono ?_
  rintro e w6 ⟨rfl, hK6⟩
  have HK6 : Hid (Kept No w w6) := HK5.out.then hK6
  clear hK6 HK5
  go_wp2_with fail
  refine (opened_any _ _ _ ys _ (HT.out.no HK6.out)).mono ?_
  rintro e w7 ⟨rfl, hK7⟩
  have HK7 : Hid (Kept No w w7) := HK6.out.then hK7
  clear hK7 HK6
  go_wp2
  go_ret
  exact ⟨ret_bool (decide_eq_true (by omega)), HK7.out.below (Nat.le_refl _) (fun _ e => e.elim)⟩

set_option maxHeartbeats 2000000 in
theorem walk_short (a b : Option Addr) (m cap m' cap' : Nat) (zs ys : List Int) (x y : Int) (w : World) (hm : m ≤ 131072) (hy : 0 ≤ y ∧ y ≤ 255) (h : Sl w a m cap zs) (h' : Sl w b m' cap' ys) :
    Calls Try.prog 6 #[.slice a m cap, .slice b m' cap', .int .i64 x, .int .u8 y] w fun e w' => e = .returned (.bool true) ∧ Below w.heap.size w w' := by
  have HS : Hid (Sl w a m cap zs) := h
  have HT : Hid (Sl w b m' cap' ys) := h'
  have hbd := h.bd
  have hbd' := h'.bd
  clear h h'
  go_enter Try.func6, Try.ntmps6
  go_wp2_with fail
  refine (lendN_any _ _ _ zs _ HS.out.len (by omega) HS.out.bytes).mono ?_
  rintro e w1 ⟨rfl, hB1, hK1⟩
  have HB1 : Hid (Blk w1 w.heap.size (lent zs 5)) := hB1
  have HK1 : Hid (Kept No w w1) := hK1
  have HG : Hid (w.heap.size < w1.heap.size) := hB1.lt
  clear hB1 hK1
  go_wp2_with fail
  refine (seal_any _ _ _ zs _ HS.out.len hm (lent_sl HB1.out HS.out.len HS.out.u8 (by omega)).bytes HS.out.u8 (fun e => by cases e)).mono ?_
  rintro e w2 ⟨a2, c2, rfl, hO2, hK2⟩
  have HO2 : Hid (OwnS w2 w1.heap.size a2 c2 (sealOf zs)) := hO2
  have HB2 : Hid (Blk w2 w.heap.size (lent zs 5)) := HB1.out.kept hK2 (fun e => e)
  have HK2 : Hid (Kept No w w2) := HK1.out.then hK2
  clear hO2 hK2 HB1 HK1
  go_wp2_with fail
  refine (backN_any _ _ _ _ _ zs _ HS.out.len rfl (by omega) HB2.out (HS.out.no HK2.out).bytes).mono ?_
  rintro e w3 ⟨rfl, hK3⟩
  have HO3 : Hid (OwnS w3 w.heap.size a2 c2 (sealOf zs)) := (HO2.out.kept hK3 (fun k hk e => by have h1 := HO2.out.base hk; have h2 : k = w.heap.size := e; have := HG.out; omega)).lower (by have := HG.out; omega)
  have HK3 : Hid (Kept No w w3) := HK2.out.fresh hK3 (fun k e => by have h2 : k = w.heap.size := e; omega)
  clear hK3 HO2 HK2 HB2
  go_wp2_with fail
  refine (rseal_any _ _ _ zs _ HS.out.len hm (HS.out.no HK3.out).bytes HS.out.u8 HS.out.nil).mono ?_
  rintro e w4 ⟨a4, c4, rfl, hO4, hK4⟩
  have HO4 : Hid (OwnS w4 w3.heap.size a4 c4 (sealOf zs)) := hO4
  have HO4' : Hid (OwnS w4 w.heap.size a2 c2 (sealOf zs)) := HO3.out.no hK4
  have HK4 : Hid (Kept No w w4) := HK3.out.then hK4
  have HL : Hid ((sealOf zs).length = m + 12) := (sealOf_len zs).trans (by rw [HS.out.len])
  clear hO4 hK4 HO3 HK3
  go_wp2_with fail
  refine (sameN_any _ _ _ _ _ _ (sealOf zs) (sealOf zs) _ HL.out HL.out (by omega) (by omega) HO4'.out.bytes HO4.out.bytes).mono ?_
  rintro e w5 ⟨rfl, n5, hw5⟩
  have HK5 : Hid (Kept No w w5) := by rw [hw5]; exact HK4.out.drewN _
  have HO5 : Hid (OwnS w5 w.heap.size a2 c2 (sealOf zs)) := by rw [hw5]; exact HO4'.out
  clear hw5 HO4 HO4' HK4
  rw [eqB_refl]
  go_wp2_with fail
  refine (opened_any _ _ _ (sealOf zs) _ (HO5.out.sl HL.out (sealOf_u8 HS.out.u8) (by omega))).mono ?_
  rintro e w6 ⟨rfl, hK6⟩
  have HK6 : Hid (Kept No w w6) := HK5.out.then hK6
  have HO6 : Hid (OwnS w6 w.heap.size a2 c2 (sealOf zs)) := HO5.out.no hK6
  clear hK6 HK5 HO5
  go_wp2_with fail
  refine (opened_any _ _ _ ys _ (HT.out.no HK6.out)).mono ?_
  rintro e w7 ⟨rfl, hK7⟩
  have HK7 : Hid (Kept No w w7) := HK6.out.then hK7
  have HO7 : Hid (OwnS w7 w.heap.size a2 c2 (sealOf zs)) := HO6.out.no hK7
  clear hK7 HK6 HO6
  go_wp2_with fail
  refine (round_any x (m + 12) _ (by omega) (by omega)).mono ?_
  rintro e w8 ⟨rfl, rfl⟩
  have hk := roundOf_lt x (m + 12) (by omega)
  generalize roundOf x (m + 12) = k at hk
  obtain ⟨g, hg, hgB⟩ : ∃ g, a2 = some ⟨g, 0, none⟩ ∧ w.heap.size ≤ g := by
    rcases HO7.out.cases with ⟨_, _, h0⟩ | ⟨g, e, hb, _⟩
    · have := HL.out; rw [h0] at this; simp at this
    · exact ⟨g, e, hb⟩
  subst hg
  obtain ⟨hcl, hfr⟩ := HO7.out.row k (by rw [HL.out]; omega)
  have HX : Hid (0 ≤ bits .xor .u8 ((sealOf zs)[k]?.getD 0) y ∧ bits .xor .u8 ((sealOf zs)[k]?.getD 0) y ≤ 255) := ⟨bits_lo_u8 _ _ _, bits_hi_u8 _ _ _⟩
  generalize (sealOf zs)[k]?.getD 0 = z at hcl HX
  have HO9 : Hid (OwnS (w8.setCell ⟨g, k, none⟩ (.int .u8 (bits .xor .u8 z y))) w.heap.size (some ⟨g, 0, none⟩) c2 ((sealOf zs).set k (bits .xor .u8 z y))) := HO7.out.set k _
  have HK9 : Hid (Kept No w (w8.setCell ⟨g, k, none⟩ (.int .u8 (bits .xor .u8 z y)))) := HK7.out.setCell (p := ⟨g, k, none⟩) (fun h => absurd h (by show ¬ g < _; omega)) _
  have HU : Hid (U8 ((sealOf zs).set k (bits .xor .u8 z y))) := (sealOf_u8 HS.out.u8).set k HX.out
  have HL9 : Hid (((sealOf zs).set k (bits .xor .u8 z y)).length = m + 12) := by rw [List.length_set]; exact HL.out
  clear HO7 HK7 HX
  generalize (sealOf zs).set k (bits .xor .u8 z y) = rs at HO9 HU HL9
  have hkc : (k : Int) ≤ (c2 : Int) := by have := HO9.out.len; have := HL9.out; omega
  go_wp2_with fail
  refine (opened_any _ _ _ rs _ (HO9.out.sl HL9.out HU.out (by omega))).mono ?_
  rintro e w10 ⟨rfl, hK10⟩
  have HK10 : Hid (Kept No w w10) := HK9.out.then hK10
  have HO10 : Hid (OwnS w10 w.heap.size (some ⟨g, 0, none⟩) c2 rs) := HO9.out.no hK10
  clear hK10 HK9 HO9 hcl hfr
  go_wp2_with fail
  refine (opened_any _ _ _ (rs.take k) _ ((HO10.out.sl HL9.out HU.out (by omega)).take k (by omega))).mono ?_
  rintro e w11 ⟨rfl, hK11⟩
  have HK11 : Hid (Kept No w w11) := HK10.out.then hK11
  clear hK11 HK10 HO10
  go_wp2
  go_ret
  exact ⟨rfl, HK11.out.below (Nat.le_refl _) (fun _ e => e.elim)⟩

theorem walk (a b : Option Addr) (m cap m' cap' : Nat) (zs ys : List Int) (x y : Int) (w : World) (hy : 0 ≤ y ∧ y ≤ 255) (h : Sl w a m cap zs) (h' : Sl w b m' cap' ys) :
    Calls Try.prog 6 #[.slice a m cap, .slice b m' cap', .int .i64 x, .int .u8 y] w fun e w' => e = .returned (.bool true) ∧ Below w.heap.size w w' := by
  by_cases hm : 131072 < m
  · exact walk_long a b m cap m' cap' zs ys x y w hm h h'
  · exact walk_short a b m cap m' cap' zs ys x y w (by omega) hy h h'

end wireSeals
end Go.Proofs.Ytnhjpghkmbgeaaa
