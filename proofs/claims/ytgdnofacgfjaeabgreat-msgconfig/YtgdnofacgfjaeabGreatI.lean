import Derived.Test.YtgdnofacgfjaeabGreatH
namespace Go.Proofs.YtgdnofacgfjaeabGreat
open Go.RowKit
set_option linter.unusedVariables false

theorem Bytes.drop {w : World} {b off : Nat} {zs : List Int} (h : Bytes w (some ⟨b, off, none⟩) zs) (k : Nat) : Bytes w (some ⟨b, off + k, none⟩) (zs.drop k) := by
  intro i hi
  simp only [List.length_drop] at hi
  obtain ⟨b', off', e, hc⟩ := h (k + i) (by omega)
  cases e
  refine ⟨b, off + k, rfl, ?_⟩
  rw [List.getElem?_drop, Nat.add_assoc]
  exact hc
theorem Bytes.take {w : World} {a : Option Addr} {zs : List Int} (h : Bytes w a zs) (k : Nat) : Bytes w a (zs.take k) := by
  intro i hi
  simp only [List.length_take] at hi
  rw [List.getElem?_take, if_pos (by omega)]
  exact h i (by omega)
theorem Bytes.drewN {w : World} {a : Option Addr} {zs : List Int} (h : Bytes w a zs) (n : Nat) : Bytes (w.drewN n) a zs := h

theorem four_n (N : Int) (a : Option Addr) (m cap : Nat) (zs : List Int) (w : World) (hN : numOf zs = N) (hm : zs.length = m) (h4 : 4 ≤ m) (hb : Bytes w a zs) (h8 : U8 zs) :
    Calls Tryz.prog 129 #[.slice a m cap] w fun e w' => e = .returned (.int .i64 N) ∧ ∃ n, w' = w.drewN n := by
  subst hN; exact four_any a m cap zs w hm h4 hb h8
theorem number_n (N : Int) (a : Option Addr) (m cap : Nat) (zs : List Int) (w : World) (hN : numOf zs = N) (hm : zs.length = m) (h4 : 4 ≤ m) (hb : Bytes w a zs) (h8 : U8 zs) :
    Calls Tryz.prog 195 #[.slice a m cap] w fun e w' => e = .returned (.int .i64 N) ∧ ∃ n, w' = w.drewN n := by
  subst hN; exact number_any a m cap zs w hm h4 hb h8
theorem sum_n (N : Int) (a : Option Addr) (m cap : Nat) (zs : List Int) (w : World) (hN : sumOf zs = N) (hz : zs.length = m) (hm : m ≤ 140737488355328) (hb : Bytes w a zs) (h8 : U8 zs) :
    Calls Tryz.prog 53 #[.slice a m cap] w fun e w' => e = .returned (.int .i64 N) ∧ w' = w := by
  subst hN; exact sumN_any a m cap zs w hz hm hb h8
theorem rsum_n (N : Int) (a : Option Addr) (m cap : Nat) (zs : List Int) (w : World) (hN : sumOf zs = N) (hz : zs.length = m) (hm : m ≤ 140737488355328) (hb : Bytes w a zs) (h8 : U8 zs) :
    Calls Tryz.prog 196 #[.slice a m cap] w fun e w' => e = .returned (.int .i64 N) ∧ w' = w := by
  subst hN; exact rsumN_any a m cap zs w hz hm hb h8

theorem numOf_take (zs : List Int) : numOf (zs.take 4) = numOf zs := by
  simp [numOf]

/-- What Open says: the body, and the error. -/
def openOf (zs : List Int) : List Int × Int :=
  if zs.length < 8 then ([], 10)
  else if numOf (zs.drop 4) ≠ sumOf (zs.take 4) then ([], 12)
  else if 131072 < numOf zs then ([], 2)
  else if (zs.length : Int) < numOf zs + 12 then ([], 10)
  else if numOf zs + 12 < (zs.length : Int) then ([], 11)
  else if numOf (zs.drop ((numOf zs).toNat + 8)) ≠ sumOf (zs.take ((numOf zs).toNat + 8)) then ([], 12)
  else ((zs.drop 8).take (numOf zs).toNat, 0)

/-- What a call of Open leaves. -/
def Opens (w : World) (zs : List Int) (e : Ending) (w' : World) : Prop :=
  ∃ a' n' c', e = .returned (.tuple #[.slice a' n' c', .int .i64 (openOf zs).2]) ∧ n' = (openOf zs).1.length ∧ OwnS w' w.heap.size a' c' (openOf zs).1 ∧ Kept No w w'

theorem opens_no {w : World} {zs : List Int} {w' : World} (x : Int) (h : openOf zs = ([], x)) (k : Kept No w w') : Opens w zs (.returned (.tuple #[.slice none 0 0, .int .i64 x])) w' :=
  ⟨none, 0, 0, by rw [h], by rw [h]; rfl, by rw [h]; exact OwnS.nil _ _, k⟩

theorem numOf_bd {zs : List Int} (h : U8 zs) : 0 ≤ numOf zs ∧ numOf zs ≤ 4294967295 := by
  have a := h 0; have b := h 1; have c := h 2; have d := h 3
  unfold numOf; omega

set_option maxRecDepth 1000000 in
set_option maxHeartbeats 400000 in
theorem open_cut (a : Option Addr) (m cap : Nat) (zs : List Int) (w : World) (hz : zs.length = m) (hl : m < 8) :
    Calls Tryz.prog 79 #[.slice a m cap] w (Opens w zs) := by
  have HO : Hid (openOf zs = ([], 10)) := by unfold Hid openOf; rw [if_pos (by omega)]
  clear hz
  go_enter Tryz.func79, Tryz.ntmps79
  go_wp2
  go_ret2
  exact opens_no 10 HO.out (Kept.refl _ _)

end Go.Proofs.YtgdnofacgfjaeabGreat
