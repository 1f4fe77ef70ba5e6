import Derived.Test.YtpapbleabjpbfabFi
namespace Go.Proofs.Ytpapbleabjpbfab
open Go.RowKit
set_option linter.unusedVariables false

/-- For how many hashes point i is the first. -/
def spanOf (ps : List (Int × Int)) (i : Nat) : Int := if 0 < i then (ps[i]?.getD (0, 0)).1 - (ps[i - 1]?.getD (0, 0)).1 else (ps[0]?.getD (0, 0)).1 + 4294967296 - (ps[ps.length - 1]?.getD (0, 0)).1
/-- .. of a server, up to point k. -/
def cntN (ps : List (Int × Int)) (s : Int) : Nat → Int
  | 0 => 0
  | k + 1 => if (ps[k]?.getD (0, 0)).2 = s then cntN ps s k + spanOf ps k else cntN ps s k

/-- All hashes are such. -/
def HashI (ps : List (Int × Int)) : Prop := ∀ i : Nat, 0 ≤ (ps[i]?.getD (0, 0)).1 ∧ (ps[i]?.getD (0, 0)).1 ≤ 4294967295

set_option maxRecDepth 100000 in
set_option maxHeartbeats 2000000 in
theorem span_any (r : Nat) (sa : Option Addr) (sn sc : Nat) (f p bu bl ro : Int) (pg pc m i : Nat) (ps : List (Int × Int)) (w : World) (hr : RingV w r sa sn sc f p bu bl ro pg pc m ps) (hi : i < m) (hm : m ≤ 4096) (hH : HashI ps) :
    Calls Try.prog 33 #[.pointer (some ⟨r, 0, none⟩), .int .i64 i] w fun e w' => e = .returned (.int .i64 (spanOf ps i)) ∧ ∃ q, w' = w.drewN q := by
  have c6 := hr.box.cell 6
  simp only [List.getElem?_toArray, List.getElem?_cons_zero, List.getElem?_cons_succ] at c6
  have hl := hr.len
  by_cases h0 : 0 < i
  · obtain ⟨j, rfl⟩ : ∃ j, i = j + 1 := ⟨i - 1, by omega⟩
    have ca := (hr.cell (j + 1) hi).1
    have cb := (hr.cell j (by omega)).1
    have ha := hH (j + 1)
    have hb := hH j
    have HE : Hid (spanOf ps (j + 1) = (ps[j + 1]?.getD (0, 0)).1 - (ps[j]?.getD (0, 0)).1) := by
      show _ = _
      unfold spanOf; rw [if_pos (by omega)]; rfl
    generalize (ps[j + 1]?.getD (0, 0)).1 = x at ca ha HE
    generalize (ps[j]?.getD (0, 0)).1 = y at cb hb HE
    have h1 : (j : Int) + 1 < (m : Int) := by omega
    have h2 : (j : Int) < (m : Int) := by omega
    have h3 : (0 : Int) ≤ (j : Int) + 1 := by omega
    have h4 : (0 : Int) ≤ (j : Int) := by omega
    have hw1 : IntKind.i64.wrap (j : Int) = (j : Int) := by rw [IntKind.wrap_i64]; omega
    have hw2 : IntKind.i64.wrap (x - y) = x - y := by rw [IntKind.wrap_i64]; omega
    clear hr hH h0
    go_enter Try.func33, Try.ntmps33
    go_wp2
    go_quiet (fail)
    go_wp2
    go_ret
    exact ⟨ret_int HE.out.symm, _, rfl⟩
  · obtain rfl : i = 0 := by omega
    obtain ⟨k, hk⟩ : ∃ k, m = k + 1 := ⟨m - 1, by omega⟩
    have ca := (hr.cell 0 hi).1
    have cb := (hr.cell k (by omega)).1
    have ha := hH 0
    have hb := hH k
    have HE : Hid (spanOf ps 0 = (ps[0]?.getD (0, 0)).1 + 4294967296 - (ps[k]?.getD (0, 0)).1) := by
      show _ = _
      unfold spanOf; rw [if_neg (by omega), hl, hk]; rfl
    generalize (ps[0]?.getD (0, 0)).1 = x at ca ha HE
    generalize (ps[k]?.getD (0, 0)).1 = y at cb hb HE
    subst hk
    have h1 : (0 : Int) < (k : Int) + 1 := by omega
    have h2 : (k : Int) < (k : Int) + 1 := by omega
    have h4 : (0 : Int) ≤ (k : Int) := by omega
    have hw1 : IntKind.i64.wrap (k : Int) = (k : Int) := by rw [IntKind.wrap_i64]; omega
    have hw3 : IntKind.i64.wrap (x + 4294967296) = x + 4294967296 := by rw [IntKind.wrap_i64]; omega
    have hw2 : IntKind.i64.wrap (x + 4294967296 - y) = x + 4294967296 - y := by rw [IntKind.wrap_i64]; omega
    clear hr hH h0
    go_enter Try.func33, Try.ntmps33
    go_wp2
    go_quiet (fail)
    go_wp2
    go_ret
    exact ⟨ret_int HE.out.symm, _, rfl⟩

end Go.Proofs.Ytpapbleabjpbfab
