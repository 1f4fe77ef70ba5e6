import Derived.Test.YtgdnofacgfjaeabGreatCc
namespace Go.Proofs.YtgdnofacgfjaeabGreat
open Go.RowKit
set_option linter.unusedVariables false

/-- Bytes with their number ahead, read: how many, and behind how many they begin. -/
def cr (zs : List Int) : Except Int (Nat × Nat) :=
  match nr zs with
  | .error c => .error c
  | .ok (n, k) => if zs.length - k < n then .error 10 else .ok (n, k)

/-- .. -/
def CrPost (w : World) (g : Nat) (la : Option Addr) (zs : List Int) (at_ : Nat) (V : Except Int (Nat × Nat)) (e : Ending) (w' : World) : Prop :=
  match V with
  | .error c => e = Thrown c ∧ Rdr w' g ∧ Kept (Only g) w w'
  | .ok (n, k) => ∃ b off lc, e = .returned (.slice (some ⟨b, off, none⟩) n lc) ∧ Sl w' (some ⟨b, off, none⟩) n lc ((zs.drop k).take n) ∧ ∃ b' off' lc', At la b' ∧ Rd w' g (some ⟨b', off', none⟩) lc' (zs.drop (k + n)) (at_ + (k + n)) ∧ Kept (Only g) w w'

set_option maxRecDepth 1000000 in
set_option maxHeartbeats 1000000 in
theorem counted_any (g : Nat) (la : Option Addr) (lc : Nat) (zs : List Int) (at_ : Nat) (w : World) (h : Rd w g la lc zs at_) :
    Calls Tryz.prog 134 #[.pointer (some ⟨g, 0, none⟩)] w (CrPost w g la zs at_ (cr zs)) := by
  have HR : Hid (Rd w g la lc zs at_) := h
  clear h
  obtain ⟨N, hN⟩ : ∃ N, N = cr zs := ⟨_, rfl⟩
  rw [← hN]
  cases hv : nr zs with
  | error c =>
    have HE : Hid (N = .error c) := by rw [Hid, hN, cr, hv]
    clear hN
    go_enter Tryz.func134, Tryz.ntmps134
    go_wp2_with fail
    refine (num_any g la lc zs at_ w HR.out).mono ?_
    rw [hv]
    rintro e w1 ⟨rfl, hr, hk⟩
    have HF : Hid (Rdr w1 g ∧ Kept (Only g) w w1) := ⟨hr, hk⟩
    clear hr hk hv
    go_wp2
    exact ⟨rfl, by rw [HE.out]; exact ⟨rfl, HF.out⟩⟩
  | ok x =>
    obtain ⟨n, k⟩ := x
    by_cases hc : zs.length - k < n
    · have HE : Hid (N = .error 10) := by rw [Hid, hN, cr, hv]; simp [hc]
      clear hN
      go_enter Tryz.func134, Tryz.ntmps134
      go_wp2_with fail
      refine (num_any g la lc zs at_ w HR.out).mono ?_
      rw [hv]
      rintro e w1 ⟨rfl, b', off', lc', -, hr, hk⟩
      have c0 : w1.cell? ⟨g, 0, none⟩ = some (.slice (some ⟨b', off', none⟩) (zs.drop k).length lc') := by rw [cell_of_row w1 g 0 _ 190 (0, 0) hr.cell]; rfl
      have q1 : ((zs.drop k).length : Int) < (n : Int) := by rw [List.length_drop]; omega
      have HF : Hid (Rdr w1 g ∧ Kept (Only g) w w1) := ⟨hr.rdr, hk⟩
      clear hr hk hv hc
      generalize (zs.drop k).length = L at c0 q1
      go_wp2
      exact ⟨rfl, by rw [HE.out]; exact ⟨rfl, HF.out⟩⟩
    · have HE : Hid (N = .ok (n, k)) := by rw [Hid, hN, cr, hv]; simp [hc]
      clear hN
      go_enter Tryz.func134, Tryz.ntmps134
      go_wp2_with fail
      refine (num_any g la lc zs at_ w HR.out).mono ?_
      rw [hv]
      rintro e w1 ⟨rfl, b', off', lc', ha, hr, hk⟩
      have HA : Hid (At la b') := ha
      have HR1 : Hid (Rd w1 g (some ⟨b', off', none⟩) lc' (zs.drop k) (at_ + k)) := hr
      have HK1 : Hid (Kept (Only g) w w1) := hk
      have HN : Hid (n ≤ (zs.drop k).length) := by show _ ≤ _; rw [List.length_drop]; omega
      have c0 : w1.cell? ⟨g, 0, none⟩ = some (.slice (some ⟨b', off', none⟩) (zs.drop k).length lc') := by rw [cell_of_row w1 g 0 _ 190 (0, 0) hr.cell]; rfl
      have q1 : ¬ ((zs.drop k).length : Int) < (n : Int) := by rw [List.length_drop]; omega
      clear hr hk hv hc ha
      generalize (zs.drop k).length = L at c0 q1
      go_wp2_with fail
      refine (take_any g b' off' lc' (zs.drop k) (at_ + k) n w1 HR1.out HN.out).mono ?_
      rintro e w2 ⟨rfl, b2, off2, lc2, ha2, hr2, hk2⟩
      have HF : Hid (CrPost w g la zs at_ N (.returned (.slice (some ⟨b', off', none⟩) n lc')) w2) := by
        rw [HE.out]
        refine ⟨b', off', lc', rfl, ?_, b2, off2, lc2, ?_, ?_, HK1.out.then hk2⟩
        · have hs := HR1.out.sl
          have hN' := HN.out
          have hcap := hs.le
          refine ⟨by rw [List.length_take]; omega, (hs.bytes.take n).kept2 hk2 (fun h0 i hi e => HR1.out.ne (by rw [List.length_take] at h0; omega) hi e), hs.u8.take n, by omega, hs.cm, by have := hs.bd; omega, fun e => by cases e⟩
        · obtain ⟨ad, e, rfl⟩ := ha2; cases e; exact HA.out
        · rw [← List.drop_drop, ← Nat.add_assoc]; exact hr2
      clear hr2 hk2 ha2
      go_wp2
      go_ret
      exact HF.out

set_option maxRecDepth 1000000 in
set_option maxHeartbeats 400000 in
theorem More_ok (g : Nat) (la : Option Addr) (lc : Nat) (zs : List Int) (at_ : Nat) (w : World) (h : Rd w g la lc zs at_) :
    Calls Tryz.prog 175 #[.pointer (some ⟨g, 0, none⟩)] w fun e w' => e = .returned (.bool (decide (0 < zs.length))) ∧ w' = w := by
  have c0 : w.cell? ⟨g, 0, none⟩ = some (.slice la zs.length lc) := by rw [cell_of_row w g 0 _ 190 (0, 0) h.cell]; rfl
  clear h
  go_enter Tryz.func175, Tryz.ntmps175
  go_wp2
  go_ret
  exact ⟨ret_bool (by rw [Bool.eq_iff_iff]), rfl⟩
set_option maxRecDepth 1000000 in
set_option maxHeartbeats 400000 in
theorem More_bad (g p : Nat) (c : Int) (w : World) (h : RdF w g p c) :
    Calls Tryz.prog 175 #[.pointer (some ⟨g, 0, none⟩)] w fun e w' => e = .returned (.bool false) ∧ w' = w := by
  have c0 : w.cell? ⟨g, 0, none⟩ = some (.slice none 0 0) := by rw [cell_of_row w g 0 _ 190 (0, 0) h]; rfl
  clear h
  go_enter Tryz.func175, Tryz.ntmps175
  go_wp2
  go_ret
  exact ⟨rfl, rfl⟩

set_option maxRecDepth 1000000 in
set_option maxHeartbeats 400000 in
theorem Err_any (g : Nat) (v0 v1 : Value) (p c : Int) (w : World) (h : w.heap[g]? = some (.cells #[v0, v1, .int .i64 p, .int .i64 c] 190 (0, 0))) :
    Calls Tryz.prog 131 #[.pointer (some ⟨g, 0, none⟩)] w fun e w' => e = .returned (.tuple #[.int .i64 p, .int .i64 c]) ∧ ∃ n, w' = w.drewN n := by
  have c2 : w.cell? ⟨g, 2, none⟩ = some (.int .i64 p) := by rw [cell_of_row w g 2 _ 190 (0, 0) h]; rfl
  have c3 : w.cell? ⟨g, 3, none⟩ = some (.int .i64 c) := by rw [cell_of_row w g 3 _ 190 (0, 0) h]; rfl
  clear h
  go_enter Tryz.func131, Tryz.ntmps131
  go_wp2
  go_quiet (fail)
  go_wp2
  go_ret2
  exact ⟨rfl, _, rfl⟩

end Go.Proofs.YtgdnofacgfjaeabGreat
