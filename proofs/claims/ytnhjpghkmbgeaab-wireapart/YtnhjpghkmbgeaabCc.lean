import Derived.Test.YtnhjpghkmbgeaabCb
namespace Go.Proofs.Ytnhjpghkmbgeaab
open Go.RowKit
set_option linter.unusedVariables false

set_option maxHeartbeats 1000000 in
theorem catch_bad (F : Value) (g p : Nat) (c : Int) (w : World) (h : RdF w g p c) (hc : c ≠ 0) :
    Calls Try.prog 43 #[.pointer (some ⟨g, 0, none⟩), F] w fun e w' => e = .returned (.tuple #[]) ∧ Kept No w w' := by
  have c3 : w.cell? ⟨g, 3, none⟩ = some (.int .i64 c) := by rw [cell_of_row w g 3 _ 66 (0, 0) h]; rfl
  have hg : g < w.heap.size := (Array.getElem?_eq_some_iff.1 h).1
  have hc' : (c != 0) = true := by simpa using hc
  clear h hc
  go_enter_defers Try.func43, Try.ntmps43
  go_wp2
  have : Kept No w (w.alloc (Obj.cells #[Value.pointer (some ⟨g, 0, none⟩)] 47)) := (Kept.refl _ _).alloc _
  simpa [bodyPostD, Leaves, settle, results, Try.results43] using this

/-- A number that is not below 0, read. -/
def nr (zs : List Int) : Except Int (Nat × Nat) :=
  match vr zs with
  | .error c => .error c
  | .ok (u, k) => if 9223372036854775807 < u then .error 11 else .ok (u, k)

/-- .. -/
def NrPost (w : World) (g : Nat) (la : Option Addr) (zs : List Int) (at_ : Nat) (V : Except Int (Nat × Nat)) (e : Ending) (w' : World) : Prop :=
  match V with
  | .error c => e = Thrown c ∧ Rdr w' g ∧ Kept (Only g) w w'
  | .ok (u, k) => e = .returned (.int .i64 (u : Int)) ∧ ∃ b' off' lc', At la b' ∧ Rd w' g (some ⟨b', off', none⟩) lc' (zs.drop k) (at_ + k) ∧ Kept (Only g) w w'

set_option maxHeartbeats 1000000 in
theorem num_any (g : Nat) (la : Option Addr) (lc : Nat) (zs : List Int) (at_ : Nat) (w : World) (h : Rd w g la lc zs at_) :
    Calls Try.prog 45 #[.pointer (some ⟨g, 0, none⟩)] w (NrPost w g la zs at_ (nr zs)) := by
  have HR : Hid (Rd w g la lc zs at_) := h
  clear h
  obtain ⟨N, hN⟩ : ∃ N, N = nr zs := ⟨_, rfl⟩
  rw [← hN]
  cases hv : vr zs with
  | error c =>
    have HE : Hid (N = .error c) := by rw [Hid, hN, nr, hv]
    clear hN
    go_enter Try.func45, Try.ntmps45
    go_wp2_with fail
    refine (rvar_any g la lc zs at_ w HR.out).mono ?_
    rw [hv]
    rintro e w1 ⟨rfl, rfl⟩
    go_wp2
    exact ⟨rfl, by rw [HE.out]; exact ⟨rfl, HR.out.rdr, Kept.refl _ _⟩⟩
  | ok x =>
    obtain ⟨u, k⟩ := x
    by_cases hu : 9223372036854775807 < u
    · have HE : Hid (N = .error 11) := by rw [Hid, hN, nr, hv]; simp [hu]
      have hu' : (9223372036854775807 : Int) < (u : Int) := by omega
      clear hN hu
      go_enter Try.func45, Try.ntmps45
      go_wp2_with fail
      refine (rvar_any g la lc zs at_ w HR.out).mono ?_
      rw [hv]
      rintro e w1 ⟨rfl, b', off', lc', -, hr, hk⟩
      have HF : Hid (Rdr w1 g ∧ Kept (Only g) w w1) := ⟨hr.rdr, hk⟩
      clear hr hk hv
      go_wp2
      exact ⟨rfl, by rw [HE.out]; exact ⟨rfl, HF.out⟩⟩
    · have HE : Hid (N = .ok (u, k)) := by rw [Hid, hN, nr, hv]; simp [hu]
      have hu' : ¬ (9223372036854775807 : Int) < (u : Int) := by omega
      clear hN hu
      go_enter Try.func45, Try.ntmps45
      go_wp2_with fail
      refine (rvar_any g la lc zs at_ w HR.out).mono ?_
      rw [hv]
      rintro e w1 ⟨rfl, hr⟩
      have HF : Hid _ := hr
      clear hr hv
      go_wp2
      go_ret
      show NrPost _ _ _ _ _ _ _ _
      rw [HE.out]
      exact ⟨rfl, HF.out⟩

def unzz (u : Nat) : Int := if u % 2 = 1 then -((u / 2 : Nat) : Int) - 1 else ((u / 2 : Nat) : Int)

set_option maxHeartbeats 400000 in
theorem unzigzag_any (u : Nat) (w : World) (h : W64 u) :
    Calls Try.prog 47 #[.int .u64 (u : Int)] w fun e w' => e = .returned (.int .i64 (unzz u)) ∧ w' = w := by
  have hu : (u : Int) ≤ 18446744073709551615 := by unfold W64 at h; omega
  clear h
  by_cases h2 : u % 2 = 1
  · have h2' : ((u : Int) % 2 == 1) = true := by simp; omega
    go_enter Try.func47, Try.ntmps47
    go_wp2
    go_ret
    exact ⟨ret_int (by unfold unzz; rw [if_pos h2]; omega), rfl⟩
  · have h2' : ((u : Int) % 2 == 1) = false := by simp; omega
    go_enter Try.func47, Try.ntmps47
    go_wp2
    go_ret
    exact ⟨ret_int (by unfold unzz; rw [if_neg h2]; omega), rfl⟩

end Go.Proofs.Ytnhjpghkmbgeaab
