import Derived.Test.YtgdnofacgfjaeabGreatCb
namespace Go.Proofs.YtgdnofacgfjaeabGreat
open Go.RowKit
set_option linter.unusedVariables false

set_option maxRecDepth 1000000 in
set_option maxHeartbeats 1000000 in
theorem catch_bad (F : Value) (g p : Nat) (c : Int) (w : World) (h : RdF w g p c) (hc : c ≠ 0) :
    Calls Tryz.prog 132 #[.pointer (some ⟨g, 0, none⟩), F] w fun e w' => e = .returned (.tuple #[]) ∧ Kept No w w' := by
  have c3 : w.cell? ⟨g, 3, none⟩ = some (.int .i64 c) := by rw [cell_of_row w g 3 _ 190 (0, 0) h]; rfl
  have hg : g < w.heap.size := (Array.getElem?_eq_some_iff.1 h).1
  have hc' : (c != 0) = true := by simpa using hc
  clear h hc
  go_enter_defers Tryz.func132, Tryz.ntmps132
  go_wp2
  have : Kept No w (w.alloc (Obj.cells #[Value.pointer (some ⟨g, 0, none⟩)] 137)) := (Kept.refl _ _).alloc _
  simpa [bodyPostD, Leaves, settle, results, Tryz.results132] using this

/-- A number that is not below 0, read. -/
def nr (zs : List Int) : Except Int (Nat × Nat) :=
  match vr zs with
  | .error c => .error c
  | .ok (u, k) => if 9223372036854775807 < u then .error 11 else .ok (u, k)

/-- .. -/
def NrPost (w : World) (g : Nat) (la : Option Addr) (zs : List Int) (at_ : Nat) (V : Except Int (Nat × Nat)) (e : Ending) (w' : World) : Prop :=
  match V with
  | .error c => e = Thrown c ∧ Rdr w' g ∧ Kept (Only g) w w'
  | .ok (u, k) => e = .returned (.int .i64 (u : Int)) ∧ ∃ b' off' lc', At la b' ∧ Rd w' g (some ⟨b', off', none⟩) lc' (zs.drop k) (at_ + k) ∧ Kept (Only g) w w'

set_option maxRecDepth 1000000 in
set_option maxHeartbeats 1000000 in
theorem num_any (g : Nat) (la : Option Addr) (lc : Nat) (zs : List Int) (at_ : Nat) (w : World) (h : Rd w g la lc zs at_) :
    Calls Tryz.prog 141 #[.pointer (some ⟨g, 0, none⟩)] w (NrPost w g la zs at_ (nr zs)) := by
  have HR : Hid (Rd w g la lc zs at_) := h
  clear h
  obtain ⟨N, hN⟩ : ∃ N, N = nr zs := ⟨_, rfl⟩
  rw [← hN]
  cases hv : vr zs with
  | error c =>
    have HE : Hid (N = .error c) := by rw [Hid, hN, nr, hv]
    clear hN
    go_enter Tryz.func141, Tryz.ntmps141
    go_wp2_with fail
    refine (rvar_any g la lc zs at_ w HR.out).mono ?_
    rw [hv]
    rintro e w1 ⟨rfl, rfl⟩
    go_wp2
    exact ⟨rfl, by rw [HE.out]; exact ⟨rfl, HR.out.rdr, Kept.refl _ _⟩⟩
  | ok x =>
    obtain ⟨u, k⟩ := x
    by_cases hu : 9223372036854775807 < u
    · have HE : Hid (N = .error 11) := by rw [Hid, hN, nr, hv]; simp [hu]
      have hu' : (9223372036854775807 : Int) < (u : Int) := by omega
      clear hN hu
      go_enter Tryz.func141, Tryz.ntmps141
      go_wp2_with fail
      refine (rvar_any g la lc zs at_ w HR.out).mono ?_
      rw [hv]
      rintro e w1 ⟨rfl, b', off', lc', -, hr, hk⟩
      have HF : Hid (Rdr w1 g ∧ Kept (Only g) w w1) := ⟨hr.rdr, hk⟩
      clear hr hk hv
      go_wp2
      exact ⟨rfl, by rw [HE.out]; exact ⟨rfl, HF.out⟩⟩
    · have HE : Hid (N = .ok (u, k)) := by rw [Hid, hN, nr, hv]; simp [hu]
      have hu' : ¬ (9223372036854775807 : Int) < (u : Int) := by omega
      clear hN hu
      go_enter Tryz.func141, Tryz.ntmps141
      go_wp2_with fail
      refine (rvar_any g la lc zs at_ w HR.out).mono ?_
      rw [hv]
      rintro e w1 ⟨rfl, hr⟩
      have HF : Hid _ := hr
      clear hr hv
      go_wp2
      go_ret
      show NrPost _ _ _ _ _ _ _ _
      rw [HE.out]
      exact ⟨rfl, HF.out⟩

def unzz (u : Nat) : Int := if u % 2 = 1 then -((u / 2 : Nat) : Int) - 1 else ((u / 2 : Nat) : Int)

end Go.Proofs.YtgdnofacgfjaeabGreat
