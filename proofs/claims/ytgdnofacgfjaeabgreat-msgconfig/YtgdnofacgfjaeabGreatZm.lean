import Derived.Test.YtgdnofacgfjaeabGreatZl
import Derived.Deep.RegionHeld3
namespace Go.Proofs.YtgdnofacgfjaeabGreat
open Go.RowKit
set_option linter.unusedVariables false

/-- The reader of a body: block r, over the Reader g; what has come since w0. -/
structure RdM (w0 W : World) (r g lb : Nat) (odd : Bool) (st : RS) : Prop where
  box : Box W r 140 #[.pointer (some ⟨g, 0, none⟩), .bool odd]
  rs : Rs W g lb st
  rg : r ≠ g
  rl : r ≠ lb
  ltl : lb < W.heap.size
  kept : Kept (fun k => k = r ∨ k = g) w0 W
theorem RdM.no {w0 W W' : World} {r g lb : Nat} {odd : Bool} {st : RS} (h : RdM w0 W r g lb odd st) (hk : Kept No W W') : RdM w0 W' r g lb odd st :=
  ⟨h.box.kept hk (fun e => e), h.rs.no hk, h.rg, h.rl, Nat.lt_of_lt_of_le h.ltl hk.size, h.kept.then hk.of_no⟩
theorem RdM.apart {S : Nat → Prop} {w0 W W' : World} {r g lb : Nat} {odd : Bool} {st : RS} (h : RdM w0 W r g lb odd st) (hk : Kept S W W') (hr : ¬ S r) (hg : ¬ S g) (hl : ¬ S lb) (hn : ∀ i, i < w0.heap.size → ¬ S i) : RdM w0 W' r g lb odd st :=
  ⟨h.box.kept hk hr, h.rs.kept hk hg hl, h.rg, h.rl, Nat.lt_of_lt_of_le h.ltl hk.size, h.kept.trans hk (fun _ e => e) (fun i hi e => absurd e (hn i hi))⟩
theorem RdM.c0 {w0 W : World} {r g lb : Nat} {odd : Bool} {st : RS} (h : RdM w0 W r g lb odd st) : W.cell? ⟨r, 0, none⟩ = some (.pointer (some ⟨g, 0, none⟩)) := h.box.cell 0
theorem RdM.c1 {w0 W : World} {r g lb : Nat} {odd : Bool} {st : RS} (h : RdM w0 W r g lb odd st) : W.cell? ⟨r, 1, none⟩ = some (.bool odd) := h.box.cell 1
theorem RdM.anew {w0 W : World} {r g lb : Nat} {odd : Bool} {st : RS} (h : RdM w0 W r g lb odd st) : RdM W W r g lb odd st := ⟨h.box, h.rs, h.rg, h.rl, h.ltl, Kept.refl _ _⟩
theorem RdM.since {w0 w1 W : World} {r g lb : Nat} {odd : Bool} {st : RS} (h : RdM w1 W r g lb odd st) (hk : Kept (fun k => k = r ∨ k = g) w0 w1) : RdM w0 W r g lb odd st := ⟨h.box, h.rs, h.rg, h.rl, h.ltl, hk.then h.kept⟩
/-- Another block is as it was. -/
theorem RdM.other {w0 W : World} {r g lb : Nat} {odd : Bool} {st : RS} (h : RdM w0 W r g lb odd st) {b : Nat} {t : TypeId} {cs : Array Value} (hb : Box w0 b t cs) (h1 : b ≠ r) (h2 : b ≠ g) : Box W b t cs := hb.kept h.kept (fun e => e.elim h1 h2)
theorem RdM.ltr {w0 W : World} {r g lb : Nat} {odd : Bool} {st : RS} (h : RdM w0 W r g lb odd st) : r < W.heap.size := h.box.lt
theorem RdM.ltg {w0 W : World} {r g lb : Nat} {odd : Bool} {st : RS} (h : RdM w0 W r g lb odd st) : g < W.heap.size := h.rs.lt
/-- What a Reader is behind a number, and the number. -/
def nS (st : RS) : RS := (numS st).1
def nV (st : RS) : Int := (numS st).2
def fV (st : RS) : Bool := decide (nV st = 1)
def fO (odd : Bool) (st : RS) : Bool := odd || decide (nV st > 1)

theorem RdM.num {w0 W : World} {r g lb : Nat} {odd : Bool} {st : RS} (h : RdM w0 W r g lb odd st) :
    Calls Tryz.prog 102 #[.pointer (some ⟨g, 0, none⟩)] W fun e w' => e = .returned (.int .i64 (nV st)) ∧ RdM w0 w' r g lb odd (nS st) ∧ w'.cell? ⟨r, 0, none⟩ = some (.pointer (some ⟨g, 0, none⟩)) := by
  refine (Num_all g lb st W h.rs).mono ?_
  rintro e w' ⟨rfl, h1, h2⟩
  have H : RdM w0 w' r g lb odd (nS st) := ⟨h.box.kept h2 (fun e => h.rg e), h1, h.rg, h.rl, Nat.lt_of_lt_of_le h.ltl h2.size, h.kept.then (h2.mono (fun i _ e => .inr e))⟩
  exact ⟨rfl, H, H.c0⟩

theorem RdM.set {w0 W : World} {r g lb : Nat} {odd : Bool} {st : RS} (h : RdM w0 W r g lb odd st) (b : Bool) : RdM w0 (W.setCell ⟨r, 1, none⟩ (.bool b)) r g lb b st := by
  have hk : Kept (Only r) W (W.setCell ⟨r, 1, none⟩ (.bool b)) := (Kept.refl (Only r) W).setCell (p := ⟨r, 1, none⟩) (fun _ => rfl) _
  exact ⟨h.box.set 1 _, h.rs.kept hk (fun e => h.rg e.symm) (fun e => h.rl e.symm), h.rg, h.rl, Nat.lt_of_lt_of_le h.ltl hk.size, h.kept.then (hk.mono (fun i _ e => .inl e))⟩

set_option maxRecDepth 100000 in
set_option maxHeartbeats 1000000 in
theorem RdM.flag {w0 W : World} {r g lb : Nat} {odd : Bool} {st : RS} (h : RdM w0 W r g lb odd st) :
    Calls Tryz.prog 90 #[.pointer (some ⟨r, 0, none⟩)] W fun e w' => e = .returned (.bool (fV st)) ∧ RdM w0 w' r g lb (fO odd st) (nS st) ∧ w'.cell? ⟨r, 0, none⟩ = some (.pointer (some ⟨g, 0, none⟩)) := by
  have HR : Hid (RdM w0 W r g lb odd st) := h
  have q0 := h.c0
  clear h
  go_enter Tryz.func90, Tryz.ntmps90
  go_wp2_with fail
  refine HR.out.num.mono ?_
  rintro e w1 ⟨rfl, hr, q1⟩
  have HR1 : Hid (RdM w0 w1 r g lb odd (nS st)) := hr
  have q2 := hr.c1
  have q3 := hr.box.frozen 1
  clear hr q0 HR
  have HE : Hid (fV st = decide (nV st = 1) ∧ fO odd st = (odd || decide (nV st > 1))) := ⟨rfl, rfl⟩
  generalize nV st = v at *
  cases odd with
  | true =>
    go_wp2
    go_ret
    have H := HR1.out.set true
    refine ⟨ret_bool ?_, ?_, H.c0⟩
    · rw [HE.out.1]; rw [Bool.eq_iff_iff]; simp
    · rw [HE.out.2]; exact H
  | false =>
    go_wp2
    go_ret
    have H := HR1.out.set (decide (v > 1))
    refine ⟨ret_bool ?_, ?_, ?_⟩
    · rw [HE.out.1]; rw [Bool.eq_iff_iff]; simp
    · rw [HE.out.2]; simpa using H
    · simpa using H.c0

/-- An address. -/
def aS (st : RS) : RS := nS (nS st)

set_option maxRecDepth 100000 in
set_option maxHeartbeats 1000000 in
theorem RdM.addr {w0 W : World} {r g lb : Nat} {odd : Bool} {st : RS} (h : RdM w0 W r g lb odd st) :
    Calls Tryz.prog 114 #[.pointer (some ⟨r, 0, none⟩)] W fun e w' => e = .returned (.agg #[.bool (fV st), .int .i64 (nV (nS st))]) ∧ RdM w0 w' r g lb (fO odd st) (aS st) ∧ w'.cell? ⟨r, 0, none⟩ = some (.pointer (some ⟨g, 0, none⟩)) := by
  have HR : Hid (RdM w0 W r g lb odd st) := h
  have q0 := h.c0
  have hn := World.new_ne W ⟨r, 0, none⟩ q0
  clear h
  go_enter Tryz.func114, Tryz.ntmps114
  go_upto_region 1 with fail
  obtain ⟨w1, hw1⟩ : ∃ w1, w1 = W.alloc (.cells #[.bool false, .int .i64 0] 66) := ⟨_, rfl⟩
  rw [← hw1]
  have hk1 : Kept No W w1 := by rw [hw1]; exact (Kept.refl No W).alloc _
  have HB1 : Hid (Box w1 W.heap.size 66 #[.bool false, .int .i64 0]) := by rw [hw1]; exact Box.new _ _ _
  have HR1 : Hid (RdM w0 w1 r g lb odd st) := HR.out.no hk1
  have q1 := HR1.out.c0
  have HN : Hid (W.heap.size ≠ r ∧ W.heap.size ≠ g ∧ W.heap.size ≠ lb ∧ w0.heap.size ≤ W.heap.size) := ⟨by have := HR.out.ltr; omega, by have := HR.out.ltg; omega, by have := HR.out.ltl; omega, HR.out.kept.size⟩
  have HA : Hid (RdM w1 w1 r g lb odd st) := HR1.out.anew
  have HKs : Hid (Kept (fun k => k = r ∨ k = g) w0 w1) := HR1.out.kept
  have n1 : W.heap.size ≠ r := HN.out.1
  have n2 : r ≠ W.heap.size := fun e => n1 e.symm
  clear hk1 hw1 q0 HR HR1 hn
  go_region_held3 (fun w' => w'.cell? ⟨r, 0, none⟩ = some (.pointer (some ⟨g, 0, none⟩))) (go_keep) (first
    | (go_at_call 90; refine ((HA.out.no ((Kept.refl No _).drew)).flag).mono ?_; rintro e w2 ⟨rfl, hr2, q2⟩; have HR2 : Hid (RdM w1 w2 r g lb (fO odd st) (nS st)) := hr2; clear hr2)
    | (go_at_call 102; refine (HR2.out.num).mono ?_; rintro e w3 ⟨rfl, hr3, q3⟩; have HR3 : Hid (RdM w1 w3 r g lb (fO odd st) (nS (nS st))) := hr3; have HB3 : Hid (Box w3 W.heap.size 66 #[.bool false, .int .i64 0]) := hr3.other HB1.out HN.out.1 HN.out.2.1; have b0 := HB3.out.cell 0; have b1 := HB3.out.cell 1; have f0 := HB3.out.frozen 0; have f1 := HB3.out.frozen 1; clear hr3))
  have HF : Hid (Box ((w3.setCell ⟨W.heap.size, 0, none⟩ (.bool (fV st))).setCell ⟨W.heap.size, 1, none⟩ (.int .i64 (nV (nS st)))) W.heap.size 66 #[.bool (fV st), .int .i64 (nV (nS st))]) := (HB3.out.set 0 _).set 1 _
  have HRF : Hid (RdM w0 ((w3.setCell ⟨W.heap.size, 0, none⟩ (.bool (fV st))).setCell ⟨W.heap.size, 1, none⟩ (.int .i64 (nV (nS st)))) r g lb (fO odd st) (aS st)) := by
    have hk : ∀ (X : World) (i : Nat) (v : Value), Kept (Only W.heap.size) X (X.setCell ⟨W.heap.size, i, none⟩ v) := fun X i v => (Kept.refl (Only W.heap.size) X).setCell (p := ⟨W.heap.size, i, none⟩) (fun _ => rfl) _
    exact (HR3.out.since HKs.out).apart ((hk w3 0 _).then (hk _ 1 _)) (fun e => n2 e) (fun e => HN.out.2.1 e.symm) (fun e => HN.out.2.2.1 e.symm) (fun i hi e => by have h1 := HN.out.2.2.2; have h2 : i = W.heap.size := e; omega)
  obtain ⟨w4, hw4⟩ : ∃ w4, w4 = (w3.setCell ⟨W.heap.size, 0, none⟩ (.bool (fV st))).setCell ⟨W.heap.size, 1, none⟩ (.int .i64 (nV (nS st))) := ⟨_, rfl⟩
  rw [← hw4] at HF HRF ⊢
  clear hw4
  have c0 := HF.out.cell 0
  have c1 := HF.out.cell 1
  simp at c0 c1
  go_wp2
  refine bodyPost_ret (results_cell_row (by rfl) _ w4 W.heap.size 66 #[.bool (fV st), .int .i64 (nV (nS st))] (0, 0) _ (by rfl) HF.out Tryz.underlying66 rfl (by kernel_rfl)) rfl ?_
  exact ⟨rfl, HRF.out, HRF.out.c0⟩

end Go.Proofs.YtgdnofacgfjaeabGreat
