import Derived.Test.YtgdnofacgfjaeabGreatCd
namespace Go.Proofs.YtgdnofacgfjaeabGreat
open Go.RowKit
set_option linter.unusedVariables false

theorem Rd.kept {S : Nat → Prop} {w w' : World} {g : Nat} {la : Option Addr} {lc : Nat} {zs : List Int} {at_ : Nat} (h : Rd w g la lc zs at_) (hk : Kept S w w') (hg : ¬ S g) (hS : 0 < zs.length → ∀ k, At la k → ¬ S k) : Rd w' g la lc zs at_ :=
  ⟨(hk.block g h.lt hg).trans h.cell, h.sl.kept2 hk hS, h.bd⟩

/-- Bytes do not lie in a block that holds one other thing. -/
theorem Sl.ne {w : World} {a : Option Addr} {m c : Nat} {zs : List Int} (h : Sl w a m c zs) (h0 : 0 < zs.length) {k : Nat} (hk : At a k) {N : Nat} {v : Value} {t : TypeId} {fr : Nat × Nat} (hN : w.heap[N]? = some (.cells #[v] t fr)) (hv : ∀ z, v ≠ .int .u8 z) : k ≠ N := by
  rintro rfl
  obtain ⟨b, off, rfl, hc⟩ := h.bytes 0 h0
  obtain ⟨ad, e, e2⟩ := hk
  cases e
  simp only at e2
  subst e2
  rw [cell_of_row w b (off + 0) _ t fr hN] at hc
  match off, hc with
  | 0, hc => simp at hc; exact hv _ hc
  | n + 1, hc => simp at hc

/-- The two blocks of a caught call: the Reader, and where its answer goes. -/
def Two (g N : Nat) : Nat → Prop := fun k => k = g ∨ k = N

/-- The answer laid down. -/
theorem Rd.laid {W w1 : World} {g N : Nat} {la : Option Addr} {lc : Nat} {zs : List Int} {at_ : Nat} {v v' : Value} {t : TypeId} (h : Rd w1 g la lc zs at_) (hk : Kept (Only g) W w1) (hN : w1.heap[N]? = some (.cells #[v] t (0, 0))) (hne : N ≠ g) (hv : ∀ z, v ≠ .int .u8 z) :
    Rd (w1.setCell ⟨N, 0, none⟩ v') g la lc zs at_ ∧ (w1.setCell ⟨N, 0, none⟩ v').heap[N]? = some (.cells #[v'] t (0, 0)) ∧ Kept (Two g N) W (w1.setCell ⟨N, 0, none⟩ v') := by
  have hK : Kept (Only N) w1 (w1.setCell ⟨N, 0, none⟩ v') := (Kept.refl (Only N) w1).setCell (p := ⟨N, 0, none⟩) (fun _ => (rfl : N = N)) _
  refine ⟨h.kept hK (fun e => hne (e : g = N).symm) (fun h0 k hk e => h.sl.ne h0 hk hN hv e), ?_, ?_⟩
  · rw [heap_setCell_same w1 N 0 _ t v' hN]; rfl
  · exact (hk.mono (fun i _ e => .inl e)).setCell (p := ⟨N, 0, none⟩) (fun _ => .inr rfl) _

/-- A closure's answer: the Reader has gone on by k, v lies at N. -/
def Laid (g N : Nat) (t : TypeId) (la : Option Addr) (zs : List Int) (at_ k : Nat) (v : Value) (W w' : World) : Prop :=
  w'.heap[N]? = some (.cells #[v] t (0, 0)) ∧ (∃ b' off' lc', At la b' ∧ Rd w' g (some ⟨b', off', none⟩) lc' (zs.drop k) (at_ + k)) ∧ Kept (Two g N) W w'

set_option maxRecDepth 1000000 in
set_option maxHeartbeats 1000000 in
theorem num1_any (A N g : Nat) (la : Option Addr) (lc : Nat) (zs : List Int) (at_ : Nat) (W : World) (h : Rd W g la lc zs at_) (hA : W.cell? ⟨A, 0, none⟩ = some (.pointer (some ⟨g, 0, none⟩))) (hN : W.heap[N]? = some (.cells #[.int .i64 0] 3 (0, 0))) (hne : N ≠ g) :
    Calls Tryz.prog 140 #[.pointer (some ⟨A, 0, none⟩), .pointer (some ⟨N, 0, none⟩)] W (Throws g (fun W w' => ∃ u k, nr zs = .ok (u, k) ∧ Laid g N 3 la zs at_ k (.int .i64 (u : Int)) W w') (fun c => nr zs = .error c) W) := by
  have HR : Hid (Rd W g la lc zs at_) := h
  have HN : Hid (W.heap[N]? = some (.cells #[.int .i64 0] 3 (0, 0))) := hN
  clear h hN
  cases hv : nr zs with
  | error c =>
    go_enter Tryz.func140, Tryz.ntmps140
    go_wp2_with fail
    refine (num_any g la lc zs at_ W HR.out).mono ?_
    rw [hv]
    rintro e w1 ⟨rfl, hr, hk⟩
    have HF : Hid (Rdr w1 g ∧ Kept (Only g) W w1) := ⟨hr, hk⟩
    clear hr hk hv
    go_wp2
    exact ⟨rfl, .inr ⟨c, rfl, rfl, HF.out⟩⟩
  | ok x =>
    obtain ⟨u, k⟩ := x
    go_enter Tryz.func140, Tryz.ntmps140
    go_wp2_with fail
    refine (num_any g la lc zs at_ W HR.out).mono ?_
    rw [hv]
    rintro e w1 ⟨rfl, b', off', lc', ha, hr, hk⟩
    have HN1 : Hid (w1.heap[N]? = some (.cells #[.int .i64 0] 3 (0, 0))) := (hk.block N (Array.getElem?_eq_some_iff.1 HN.out).1 (fun e => hne e)).trans HN.out
    have cN : w1.cell? ⟨N, 0, none⟩ = some (.int .i64 0) := by rw [cell_of_row w1 N 0 _ 3 (0, 0) HN1.out]; rfl
    have fN := frozen_of_row w1 N 0 _ 3 HN1.out
    have HL : Hid _ := Rd.laid (v' := .int .i64 (u : Int)) hr hk HN1.out hne (fun z e => by cases e)
    have HA : Hid (At la b') := ha
    clear hr hk hv ha
    go_wp2
    go_end0
    exact .inl ⟨rfl, u, k, rfl, HL.out.2.1, ⟨b', off', lc', HA.out, HL.out.1⟩, HL.out.2.2⟩

theorem run53 (caps : Array Value) (W : World) : (callFunc 140 caps).run Tryz.prog W = .ok (.enter 140 caps) W := by kernel_rfl

end Go.Proofs.YtgdnofacgfjaeabGreat
