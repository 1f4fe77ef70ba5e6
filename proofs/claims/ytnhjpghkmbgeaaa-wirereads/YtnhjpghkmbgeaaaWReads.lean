import Derived.Test.YtnhjpghkmbgeaaaUd
import Derived.Test.YtnhjpghkmbgeaaaFo
import Derived.Deep.RegionWith
namespace Go.Proofs.Ytnhjpghkmbgeaaa
open Go.RowKit
set_option linter.unusedVariables false

theorem call_all (g lb r : Nat) (ba : Option Addr) (bc : Nat) (bs : List Int) (st : RS) (k : Int) (w : World) (h : Tw w g lb r ba bc bs st) :
    Calls Try.prog 12 #[.agg #[.pointer (some ⟨g, 0, none⟩), .pointer (some ⟨r, 0, none⟩)], .int .i64 k] w (CallPost w g lb r ba bc bs) := by
  by_cases h1 : k = 1
  · subst h1; exact call_1 g lb r ba bc bs st w h
  by_cases h2 : k = 2
  · subst h2; exact call_2 g lb r ba bc bs st w h
  by_cases h3 : k = 3
  · subst h3; exact call_3 g lb r ba bc bs st w h
  by_cases h4 : k = 4
  · subst h4; exact call_4 g lb r ba bc bs st w h
  by_cases h5 : k = 5
  · subst h5; exact call_5 g lb r ba bc bs st w h
  by_cases h6 : k = 6
  · subst h6; exact call_6 g lb r ba bc bs st w h
  exact call_0 g lb r ba bc bs st k (by simpa using h1) (by simpa using h2) (by simpa using h3) (by simpa using h4) (by simpa using h5) (by simpa using h6) w h

namespace wireReads

/-- At the head of a round: both readers, and the pair that holds them at T. -/
structure Inv (w wr : World) (T g lb r : Nat) (a : Option Addr) (cap : Nat) (zs : List Int) : Prop where
  ex : ∃ st, Tw wr g lb r a cap zs st
  kept : Kept No w wr
  tt : wr.heap[T]? = some (.cells #[.pointer (some ⟨g, 0, none⟩), .pointer (some ⟨r, 0, none⟩)] 36 (0, 0))
  hg : w.heap.size ≤ g
  hr : w.heap.size ≤ r
  tg : T ≠ g
  tr : T ≠ r

theorem Inv.p0 {w wr : World} {T g lb r : Nat} {a : Option Addr} {cap : Nat} {zs : List Int} (h : Inv w wr T g lb r a cap zs) : wr.cell? ⟨T, 0, none⟩ = some (.pointer (some ⟨g, 0, none⟩)) := by rw [cell_of_row _ _ 0 _ 36 (0, 0) h.tt]; rfl
theorem Inv.p1 {w wr : World} {T g lb r : Nat} {a : Option Addr} {cap : Nat} {zs : List Int} (h : Inv w wr T g lb r a cap zs) : wr.cell? ⟨T, 1, none⟩ = some (.pointer (some ⟨r, 0, none⟩)) := by rw [cell_of_row _ _ 1 _ 36 (0, 0) h.tt]; rfl
theorem Inv.step {w wr w' : World} {T g lb r : Nat} {a : Option Addr} {cap : Nat} {zs : List Int} (h : Inv w wr T g lb r a cap zs) (hp : ∃ st, Tw w' g lb r a cap zs st ∧ Kept (Both g r) wr w') : Inv w w' T g lb r a cap zs := by
  obtain ⟨st, ht, hk⟩ := hp
  have hg := h.hg
  have hr := h.hr
  refine ⟨⟨st, ht⟩, h.kept.fresh hk (fun j e => ?_), (hk.block T (Array.getElem?_eq_some_iff.1 h.tt).1 (fun e => ?_)).trans h.tt, h.hg, h.hr, h.tg, h.tr⟩
  · rcases e with e | e <;> omega
  · rcases e with e | e
    · exact h.tg e
    · exact h.tr e

set_option maxRecDepth 100000 in
set_option maxHeartbeats 4000000 in
theorem walk (a ca : Option Addr) (m cap cn cc : Nat) (zs ns : List Int) (w : World) (h : Sl w a m cap zs) (hns : ns.length = cn) (hcn : cn ≤ 9223372036854775807) (hi : Ints w ca ns) :
    Calls Try.prog 4 #[.slice a m cap, .slice ca cn cc] w fun e w' => e = .returned (.bool true) ∧ Below w.heap.size w w' := by
  obtain rfl := h.len
  have HS : Hid (Sl w a zs.length cap zs) := h
  have HN : Hid (Ints w ca ns) := hi
  have HL : Hid (ns.length = cn) := hns
  have hbd := h.bd
  clear h hi hns
  go_enter Try.func4, Try.ntmps4
  go_wp2_with fail
  refine (reader_any a cap zs _ HS.out).mono ?_
  rintro e w1 ⟨g, lb, r, rfl, ht, hk, hg, hr⟩
  have HI1 : Hid (Inv w (w1.alloc (Obj.cells #[.pointer (some ⟨g, 0, none⟩), .pointer (some ⟨r, 0, none⟩)] 36)) w1.heap.size g lb r a cap zs) :=
    ⟨⟨_, ht.no ((Kept.refl _ _).alloc _)⟩, hk.alloc _, heap_new _ _, hg, hr, by have := ht.rs.lt; omega, by have := ht.rf.lt; omega⟩
  clear ht hk hg hr HS hbd
  obtain ⟨T, hT⟩ : ∃ T, T = w1.heap.size := ⟨_, rfl⟩
  rw [← hT] at HI1
  go_wp2
  rw [← hT]
  clear hT
  go_loopw [7] (fun i wr => ∃ k : Nat, k ≤ cn ∧ k ≤ 400 ∧ i = .int .i64 (k : Int) ∧ Hid (Inv w wr T g lb r a cap zs)) (fun i _ => cn - (intOf i).toNat)
  case atStart => exact ⟨0, Nat.zero_le _, Nat.zero_le _, rfl, HI1⟩
  case round =>
    obtain ⟨k, hk, hk4, rfl, HI⟩ := hrel
    clear HI1
    have p0 : wr.cell? ⟨T, 0, none⟩ = some (.pointer (some ⟨g, 0, none⟩)) := HI.out.p0
    have p1 : wr.cell? ⟨T, 1, none⟩ = some (.pointer (some ⟨r, 0, none⟩)) := HI.out.p1
    by_cases hlt : k < cn ∧ k < 400
    · obtain ⟨hl1, hl2⟩ := hlt
      have i1 : (k : Int) < (cn : Int) := by omega
      have i2 : (k : Int) < 400 := by omega
      obtain ⟨b, off, rfl, hcl⟩ := (HN.out.no HI.out.kept) k (by rw [HL.out]; exact hl1)
      generalize ns[k]?.getD 0 = v at hcl
      have HC : Hid (∀ W, Kept No wr W → Calls Try.prog 12 #[.agg #[.pointer (some ⟨g, 0, none⟩), .pointer (some ⟨r, 0, none⟩)], .int .i64 v] W fun e w' => e = .returned (.bool true) ∧ Inv w w' T g lb r a cap zs) := by
        intro W hW
        have hI : Inv w W T g lb r a cap zs := HI.out.step (by obtain ⟨st, ht⟩ := HI.out.ex; exact ⟨st, ht.no hW, hW.of_no⟩)
        obtain ⟨st, ht⟩ := hI.ex
        exact (call_all g lb r a cap zs st v W ht).mono fun e w' h => ⟨h.1, hI.step h.2⟩
      go_wp2_with fail
      go_region_with (go_at_call 12; refine (HC.out _ ?_).mono ?_; (first | exact (Kept.refl No wr).drewN _ | exact (Kept.refl No wr).drew); rintro e v1 ⟨rfl, hpost1⟩; have J1 : Hid (Inv w v1 T g lb r a cap zs) := hpost1; clear hpost1)
      all_goals
        go_wp2
        go_roundw
        case rel => exact ⟨k + 1, by omega, by omega, by go_num, J1⟩
        case measure => simp [intOf]; omega
    · by_cases hl1 : k < cn
      · have i1 : (k : Int) < (cn : Int) := by omega
        have i2 : ¬ (k : Int) < 400 := by omega
        clear hlt
        go_wp2_with fail
        obtain ⟨st1, ht1⟩ := HI.out.ex
        refine (call_all g lb r a cap zs st1 _ _ ht1).mono ?_
        rintro e v1 ⟨rfl, hpost1⟩
        have J1 : Hid (Inv w v1 T g lb r a cap zs) := HI.out.step hpost1
        clear hpost1 ht1 p0 p1
        clear st1
        have p0 : v1.cell? ⟨T, 0, none⟩ = some (.pointer (some ⟨g, 0, none⟩)) := J1.out.p0
        have p1 : v1.cell? ⟨T, 1, none⟩ = some (.pointer (some ⟨r, 0, none⟩)) := J1.out.p1
        go_wp2_with fail
        obtain ⟨st2, ht2⟩ := J1.out.ex
        refine (call_all g lb r a cap zs st2 _ _ ht2).mono ?_
        rintro e v2 ⟨rfl, hpost2⟩
        have J2 : Hid (Inv w v2 T g lb r a cap zs) := J1.out.step hpost2
        clear hpost2 ht2 p0 p1
        clear st2
        have p0 : v2.cell? ⟨T, 0, none⟩ = some (.pointer (some ⟨g, 0, none⟩)) := J2.out.p0
        have p1 : v2.cell? ⟨T, 1, none⟩ = some (.pointer (some ⟨r, 0, none⟩)) := J2.out.p1
        go_wp2_with fail
        obtain ⟨st3, ht3⟩ := J2.out.ex
        refine (call_all g lb r a cap zs st3 _ _ ht3).mono ?_
        rintro e v3 ⟨rfl, hpost3⟩
        have J3 : Hid (Inv w v3 T g lb r a cap zs) := J2.out.step hpost3
        clear hpost3 ht3 p0 p1
        clear st3
        have p0 : v3.cell? ⟨T, 0, none⟩ = some (.pointer (some ⟨g, 0, none⟩)) := J3.out.p0
        have p1 : v3.cell? ⟨T, 1, none⟩ = some (.pointer (some ⟨r, 0, none⟩)) := J3.out.p1
        go_wp2_with fail
        obtain ⟨st4, ht4⟩ := J3.out.ex
        refine (call_all g lb r a cap zs st4 _ _ ht4).mono ?_
        rintro e v4 ⟨rfl, hpost4⟩
        have J4 : Hid (Inv w v4 T g lb r a cap zs) := J3.out.step hpost4
        clear hpost4 ht4 p0 p1
        clear st4
        have p0 : v4.cell? ⟨T, 0, none⟩ = some (.pointer (some ⟨g, 0, none⟩)) := J4.out.p0
        have p1 : v4.cell? ⟨T, 1, none⟩ = some (.pointer (some ⟨r, 0, none⟩)) := J4.out.p1
        go_wp2
        go_ret
        exact ⟨rfl, J4.out.kept.below (Nat.le_refl _) (fun _ e => e.elim)⟩
      · have i1 : ¬ (k : Int) < (cn : Int) := by omega
        clear hlt
        go_wp2_with fail
        obtain ⟨st1, ht1⟩ := HI.out.ex
        refine (call_all g lb r a cap zs st1 _ _ ht1).mono ?_
        rintro e v1 ⟨rfl, hpost1⟩
        have J1 : Hid (Inv w v1 T g lb r a cap zs) := HI.out.step hpost1
        clear hpost1 ht1 p0 p1
        clear st1
        have p0 : v1.cell? ⟨T, 0, none⟩ = some (.pointer (some ⟨g, 0, none⟩)) := J1.out.p0
        have p1 : v1.cell? ⟨T, 1, none⟩ = some (.pointer (some ⟨r, 0, none⟩)) := J1.out.p1
        go_wp2_with fail
        obtain ⟨st2, ht2⟩ := J1.out.ex
        refine (call_all g lb r a cap zs st2 _ _ ht2).mono ?_
        rintro e v2 ⟨rfl, hpost2⟩
        have J2 : Hid (Inv w v2 T g lb r a cap zs) := J1.out.step hpost2
        clear hpost2 ht2 p0 p1
        clear st2
        have p0 : v2.cell? ⟨T, 0, none⟩ = some (.pointer (some ⟨g, 0, none⟩)) := J2.out.p0
        have p1 : v2.cell? ⟨T, 1, none⟩ = some (.pointer (some ⟨r, 0, none⟩)) := J2.out.p1
        go_wp2_with fail
        obtain ⟨st3, ht3⟩ := J2.out.ex
        refine (call_all g lb r a cap zs st3 _ _ ht3).mono ?_
        rintro e v3 ⟨rfl, hpost3⟩
        have J3 : Hid (Inv w v3 T g lb r a cap zs) := J2.out.step hpost3
        clear hpost3 ht3 p0 p1
        clear st3
        have p0 : v3.cell? ⟨T, 0, none⟩ = some (.pointer (some ⟨g, 0, none⟩)) := J3.out.p0
        have p1 : v3.cell? ⟨T, 1, none⟩ = some (.pointer (some ⟨r, 0, none⟩)) := J3.out.p1
        go_wp2_with fail
        obtain ⟨st4, ht4⟩ := J3.out.ex
        refine (call_all g lb r a cap zs st4 _ _ ht4).mono ?_
        rintro e v4 ⟨rfl, hpost4⟩
        have J4 : Hid (Inv w v4 T g lb r a cap zs) := J3.out.step hpost4
        clear hpost4 ht4 p0 p1
        clear st4
        have p0 : v4.cell? ⟨T, 0, none⟩ = some (.pointer (some ⟨g, 0, none⟩)) := J4.out.p0
        have p1 : v4.cell? ⟨T, 1, none⟩ = some (.pointer (some ⟨r, 0, none⟩)) := J4.out.p1
        go_wp2
        go_ret
        exact ⟨rfl, J4.out.kept.below (Nat.le_refl _) (fun _ e => e.elim)⟩

end wireReads
end Go.Proofs.Ytnhjpghkmbgeaaa
