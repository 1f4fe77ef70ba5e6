import Derived.Test.YtgdnofacgfjaeabGreatX
namespace Go.Proofs.YtgdnofacgfjaeabGreat
open Go.RowKit
set_option linter.unusedVariables false

/-- A Writer's state: what it has put, or none once a number below 0 was handed in. -/
def Ws (w : World) (base g : Nat) (a : Option Addr) (c : Nat) : Option (List Int) → Prop
  | some zs => Wr w base g a c zs false
  | none => Wr w base g a c [] true ∧ a = none

theorem Ws.no {w w' : World} {base g : Nat} {a : Option Addr} {c : Nat} {st : Option (List Int)} (h : Ws w base g a c st) (hk : Kept No w w') : Ws w' base g a c st := by
  cases st with
  | some zs => exact Wr.no h hk
  | none => exact ⟨h.1.no hk, h.2⟩
theorem Ws.kept {S : Nat → Prop} {w w' : World} {base g : Nat} {a : Option Addr} {c : Nat} {st : Option (List Int)} (h : Ws w base g a c st) (hk : Kept S w w') (hS : ∀ k, WrAt g a k → ¬ S k) : Ws w' base g a c st := by
  cases st with
  | some zs => exact Wr.kept h hk (hS g (.inl rfl)) (fun k hk => hS k (.inr hk))
  | none => exact ⟨h.1.kept hk (hS g (.inl rfl)) (fun k hk => hS k (.inr hk)), h.2⟩
theorem Ws.lt {w : World} {base g : Nat} {a : Option Addr} {c : Nat} {st : Option (List Int)} (h : Ws w base g a c st) {k : Nat} (hk : WrAt g a k) : k < w.heap.size := by
  cases st with
  | some zs => exact Wr.lt h hk
  | none => exact h.1.lt hk
theorem Ws.base {w : World} {base g : Nat} {a : Option Addr} {c : Nat} {st : Option (List Int)} (h : Ws w base g a c st) {k : Nat} (hk : WrAt g a k) : base ≤ k := by
  cases st with
  | some zs => exact Wr.base h hk
  | none => exact h.1.base hk

/-- What a call on a Writer leaves. -/
def Puts (w : World) (base g : Nat) (a : Option Addr) (st : Option (List Int)) (e : Ending) (w' : World) : Prop :=
  e = .returned (.tuple #[]) ∧ ∃ a' c', Ws w' base g a' c' st ∧ Kept (WrAt g a) w w' ∧ Moved w a a'

def stLen : Option (List Int) → Nat
  | some zs => zs.length
  | none => 0

set_option maxRecDepth 1000000 in
set_option maxHeartbeats 1000000 in
theorem varint_bad (base g : Nat) (a : Option Addr) (c : Nat) (zs : List Int) (u : Nat) (w : World) (hw : Wr w base g a c zs true) (hu : W64 u) :
    Calls Tryz.prog 138 #[.pointer (some ⟨g, 0, none⟩), .int .u64 (u : Int)] w fun e w' => e = .returned (.tuple #[]) ∧ Kept No w w' := by
  have HW : Hid (Wr w base g a c zs true) := hw
  have HU : Hid (W64 u) := hu
  clear hw hu
  go_enter Tryz.func138, Tryz.ntmps138
  go_wp2
  go_loopw [1] (fun s wr => ∃ v : Nat, Hid (W64 v) ∧ s = .int .u64 (v : Int) ∧ Hid (Kept No w wr)) (fun s _ => (intOf s).toNat)
  case atStart => exact ⟨u, HU, rfl, Kept.refl _ _⟩
  case round =>
    obtain ⟨v, HV2, rfl, HK⟩ := hrel
    by_cases hlt : v < 128
    · have h2 : ¬ (128 : Int) ≤ (v : Int) := by omega
      go_wp2_with fail
      refine (join_bad base g a c zs _ _ (HW.out.no (HK.out.alloc _))).mono ?_
      rintro e w2 ⟨rfl, hw2⟩
      have HK2 : Hid (Kept No w w2) := by rw [hw2]; exact HK.out.alloc _
      clear hw2
      go_wp2
      go_end0
      exact ⟨rfl, HK2.out⟩
    · have h2 : (128 : Int) ≤ (v : Int) := by omega
      have h3 : (v : Int) ≤ 18446744073709551615 := by have := HV2.out; unfold W64 at this; omega
      go_wp2_with fail
      refine (join_bad base g a c zs _ _ (HW.out.no (HK.out.alloc _))).mono ?_
      rintro e w2 ⟨rfl, hw2⟩
      have HK2 : Hid (Kept No w w2) := by rw [hw2]; exact HK.out.alloc _
      clear hw2
      go_wp2
      go_roundw
      case rel => exact ⟨v / 128, HV2.out.div 128, by go_num, HK2⟩
      case measure => simp [intOf]; omega

theorem varint_all (base g : Nat) (a : Option Addr) (c : Nat) (st : Option (List Int)) (u : Nat) (w : World) (h : Ws w base g a c st) (hu : W64 u) (hlen : stLen st + 10 ≤ 140737488355328) (hbase : base ≤ w.heap.size) :
    Calls Tryz.prog 138 #[.pointer (some ⟨g, 0, none⟩), .int .u64 (u : Int)] w (Puts w base g a (st.map (· ++ vint u))) := by
  cases st with
  | some zs => exact (varint_any base g a c zs u w h hu hlen hbase).mono (fun e w' ⟨h1, a', c', h2, h3, h4⟩ => ⟨h1, a', c', h2, h3, h4⟩)
  | none => exact (varint_bad base g a c [] u w h.1 hu).mono (fun e w' ⟨h1, h2⟩ => ⟨h1, a, c, ⟨h.1.no h2, h.2⟩, h2.of_no, Moved.refl _ _⟩)

theorem join_all (base g : Nat) (a : Option Addr) (c : Nat) (st : Option (List Int)) (xa : Option Addr) (xn xc : Nat) (ys : List Int) (w : World) (h : Ws w base g a c st) (hxn : ys.length = xn) (hy : Bytes w xa ys) (hxc : xa = none → xc = 0) (hlen : stLen st + xn ≤ 140737488355328) (hbase : base ≤ w.heap.size) :
    Calls Tryz.prog 127 #[.pointer (some ⟨g, 0, none⟩), .slice xa xn xc] w (Puts w base g a (st.map (· ++ ys))) := by
  cases st with
  | some zs => exact (join_any base g a c zs xa xn xc ys w h hxn hy hxc hlen hbase).mono (fun e w' ⟨h1, a', c', h2, h3, h4⟩ => ⟨h1, a', c', h2, h3, h4⟩)
  | none => exact (join_bad base g a c [] _ w h.1).mono (fun e w' ⟨h1, h2⟩ => by subst h2; exact ⟨h1, a, c, ⟨h.1, h.2⟩, Kept.refl _ _, Moved.refl _ _⟩)

def zz (n : Int) : Nat := if n < 0 then (2 * (-(n + 1)) + 1).toNat else (2 * n).toNat
theorem zz_64 (n : Int) (h0 : -9223372036854775808 ≤ n) (h1 : n ≤ 9223372036854775807) : W64 (zz n) := by
  unfold W64 zz; split <;> omega

set_option maxRecDepth 1000000 in
set_option maxHeartbeats 400000 in
theorem rzigzag_any (n : Int) (w : World) (h0 : -9223372036854775808 ≤ n) (h1 : n ≤ 9223372036854775807) :
    Calls Tryz.prog 235 #[.int .i64 n] w fun e w' => e = .returned (.int .u64 (zz n : Int)) ∧ w' = w := by
  by_cases hn : n < 0
  · go_enter Tryz.func235, Tryz.ntmps235
    go_wp2
    go_ret
    exact ⟨ret_int (by unfold zz; rw [if_pos hn]; omega), rfl⟩
  · go_enter Tryz.func235, Tryz.ntmps235
    go_wp2
    go_ret
    exact ⟨ret_int (by unfold zz; rw [if_neg (by omega)]; omega), rfl⟩

end Go.Proofs.YtgdnofacgfjaeabGreat
