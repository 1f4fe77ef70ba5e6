import Derived.Test.YtnhjpghkmbgeaabBk
namespace Go.Proofs.Ytnhjpghkmbgeaab
open Go.RowKit
set_option linter.unusedVariables false
namespace ap

/-- A block with a Writer somewhere in it: its place, and the block's cells out of the Writer's two. -/
structure Hole where
  o : Nat
  Cs : Value → Value → Array Value
  at0 : ∀ s b, (Cs s b)[o]? = some s
  at1 : ∀ s b, (Cs s b)[o + 1]? = some b
  set0 : ∀ s b s', (Cs s b).setIfInBounds o s' = Cs s' b
  set1 : ∀ s b b', (Cs s b).setIfInBounds (o + 1) b' = Cs s b'
variable {H : Hole}

/-- A Writer at block g: what it has put lies at a (c: its room). -/
structure Wr (H : Hole) (w : World) (base g : Nat) (a : Option Addr) (c : Nat) (zs : List Int) (bad : Bool) : Prop where
  cell : w.heap[g]? = some (.cells (H.Cs (.slice a zs.length c) (.bool bad)) 38 (0, 0))
  own : OwnS w base a c zs
  bg : base ≤ g
theorem Wr.kept {S : Nat → Prop} {w w' : World} {base g : Nat} {a : Option Addr} {c : Nat} {zs : List Int} {bad : Bool} (h : Wr H w base g a c zs bad) (hk : Kept S w w') (hg : ¬ S g) (hS : ∀ k, At a k → ¬ S k) : Wr H w' base g a c zs bad :=
  ⟨(hk.block g (Array.getElem?_eq_some_iff.1 h.cell).1 hg).trans h.cell, h.own.kept hk hS, h.bg⟩
theorem Wr.no {w w' : World} {base g : Nat} {a : Option Addr} {c : Nat} {zs : List Int} {bad : Bool} (h : Wr H w base g a c zs bad) (hk : Kept No w w') : Wr H w' base g a c zs bad := h.kept hk (fun e => e) (fun _ _ e => e)
theorem Wr.lt {w : World} {base g : Nat} {a : Option Addr} {c : Nat} {zs : List Int} {bad : Bool} (h : Wr H w base g a c zs bad) {k : Nat} (hk : WrAt g a k) : k < w.heap.size := by
  rcases hk with rfl | hk
  · exact (Array.getElem?_eq_some_iff.1 h.cell).1
  · exact h.own.lt hk
theorem Wr.base {w : World} {base g : Nat} {a : Option Addr} {c : Nat} {zs : List Int} {bad : Bool} (h : Wr H w base g a c zs bad) {k : Nat} (hk : WrAt g a k) : base ≤ k := by
  rcases hk with rfl | hk
  · exact h.bg
  · exact h.own.base hk
theorem join_end {base g : Nat} {a : Option Addr} {c : Nat} {zs ys : List Int} {w w1 : World} {a' : Option Addr} {c' n : Nat} {bad : Bool} (hw : Wr H w base g a c zs bad) (hn : (zs ++ ys).length = n) (HO : OwnS w1 base a' c' (zs ++ ys)) (HK : Kept (At a) w w1)
    (HM : (a' = a ∧ c' = c) ∨ ∀ k, At a' k → w.heap.size ≤ k) (HG1 : w1.heap[g]? = some (.cells (H.Cs (.slice a zs.length c) (.bool bad)) 38 (0, 0))) :
    ∃ a'' c'', Wr H (w1.setCell ⟨g, H.o, none⟩ (.slice a' n c')) base g a'' c'' (zs ++ ys) bad ∧ Kept (WrAt g a) w (w1.setCell ⟨g, H.o, none⟩ (.slice a' n c')) ∧ Moved w a a'' := by
  subst hn
  refine ⟨a', c', ⟨?_, ?_, hw.bg⟩, ?_, ?_⟩
  · rw [heap_setCell_same w1 g H.o _ 38 _ HG1, H.set0]
  · exact HO.kept ((Kept.refl (Only g) w1).setCell (p := ⟨g, H.o, none⟩) (fun _ => (rfl : g = g)) _) (fun k hk e => by have e' : k = g := e; subst e'; exact HO.ne HG1 (by decide) hk)
  · exact (HK.mono (fun i _ e => .inr e)).setCell (p := ⟨g, H.o, none⟩) (fun _ => .inl rfl) _
  · rcases HM with ⟨rfl, _⟩ | h
    · exact Moved.refl _ _
    · exact fun k hk => .inr (h k hk)
set_option maxHeartbeats 400000 in
theorem join_any (base g : Nat) (a : Option Addr) (c : Nat) (zs : List Int) (xa : Option Addr) (xn xc : Nat) (ys : List Int) (w : World)
    (hw : Wr H w base g a c zs false) (hxn : ys.length = xn) (hy : Bytes w xa ys) (hxc : xa = none → xc = 0) (hlen : zs.length + xn ≤ 140737488355328) (hbase : base ≤ w.heap.size) :
    Calls Try.prog 42 #[.pointer (some ⟨g, H.o, none⟩), .slice xa xn xc] w fun e w' => e = .returned (.tuple #[]) ∧ ∃ a' c', Wr H w' base g a' c' (zs ++ ys) false ∧ Kept (WrAt g a) w w' ∧ Moved w a a' := by
  have HW : Hid (Wr H w base g a c zs false) := hw
  have HY : Hid (Bytes w xa ys) := hy
  have HC : Hid (xa = none → xc = 0) := hxc
  have HL : Hid (ys.length = xn) := hxn
  have c0 : w.cell? ⟨g, H.o, none⟩ = some (.slice a zs.length c) := by rw [cell_of_row w g H.o _ 38 (0, 0) hw.cell]; exact H.at0 _ _
  have c1 : w.cell? ⟨g, H.o + 1, none⟩ = some (.bool false) := by rw [cell_of_row w g (H.o + 1) _ 38 (0, 0) hw.cell]; exact H.at1 _ _
  clear hw hy hxc hxn
  go_enter Try.func42, Try.ntmps42
  go_wp2_with (at_builtin; go_must (refine wp_appB _ Try.underlying22 Try.info5 rfl _ _ rfl base _ _ _ zs rfl rfl HW.out.own _ _ _ ys rfl HL.out HY.out HC.out hlen hbase ?_; intro a' c' w1 HO HK HM; have HG1 : Hid (w1.heap[g]? = some (.cells (H.Cs (.slice a zs.length c) (.bool false)) 38 (0, 0))) := ((HK.out.block g (Array.getElem?_eq_some_iff.1 HW.out.cell).1 (HW.out.own.ne HW.out.cell (by decide))).trans HW.out.cell); have hf1 := frozen_of_row w1 g H.o _ 38 HG1.out; have hc1 : w1.cell? ⟨g, H.o, none⟩ = some (.slice a zs.length c) := (by rw [cell_of_row w1 g H.o _ 38 (0, 0) HG1.out]; exact H.at0 _ _)))
  go_end0
  exact ⟨rfl, join_end HW.out (by have := HL.out; simp; omega) HO.out HK.out HM.out HG1.out⟩
theorem join_bad (base g : Nat) (a : Option Addr) (c : Nat) (zs : List Int) (x : Value) (w : World) (hw : Wr H w base g a c zs true) :
    Calls Try.prog 42 #[.pointer (some ⟨g, H.o, none⟩), x] w fun e w' => e = .returned (.tuple #[]) ∧ w' = w := by
  have c1 : w.cell? ⟨g, H.o + 1, none⟩ = some (.bool true) := by rw [cell_of_row w g (H.o + 1) _ 38 (0, 0) hw.cell]; exact H.at1 _ _
  clear hw
  go_enter Try.func42, Try.ntmps42
  go_wp2
  go_end0
  exact ⟨rfl, rfl⟩
set_option maxHeartbeats 1000000 in
theorem varint_any (base g : Nat) (a : Option Addr) (c : Nat) (zs : List Int) (u : Nat) (w : World)
    (hw : Wr H w base g a c zs false) (hu : W64 u) (hlen : zs.length + 10 ≤ 140737488355328) (hbase : base ≤ w.heap.size) :
    Calls Try.prog 40 #[.pointer (some ⟨g, H.o, none⟩), .int .u64 (u : Int)] w fun e w' => e = .returned (.tuple #[]) ∧ ∃ a' c', Wr H w' base g a' c' (zs ++ vint u) false ∧ Kept (WrAt g a) w w' ∧ Moved w a a' := by
  have HW : Hid (Wr H w base g a c zs false) := hw
  have HV : Hid ((vint u).length ≤ 10) := vint_len10 u hu
  have HU : Hid (W64 u) := hu
  clear hw hu
  go_enter Try.func40, Try.ntmps40
  go_wp2
  go_loopw [1] (fun s wr => ∃ v : Nat, Hid (W64 v) ∧ s = .int .u64 (v : Int) ∧ Hid (∃ a' c' zs', Wr H wr base g a' c' zs' false ∧ zs' ++ vint v = zs ++ vint u ∧ Kept (WrAt g a) w wr ∧ Moved w a a')) (fun s _ => (intOf s).toNat)
  case atStart => exact ⟨u, HU, rfl, a, c, zs, HW.out, rfl, Kept.refl _ _, Moved.refl _ _⟩
  case round =>
    obtain ⟨v, HV2, rfl, HR⟩ := hrel
    by_cases hlt : v < 128
    · have h2 : ¬ (128 : Int) ≤ (v : Int) := by omega
      obtain ⟨a1, c1, zs1, hw1, he1, hk1, hm1⟩ := HR.out
      have HW1 : Hid (Wr H wr base g a1 c1 zs1 false) := hw1
      have HE1 : Hid (zs1 ++ vint v = zs ++ vint u) := he1
      have HK1 : Hid (Kept (WrAt g a) w wr) := hk1
      have HM1 : Hid (Moved w a a1) := hm1
      clear hw1 he1 hk1 hm1 HR
      go_wp2_with fail
      refine (join_any base g a1 c1 zs1 _ _ _ [(v : Int)] _ (HW1.out.no ((Kept.refl _ _).alloc _)) rfl (one_own _ _).bytes (fun e => by cases e) ?_ (by have := HK1.out.size; simp; omega)).mono ?_
      · have h1 := congrArg List.length HE1.out; have := HV.out; rw [vint_lo hlt] at h1; simp at h1 ⊢; omega
      rintro e w2 ⟨rfl, a2, c2, hw2, hk2, hm2⟩
      have HF : Hid (∃ a' c', Wr H w2 base g a' c' (zs ++ vint u) false ∧ Kept (WrAt g a) w w2 ∧ Moved w a a') :=
        ⟨a2, c2, by rw [← HE1.out, vint_lo hlt]; exact hw2, (HK1.out.then (((Kept.refl No wr).alloc _).of_no)).moved hk2 HM1.out, HM1.out.trans hm2 (by have := HK1.out.size; simp; omega)⟩
      clear hw2 hk2 hm2
      go_wp2
      go_end0
      exact ⟨rfl, HF.out⟩
    · have h2 : (128 : Int) ≤ (v : Int) := by omega
      have h3 : (v : Int) ≤ 18446744073709551615 := by have := HV2.out; unfold W64 at this; omega
      obtain ⟨a1, c1, zs1, hw1, he1, hk1, hm1⟩ := HR.out
      have HW1 : Hid (Wr H wr base g a1 c1 zs1 false) := hw1
      have HE1 : Hid (zs1 ++ vint v = zs ++ vint u) := he1
      have HK1 : Hid (Kept (WrAt g a) w wr) := hk1
      have HM1 : Hid (Moved w a a1) := hm1
      clear hw1 he1 hk1 hm1 HR
      go_wp2_with fail
      refine (join_any base g a1 c1 zs1 _ _ _ [((v % 128 + 128 : Nat) : Int)] _ (HW1.out.no ((Kept.refl _ _).alloc _)) rfl ?_ (fun e => by cases e) ?_ (by have := HK1.out.size; simp; omega)).mono ?_
      · rw [show ((v % 128 + 128 : Nat) : Int) = (v : Int) % 128 + 128 from by omega]; exact (one_own _ _).bytes
      · have h1 := congrArg List.length HE1.out; have := HV.out; rw [vint_hi hlt] at h1; simp at h1 ⊢; omega
      rintro e w2 ⟨rfl, a2, c2, hw2, hk2, hm2⟩
      have HF : Hid (∃ a' c' zs', Wr H w2 base g a' c' zs' false ∧ zs' ++ vint (v / 128) = zs ++ vint u ∧ Kept (WrAt g a) w w2 ∧ Moved w a a') :=
        ⟨a2, c2, _, hw2, by rw [← HE1.out, vint_hi hlt]; simp, (HK1.out.then (((Kept.refl No wr).alloc _).of_no)).moved hk2 HM1.out, HM1.out.trans hm2 (by have := HK1.out.size; simp; omega)⟩
      clear hw2 hk2 hm2
      go_wp2
      go_roundw
      case rel => exact ⟨v / 128, HV2.out.div 128, by go_num, HF⟩
      case measure => simp [intOf]; omega
/-- A Writer's state: what it has put, or none once a number below 0 was handed in. -/
def Ws (H : Hole) (w : World) (base g : Nat) (a : Option Addr) (c : Nat) : Option (List Int) → Prop
  | some zs => Wr H w base g a c zs false
  | none => Wr H w base g a c [] true ∧ a = none
theorem Ws.no {w w' : World} {base g : Nat} {a : Option Addr} {c : Nat} {st : Option (List Int)} (h : Ws H w base g a c st) (hk : Kept No w w') : Ws H w' base g a c st := by
  cases st with
  | some zs => exact Wr.no h hk
  | none => exact ⟨h.1.no hk, h.2⟩
theorem Ws.kept {S : Nat → Prop} {w w' : World} {base g : Nat} {a : Option Addr} {c : Nat} {st : Option (List Int)} (h : Ws H w base g a c st) (hk : Kept S w w') (hS : ∀ k, WrAt g a k → ¬ S k) : Ws H w' base g a c st := by
  cases st with
  | some zs => exact Wr.kept h hk (hS g (.inl rfl)) (fun k hk => hS k (.inr hk))
  | none => exact ⟨h.1.kept hk (hS g (.inl rfl)) (fun k hk => hS k (.inr hk)), h.2⟩
theorem Ws.lt {w : World} {base g : Nat} {a : Option Addr} {c : Nat} {st : Option (List Int)} (h : Ws H w base g a c st) {k : Nat} (hk : WrAt g a k) : k < w.heap.size := by
  cases st with
  | some zs => exact Wr.lt h hk
  | none => exact h.1.lt hk
theorem Ws.base {w : World} {base g : Nat} {a : Option Addr} {c : Nat} {st : Option (List Int)} (h : Ws H w base g a c st) {k : Nat} (hk : WrAt g a k) : base ≤ k := by
  cases st with
  | some zs => exact Wr.base h hk
  | none => exact h.1.base hk
/-- What a call on a Writer leaves. -/
def Puts (H : Hole) (w : World) (base g : Nat) (a : Option Addr) (st : Option (List Int)) (e : Ending) (w' : World) : Prop :=
  e = .returned (.tuple #[]) ∧ ∃ a' c', Ws H w' base g a' c' st ∧ Kept (WrAt g a) w w' ∧ Moved w a a'
set_option maxHeartbeats 1000000 in
theorem varint_bad (base g : Nat) (a : Option Addr) (c : Nat) (zs : List Int) (u : Nat) (w : World) (hw : Wr H w base g a c zs true) (hu : W64 u) :
    Calls Try.prog 40 #[.pointer (some ⟨g, H.o, none⟩), .int .u64 (u : Int)] w fun e w' => e = .returned (.tuple #[]) ∧ Kept No w w' := by
  have HW : Hid (Wr H w base g a c zs true) := hw
  have HU : Hid (W64 u) := hu
  clear hw hu
  go_enter Try.func40, Try.ntmps40
  go_wp2
  go_loopw [1] (fun s wr => ∃ v : Nat, Hid (W64 v) ∧ s = .int .u64 (v : Int) ∧ Hid (Kept No w wr)) (fun s _ => (intOf s).toNat)
  case atStart => exact ⟨u, HU, rfl, Kept.refl _ _⟩
  case round =>
    obtain ⟨v, HV2, rfl, HK⟩ := hrel
    by_cases hlt : v < 128
    · have h2 : ¬ (128 : Int) ≤ (v : Int) := by omega
      go_wp2_with fail
      refine (join_bad base g a c zs _ _ (HW.out.no (HK.out.alloc _))).mono ?_
      rintro e w2 ⟨rfl, hw2⟩
      have HK2 : Hid (Kept No w w2) := by rw [hw2]; exact HK.out.alloc _
      clear hw2
      go_wp2
      go_end0
      exact ⟨rfl, HK2.out⟩
    · have h2 : (128 : Int) ≤ (v : Int) := by omega
      have h3 : (v : Int) ≤ 18446744073709551615 := by have := HV2.out; unfold W64 at this; omega
      go_wp2_with fail
      refine (join_bad base g a c zs _ _ (HW.out.no (HK.out.alloc _))).mono ?_
      rintro e w2 ⟨rfl, hw2⟩
      have HK2 : Hid (Kept No w w2) := by rw [hw2]; exact HK.out.alloc _
      clear hw2
      go_wp2
      go_roundw
      case rel => exact ⟨v / 128, HV2.out.div 128, by go_num, HK2⟩
      case measure => simp [intOf]; omega
theorem varint_all (base g : Nat) (a : Option Addr) (c : Nat) (st : Option (List Int)) (u : Nat) (w : World) (h : Ws H w base g a c st) (hu : W64 u) (hlen : stLen st + 10 ≤ 140737488355328) (hbase : base ≤ w.heap.size) :
    Calls Try.prog 40 #[.pointer (some ⟨g, H.o, none⟩), .int .u64 (u : Int)] w (Puts H w base g a (st.map (· ++ vint u))) := by
  cases st with
  | some zs => exact (varint_any base g a c zs u w h hu hlen hbase).mono (fun e w' ⟨h1, a', c', h2, h3, h4⟩ => ⟨h1, a', c', h2, h3, h4⟩)
  | none => exact (varint_bad base g a c [] u w h.1 hu).mono (fun e w' ⟨h1, h2⟩ => ⟨h1, a, c, ⟨h.1.no h2, h.2⟩, h2.of_no, Moved.refl _ _⟩)
theorem join_all (base g : Nat) (a : Option Addr) (c : Nat) (st : Option (List Int)) (xa : Option Addr) (xn xc : Nat) (ys : List Int) (w : World) (h : Ws H w base g a c st) (hxn : ys.length = xn) (hy : Bytes w xa ys) (hxc : xa = none → xc = 0) (hlen : stLen st + xn ≤ 140737488355328) (hbase : base ≤ w.heap.size) :
    Calls Try.prog 42 #[.pointer (some ⟨g, H.o, none⟩), .slice xa xn xc] w (Puts H w base g a (st.map (· ++ ys))) := by
  cases st with
  | some zs => exact (join_any base g a c zs xa xn xc ys w h hxn hy hxc hlen hbase).mono (fun e w' ⟨h1, a', c', h2, h3, h4⟩ => ⟨h1, a', c', h2, h3, h4⟩)
  | none => exact (join_bad base g a c [] _ w h.1).mono (fun e w' ⟨h1, h2⟩ => by subst h2; exact ⟨h1, a, c, ⟨h.1, h.2⟩, Kept.refl _ _, Moved.refl _ _⟩)
theorem Ws.wr {w : World} {base g : Nat} {a : Option Addr} {c : Nat} {st : Option (List Int)} (h : Ws H w base g a c st) : ∃ zs bad, Wr H w base g a c zs bad := by
  cases st with
  | some zs => exact ⟨zs, false, h⟩
  | none => exact ⟨[], true, h.1⟩
theorem num_neg_end {w : World} {base g : Nat} {a : Option Addr} {v0 v1 : Value} {st : Option (List Int)} {n : Int} (hn : n < 0) (HG : w.heap[g]? = some (.cells (H.Cs v0 v1) 38 (0, 0))) (HB : base ≤ g) :
    Puts H w base g a (putNum st n) (Ending.returned (Value.tuple #[])) ((w.setCell ⟨g, H.o, none⟩ (Value.slice none 0 0)).setCell ⟨g, H.o + 1, none⟩ (Value.bool true)) := by
  have h1 := heap_setCell_same w g H.o _ 38 (Value.slice none 0 0) HG
  have h2 := heap_setCell_same _ g (H.o + 1) _ 38 (Value.bool true) h1
  have e : putNum st n = none := by unfold putNum; rw [if_pos hn]
  rw [e]
  refine ⟨rfl, none, 0, ⟨⟨by rw [h2, H.set0, H.set1]; rfl, OwnS.nil _ _, HB⟩, rfl⟩, ?_, fun k h => absurd h At.none⟩
  exact ((Kept.refl _ _).setCell (p := ⟨g, H.o, none⟩) (fun _ => .inl rfl) _).setCell (p := ⟨g, H.o + 1, none⟩) (fun _ => .inl rfl) _
set_option maxHeartbeats 400000 in
theorem num_all (base g : Nat) (a : Option Addr) (c : Nat) (st : Option (List Int)) (n : Int) (w : World) (h : Ws H w base g a c st) (h1 : n ≤ 9223372036854775807) (hlen : stLen st + 10 ≤ 140737488355328) (hbase : base ≤ w.heap.size) :
    Calls Try.prog 29 #[.pointer (some ⟨g, H.o, none⟩), .int .i64 n] w (Puts H w base g a (putNum st n)) := by
  by_cases hn : n < 0
  · obtain ⟨zs, bad, hw⟩ := h.wr
    have HG : Hid (w.heap[g]? = some (.cells (H.Cs (.slice a zs.length c) (.bool bad)) 38 (0, 0))) := hw.cell
    have HB : Hid (base ≤ g) := hw.bg
    have hf0 := frozen_of_row w g H.o _ 38 HG.out
    have hf1 := frozen_of_row w g (H.o + 1) _ 38 HG.out
    have c0 : w.cell? ⟨g, H.o, none⟩ = some (.slice a zs.length c) := by rw [cell_of_row w g H.o _ 38 (0, 0) HG.out]; exact H.at0 _ _
    have c1 : w.cell? ⟨g, H.o + 1, none⟩ = some (.bool bad) := by rw [cell_of_row w g (H.o + 1) _ 38 (0, 0) HG.out]; exact H.at1 _ _
    clear h hw
    go_enter Try.func29, Try.ntmps29
    go_wp2
    go_end0
    exact num_neg_end hn HG.out HB.out
  · obtain ⟨m, rfl⟩ := Int.eq_ofNat_of_zero_le (by omega : 0 ≤ n)
    have HW : Hid (Ws H w base g a c st) := h
    have HP : Hid (putNum st (m : Int) = st.map (· ++ vint m)) := by unfold Hid putNum; rw [if_neg hn]; simp
    clear h
    go_enter Try.func29, Try.ntmps29
    go_wp2_with fail
    refine (varint_all base g a c st m w HW.out (by unfold W64; omega) hlen hbase).mono ?_
    rintro e w1 ⟨rfl, hr⟩
    have HR : Hid _ := hr
    clear hr
    go_wp2
    go_end0
    rw [HP.out]
    exact ⟨rfl, HR.out⟩
set_option maxHeartbeats 400000 in
theorem int_all (base g : Nat) (a : Option Addr) (c : Nat) (st : Option (List Int)) (n : Int) (w : World) (h : Ws H w base g a c st) (h0 : -9223372036854775808 ≤ n) (h1 : n ≤ 9223372036854775807) (hlen : stLen st + 10 ≤ 140737488355328) (hbase : base ≤ w.heap.size) :
    Calls Try.prog 30 #[.pointer (some ⟨g, H.o, none⟩), .int .i64 n] w (Puts H w base g a (st.map (· ++ vint (zz n)))) := by
  have HW : Hid (Ws H w base g a c st) := h
  clear h
  go_enter Try.func30, Try.ntmps30
  go_wp2_with fail
  refine (zigzag_any n w h0 h1).mono ?_
  rintro e w1 ⟨rfl, rfl⟩
  go_wp2_with fail
  refine (varint_all base g a c st (zz n) w1 HW.out (zz_64 n h0 h1) hlen hbase).mono ?_
  rintro e w2 ⟨rfl, hr⟩
  have HR : Hid _ := hr
  clear hr
  go_wp2
  go_end0
  exact ⟨rfl, HR.out⟩
set_option maxHeartbeats 400000 in
theorem bytes_all (base g : Nat) (a : Option Addr) (c : Nat) (st : Option (List Int)) (xa : Option Addr) (xn xc : Nat) (ys : List Int) (w : World) (h : Ws H w base g a c st) (hxn : ys.length = xn) (hy : Bytes w xa ys) (hxc : xa = none → xc = 0)
    (hd : ∀ k, At xa k → ¬ WrAt g a k) (hx : xn ≤ 140737488355328) (hlen : stLen st + 10 + xn ≤ 140737488355328) (hbase : base ≤ w.heap.size) :
    Calls Try.prog 31 #[.pointer (some ⟨g, H.o, none⟩), .slice xa xn xc] w (Puts H w base g a (putBytes st ys)) := by
  have HW : Hid (Ws H w base g a c st) := h
  have HY : Hid (Bytes w xa ys) := hy
  have HC : Hid (xa = none → xc = 0) := hxc
  have HL : Hid (ys.length = xn) := hxn
  have HD : Hid (∀ k, At xa k → ¬ WrAt g a k) := hd
  clear h hy hxc hxn hd
  go_enter Try.func31, Try.ntmps31
  go_wp2_with fail
  refine (num_all base g a c st (xn : Int) w HW.out (by omega) (by omega) hbase).mono ?_
  rintro e w1 ⟨rfl, a1, c1, hw1, hk1, hm1⟩
  have HW1 : Hid (Ws H w1 base g a1 c1 (st.map (· ++ vint xn))) := by
    have e : putNum st (xn : Int) = st.map (· ++ vint xn) := by unfold putNum; rw [if_neg (by omega)]; simp
    rw [e] at hw1; exact hw1
  have HK1 : Hid (Kept (WrAt g a) w w1) := hk1
  have HM1 : Hid (Moved w a a1) := hm1
  have HY1 : Hid (Bytes w1 xa ys) := HY.out.kept hk1 (fun b off e => HD.out b ⟨_, e, rfl⟩)
  have HS : Hid (stLen (st.map (· ++ vint xn)) ≤ stLen st + 10) := Nat.le_trans (stLen_map st (vint xn)) (by have := vint_len10 xn (by omega); omega)
  clear hw1 hk1 hm1 HY HW
  go_wp2_with fail
  refine (join_all base g a1 c1 (st.map (· ++ vint xn)) xa xn xc ys w1 HW1.out HL.out HY1.out HC.out (by have := HS.out; omega) (by have := HK1.out.size; omega)).mono ?_
  rintro e w2 ⟨rfl, a2, c2, hw2, hk2, hm2⟩
  have HF : Hid (∃ a' c', Ws H w2 base g a' c' (putBytes st ys) ∧ Kept (WrAt g a) w w2 ∧ Moved w a a') :=
    ⟨a2, c2, by
      have e : putBytes st ys = (st.map (· ++ vint xn)).map (· ++ ys) := by unfold putBytes; rw [HL.out]; cases st <;> simp
      rw [e]; exact hw2, HK1.out.moved hk2 HM1.out, HM1.out.trans hm2 HK1.out.size⟩
  clear hw2 hk2 hm2
  go_wp2
  go_end0
  exact ⟨rfl, HF.out⟩
set_option maxHeartbeats 400000 in
theorem text_all (base g : Nat) (a : Option Addr) (c : Nat) (st : Option (List Int)) (s : ByteArray) (w : World) (h : Ws H w base g a c st) 
    (hx : s.size ≤ 140737488355328) (hlen : stLen st + 10 + s.size ≤ 140737488355328) (hbase : base ≤ w.heap.size) :
    Calls Try.prog 32 #[.pointer (some ⟨g, H.o, none⟩), .string s] w (Puts H w base g a (putBytes st (numsOf s))) := by
  have HW : Hid (Ws H w base g a c st) := h
  obtain ⟨c1, w1, hcv, hb1, hk1⟩ := run_bytes w s
  have HB1 : Hid (Bytes w1 (some ⟨w.heap.size, 0, none⟩) (numsOf s)) := hb1
  have HK1 : Hid (Kept No w w1) := hk1
  clear h hb1 hk1
  go_enter Try.func32, Try.ntmps32
  go_wp2_with fail
  refine (bytes_all base g a c st _ _ _ (numsOf s) w1 (HW.out.no HK1.out) (numsOf_len s) HB1.out (fun e => by cases e) (fun k hk hk2 => by have := HW.out.lt hk2; obtain ⟨ad, e, rfl⟩ := hk; cases e; simp at this) hx hlen (by have := HK1.out.size; omega)).mono ?_
  rintro e w2 ⟨rfl, a2, c2, hw2, hk2, hm2⟩
  have HF : Hid (∃ a' c', Ws H w2 base g a' c' (putBytes st (numsOf s)) ∧ Kept (WrAt g a) w w2 ∧ Moved w a a') :=
    ⟨a2, c2, hw2, HK1.out.of_no.then hk2, (Moved.refl w a).trans hm2 HK1.out.size⟩
  clear hw2 hk2 hm2
  go_wp2
  go_end0
  exact ⟨rfl, HF.out⟩
set_option maxHeartbeats 400000 in
theorem Done_all (base g : Nat) (a : Option Addr) (c : Nat) (st : Option (List Int)) (w : World) (h : Ws H w base g a c st) (hlen : stLen st ≤ 140737488355328) :
    Calls Try.prog 16 #[.pointer (some ⟨g, H.o, none⟩)] w fun e w' => ∃ a' n' c', e = .returned (.tuple #[.slice a' n' c', .int .i64 (doneOf st).2]) ∧ n' = (doneOf st).1.length ∧ OwnS w' w.heap.size a' c' (doneOf st).1 ∧ Kept No w w' := by
  cases st with
  | none =>
    have c1 : w.cell? ⟨g, H.o + 1, none⟩ = some (.bool true) := by rw [cell_of_row w g (H.o + 1) _ 38 (0, 0) h.1.cell]; exact H.at1 _ _
    clear h
    go_enter Try.func16, Try.ntmps16
    go_wp2
    go_ret2
    exact ⟨none, 0, 0, rfl, rfl, OwnS.nil _ _, Kept.refl _ _⟩
  | some zs =>
    have HW : Hid (Wr H w base g a c zs false) := h
    have c0 : w.cell? ⟨g, H.o, none⟩ = some (.slice a zs.length c) := by rw [cell_of_row w g H.o _ 38 (0, 0) HW.out.cell]; exact H.at0 _ _
    have c1 : w.cell? ⟨g, H.o + 1, none⟩ = some (.bool false) := by rw [cell_of_row w g (H.o + 1) _ 38 (0, 0) HW.out.cell]; exact H.at1 _ _
    clear h
    go_enter Try.func16, Try.ntmps16
    go_wp2_with fail
    refine (clone_any a zs.length c zs w rfl HW.out.own.bytes (fun e => ⟨HW.out.own.nil0 e, HW.out.own.nilcap e⟩) hlen).mono ?_
    rintro e w2 ⟨a2, c2, rfl, hO, hK, -⟩
    have HO : Hid (OwnS w2 w.heap.size a2 c2 zs) := hO
    have HK : Hid (Kept No w w2) := hK
    clear hO hK
    go_wp2
    go_ret2
    exact ⟨a2, zs.length, c2, rfl, rfl, HO.out, HK.out⟩
theorem put_end {w w1 w2 w3 : World} {base g : Nat} {a a2 : Option Addr} {c c2 : Nat} {st ST : Option (List Int)} (hw : Ws H w base g a c st) (h1 : Kept No w w1) (hs : w.heap.size + 1 < w1.heap.size)
    (hw2 : Ws H w2 base g a2 c2 ST) (hk2 : Kept (WrAt g a) w1 w2) (hm2 : Moved w1 a a2) (hk3 : Kept (Only (w.heap.size + 1)) w2 w3) : ∃ a' c', Ws H w3 base g a' c' ST ∧ Kept (WrAt g a) w w3 ∧ Moved w a a' := by
  refine ⟨a2, c2, hw2.kept hk3 (fun k hk e => ?_), ?_, (Moved.refl w a).trans hm2 h1.size⟩
  · have e' : k = w.heap.size + 1 := e
    rcases hk with rfl | hk
    · have := hw.lt (.inl rfl : WrAt k a k); omega
    · rcases hm2 k hk with h | h
      · have := hw.lt (.inr h : WrAt g a k); omega
      · omega
  · refine (h1.of_no.then hk2).trans hk3 (fun _ e => e) (fun i hi e => ?_)
    have e' : i = w.heap.size + 1 := e
    omega
set_option maxHeartbeats 1000000 in
theorem put_1 (base g : Nat) (a : Option Addr) (c : Nat) (st : Option (List Int)) (k n : Int) (xa : Option Addr) (xm xc : Nat) (zs : List Int) (w : World) (hw : Ws H w base g a c st) (hs : Sl w xa xm xc zs) (h0 : -9223372036854775808 ≤ n) (h1 : n ≤ 9223372036854775807)
    (hd : 0 < zs.length → ∀ k, At xa k → ¬ WrAt g a k) (hkk : k = 1) (hlen : stLen st + 10 + xm ≤ 140737488355328) (hbase : base ≤ w.heap.size) :
    Calls Try.prog 15 #[.pointer (some ⟨g, H.o, none⟩), .agg #[.int .i64 k, .int .i64 n, .slice xa xm xc]] w fun e w' => e = .returned (.bool true) ∧ ∃ a' c', Ws H w' base g a' c' (putNum st n) ∧ Kept (WrAt g a) w w' ∧ Moved w a a' := by
  have HW : Hid (Ws H w base g a c st) := hw
  have HS : Hid (Sl w xa xm xc zs) := hs
  have HD : Hid (0 < zs.length → ∀ k, At xa k → ¬ WrAt g a k) := hd
  have hbd := hs.bd
  clear hw hs hd
  obtain ⟨ST, hST⟩ : ∃ ST, ST = putNum st n := ⟨_, rfl⟩
  rw [← hST]
  have HP : Hid (putNum st n = ST) := hST.symm
  have HA : Hid (Kept No w (w.alloc (.cells #[.int .i64 k, .int .i64 n, .slice xa xm xc] 42))) := (Kept.refl _ _).alloc _
  have HC0 : Hid ((w.alloc (.cells #[.int .i64 k, .int .i64 n, .slice xa xm xc] 42)).cell? ⟨w.heap.size, 0, none⟩ = some (.int .i64 k)) := by simp [Hid]
  have HC1 : Hid ((w.alloc (.cells #[.int .i64 k, .int .i64 n, .slice xa xm xc] 42)).cell? ⟨w.heap.size, 1, none⟩ = some (.int .i64 n)) := by simp [Hid]
  have HC2 : Hid ((w.alloc (.cells #[.int .i64 k, .int .i64 n, .slice xa xm xc] 42)).cell? ⟨w.heap.size, 2, none⟩ = some (.slice xa xm xc)) := by simp [Hid]
  have q1 : (k == 1) = true := by rw [hkk]; rfl
  clear hST hkk
  go_enter Try.func15, Try.ntmps15
  go_wp2_with fail
  refine (lendN_any _ _ _ zs _ HS.out.len (by omega) (HS.out.no HA.out).bytes).mono ?_
  rintro e w1 ⟨rfl, hB1, hK1⟩
  rw [World.heap_size_alloc1] at hB1
  have HB1 : Hid (Blk w1 (w.heap.size + 1) (lent zs 5)) := hB1
  have HK1 : Hid (Kept No w w1) := HA.out.then hK1
  have cK : w1.cell? ⟨w.heap.size, 0, none⟩ = some (.int .i64 k) := hK1.cell HC0.out (fun e => e)
  have cN : w1.cell? ⟨w.heap.size, 1, none⟩ = some (.int .i64 n) := hK1.cell HC1.out (fun e => e)
  have cB : w1.cell? ⟨w.heap.size, 2, none⟩ = some (.slice xa xm xc) := hK1.cell HC2.out (fun e => e)
  have hsz1 : w.heap.size + 1 < w1.heap.size := hB1.lt
  have HW1 : Hid (Ws H w1 base g a c st) := HW.out.no HK1.out
  clear hB1 hK1
  go_wp2_with fail
  refine (num_all base g a c st n w1 HW1.out h1 (by omega) (by have := HK1.out.size; omega)).mono ?_
  rw [HP.out]
  rintro e w2 ⟨rfl, a2, c2, hw2, hk2, hm2⟩
  have HW2 : Hid (Ws H w2 base g a2 c2 ST) := hw2
  have HK2 : Hid (Kept (WrAt g a) w1 w2) := hk2
  have HM2 : Hid (Moved w1 a a2) := hm2
  have cB2 : w2.cell? ⟨w.heap.size, 2, none⟩ = some (.slice xa xm xc) := hk2.cell cB (fun e => by have := HW.out.lt e; simp at this)
  have HB2 : Hid (Blk w2 (w.heap.size + 1) (lent zs 5)) := HB1.out.kept hk2 (fun e => by have h1 := HW.out.lt e; omega)
  have HY2 : Hid (Bytes w2 xa zs) := (HS.out.no HK1.out).bytes.kept2 hk2 HD.out
  clear hw2 hk2 hm2 cK cN cB HB1 HW1
  go_wp2_with fail
  refine (backN_any _ _ _ _ _ zs _ HS.out.len rfl (by omega) HB2.out HY2.out).mono ?_
  rintro e w3 ⟨rfl, hk3⟩
  have HF : Hid (∃ a' c', Ws H w3 base g a' c' ST ∧ Kept (WrAt g a) w w3 ∧ Moved w a a') := put_end HW.out HK1.out hsz1 HW2.out HK2.out HM2.out hk3
  clear hk3
  go_wp2
  go_ret
  exact ⟨rfl, HF.out⟩
set_option maxHeartbeats 1000000 in
theorem put_2 (base g : Nat) (a : Option Addr) (c : Nat) (st : Option (List Int)) (k n : Int) (xa : Option Addr) (xm xc : Nat) (zs : List Int) (w : World) (hw : Ws H w base g a c st) (hs : Sl w xa xm xc zs) (h0 : -9223372036854775808 ≤ n) (h1 : n ≤ 9223372036854775807)
    (hd : 0 < zs.length → ∀ k, At xa k → ¬ WrAt g a k) (hkk : k = 2) (hlen : stLen st + 10 + xm ≤ 140737488355328) (hbase : base ≤ w.heap.size) :
    Calls Try.prog 15 #[.pointer (some ⟨g, H.o, none⟩), .agg #[.int .i64 k, .int .i64 n, .slice xa xm xc]] w fun e w' => e = .returned (.bool true) ∧ ∃ a' c', Ws H w' base g a' c' (st.map (· ++ vint (zz n))) ∧ Kept (WrAt g a) w w' ∧ Moved w a a' := by
  have HW : Hid (Ws H w base g a c st) := hw
  have HS : Hid (Sl w xa xm xc zs) := hs
  have HD : Hid (0 < zs.length → ∀ k, At xa k → ¬ WrAt g a k) := hd
  have hbd := hs.bd
  clear hw hs hd
  obtain ⟨ST, hST⟩ : ∃ ST, ST = st.map (· ++ vint (zz n)) := ⟨_, rfl⟩
  rw [← hST]
  have HP : Hid (st.map (· ++ vint (zz n)) = ST) := hST.symm
  have HA : Hid (Kept No w (w.alloc (.cells #[.int .i64 k, .int .i64 n, .slice xa xm xc] 42))) := (Kept.refl _ _).alloc _
  have HC0 : Hid ((w.alloc (.cells #[.int .i64 k, .int .i64 n, .slice xa xm xc] 42)).cell? ⟨w.heap.size, 0, none⟩ = some (.int .i64 k)) := by simp [Hid]
  have HC1 : Hid ((w.alloc (.cells #[.int .i64 k, .int .i64 n, .slice xa xm xc] 42)).cell? ⟨w.heap.size, 1, none⟩ = some (.int .i64 n)) := by simp [Hid]
  have HC2 : Hid ((w.alloc (.cells #[.int .i64 k, .int .i64 n, .slice xa xm xc] 42)).cell? ⟨w.heap.size, 2, none⟩ = some (.slice xa xm xc)) := by simp [Hid]
  have q1 : (k == 1) = false := by rw [hkk]; rfl
  have q2 : (k == 2) = true := by rw [hkk]; rfl
  clear hST hkk
  go_enter Try.func15, Try.ntmps15
  go_wp2_with fail
  refine (lendN_any _ _ _ zs _ HS.out.len (by omega) (HS.out.no HA.out).bytes).mono ?_
  rintro e w1 ⟨rfl, hB1, hK1⟩
  rw [World.heap_size_alloc1] at hB1
  have HB1 : Hid (Blk w1 (w.heap.size + 1) (lent zs 5)) := hB1
  have HK1 : Hid (Kept No w w1) := HA.out.then hK1
  have cK : w1.cell? ⟨w.heap.size, 0, none⟩ = some (.int .i64 k) := hK1.cell HC0.out (fun e => e)
  have cN : w1.cell? ⟨w.heap.size, 1, none⟩ = some (.int .i64 n) := hK1.cell HC1.out (fun e => e)
  have cB : w1.cell? ⟨w.heap.size, 2, none⟩ = some (.slice xa xm xc) := hK1.cell HC2.out (fun e => e)
  have hsz1 : w.heap.size + 1 < w1.heap.size := hB1.lt
  have HW1 : Hid (Ws H w1 base g a c st) := HW.out.no HK1.out
  clear hB1 hK1
  go_wp2_with fail
  refine (int_all base g a c st n w1 HW1.out h0 h1 (by omega) (by have := HK1.out.size; omega)).mono ?_
  rw [HP.out]
  rintro e w2 ⟨rfl, a2, c2, hw2, hk2, hm2⟩
  have HW2 : Hid (Ws H w2 base g a2 c2 ST) := hw2
  have HK2 : Hid (Kept (WrAt g a) w1 w2) := hk2
  have HM2 : Hid (Moved w1 a a2) := hm2
  have cB2 : w2.cell? ⟨w.heap.size, 2, none⟩ = some (.slice xa xm xc) := hk2.cell cB (fun e => by have := HW.out.lt e; simp at this)
  have HB2 : Hid (Blk w2 (w.heap.size + 1) (lent zs 5)) := HB1.out.kept hk2 (fun e => by have h1 := HW.out.lt e; omega)
  have HY2 : Hid (Bytes w2 xa zs) := (HS.out.no HK1.out).bytes.kept2 hk2 HD.out
  clear hw2 hk2 hm2 cK cN cB HB1 HW1
  go_wp2_with fail
  refine (backN_any _ _ _ _ _ zs _ HS.out.len rfl (by omega) HB2.out HY2.out).mono ?_
  rintro e w3 ⟨rfl, hk3⟩
  have HF : Hid (∃ a' c', Ws H w3 base g a' c' ST ∧ Kept (WrAt g a) w w3 ∧ Moved w a a') := put_end HW.out HK1.out hsz1 HW2.out HK2.out HM2.out hk3
  clear hk3
  go_wp2
  go_ret
  exact ⟨rfl, HF.out⟩
set_option maxHeartbeats 1000000 in
theorem put_3 (base g : Nat) (a : Option Addr) (c : Nat) (st : Option (List Int)) (k n : Int) (xa : Option Addr) (xm xc : Nat) (zs : List Int) (w : World) (hw : Ws H w base g a c st) (hs : Sl w xa xm xc zs) (h0 : -9223372036854775808 ≤ n) (h1 : n ≤ 9223372036854775807)
    (hd : 0 < zs.length → ∀ k, At xa k → ¬ WrAt g a k) (hkk : k = 3) (hlen : stLen st + 10 + xm ≤ 140737488355328) (hbase : base ≤ w.heap.size) :
    Calls Try.prog 15 #[.pointer (some ⟨g, H.o, none⟩), .agg #[.int .i64 k, .int .i64 n, .slice xa xm xc]] w fun e w' => e = .returned (.bool true) ∧ ∃ a' c', Ws H w' base g a' c' (putBytes st zs) ∧ Kept (WrAt g a) w w' ∧ Moved w a a' := by
  have HW : Hid (Ws H w base g a c st) := hw
  have HS : Hid (Sl w xa xm xc zs) := hs
  have HD : Hid (0 < zs.length → ∀ k, At xa k → ¬ WrAt g a k) := hd
  have hbd := hs.bd
  clear hw hs hd
  obtain ⟨ST, hST⟩ : ∃ ST, ST = putBytes st zs := ⟨_, rfl⟩
  rw [← hST]
  have HP : Hid (putBytes st zs = ST) := hST.symm
  have HA : Hid (Kept No w (w.alloc (.cells #[.int .i64 k, .int .i64 n, .slice xa xm xc] 42))) := (Kept.refl _ _).alloc _
  have HC0 : Hid ((w.alloc (.cells #[.int .i64 k, .int .i64 n, .slice xa xm xc] 42)).cell? ⟨w.heap.size, 0, none⟩ = some (.int .i64 k)) := by simp [Hid]
  have HC1 : Hid ((w.alloc (.cells #[.int .i64 k, .int .i64 n, .slice xa xm xc] 42)).cell? ⟨w.heap.size, 1, none⟩ = some (.int .i64 n)) := by simp [Hid]
  have HC2 : Hid ((w.alloc (.cells #[.int .i64 k, .int .i64 n, .slice xa xm xc] 42)).cell? ⟨w.heap.size, 2, none⟩ = some (.slice xa xm xc)) := by simp [Hid]
  have q1 : (k == 1) = false := by rw [hkk]; rfl
  have q2 : (k == 2) = false := by rw [hkk]; rfl
  have q3 : (k == 3) = true := by rw [hkk]; rfl
  clear hST hkk
  go_enter Try.func15, Try.ntmps15
  go_wp2_with fail
  refine (lendN_any _ _ _ zs _ HS.out.len (by omega) (HS.out.no HA.out).bytes).mono ?_
  rintro e w1 ⟨rfl, hB1, hK1⟩
  rw [World.heap_size_alloc1] at hB1
  have HB1 : Hid (Blk w1 (w.heap.size + 1) (lent zs 5)) := hB1
  have HK1 : Hid (Kept No w w1) := HA.out.then hK1
  have cK : w1.cell? ⟨w.heap.size, 0, none⟩ = some (.int .i64 k) := hK1.cell HC0.out (fun e => e)
  have cN : w1.cell? ⟨w.heap.size, 1, none⟩ = some (.int .i64 n) := hK1.cell HC1.out (fun e => e)
  have cB : w1.cell? ⟨w.heap.size, 2, none⟩ = some (.slice xa xm xc) := hK1.cell HC2.out (fun e => e)
  have hsz1 : w.heap.size + 1 < w1.heap.size := hB1.lt
  have HW1 : Hid (Ws H w1 base g a c st) := HW.out.no HK1.out
  clear hB1 hK1
  go_wp2_with fail
  refine (bytes_all base g a c st _ _ _ zs w1 HW1.out HS.out.len (lent_sl HB1.out HS.out.len HS.out.u8 hbd).bytes (fun e => by cases e) (fun i hi e => by have h1 := HW.out.lt e; have := at_some hi; omega) (by omega) (by omega) (by have := HK1.out.size; omega)).mono ?_
  rw [HP.out]
  rintro e w2 ⟨rfl, a2, c2, hw2, hk2, hm2⟩
  have HW2 : Hid (Ws H w2 base g a2 c2 ST) := hw2
  have HK2 : Hid (Kept (WrAt g a) w1 w2) := hk2
  have HM2 : Hid (Moved w1 a a2) := hm2
  have cB2 : w2.cell? ⟨w.heap.size, 2, none⟩ = some (.slice xa xm xc) := hk2.cell cB (fun e => by have := HW.out.lt e; simp at this)
  have HB2 : Hid (Blk w2 (w.heap.size + 1) (lent zs 5)) := HB1.out.kept hk2 (fun e => by have h1 := HW.out.lt e; omega)
  have HY2 : Hid (Bytes w2 xa zs) := (HS.out.no HK1.out).bytes.kept2 hk2 HD.out
  clear hw2 hk2 hm2 cK cN cB HB1 HW1
  go_wp2_with fail
  refine (backN_any _ _ _ _ _ zs _ HS.out.len rfl (by omega) HB2.out HY2.out).mono ?_
  rintro e w3 ⟨rfl, hk3⟩
  have HF : Hid (∃ a' c', Ws H w3 base g a' c' ST ∧ Kept (WrAt g a) w w3 ∧ Moved w a a') := put_end HW.out HK1.out hsz1 HW2.out HK2.out HM2.out hk3
  clear hk3
  go_wp2
  go_ret
  exact ⟨rfl, HF.out⟩
set_option maxHeartbeats 1000000 in
theorem put_4 (base g : Nat) (a : Option Addr) (c : Nat) (st : Option (List Int)) (k n : Int) (xa : Option Addr) (xm xc : Nat) (zs : List Int) (w : World) (hw : Ws H w base g a c st) (hs : Sl w xa xm xc zs) (h0 : -9223372036854775808 ≤ n) (h1 : n ≤ 9223372036854775807)
    (hd : 0 < zs.length → ∀ k, At xa k → ¬ WrAt g a k) (hkk : k = 4) (hlen : stLen st + 10 + xm ≤ 140737488355328) (hbase : base ≤ w.heap.size) :
    Calls Try.prog 15 #[.pointer (some ⟨g, H.o, none⟩), .agg #[.int .i64 k, .int .i64 n, .slice xa xm xc]] w fun e w' => e = .returned (.bool true) ∧ ∃ a' c', Ws H w' base g a' c' (putBytes st zs) ∧ Kept (WrAt g a) w w' ∧ Moved w a a' := by
  have HW : Hid (Ws H w base g a c st) := hw
  have HS : Hid (Sl w xa xm xc zs) := hs
  have HD : Hid (0 < zs.length → ∀ k, At xa k → ¬ WrAt g a k) := hd
  have hbd := hs.bd
  clear hw hs hd
  obtain ⟨ST, hST⟩ : ∃ ST, ST = putBytes st zs := ⟨_, rfl⟩
  rw [← hST]
  have HP : Hid (putBytes st zs = ST) := hST.symm
  have HA : Hid (Kept No w (w.alloc (.cells #[.int .i64 k, .int .i64 n, .slice xa xm xc] 42))) := (Kept.refl _ _).alloc _
  have HC0 : Hid ((w.alloc (.cells #[.int .i64 k, .int .i64 n, .slice xa xm xc] 42)).cell? ⟨w.heap.size, 0, none⟩ = some (.int .i64 k)) := by simp [Hid]
  have HC1 : Hid ((w.alloc (.cells #[.int .i64 k, .int .i64 n, .slice xa xm xc] 42)).cell? ⟨w.heap.size, 1, none⟩ = some (.int .i64 n)) := by simp [Hid]
  have HC2 : Hid ((w.alloc (.cells #[.int .i64 k, .int .i64 n, .slice xa xm xc] 42)).cell? ⟨w.heap.size, 2, none⟩ = some (.slice xa xm xc)) := by simp [Hid]
  have q1 : (k == 1) = false := by rw [hkk]; rfl
  have q2 : (k == 2) = false := by rw [hkk]; rfl
  have q3 : (k == 3) = false := by rw [hkk]; rfl
  have q4 : (k == 4) = true := by rw [hkk]; rfl
  clear hST hkk
  go_enter Try.func15, Try.ntmps15
  go_wp2_with fail
  refine (lendN_any _ _ _ zs _ HS.out.len (by omega) (HS.out.no HA.out).bytes).mono ?_
  rintro e w1 ⟨rfl, hB1, hK1⟩
  rw [World.heap_size_alloc1] at hB1
  have HB1 : Hid (Blk w1 (w.heap.size + 1) (lent zs 5)) := hB1
  have HK1 : Hid (Kept No w w1) := HA.out.then hK1
  have cK : w1.cell? ⟨w.heap.size, 0, none⟩ = some (.int .i64 k) := hK1.cell HC0.out (fun e => e)
  have cN : w1.cell? ⟨w.heap.size, 1, none⟩ = some (.int .i64 n) := hK1.cell HC1.out (fun e => e)
  have cB : w1.cell? ⟨w.heap.size, 2, none⟩ = some (.slice xa xm xc) := hK1.cell HC2.out (fun e => e)
  have hsz1 : w.heap.size + 1 < w1.heap.size := hB1.lt
  have HW1 : Hid (Ws H w1 base g a c st) := HW.out.no HK1.out
  clear hB1 hK1
  have hcv := run_str (xc := xc) (HS.out.no HK1.out).bytes HS.out.u8 HS.out.len
  go_wp2_with fail
  refine (text_all base g a c st _ w1 HW1.out (by rw [strOf_size, HS.out.len]; omega) (by rw [strOf_size, HS.out.len]; omega) (by have := HK1.out.size; omega)).mono ?_
  rw [numsOf_strOf HS.out.u8, HP.out]
  rintro e w2 ⟨rfl, a2, c2, hw2, hk2, hm2⟩
  have HW2 : Hid (Ws H w2 base g a2 c2 ST) := hw2
  have HK2 : Hid (Kept (WrAt g a) w1 w2) := hk2
  have HM2 : Hid (Moved w1 a a2) := hm2
  have cB2 : w2.cell? ⟨w.heap.size, 2, none⟩ = some (.slice xa xm xc) := hk2.cell cB (fun e => by have := HW.out.lt e; simp at this)
  have HB2 : Hid (Blk w2 (w.heap.size + 1) (lent zs 5)) := HB1.out.kept hk2 (fun e => by have h1 := HW.out.lt e; omega)
  have HY2 : Hid (Bytes w2 xa zs) := (HS.out.no HK1.out).bytes.kept2 hk2 HD.out
  clear hw2 hk2 hm2 cK cN cB HB1 HW1
  go_wp2_with fail
  refine (backN_any _ _ _ _ _ zs _ HS.out.len rfl (by omega) HB2.out HY2.out).mono ?_
  rintro e w3 ⟨rfl, hk3⟩
  have HF : Hid (∃ a' c', Ws H w3 base g a' c' ST ∧ Kept (WrAt g a) w w3 ∧ Moved w a a') := put_end HW.out HK1.out hsz1 HW2.out HK2.out HM2.out hk3
  clear hk3
  go_wp2
  go_ret
  exact ⟨rfl, HF.out⟩
theorem put_any (base g : Nat) (a : Option Addr) (c : Nat) (st : Option (List Int)) (k n : Int) (xa : Option Addr) (xm xc : Nat) (zs : List Int) (w : World) (hw : Ws H w base g a c st) (hs : Sl w xa xm xc zs) (h0 : -9223372036854775808 ≤ n) (h1 : n ≤ 9223372036854775807)
    (hd : 0 < zs.length → ∀ k, At xa k → ¬ WrAt g a k) (hkk : 1 ≤ k ∧ k ≤ 4) (hlen : stLen st + 10 + xm ≤ 140737488355328) (hbase : base ≤ w.heap.size) :
    Calls Try.prog 15 #[.pointer (some ⟨g, H.o, none⟩), .agg #[.int .i64 k, .int .i64 n, .slice xa xm xc]] w fun e w' => e = .returned (.bool true) ∧ ∃ a' c', Ws H w' base g a' c' (putIt st ⟨k, n, xa, xm, xc, zs⟩) ∧ Kept (WrAt g a) w w' ∧ Moved w a a' := by
  have hc : k = 1 ∨ k = 2 ∨ k = 3 ∨ k = 4 := by omega
  rcases hc with rfl | rfl | rfl | rfl
  · exact put_1 base g a c st 1 n xa xm xc zs w hw hs h0 h1 hd rfl hlen hbase
  · exact put_2 base g a c st 2 n xa xm xc zs w hw hs h0 h1 hd rfl hlen hbase
  · exact put_3 base g a c st 3 n xa xm xc zs w hw hs h0 h1 hd rfl hlen hbase
  · exact put_4 base g a c st 4 n xa xm xc zs w hw hs h0 h1 hd rfl hlen hbase

end ap
end Go.Proofs.Ytnhjpghkmbgeaab
