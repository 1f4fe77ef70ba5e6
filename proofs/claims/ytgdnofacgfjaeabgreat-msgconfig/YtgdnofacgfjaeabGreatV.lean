import Derived.Test.YtgdnofacgfjaeabGreatAg
import Derived.Test.YtgdnofacgfjaeabGreatG
namespace Go.Proofs.YtgdnofacgfjaeabGreat
open Go.RowKit
set_option linter.unusedVariables false

/-- A varint's bytes. -/
def vint (u : Nat) : List Int := if u < 128 then [(u : Int)] else ((u % 128 + 128 : Nat) : Int) :: vint (u / 128)
termination_by u
decreasing_by omega

theorem vint_lo {u : Nat} (h : u < 128) : vint u = [(u : Int)] := by rw [vint, if_pos h]
theorem vint_hi {u : Nat} (h : ¬ u < 128) : vint u = ((u % 128 + 128 : Nat) : Int) :: vint (u / 128) := by rw [vint, if_neg h]
theorem vint_u8 (u : Nat) : U8 (vint u) := by
  induction u using Nat.strongRecOn with
  | _ u ih =>
    by_cases h : u < 128
    · rw [vint_lo h]; exact U8.cons (by omega) U8.nil
    · rw [vint_hi h]; exact U8.cons (by omega) (ih _ (by omega))
theorem vint_len (u : Nat) (n : Nat) (h : u < 128 ^ (n + 1)) : (vint u).length ≤ n + 1 := by
  induction n generalizing u with
  | zero => rw [vint_lo (by omega)]; simp
  | succ n ih =>
    by_cases h1 : u < 128
    · rw [vint_lo h1]; simp
    · rw [vint_hi h1]
      have := ih (u / 128) (by rw [Nat.pow_succ] at h; omega)
      simp; omega
theorem vint_len10 (u : Nat) (h : u < 18446744073709551616) : (vint u).length ≤ 10 := vint_len u 9 (by omega)

/-- A number of 64 bits. -/
def W64 (u : Nat) : Prop := u < 18446744073709551616
theorem W64.div {u : Nat} (h : W64 u) (n : Nat) : W64 (u / n) := Nat.lt_of_le_of_lt (Nat.div_le_self u n) h

/-- A Writer at block g: what it has put lies at a (c: its room). -/
structure Wr (w : World) (base g : Nat) (a : Option Addr) (c : Nat) (zs : List Int) (bad : Bool) : Prop where
  cell : w.heap[g]? = some (.cells #[.slice a zs.length c, .bool bad] 128 (0, 0))
  own : OwnS w base a c zs
  bg : base ≤ g

/-- Blocks of two types are two. -/
theorem OwnS.ne {w : World} {base : Nat} {a : Option Addr} {c : Nat} {zs : List Int} (h : OwnS w base a c zs) {g : Nat} {cs : Array Value} {t : TypeId} {fr : Nat × Nat} (hg : w.heap[g]? = some (.cells cs t fr)) (ht : t ≠ 5) : ¬ At a g := by
  rintro ⟨ad, rfl, rfl⟩
  rcases h.cases with ⟨e, _⟩ | ⟨g', e, _, _, ⟨sp, hc, _⟩, _⟩
  · cases e
  · cases e
    rw [hc] at hg
    cases hg
    exact ht rfl

theorem OwnS.lt {w : World} {base : Nat} {a : Option Addr} {c : Nat} {zs : List Int} (h : OwnS w base a c zs) {k : Nat} (hk : At a k) : k < w.heap.size := by
  obtain ⟨ad, rfl, rfl⟩ := hk
  rcases h.cases with ⟨e, _⟩ | ⟨g', e, _, hl, _⟩
  · cases e
  · cases e; exact hl

/-- What a call on a Writer may turn. -/
def WrAt (g : Nat) (a : Option Addr) : Nat → Prop := fun k => k = g ∨ At a k

/-- Where a row lies that was at a: there still, or new. -/
def Moved (w : World) (a a' : Option Addr) : Prop := ∀ k, At a' k → At a k ∨ w.heap.size ≤ k

theorem Moved.refl (w : World) (a : Option Addr) : Moved w a a := fun _ h => .inl h
theorem Moved.trans {w w1 : World} {a b c : Option Addr} (h : Moved w a b) (k : Moved w1 b c) (hs : w.heap.size ≤ w1.heap.size) : Moved w a c := fun i hi => by
  rcases k i hi with h1 | h1
  · exact h i h1
  · exact .inr (by omega)

theorem Wr.kept {S : Nat → Prop} {w w' : World} {base g : Nat} {a : Option Addr} {c : Nat} {zs : List Int} {bad : Bool} (h : Wr w base g a c zs bad) (hk : Kept S w w') (hg : ¬ S g) (hS : ∀ k, At a k → ¬ S k) : Wr w' base g a c zs bad :=
  ⟨(hk.block g (Array.getElem?_eq_some_iff.1 h.cell).1 hg).trans h.cell, h.own.kept hk hS, h.bg⟩
theorem Wr.no {w w' : World} {base g : Nat} {a : Option Addr} {c : Nat} {zs : List Int} {bad : Bool} (h : Wr w base g a c zs bad) (hk : Kept No w w') : Wr w' base g a c zs bad := h.kept hk (fun e => e) (fun _ _ e => e)

theorem Wr.lt {w : World} {base g : Nat} {a : Option Addr} {c : Nat} {zs : List Int} {bad : Bool} (h : Wr w base g a c zs bad) {k : Nat} (hk : WrAt g a k) : k < w.heap.size := by
  rcases hk with rfl | hk
  · exact (Array.getElem?_eq_some_iff.1 h.cell).1
  · exact h.own.lt hk
theorem Wr.base {w : World} {base g : Nat} {a : Option Addr} {c : Nat} {zs : List Int} {bad : Bool} (h : Wr w base g a c zs bad) {k : Nat} (hk : WrAt g a k) : base ≤ k := by
  rcases hk with rfl | hk
  · exact h.bg
  · exact h.own.base hk

/-- Frames one behind the other. -/
theorem Kept.moved {w w1 w2 : World} {g : Nat} {a a1 : Option Addr} (h : Kept (WrAt g a) w w1) (k : Kept (WrAt g a1) w1 w2) (hm : Moved w a a1) : Kept (WrAt g a) w w2 :=
  h.trans k (fun _ e => e) (fun i hi e => by
    rcases e with rfl | e
    · exact .inl rfl
    · rcases hm i e with h1 | h1
      · exact .inr h1
      · omega)

theorem join_end {base g : Nat} {a : Option Addr} {c : Nat} {zs ys : List Int} {w w1 : World} {a' : Option Addr} {c' n : Nat} {bad : Bool} (hw : Wr w base g a c zs bad) (hn : (zs ++ ys).length = n) (HO : OwnS w1 base a' c' (zs ++ ys)) (HK : Kept (At a) w w1)
    (HM : (a' = a ∧ c' = c) ∨ ∀ k, At a' k → w.heap.size ≤ k) (HG1 : w1.heap[g]? = some (.cells #[.slice a zs.length c, .bool bad] 128 (0, 0))) :
    ∃ a'' c'', Wr (w1.setCell ⟨g, 0, none⟩ (.slice a' n c')) base g a'' c'' (zs ++ ys) bad ∧ Kept (WrAt g a) w (w1.setCell ⟨g, 0, none⟩ (.slice a' n c')) ∧ Moved w a a'' := by
  subst hn
  refine ⟨a', c', ⟨?_, ?_, hw.bg⟩, ?_, ?_⟩
  · rw [heap_setCell_same w1 g 0 _ 128 _ HG1]; rfl
  · exact HO.kept ((Kept.refl (Only g) w1).setCell (p := ⟨g, 0, none⟩) (fun _ => (rfl : g = g)) _) (fun k hk e => by have e' : k = g := e; subst e'; exact HO.ne HG1 (by decide) hk)
  · exact (HK.mono (fun i _ e => .inr e)).setCell (p := ⟨g, 0, none⟩) (fun _ => .inl rfl) _
  · rcases HM with ⟨rfl, _⟩ | h
    · exact Moved.refl _ _
    · exact fun k hk => .inr (h k hk)

set_option maxRecDepth 1000000 in
set_option maxHeartbeats 400000 in
theorem join_any (base g : Nat) (a : Option Addr) (c : Nat) (zs : List Int) (xa : Option Addr) (xn xc : Nat) (ys : List Int) (w : World)
    (hw : Wr w base g a c zs false) (hxn : ys.length = xn) (hy : Bytes w xa ys) (hxc : xa = none → xc = 0) (hlen : zs.length + xn ≤ 140737488355328) (hbase : base ≤ w.heap.size) :
    Calls Tryz.prog 127 #[.pointer (some ⟨g, 0, none⟩), .slice xa xn xc] w fun e w' => e = .returned (.tuple #[]) ∧ ∃ a' c', Wr w' base g a' c' (zs ++ ys) false ∧ Kept (WrAt g a) w w' ∧ Moved w a a' := by
  have HW : Hid (Wr w base g a c zs false) := hw
  have HY : Hid (Bytes w xa ys) := hy
  have HC : Hid (xa = none → xc = 0) := hxc
  have HL : Hid (ys.length = xn) := hxn
  have c0 : w.cell? ⟨g, 0, none⟩ = some (.slice a zs.length c) := by rw [cell_of_row w g 0 _ 128 (0, 0) hw.cell]; rfl
  have c1 : w.cell? ⟨g, 1, none⟩ = some (.bool false) := by rw [cell_of_row w g 1 _ 128 (0, 0) hw.cell]; rfl
  clear hw hy hxc hxn
  go_enter Tryz.func127, Tryz.ntmps127
  go_wp2_with (at_builtin; go_must (refine wp_appB _ Tryz.underlying30 Tryz.info5 rfl _ _ rfl base _ _ _ zs rfl rfl HW.out.own _ _ _ ys rfl HL.out HY.out HC.out hlen hbase ?_; intro a' c' w1 HO HK HM; have HG1 : Hid (w1.heap[g]? = some (.cells #[.slice a zs.length c, .bool false] 128 (0, 0))) := ((HK.out.block g (Array.getElem?_eq_some_iff.1 HW.out.cell).1 (HW.out.own.ne HW.out.cell (by decide))).trans HW.out.cell); have hf1 := frozen_of_row w1 g 0 _ 128 HG1.out; have hc1 : w1.cell? ⟨g, 0, none⟩ = some (.slice a zs.length c) := (by rw [cell_of_row w1 g 0 _ 128 (0, 0) HG1.out]; rfl)))
  go_end0
  exact ⟨rfl, join_end HW.out (by have := HL.out; simp; omega) HO.out HK.out HM.out HG1.out⟩

theorem join_bad (base g : Nat) (a : Option Addr) (c : Nat) (zs : List Int) (x : Value) (w : World) (hw : Wr w base g a c zs true) :
    Calls Tryz.prog 127 #[.pointer (some ⟨g, 0, none⟩), x] w fun e w' => e = .returned (.tuple #[]) ∧ w' = w := by
  have c1 : w.cell? ⟨g, 1, none⟩ = some (.bool true) := by rw [cell_of_row w g 1 _ 128 (0, 0) hw.cell]; rfl
  clear hw
  go_enter Tryz.func127, Tryz.ntmps127
  go_wp2
  go_end0
  exact ⟨rfl, rfl⟩

theorem one_own (w : World) (z : Int) : OwnS (w.alloc (Obj.cells #[Value.int .u8 z] 5)) w.heap.size (some ⟨w.heap.size, 0, none⟩) 1 [z] :=
  World.ownsRow_lit w _ 1 (Nat.le_refl _) (by unfold maxLen; omega) rfl

end Go.Proofs.YtgdnofacgfjaeabGreat
