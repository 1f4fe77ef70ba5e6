import Derived.Test.YtgnfeegnhdbnkaaD
namespace Go.Proofs.Ytgnfeegnhdbnkaa
open Go.RowKit
set_option linter.unusedVariables false
set_option linter.unusedSimpArgs false

/-- A line taken to pieces byte by byte. -/
structure St where
  inn : Nat
  word : List UInt8
  ws : List (List UInt8)
  dg : Int
  bad : Bool
def bi (c : UInt8) : Int := (c.toNat : Int)
theorem bi_lt (c : UInt8) : 0 ≤ bi c ∧ bi c ≤ 255 := by
  have := c.toNat_lt
  unfold bi; omega
theorem bi_inj {c d : UInt8} (h : bi c = bi d) : c = d := UInt8.toNat_inj.1 (by unfold bi at h; omega)
def endS (s : St) (k : Nat) : St := { s with ws := s.ws ++ [s.word], word := [], inn := k }
def escS (s : St) (c : UInt8) : St :=
  if bi c = 92 ∨ bi c = 34 then { s with inn := 2, word := s.word ++ [c] }
  else if bi c = 110 then { s with inn := 2, word := s.word ++ [10] }
  else if bi c = 116 then { s with inn := 2, word := s.word ++ [9] }
  else if bi c = 120 then { s with inn := 4 }
  else { s with inn := 2, bad := true }
def nextS (s : St) (c : UInt8) : St :=
  match s.inn with
  | 0 => if isB (bi c) = true then s else if bi c = 35 then { s with inn := 7 } else if bi c = 34 then { s with inn := 2 } else { s with inn := 1, word := s.word ++ [c] }
  | 1 => if isB (bi c) = true then endS s 0 else if bi c = 34 then { s with bad := true } else { s with word := s.word ++ [c] }
  | 2 => if bi c = 34 then endS s 6 else if bi c = 92 then { s with inn := 3 } else { s with word := s.word ++ [c] }
  | 3 => escS s c
  | 4 => { s with dg := hexI (bi c), inn := 5, bad := s.bad || decide (hexI (bi c) < 0) }
  | 5 => { s with inn := 2, bad := s.bad || decide (hexI (bi c) < 0), word := if (s.bad || decide (hexI (bi c) < 0)) = true then s.word else s.word ++ [UInt8.ofNat (16 * s.dg + hexI (bi c)).toNat] }
  | 6 => { s with inn := 0, bad := s.bad || !isB (bi c) }
  | _ => s
def runS : St → List UInt8 → St
  | s, [] => s
  | s, c :: l => if s.bad = true then s else runS (nextS s c) l
def s0 : St := ⟨0, [], [], 0, false⟩
def wordsOf (l : List UInt8) : Option (List (List UInt8)) :=
  if (runS s0 l).bad = true ∨ (2 ≤ (runS s0 l).inn ∧ (runS s0 l).inn ≤ 5) then none
  else some (if (runS s0 l).inn = 1 then (runS s0 l).ws ++ [(runS s0 l).word] else (runS s0 l).ws)

theorem runS_bad {s : St} (h : s.bad = true) : ∀ l, runS s l = s
  | [] => rfl
  | c :: l => by simp [runS, h]
theorem runS_app : ∀ (l m : List UInt8) (s : St), runS s (l ++ m) = runS (runS s l) m
  | [], m, s => rfl
  | c :: l, m, s => by
    by_cases h : s.bad = true
    · rw [runS_bad h, runS_bad h, runS_bad h]
    · simp only [List.cons_append, runS, h, if_false]
      exact runS_app l m _
theorem runS_rem (l : List UInt8) : ∀ s : St, s.inn = 7 → runS s l = s := by
  induction l with
  | nil => intro s _; rfl
  | cons c l ih =>
    intro s h
    simp only [runS]
    split
    · rfl
    · have : nextS s c = s := by
        cases s; simp only at h; subst h; rfl
      rw [this]; exact ih s h

/-- The program's cutter. -/
structure Cs where
  pl : Nat
  fr : Nat
  ws : List (List UInt8)
  bt : List UInt8
def cutL (l : List UInt8) (i j : Nat) : List UInt8 := (l.drop i).take (j - i)
def setLast (l : List UInt8) (x : UInt8) : List UInt8 := l.set (l.length - 1) x
def digS (s : Cs) (i : Nat) (r : Int) : Cs :=
  match hexD r with
  | none => { s with pl := 7 }
  | some h => if s.pl = 4 then { s with pl := 5, bt := setLast s.bt (UInt8.ofNat (16 * h).toNat) }
    else { s with pl := 2, fr := i + 1, bt := setLast s.bt (UInt8.ofNat (((s.bt.getLastD 0).toNat : Int) + h).toNat) }
def eseS (s : Cs) (i : Nat) (r : Int) : Cs :=
  if r = 34 ∨ r = 92 then { s with pl := 2, fr := i + 1, bt := s.bt ++ [UInt8.ofNat r.toNat] }
  else if r = 110 then { s with pl := 2, fr := i + 1, bt := s.bt ++ [10] }
  else if r = 116 then { s with pl := 2, fr := i + 1, bt := s.bt ++ [9] }
  else if r = 120 then { s with pl := 4, fr := i + 1, bt := s.bt ++ [0] }
  else { s with pl := 7, fr := i + 1 }
def begS (s : Cs) (i : Nat) (r : Int) : Cs := if r = 34 then { s with pl := 2, fr := i + 1, bt := [] } else if isB r = true then s else { s with pl := 1, fr := i }
def plaS (l : List UInt8) (s : Cs) (i : Nat) (r : Int) : Cs := if r = 34 then { s with pl := 7 } else if isB r = true then { s with pl := 0, ws := s.ws ++ [cutL l s.fr i] } else s
def quoS (l : List UInt8) (s : Cs) (i : Nat) (r : Int) : Cs :=
  if r = 92 then { s with pl := 3, bt := s.bt ++ cutL l s.fr i } else if r = 34 then { s with pl := 6, bt := s.bt ++ cutL l s.fr i, ws := s.ws ++ [s.bt ++ cutL l s.fr i] } else s
def behS (s : Cs) (r : Int) : Cs := if isB r = true then { s with pl := 0 } else { s with pl := 7 }
def stepC (l : List UInt8) (s : Cs) (i : Nat) (r : Int) : Cs :=
  match s.pl with
  | 0 => begS s i r
  | 1 => plaS l s i r
  | 2 => quoS l s i r
  | 3 => eseS s i r
  | 4 => digS s i r
  | 5 => digS s i r
  | 6 => behS s r
  | _ => s

/-- The cutter ahead of the i-th byte stands as the line's bytes so far have it. -/
def Rl (l : List UInt8) (i : Nat) (s : Cs) (t : St) : Prop :=
  match s.pl with
  | 0 => t.inn = 0 ∧ t.word = [] ∧ t.ws = s.ws ∧ t.bad = false
  | 1 => t.inn = 1 ∧ s.fr ≤ i ∧ t.word = cutL l s.fr i ∧ t.ws = s.ws ∧ t.bad = false
  | 2 => t.inn = 2 ∧ s.fr ≤ i ∧ t.word = s.bt ++ cutL l s.fr i ∧ t.ws = s.ws ∧ t.bad = false
  | 3 => t.inn = 3 ∧ t.word = s.bt ∧ t.ws = s.ws ∧ t.bad = false
  | 4 => t.inn = 4 ∧ s.bt = t.word ++ [0] ∧ t.ws = s.ws ∧ t.bad = false
  | 5 => t.inn = 5 ∧ 0 ≤ t.dg ∧ t.dg ≤ 15 ∧ s.bt = t.word ++ [UInt8.ofNat (16 * t.dg).toNat] ∧ t.ws = s.ws ∧ t.bad = false
  | 6 => t.inn = 6 ∧ t.word = [] ∧ t.ws = s.ws ∧ t.bad = false
  | 7 => t.bad = true
  | _ => False
theorem cutL_self (l : List UInt8) (i : Nat) : cutL l i i = [] := by simp [cutL]
theorem cutL_snoc {l : List UInt8} {f i : Nat} {c : UInt8} (hf : f ≤ i) (hc : l[i]? = some c) : cutL l f (i + 1) = cutL l f i ++ [c] := by
  obtain ⟨hi, rfl⟩ := List.getElem?_eq_some_iff.1 hc
  unfold cutL
  rw [show i + 1 - f = (i - f) + 1 by omega, List.take_add_one, List.getElem?_drop, show f + (i - f) = i by omega, hc]
  rfl
theorem hexD_le {r h : Int} (e : hexD r = some h) : 0 ≤ h ∧ h ≤ 15 := by
  unfold hexD at e
  split at e
  · cases e; omega
  · split at e
    · cases e; omega
    · cases e
theorem hexD_lt {r h : Int} (e : hexD r = some h) : r < 128 := by
  unfold hexD at e
  split at e
  · omega
  · split at e
    · omega
    · cases e
theorem setLast_snoc (l : List UInt8) (x y : UInt8) : setLast (l ++ [x]) y = l ++ [y] := by
  simp [setLast]
end Go.Proofs.Ytgnfeegnhdbnkaa
