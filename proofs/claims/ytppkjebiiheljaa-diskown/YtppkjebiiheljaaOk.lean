import Derived.Test.YtppkjebiiheljaaFu
namespace Go.Proofs.Ytppkjebiiheljaa
open Go.RowKit
set_option linter.unusedVariables false
set_option linter.unusedSimpArgs false

/-- A disk as it may be. -/
structure Ok (x : DS) : Prop where
  fine : Fine x
  u8 : ∀ m, U8 (x.c m)
  rd0 : 0 ≤ x.rd
  wr0 : 0 ≤ x.wr
  rd1 : x.rd < 4611686018427387904
  wr1 : x.wr < 4611686018427387904
  pw : ∀ l t, x.pw = some (l, t) → (0 ≤ l ∧ l ≤ 9223372036854775807) ∧ 0 ≤ t ∧ t ≤ 512

def newD (N : Nat) : DS := ⟨N, fun _ => zs, none, false, 0, 0⟩
theorem Ok.new {N : Nat} (h1 : 1 ≤ N) (h2 : N ≤ 65536) : Ok (newD N) :=
  ⟨⟨h1, h2, fun _ => zs_len, fun _ _ => rfl⟩, fun _ => zs_u8, Int.le_refl _, Int.le_refl _, by show (0 : Int) < _; omega, by show (0 : Int) < _; omega, fun _ _ e => by cases e⟩

/-- What a Write answers, and what is there behind it. -/
def wrE (x : DS) (n : Int) (m : Nat) : Int := if refE x n ≠ 0 then refE x n else if m ≠ 512 then 32 else if holdsP x.pw then 0 else 5
def wrD (x : DS) (n : Int) (bs : List Int) : DS :=
  if refE x n ≠ 0 then x else if bs.length ≠ 512 then x
  else { x with c := updC x.c n.toNat (tornS (x.c n.toNat) bs (laidP x.pw).toNat), wr := x.wr + 1, pw := spentP x.pw, fl := !holdsP x.pw }
/-- What is there behind a Read. -/
def rdD (x : DS) (n : Int) : DS := if refE x n ≠ 0 then x else { x with rd := x.rd + 1 }

theorem refE_in {x : DS} {n : Int} (h : refE x n = 0) : x.fl = false ∧ 0 ≤ n ∧ n.toNat < x.N := by
  unfold refE at h
  split at h
  · cases h
  · rename_i hf
    split at h
    · cases h
    · split at h
      · cases h
      · exact ⟨by simpa using hf, by omega, by omega⟩

theorem laidP_bd {x : DS} (h : Ok x) : 0 ≤ laidP x.pw ∧ laidP x.pw ≤ 512 := by
  cases hp : x.pw with
  | none => exact ⟨by show (0 : Int) ≤ 512; omega, by show (512 : Int) ≤ 512; omega⟩
  | some p =>
    obtain ⟨l, t⟩ := p
    have := (h.pw l t hp).2
    unfold laidP
    split
    · rename_i e; cases e
    · rename_i e; cases e; split <;> omega

theorem Ok.pwR {x : DS} (h : Ok x) : ∀ l t, x.pw = some (l, t) → 0 ≤ l ∧ l ≤ 9223372036854775807 := fun l t e => (h.pw l t e).1

theorem write_all (d b : Nat) (n : Int) (a : Option Addr) (m cap : Nat) (bs : List Int) (x : DS) (w : World) (h : Dsk w d b x) (ho : Ok x) (hb : Nums .u8 w a bs) (hm : bs.length = m) (hc : m ≤ cap) (hc2 : cap ≤ 4611686018427387904) :
    Calls Try.prog 25 #[.pointer (some ⟨d, 0, none⟩), .int .i64 n, .slice a m cap] w fun e w' => e = .returned (.int .i64 (wrE x n m)) ∧ Dsk w' d b (wrD x n bs) ∧ Kept (DB d b) w w' := by
  by_cases h1 : refE x n = 0
  · by_cases h2 : m = 512
    · obtain ⟨hf, h0, hn⟩ := refE_in h1
      have hk := laidP_bd ho
      subst h2
      have e1 : wrE x n 512 = if holdsP x.pw then 0 else 5 := by unfold wrE; simp [h1]
      have e2 : wrD x n bs = { x with c := updC x.c n.toNat (tornS (x.c n.toNat) bs (laidP x.pw).toNat), wr := x.wr + 1, pw := spentP x.pw, fl := !holdsP x.pw } := by
        unfold wrD; rw [if_neg (by simp [h1]), if_neg (by simp [hm])]
      rw [e1, e2]
      have en : n = (n.toNat : Int) := by omega
      have := writeYes_any d b n.toNat a cap (laidP x.pw).toNat bs x w h hf hn (ho.fine.len _) hc hc2 hb hm ho.wr0 ho.wr1 (by omega) (by omega) ho.pwR
      rw [← en] at this
      exact this
    · have e1 : wrE x n m = 32 := by unfold wrE; simp [h1, h2]
      have e2 : wrD x n bs = x := by unfold wrD; rw [if_neg (by simp [h1]), if_pos (by omega)]
      rw [e1, e2]
      refine (writeLen_any d b n a m cap x w h h1 h2).mono ?_
      rintro e w' ⟨he, rfl⟩
      exact ⟨he, h, Kept.refl _ _⟩
  · have e1 : wrE x n m = refE x n := by unfold wrE; simp [h1]
    have e2 : wrD x n bs = x := by unfold wrD; simp [h1]
    rw [e1, e2]
    refine (writeNo_any d b n _ x w h h1).mono ?_
    rintro e w' ⟨he, rfl⟩
    exact ⟨he, h, Kept.refl _ _⟩

theorem spentP_ok {p : Option (Int × Int)} (h : ∀ l t, p = some (l, t) → (0 ≤ l ∧ l ≤ 9223372036854775807) ∧ 0 ≤ t ∧ t ≤ 512) : ∀ l t, spentP p = some (l, t) → (0 ≤ l ∧ l ≤ 9223372036854775807) ∧ 0 ≤ t ∧ t ≤ 512 := by
  intro l t e
  match p, h, e with
  | some (l', t'), h, e =>
    have h' := h l' t' rfl
    unfold spentP at e
    split at e
    · rename_i e'; cases e'
    · rename_i l2 t2 e'
      cases e'
      split at e
      · cases e; omega
      · cases e

theorem updC_len {c : Nat → List Int} {n : Nat} {s : List Int} (h : ∀ m, (c m).length = 512) (hs : s.length = 512) (m : Nat) : (updC c n s m).length = 512 := by
  unfold updC; split
  · exact hs
  · exact h m
theorem updC_u8 {c : Nat → List Int} {n : Nat} {s : List Int} (h : ∀ m, U8 (c m)) (hs : U8 s) (m : Nat) : U8 (updC c n s m) := by
  unfold updC; split
  · exact hs
  · exact h m
theorem tornS_u8 {old new : List Int} {k : Nat} (h : U8 old) (hn : U8 new) : U8 (tornS old new k) := (hn.take _).append (h.drop _)
theorem tornS_all {old new : List Int} (ho : old.length = 512) (hn : new.length = 512) : tornS old new 512 = new := by
  unfold tornS
  rw [List.take_of_length_le (by omega), List.drop_of_length_le (by omega), List.append_nil]

theorem Ok.write {x : DS} (h : Ok x) (n : Int) {bs : List Int} (hb : U8 bs) (hw : x.wr + 1 < 4611686018427387904) : Ok (wrD x n bs) := by
  unfold wrD
  by_cases h1 : refE x n = 0
  · rw [if_neg (by simp [h1])]
    by_cases h2 : bs.length = 512
    · rw [if_neg (by simp [h2])]
      have hk := laidP_bd h
      obtain ⟨hf, h0, hn⟩ := refE_in h1
      exact ⟨⟨h.fine.n1, h.fine.n2, fun m => updC_len h.fine.len (tornS_len _ _ _ (h.fine.len _) h2 (by omega)) m, fun m hm => by
        have hne : m ≠ n.toNat := by have : x.N ≤ m := hm; omega
        show updC _ _ _ m = zs
        unfold updC; rw [if_neg hne]; exact h.fine.out m hm⟩,
        fun m => updC_u8 h.u8 (tornS_u8 (h.u8 _) hb) m, h.rd0, by have := h.wr0; show 0 ≤ x.wr + 1; omega, h.rd1, hw, spentP_ok h.pw⟩
    · rw [if_pos (by simp [h2])]; exact h
  · rw [if_pos (by simp [h1])]; exact h

theorem read_all (d b : Nat) (n : Int) (x : DS) (w : World) (h : Dsk w d b x) (ho : Ok x) :
    Calls Try.prog 12 #[.pointer (some ⟨d, 0, none⟩), .int .i64 n] w fun e w' => ∃ a m bs, e = .returned (.tuple #[.slice a m m, .int .i64 (refE x n)]) ∧ Nums .u8 w' a bs ∧ bs.length = m ∧ bs = (if refE x n = 0 then x.c n.toNat else []) ∧ (∀ k, At a k → w.heap.size ≤ k) ∧ Dsk w' d b (rdD x n) ∧ Kept (Only d) w w' := by
  by_cases h1 : refE x n = 0
  · obtain ⟨hf, h0, hn⟩ := refE_in h1
    have e2 : rdD x n = { x with rd := x.rd + 1 } := by unfold rdD; simp [h1]
    have en : n = (n.toNat : Int) := by omega
    have := readYes_any d b n.toNat x w h hf hn (ho.fine.len _) ho.rd0 ho.rd1
    rw [← en] at this
    refine this.mono ?_
    rintro e w' ⟨rfl, hb, hd, hk⟩
    refine ⟨some ⟨w.heap.size, 0, none⟩, 512, x.c n.toNat, by rw [h1], ?_, ho.fine.len _, by simp [h1], ?_, e2 ▸ hd, hk⟩
    · have := Box.nums (w := w') (show Box w' w.heap.size 72 ((x.c n.toNat).map (Value.int .u8)).toArray from hb) (x.c n.toNat).length
      rwa [List.take_length] at this
    · rintro k ⟨ad, e, rfl⟩; cases e; exact Nat.le_refl _
  · have e2 : rdD x n = x := by unfold rdD; simp [h1]
    refine (readNo_any d b n x w h h1).mono ?_
    rintro e w' ⟨he, rfl⟩
    exact ⟨none, 0, [], he, Nums.nil _ _ _, rfl, by simp [h1], fun k hk => absurd hk At.none, by rw [e2]; exact h, Kept.refl _ _⟩

theorem Ok.read {x : DS} (h : Ok x) (n : Int) (hw : x.rd + 1 < 4611686018427387904) : Ok (rdD x n) := by
  unfold rdD
  split
  · exact h
  · exact ⟨⟨h.fine.n1, h.fine.n2, h.fine.len, h.fine.out⟩, h.u8, by have := h.rd0; show 0 ≤ x.rd + 1; omega, h.wr0, hw, h.wr1, h.pw⟩

def armD (x : DS) (n t : Int) : DS := if x.fl then x else { x with pw := some (max n 0, torn t) }
theorem arm_all (d b : Nat) (x : DS) (n t : Int) (w : World) (h : Dsk w d b x) :
    Calls Try.prog 29 #[.pointer (some ⟨d, 0, none⟩), .int .i64 n, .int .i64 t] w fun e w' => e = .returned (.tuple #[]) ∧ Dsk w' d b (armD x n t) ∧ Kept (Only d) w w' := by
  cases hf : x.fl
  · have e : armD x n t = { x with pw := some (max n 0, torn t) } := by unfold armD; simp [hf]
    rw [e]; exact arm_any d b x n t w h hf
  · have e : armD x n t = x := by unfold armD; simp [hf]
    rw [e]
    refine (armNo_any d b x n t w h hf).mono ?_
    rintro e w' ⟨he, rfl⟩
    exact ⟨he, h, Kept.refl _ _⟩
theorem Ok.arm {x : DS} (h : Ok x) (n t : Int) (hn : n ≤ 9223372036854775807) : Ok (armD x n t) := by
  unfold armD
  split
  · exact h
  · refine ⟨⟨h.fine.n1, h.fine.n2, h.fine.len, h.fine.out⟩, h.u8, h.rd0, h.wr0, h.rd1, h.wr1, fun l t' e => ?_⟩
    cases e
    unfold torn
    omega
def startD (x : DS) : DS := { x with fl := false, pw := none }
theorem Ok.start {x : DS} (h : Ok x) : Ok (startD x) :=
  ⟨⟨h.fine.n1, h.fine.n2, h.fine.len, h.fine.out⟩, h.u8, h.rd0, h.wr0, h.rd1, h.wr1, fun l t' e => by cases e⟩

/-- Bytes lie neither in the disk's block nor in its map's. -/
theorem nums_apart {w : World} {d b : Nat} {x : DS} (h : Dsk w d b x) {a : Option Addr} {bs : List Int} (hb : Nums .u8 w a bs) (h0 : 0 < bs.length) {g off : Nat} (e : a = some ⟨g, off, none⟩) : ¬ DB d b g := by
  obtain ⟨g', off', e', hc⟩ := hb 0 h0
  rw [e] at e'
  cases e'
  rintro (rfl | rfl)
  · rw [h.1.cell] at hc
    generalize off + 0 = o at hc
    unfold dskC at hc
    match o, hc with
    | 0, hc => cases hc
    | 1, hc => cases hc
    | 2, hc =>
      simp at hc
      cases hp : x.pw with
      | none => rw [hp] at hc; cases hc
      | some p => rw [hp] at hc; cases hc
    | 3, hc => cases hc
    | 4, hc => cases hc
    | 5, hc => cases hc
    | o + 6, hc => simp at hc
  · obtain ⟨es, c, hm, _⟩ := h.2
    simp [World.cell?, hm] at hc

theorem Nums.apart {w w' : World} {d b : Nat} {x : DS} (h : Dsk w d b x) {a : Option Addr} {bs : List Int} (hb : Nums .u8 w a bs) (hk : Kept (DB d b) w w') : Nums .u8 w' a bs := by
  by_cases h0 : 0 < bs.length
  · exact hb.kept hk (fun g off e => nums_apart h hb h0 e)
  · intro i hi; omega

end Go.Proofs.Ytppkjebiiheljaa
